/-
  A row of answers that is handed in.
-/
import Derived.Test.YtekjhcfjpedbkaaGreatDoorFrameTm
import Derived.Test.YtekjhcfjpedbkaaGreatDoorLs1
import Derived.ChangeArms
namespace Go.Proofs.YtekjhcfjpedbkaaGreatDoor
open Go.ChangeShapes Go.WideShapes Go.ChangeAt Go.RowKit
theorem row_bools {P : Nat → Bool → Prop} : ∀ n, (∀ i, i < n → ∃ b, P i b) → ∃ L : List Bool, L.length = n ∧ ∀ i b, L[i]? = some b → P i b
  | 0, _ => ⟨[], rfl, fun i x h => (by cases h)⟩
  | n + 1, h => by
    obtain ⟨L, h1, h2⟩ := row_bools (P := P) n fun i hi => h i (by omega)
    obtain ⟨b, hb⟩ := h n (by omega)
    refine ⟨L ++ [b], by simp [h1], fun i x hx => ?_⟩
    rcases Nat.lt_or_ge i n with q | q
    · exact h2 i x (by rwa [List.getElem?_append_left (by omega)] at hx)
    · rw [List.getElem?_append_right (by omega)] at hx
      have : i = n := by
        rcases Nat.lt_or_ge (i - L.length) 1 with r | r
        · omega
        · rw [List.getElem?_eq_none (by simpa using r)] at hx; cases hx
      subst this
      rw [h1, Nat.sub_self] at hx
      injection hx with hx
      rw [← hx]; exact hb
theorem open_bools {H : Type} {enc : TypeId × Value → H} {W : World} {base : Nat} {sp : Nat → Bool} {hd : Bool} {v : Value} {d : DataW H} {p : List MemPlace} (hv1 : v.cells = #[v])
    (h : DataW.Trod enc Tryz.prog W base sp hd 41 v d p) : ∃ L A c, v = .slice A L.length c ∧ BAt W L A L.length c := by
  obtain ⟨fuel, hf⟩ := h
  rw [hv1] at hf
  rcases DataW.trod_slice Tryz.underlying41 hf with ⟨hcs, -⟩ | ⟨a, len, cap, elems, rest, m', hm, hcs, hx8', hb, hle, hcap, hel, hat, -, -⟩
  · injection hcs with hcs
    subst hcs
    exact ⟨[], none, 0, rfl, rfl, Nat.le_refl _, Nat.zero_le _, fun i b h => (by cases h)⟩
  · injection hcs with hcs
    subst hcs
    rw [c_bool] at hat
    obtain ⟨b, o, s⟩ := a
    by_cases hz : len = 0
    · subst hz
      exact ⟨[], some ⟨b, o, s⟩, cap, rfl, rfl, hle, hcap, fun i x h => (by cases h)⟩
    · have hsp : s = none := by
        have h2 := hat 0 (by omega)
        rw [List.getElem?_eq_getElem (by omega : 0 < elems.length)] at h2
        obtain ⟨cs', hc, -⟩ := Option.bind_eq_some_iff.1 h2
        obtain ⟨-, hcl, hcell⟩ := World.cells?_some hc
        have h3 := hcell 0 (by omega)
        rw [List.getElem?_eq_getElem (by omega : 0 < cs'.length)] at h3
        simpa [Addr.add] using World.cell?_spot h3
      subst hsp
      have hfor : ∀ i, i < len → ∃ x : Bool, W.cell? ⟨b, o + i, none⟩ = some (.bool x) := by
        intro i hi
        have h2 := hat i hi
        rw [List.getElem?_eq_getElem (by omega : i < elems.length)] at h2
        obtain ⟨cs', hc, htr⟩ := Option.bind_eq_some_iff.1 h2
        obtain ⟨x, rfl, -⟩ := DataW.trod_bool Tryz.underlying4 htr
        obtain ⟨-, hcl, hcell⟩ := World.cells?_some hc
        have g0 := hcell 0 (by omega)
        rw [Nat.mul_one] at g0
        refine ⟨x, ?_⟩
        have e : ((⟨b, o, none⟩ : Addr).add i).add 0 = ⟨b, o + i, none⟩ := by
          by_cases h : i = 0 <;> simp [Addr.add, h]
        rw [e] at g0
        simpa using g0
      obtain ⟨L, hl, hP⟩ := row_bools (P := fun i x => W.cell? ⟨b, o + i, none⟩ = some (.bool x)) len hfor
      subst hl
      exact ⟨L, some ⟨b, o, none⟩, cap, rfl, rfl, hle, hcap, fun i x hx => ⟨b, o, rfl, hP i x hx⟩⟩
end Go.Proofs.YtekjhcfjpedbkaaGreatDoor
