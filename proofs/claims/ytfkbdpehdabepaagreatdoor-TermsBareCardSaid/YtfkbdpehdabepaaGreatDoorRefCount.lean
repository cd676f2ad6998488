/-
  The reference's count, Nodes, deep, Depth.
-/
import Derived.Test.YtfkbdpehdabepaaGreatDoorAllOf
namespace Go.Proofs.YtfkbdpehdabepaaGreatDoor
open Go.RowKit

/-- a round's box: the type's own cells are as they were -/
theorem Over.box {w1 wr : World} {A : Option Addr} {n nk i b : Nat} {rest : Fo} {v0 v1 : Value} (h : Over w1 wr A n nk i rest) (h0 : w1.cell? ⟨b, 0, none⟩ = some v0) (h1 : w1.cell? ⟨b, 1, none⟩ = some v1) :
    wr.cell? ⟨b, 0, none⟩ = some v0 ∧ wr.cell? ⟨b, 1, none⟩ = some v1 :=
  ⟨by rw [(bcell h.below).1 _ _ (Ty.cell_lt h0)]; exact h0, by rw [(bcell h.below).1 _ _ (Ty.cell_lt h1)]; exact h1⟩

set_option maxHeartbeats 1000000 in
set_option maxRecDepth 100000 in
theorem count_any (K : Nat) : ∀ (k : Int) (kids : Fo) (A : Option Addr) (n c : Nat) (w : World) (m : Nat), Ty.nodes kids < K → Ty.Is w k kids A n c → m ≤ 8192 →
    Calls Tryz.prog 159 #[.agg #[.int .i8 k, .slice A n c], .int .i64 m] w fun e w' => e = .returned (.int .i64 (min (m + 1 + Ty.nodes kids) 8193 : Nat)) ∧ Below w.heap.size w w' := by
  induction K with
  | zero => intro _ _ _ _ _ _ _ h; omega
  | succ K ih =>
    intro k kids A n c w m hK hIs hm
    have i5 : (n : Int) ≤ 9223372036854775807 := by have h1 := hIs.n_le; have h2 := hIs.c_le; unfold maxLen at h2; omega
    have i6 : (m : Int) ≤ 8192 := by omega
    have IH := Lib.hid ih
    have HI := Lib.hid hIs
    obtain ⟨R, hR⟩ : ∃ R, min (m + 1 + Ty.nodes kids) 8193 = R := ⟨_, rfl⟩
    rw [hR]
    have HR := Lib.hid hR
    clear ih hIs hR
    go_enter Tryz.func159, Tryz.ntmps159
    go_wp2_with fail
    have hB0 := (Below.refl w.heap.size w).alloc (Nat.le_refl _) (.cells #[.int .i8 k, .slice A n c] 25)
    obtain ⟨b0, b1, _, _, hbl⟩ := own2 (heap_new w (.cells #[.int .i8 k, .slice A n c] 25))
    have hst := Over.start ((HI.out.alloc (.cells #[.int .i8 k, .slice A n c] 25)).lies) HI.out.n_eq
    generalize w.alloc (.cells #[.int .i8 k, .slice A n c] 25) = w1 at *
    have HS := Lib.hid hst
    clear hst
    go_loopw [1, 5] (fun v1 v5 wr => ∃ (i : Nat) (rest : Fo) (m' : Nat), v5 = .int .i64 i ∧ v1 = .int .i64 m' ∧ Over w1 wr A n (Ty.nodes kids) i rest ∧ m' ≤ 8193 ∧ min (m' + Ty.nodes rest) 8193 = R) (fun _ v _ => n - (intOf v).toNat)
    case atStart => exact ⟨0, kids, m + 1, rfl, by go_num, HS.out, by omega, HR.out⟩
    case round =>
      obtain ⟨i, rest, m', rfl, rfl, hO, hm', hRR⟩ := hrel
      have hbB := hB0.trans (hO.below.mono hB0.size)
      obtain ⟨c0, c1⟩ := hO.box b0 b1
      clear b0 b1
      cases rest with
      | nil =>
        have hi : i = n := by have := hO.i_eq; simpa [Ty.len] using this
        have hfin : m' = R := by simp only [Ty.nodes] at hRR; omega
        clear hO hRR
        subst hi
        subst hfin
        go_wp2_with fail
        go_ret
        exact ⟨rfl, hbB⟩
      | node a b k' kids' r =>
        have hst := fun w2 hb => Over.step (w2 := w2) hO hb
        have h1 := hO.i_eq
        have h2 := hO.lies
        have h3 := hO.sub
        simp only [Ty.len, Ty.nodes] at h1 h3 hRR
        obtain ⟨bb, oo, B, c', rfl, ⟨hk1, hk2⟩, c1', c2', hl1, hl2, hl3, hl4⟩ := h2
        have j1 : (i : Int) < n := by omega
        by_cases hq : m' ≤ 8192
        · have hcall := IH.out k' kids' B (Ty.len kids') c' wr m' (by omega) ⟨hl3, rfl, hl1, hl2, hk1, hk2⟩ hq
          have HC := Lib.hid hcall
          have HS2 := Lib.hid hst
          have HL := Lib.hid hl4
          have hnx : min (min (m' + 1 + Ty.nodes kids') 8193 + Ty.nodes r) 8193 = R := by omega
          have HN := Lib.hid hnx
          have j2 : (m' : Int) ≤ 8192 := by omega
          clear hst hl3 hl4 hcall hO hRR hnx
          go_wp2_with fail
          refine HC.out.mono ?_
          rintro e w2 ⟨rfl, hb⟩
          have hbb := Lib.hid (HS2.out w2 hb HL.out)
          clear hb
          go_wp2_with fail
          go_roundw
          case rel => exact ⟨i + 1, r, _, by go_num, rfl, hbb.out, by omega, HN.out⟩
          case measure => simp [intOf]; omega
        · have hfin : m' = R := by omega
          have j2 : (8192 : Int) < (m' : Int) := by omega
          clear hst hl3 hl4 hO hRR
          subst hfin
          go_wp2_with fail
          go_ret
          exact ⟨rfl, hbB⟩

set_option maxHeartbeats 1000000 in
set_option maxRecDepth 100000 in
theorem ref_nodes (k : Int) (kids : Fo) (A : Option Addr) (n c : Nat) (w : World) (hIs : Ty.Is w k kids A n c) :
    Calls Tryz.prog 139 #[.agg #[.int .i8 k, .slice A n c]] w fun e w' => e = .returned (.int .i64 (Ty.nod kids)) ∧ Below w.heap.size w w' := by
  have hB0 := (Below.refl w.heap.size w).alloc (Nat.le_refl _) (.cells #[.int .i8 k, .slice A n c] 25)
  have hc := fun (W : World) (hb : Below w.heap.size w W) => count_any (Ty.nodes kids + 1) k kids A n c W 0 (by omega) (hIs.below hb) (by omega)
  have e1 : min (0 + 1 + Ty.nodes kids) 8193 = Ty.nod kids := by unfold Ty.nod; omega
  rw [e1] at hc
  have i1 : ((Ty.nod kids : Nat) : Int) ≤ 8193 := by unfold Ty.nod; omega
  generalize Ty.nod kids = N at *
  have HC : Hid (∀ (W : World), Below w.heap.size w W → Calls Tryz.prog 159 #[.agg #[.int .i8 k, .slice A n c], .int .i64 0] W fun e w' => e = .returned (.int .i64 N) ∧ Below W.heap.size W w') := Lib.hid hc
  clear hIs hc e1
  go_enter Tryz.func139, Tryz.ntmps139
  go_wp2_with fail
  refine (HC.out _ hB0).mono ?_
  rintro e w3 ⟨rfl, hb⟩
  go_wp2_with fail
  go_ret
  exact ⟨rfl, hB0.trans (hb.mono hB0.size)⟩

set_option maxHeartbeats 1000000 in
set_option maxRecDepth 100000 in
theorem deep_any (K : Nat) : ∀ (k : Int) (kids : Fo) (A : Option Addr) (n c : Nat) (w : World) (m : Int), Ty.nodes kids < K → Ty.Is w k kids A n c → 1 ≤ m → m ≤ 201 →
    Calls Tryz.prog 160 #[.agg #[.int .i8 k, .slice A n c], .int .i64 m] w fun e w' => e = .returned (.int .i64 (min (1 + (Ty.dep kids : Int)) m)) ∧ Below w.heap.size w w' := by
  induction K with
  | zero => intro _ _ _ _ _ _ _ h; omega
  | succ K ih =>
    intro k kids A n c w m hK hIs hm hm2
    have i5 : (n : Int) ≤ 9223372036854775807 := by have h1 := hIs.n_le; have h2 := hIs.c_le; unfold maxLen at h2; omega
    have IH := Lib.hid ih
    have HI := Lib.hid hIs
    have hB0 := (Below.refl w.heap.size w).alloc (Nat.le_refl _) (.cells #[.int .i8 k, .slice A n c] 25)
    clear ih hIs
    by_cases h1 : m = 1
    · subst h1
      have e1 : min (1 + (Ty.dep kids : Int)) 1 = 1 := by omega
      rw [e1]
      go_enter Tryz.func160, Tryz.ntmps160
      go_wp2_with fail
      go_ret
      exact ⟨rfl, hB0⟩
    · have i7 : 1 < m := by omega
      obtain ⟨D, hD⟩ : ∃ D : Nat, ((D : Nat) : Int) = min (Ty.dep kids : Int) (m - 1) := ⟨(min (Ty.dep kids : Int) (m - 1)).toNat, by omega⟩
      have e1 : min (1 + (Ty.dep kids : Int)) m = 1 + D := by omega
      have hD2 : (D : Int) ≤ m - 1 := by omega
      rw [e1]
      have HD := Lib.hid hD
      clear e1 hD h1 hm
      go_enter Tryz.func160, Tryz.ntmps160
      go_wp2_with fail
      obtain ⟨b0, b1, _, _, hbl⟩ := own2 (heap_new w (.cells #[.int .i8 k, .slice A n c] 25))
      have hst := Over.start ((HI.out.alloc (.cells #[.int .i8 k, .slice A n c] 25)).lies) HI.out.n_eq
      generalize w.alloc (.cells #[.int .i8 k, .slice A n c] 25) = w1 at *
      have HS := Lib.hid hst
      clear hst
      go_loopw [5, 6] (fun v5 v6 wr => ∃ (i : Nat) (rest : Fo) (d : Nat), v6 = .int .i64 i ∧ v5 = .int .i64 d ∧ Over w1 wr A n (Ty.nodes kids) i rest ∧ (d : Int) ≤ m - 1 ∧ max (d : Int) (min (Ty.dep rest : Int) (m - 1)) = D) (fun _ v _ => n - (intOf v).toNat)
      case atStart => exact ⟨0, kids, 0, rfl, rfl, HS.out, by omega, by have := HD.out; omega⟩
      case round =>
        obtain ⟨i, rest, d, rfl, rfl, hO, hd, hRR⟩ := hrel
        have hbB := hB0.trans (hO.below.mono hB0.size)
        obtain ⟨c0, c1⟩ := hO.box b0 b1
        clear b0 b1
        cases rest with
        | nil =>
          have hi : i = n := by have := hO.i_eq; simpa [Ty.len] using this
          have hfin : d = D := by simp only [Ty.dep] at hRR; omega
          clear hO hRR
          subst hi
          subst hfin
          have g1 : 1 + (d : Int) ≤ m := by omega
          go_wp2_with fail
          go_ret
          exact ⟨rfl, hbB⟩
        | node a b k' kids' r =>
          have hst := fun w2 hb => Over.step (w2 := w2) hO hb
          have h1 := hO.i_eq
          have h2 := hO.lies
          have h3 := hO.sub
          simp only [Ty.len, Ty.nodes, Ty.dep] at h1 h3 hRR
          obtain ⟨bb, oo, B, c', rfl, ⟨hk1, hk2⟩, c1', c2', hl1, hl2, hl3, hl4⟩ := h2
          have j1 : (i : Int) < n := by omega
          have hcall := IH.out k' kids' B (Ty.len kids') c' wr (m - 1) (by omega) ⟨hl3, rfl, hl1, hl2, hk1, hk2⟩ (by omega) (by omega)
          obtain ⟨X, hX⟩ : ∃ X : Nat, (X : Int) = min (1 + (Ty.dep kids' : Int)) (m - 1) := ⟨(min (1 + (Ty.dep kids' : Int)) (m - 1)).toNat, by omega⟩
          rw [← hX] at hcall
          obtain ⟨d2, hd2⟩ : ∃ d2 : Nat, (d2 : Int) = if (X : Int) ≤ d then (d : Int) else X := by
            by_cases h : (X : Int) ≤ d
            · exact ⟨d, by rw [if_pos h]⟩
            · exact ⟨X, by rw [if_neg h]⟩
          have hnx : max (d2 : Int) (min (Ty.dep r : Int) (m - 1)) = D ∧ (d2 : Int) ≤ m - 1 := by
            split at hd2 <;> omega
          have HC := Lib.hid hcall
          have HS2 := Lib.hid hst
          have HL := Lib.hid hl4
          have HN := Lib.hid hnx
          clear hst hl3 hl4 hcall hO hRR hnx hX
          by_cases hxd : (X : Int) ≤ d
          all_goals
            first | rw [if_pos hxd] at hd2 | rw [if_neg hxd] at hd2
            have HD2 := Lib.hid hd2
            clear hd2
            go_wp2_with fail
            refine HC.out.mono ?_
            rintro e w2 ⟨rfl, hb⟩
            have hbb := Lib.hid (HS2.out w2 hb HL.out)
            clear hb
            go_wp2_with fail
            go_roundw
            case rel => exact ⟨i + 1, r, d2, by go_num, by rw [HD2.out], hbb.out, HN.out.2, HN.out.1⟩
            case measure => simp [intOf]; omega

set_option maxHeartbeats 1000000 in
set_option maxRecDepth 100000 in
theorem ref_depth (k : Int) (kids : Fo) (A : Option Addr) (n c : Nat) (w : World) (hIs : Ty.Is w k kids A n c) :
    Calls Tryz.prog 140 #[.agg #[.int .i8 k, .slice A n c]] w fun e w' => e = .returned (.int .i64 (Ty.dpt kids)) ∧ Below w.heap.size w w' := by
  have hB0 := (Below.refl w.heap.size w).alloc (Nat.le_refl _) (.cells #[.int .i8 k, .slice A n c] 25)
  have HM := Lib.hid (fun (W : World) (hb : Below w.heap.size w W) => ref_nodes k kids A n c W (hIs.below hb))
  have HD := Lib.hid (fun (W : World) (hb : Below w.heap.size w W) => deep_any (Ty.nodes kids + 1) k kids A n c W 201 (by omega) (hIs.below hb) (by omega) (by omega))
  clear hIs
  by_cases h1 : 8192 < Ty.nodes kids + 1
  · have e1 : ((Ty.dpt kids : Nat) : Int) = 201 := by unfold Ty.dpt; rw [if_pos h1]; rfl
    have e2 : ((Ty.nod kids : Nat) : Int) = 8193 := by unfold Ty.nod; omega
    rw [e1]
    rw [e2] at HM
    clear e1 e2 h1
    go_enter Tryz.func140, Tryz.ntmps140
    go_wp2_with fail
    refine (HM.out _ hB0).mono ?_
    rintro e w3 ⟨rfl, hb⟩
    go_wp2_with fail
    go_ret
    exact ⟨rfl, hB0.trans (hb.mono hB0.size)⟩
  · have e1 : ((Ty.dpt kids : Nat) : Int) = min (1 + (Ty.dep kids : Int)) 201 := by unfold Ty.dpt; rw [if_neg h1]; omega
    have e2 : ((Ty.nod kids : Nat) : Int) ≤ 8192 := by unfold Ty.nod; omega
    rw [e1]
    generalize Ty.nod kids = N at *
    generalize min (1 + (Ty.dep kids : Int)) 201 = D at *
    clear e1 h1
    go_enter Tryz.func140, Tryz.ntmps140
    go_wp2_with fail
    refine (HM.out _ hB0).mono ?_
    rintro e w3 ⟨rfl, hb⟩
    have hB1 := hB0.trans (hb.mono hB0.size)
    obtain ⟨b0, b1, _, _, _⟩ := own2 (heap_below hb (by simp) (heap_new w (.cells #[.int .i8 k, .slice A n c] 25)))
    clear hb
    go_wp2_with fail
    refine (HD.out _ hB1).mono ?_
    rintro e w4 ⟨rfl, hb⟩
    go_wp2_with fail
    go_ret
    exact ⟨rfl, hB1.trans (hb.mono hB1.size)⟩
end Go.Proofs.YtfkbdpehdabepaaGreatDoor
