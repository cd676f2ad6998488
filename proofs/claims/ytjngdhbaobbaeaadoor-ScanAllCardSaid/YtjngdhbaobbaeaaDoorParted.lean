/-
  Plain facts for P1.3: words stand where they say; the same words again, with blanks between.
-/
import Derived.Test.YtjngdhbaobbaeaaDoorLocal
namespace Go.Proofs.YtjngdhbaobbaeaaDoor
namespace Sc
/-- the word's text taken alone is that word -/
structure OkW (x : Wd) : Prop where
  n : fN x.2.1 = x.2.1.size
  k : fK x.2.1 = x.1
  e : fE x.2.1 = 0
  v : fV x.2.1 = x.2.2.1
  pos : 0 < x.2.1.size
  blank : blan (hd x.2.1) = false
  hash : hd x.2.1 ≠ 35

def Chain (s : ByteArray) : Nat → List Wd → Prop
  | _, [] => True
  | lo, x :: l => lo ≤ x.2.2.2 ∧ x.2.2.2 + x.2.1.size ≤ s.size ∧ s.extract x.2.2.2 (x.2.2.2 + x.2.1.size) = x.2.1 ∧ OkW x ∧ Chain s (x.2.2.2 + x.2.1.size) l

theorem Chain.weaken {s : ByteArray} {lo lo' : Nat} {l : List Wd} (h : Chain s lo l) (hl : lo' ≤ lo) : Chain s lo' l := by
  cases l with
  | nil => trivial
  | cons x l => exact ⟨by have := h.1; omega, h.2⟩

theorem hd_any (s : ByteArray) (k : Nat) : hd (rest s k) = byteAt s k := hd_rest s k

theorem chain_of (s : ByteArray) : ∀ (d k : Nat), d + k = s.size + 1 → (tk s k).2 = none → Chain s k (tk s k).1 := by
  intro d
  induction d using Nat.strongRecOn with
  | _ d ih =>
    intro k hk hn
    by_cases hz : s.size ≤ k
    · rw [tk_end s k hz]; trivial
    · have hks : k < s.size := by omega
      cases c1 : blan (byteAt s k)
      · by_cases c2 : byteAt s k = 35
        · have hp := skipN_pos s k hks c2
          rw [tk_remark s k hks c2] at hn ⊢
          by_cases hd0 : k + skipN s k ≤ s.size
          · exact (ih (d - skipN s k) (by omega) _ (by omega) hn).weaken (by omega)
          · rw [tk_end s _ (by omega)]; trivial
        · have hE : fE (rest s k) = 0 := by
            by_cases hq : fE (rest s k) = 0
            · exact hq
            · rw [tk_fault s k hks c1 c2 hq] at hn; cases hn
          have hr : 0 < (rest s k).size := by rw [rest_size]; omega
          have hp := fN_pos (rest s k) hr
          have hle := fN_le (rest s k) hr
          rw [rest_size] at hle
          rw [tk_word s k hks c1 c2 hE] at hn ⊢
          obtain ⟨a1, a2, a3, a4, a5, a6⟩ := alone (rest s k) hr hE _ rfl
          have hc := ih (d - fN (rest s k)) (by omega) (k + fN (rest s k)) (by omega) hn
          refine ⟨Nat.le_refl _, ?_, ?_, ⟨?_, a2, a3, a4, ?_, ?_, ?_⟩, ?_⟩
          · show k + ((rest s k).extract 0 (fN (rest s k))).size ≤ s.size
            rw [a5]; omega
          · show s.extract k (k + ((rest s k).extract 0 (fN (rest s k))).size) = (rest s k).extract 0 (fN (rest s k))
            rw [a5, Lib.extract_eq, Lib.extract_eq, rest_data]
            simp
          · show fN ((rest s k).extract 0 (fN (rest s k))) = ((rest s k).extract 0 (fN (rest s k))).size
            rw [a1, a5]
          · show 0 < ((rest s k).extract 0 (fN (rest s k))).size
            rw [a5]; omega
          · show blan (hd ((rest s k).extract 0 (fN (rest s k)))) = false
            rw [a6, hd_rest, c1]
          · show hd ((rest s k).extract 0 (fN (rest s k))) ≠ 35
            rw [a6, hd_rest]; exact c2
          · show Chain s (k + ((rest s k).extract 0 (fN (rest s k))).size) _
            rw [a5]; exact hc
      · rw [tk_blank s k hks c1] at hn ⊢
        exact (ih (d - 1) (by omega) (k + 1) (by omega) hn).weaken (by omega)

/-- the texts, a blank behind each -/
def J (ws : List Wd) : List UInt8 := ws.flatMap fun x => x.2.1.data.toList ++ [32]
theorem J_cons (x : Wd) (ws : List Wd) : J (x :: ws) = x.2.1.data.toList ++ 32 :: J ws := by
  unfold J; rw [List.flatMap_cons]; simp
theorem J_snoc (ws : List Wd) (x : Wd) : J (ws ++ [x]) = J ws ++ (x.2.1.data.toList ++ [32]) := by
  unfold J; rw [List.flatMap_append]; simp

def core (x : Wd) : Int × ByteArray × Int := (x.1, x.2.1, x.2.2.1)

theorem data_ne (t : ByteArray) (h : 0 < t.size) : t.data.toList ≠ [] := by
  intro h0
  have := data_len t
  rw [h0] at this
  simp at this; omega

theorem rejoin (s2 : ByteArray) : ∀ (ws : List Wd) (P : List UInt8), s2.data.toList = P ++ J ws → (∀ x ∈ ws, OkW x) → (tk s2 P.length).2 = none ∧ (tk s2 P.length).1.map core = ws.map core := by
  intro ws
  induction ws with
  | nil =>
    intro P h _
    have : s2.size = P.length := by rw [← data_len, h]; simp [J]
    rw [tk_end s2 _ (by omega)]
    exact ⟨rfl, rfl⟩
  | cons x ws ih =>
    intro P h hok
    have ox := hok x (by simp)
    rw [J_cons] at h
    have hne := data_ne x.2.1 ox.pos
    have hlen := data_len x.2.1
    have hsz : s2.size = P.length + (x.2.1.size + 1 + (J ws).length) := by
      rw [← data_len, h]; simp; omega
    have hr : (rest s2 P.length).data.toList = x.2.1.data.toList ++ 32 :: J ws := by rw [rest_data, h, List.drop_left]
    have e0 := ofL_self x.2.1
    have n1 := local_fN _ _ _ hne hr
    have x1 := local_ext _ _ _ hne hr
    obtain ⟨k1, e1, v1⟩ := local_all _ _ _ hne hr
    rw [e0] at n1 x1 k1 e1 v1
    have hb : byteAt s2 P.length = hd x.2.1 := by
      rw [← hd_rest, hd_app _ _ _ hne hr, e0]
    rw [tk_word s2 P.length (by omega) (by rw [hb]; exact ox.blank) (by rw [hb]; exact ox.hash) (by rw [e1]; exact ox.e)]
    have hN : fN (rest s2 P.length) = x.2.1.size := by rw [n1, ox.n]
    have hb2 : blan (byteAt s2 (P.length + x.2.1.size)) = true := by
      unfold byteAt
      rw [h, show P.length + x.2.1.size = (P ++ x.2.1.data.toList).length by simp, ← List.append_assoc, List.drop_left]
      rfl
    rw [hN, tk_blank s2 (P.length + x.2.1.size) (by omega) hb2]
    have := ih (P ++ x.2.1.data.toList ++ [32]) (by rw [h]; simp) (fun y hy => hok y (by simp [hy]))
    have hlP : (P ++ x.2.1.data.toList ++ [32]).length = P.length + x.2.1.size + 1 := by simp; omega
    rw [hlP] at this
    refine ⟨this.1, ?_⟩
    rw [List.map_cons, List.map_cons, this.2]
    congr 1
    unfold wordAt core
    rw [k1, v1, x1, ox.k, ox.v, ox.n]
    simp

theorem chain_ok {s : ByteArray} : ∀ {l : List Wd} {lo : Nat}, Chain s lo l → ∀ x ∈ l, OkW x := by
  intro l
  induction l with
  | nil => intro lo _ x hx; simp at hx
  | cons a l ih =>
    intro lo h x hx
    rcases List.mem_cons.1 hx with rfl | hx
    · exact h.2.2.2.1
    · exact ih h.2.2.2.2 x hx
end Sc
end Go.Proofs.YtjngdhbaobbaeaaDoor
