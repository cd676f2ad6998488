/-
  Plain facts for P1.4: what stands behind a blank changes nothing of the words ahead of it.
-/
import Derived.Test.YtjngdhbaobbaeaaDoorLocal
namespace Go.Proofs.YtjngdhbaobbaeaaDoor
namespace Sc

theorem byteAt_app (s : ByteArray) (D X : List UInt8) (h : s.data.toList = D ++ X) (k : Nat) (hk : k < D.length) : byteAt s k = ((D.drop k).headD 0).toNat := by
  unfold byteAt
  rw [h, List.drop_append_of_le_length (by omega)]
  cases hd : D.drop k with
  | nil => have := congrArg List.length hd; simp at this; omega
  | cons a l => rfl

theorem rest_app (s : ByteArray) (D X : List UInt8) (h : s.data.toList = D ++ X) (k : Nat) (hk : k ≤ D.length) : (rest s k).data.toList = D.drop k ++ X := by
  rw [rest_data, h, List.drop_append_of_le_length hk]

theorem drop_ne (D : List UInt8) (k : Nat) (hk : k < D.length) : D.drop k ≠ [] := by
  intro h
  have := congrArg List.length h
  simp at this; omega

/-- the first newline is in D, or there is none in D -/
theorem spanN_or (q : Int → Bool) (D X : List UInt8) : (spanN q (D ++ X) = spanN q D ∧ spanN q D < D.length) ∨ (spanN q D = D.length ∧ D.length ≤ spanN q (D ++ X)) := by
  induction D with
  | nil => right; exact ⟨rfl, Nat.zero_le _⟩
  | cons a D ih =>
    rw [List.cons_append, spanN_cons, spanN_cons]
    by_cases h : q (a.toNat : Int) = true
    · rw [if_pos h, if_pos h]
      rcases ih with ⟨h1, h2⟩ | ⟨h1, h2⟩
      · left; exact ⟨by omega, by simp; omega⟩
      · right; exact ⟨by simp; omega, by simp; omega⟩
    · rw [if_neg h, if_neg h]
      left; exact ⟨rfl, by simp⟩

theorem ahead (s1 s2 : ByteArray) (A B : List UInt8) (h1 : s1.data.toList = A ++ [32]) (h2 : s2.data.toList = A ++ 32 :: B) :
    ∀ (d k : Nat), d + k = A.length + 1 → (tk s2 k).2 = none → (tk s1 k).2 = none ∧ ∃ r, (tk s2 k).1 = (tk s1 k).1 ++ r := by
  have z1 : s1.size = A.length + 1 := by rw [← data_len, h1]; simp
  have z2 : s2.size = A.length + 1 + B.length := by rw [← data_len, h2]; simp; omega
  intro d
  induction d using Nat.strongRecOn with
  | _ d ih =>
    intro k hk hn
    by_cases hd0 : d = 0
    · rw [tk_end s1 k (by omega)]
      exact ⟨rfl, _, rfl⟩
    · have hks1 : k < s1.size := by omega
      have hks2 : k < s2.size := by omega
      by_cases hkA : k = A.length
      · have b1 : blan (byteAt s1 k) = true := by
          unfold byteAt; rw [h1, hkA, List.drop_left]; decide
        rw [tk_blank s1 k hks1 b1]
        rw [tk_end s1 (k + 1) (by omega)]
        exact ⟨rfl, _, rfl⟩
      · have hkl : k < A.length := by omega
        have hb : byteAt s1 k = byteAt s2 k := by rw [byteAt_app s1 A _ h1 k hkl, byteAt_app s2 A _ h2 k hkl]
        have r1 := rest_app s1 A _ h1 k (by omega)
        have r2 := rest_app s2 A _ h2 k (by omega)
        have hne := drop_ne A k hkl
        by_cases c1 : blan (byteAt s1 k) = true
        · rw [tk_blank s1 k hks1 c1]
          rw [tk_blank s2 k hks2 (by rw [← hb]; exact c1)] at hn ⊢
          exact ih (d - 1) (by omega) (k + 1) (by omega) hn
        · rw [Bool.not_eq_true] at c1
          have c1' : blan (byteAt s2 k) = false := by rw [← hb]; exact c1
          by_cases c2 : byteAt s1 k = 35
          · have c2' : byteAt s2 k = 35 := by rw [← hb]; exact c2
            rw [tk_remark s1 k hks1 c2]
            rw [tk_remark s2 k hks2 c2'] at hn ⊢
            have p2 := skipN_pos s2 k hks2 c2'
            have hs1 : skipN s1 k = spanN notNl (A.drop k ++ [32]) := by unfold skipN; rw [← rest_data, r1]
            have hs2 : skipN s2 k = spanN notNl (A.drop k ++ 32 :: B) := by unfold skipN; rw [← rest_data, r2]
            have hl : (A.drop k).length = A.length - k := by simp
            rcases spanN_or notNl (A.drop k) [32] with ⟨e1, e2⟩ | ⟨e1, e2⟩
            · rcases spanN_or notNl (A.drop k) (32 :: B) with ⟨f1, f2⟩ | ⟨f1, f2⟩
              · have e : skipN s1 k = skipN s2 k := by omega
                rw [e]
                exact ih (d - skipN s2 k) (by omega) _ (by omega) hn
              · omega
            · have : spanN notNl (A.drop k ++ [32]) = (A.drop k).length + 1 := by
                have h3 := spanN_jump notNl (A.drop k ++ [32]) (A.drop k).length e2 1 (by simp) (fun j hj a b => by
                  have : j = (A.drop k).length := by omega
                  subst this
                  rw [List.getElem_append_right (Nat.le_refl _)]
                  simp; decide)
                have h4 := spanN_le notNl (A.drop k ++ [32])
                rw [List.length_append] at h4
                simp at h4
                simp at h3 ⊢
                omega
              rw [tk_end s1 _ (by omega)]
              exact ⟨rfl, _, rfl⟩
          · have c2' : byteAt s2 k ≠ 35 := by rw [← hb]; exact c2
            have n1 := local_fN (rest s1 k) (A.drop k) [] hne r1
            have n2 := local_fN (rest s2 k) (A.drop k) B hne r2
            obtain ⟨k1, e1, v1⟩ := local_all (rest s1 k) (A.drop k) [] hne r1
            obtain ⟨k2, e2, v2⟩ := local_all (rest s2 k) (A.drop k) B hne r2
            have x1 := local_ext (rest s1 k) (A.drop k) [] hne r1
            have x2 := local_ext (rest s2 k) (A.drop k) B hne r2
            have hle := local_le (A.drop k) hne
            have hl : (A.drop k).length = A.length - k := by simp
            have hE2 : fE (rest s2 k) = 0 := by
              by_cases hq : fE (rest s2 k) = 0
              · exact hq
              · rw [tk_fault s2 k hks2 c1' c2' hq] at hn; cases hn
            have hE1 : fE (rest s1 k) = 0 := by rw [e1, ← e2]; exact hE2
            have hp := fN_pos (rest s1 k) (by rw [rest_size]; omega)
            rw [tk_word s1 k hks1 c1 c2 hE1]
            rw [tk_word s2 k hks2 c1' c2' hE2] at hn ⊢
            have hw : wordAt s1 k = wordAt s2 k := by unfold wordAt; rw [x1, x2, k1, k2, v1, v2]
            have hN : fN (rest s2 k) = fN (rest s1 k) := by rw [n1, n2]
            rw [hN] at hn ⊢
            obtain ⟨i1, r, i2⟩ := ih (d - fN (rest s1 k)) (by omega) _ (by omega) hn
            exact ⟨i1, r, by rw [hw]; show _ :: _ = _ :: _; rw [i2]; rfl⟩
end Sc
end Go.Proofs.YtjngdhbaobbaeaaDoor
