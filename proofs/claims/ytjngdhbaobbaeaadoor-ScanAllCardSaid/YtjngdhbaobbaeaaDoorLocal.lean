/-
  Plain facts: a blank ends every word; a word taken alone is the same word.
-/
import Derived.Test.YtjngdhbaobbaeaaDoorToks
namespace Go.Proofs.YtjngdhbaobbaeaaDoor
namespace Sc
theorem spanN_app (q : Int → Bool) (hq : q 32 = false) (D B : List UInt8) : spanN q (D ++ 32 :: B) = spanN q D := by
  induction D with
  | nil => rw [List.nil_append, spanN_cons, show ((32 : UInt8).toNat : Int) = 32 from rfl, hq]; rfl
  | cons a D ih => rw [List.cons_append, spanN_cons, spanN_cons, ih]

theorem spanN_take (q : Int → Bool) (l : List UInt8) : spanN q (l.take (spanN q l)) = spanN q l := by
  induction l with
  | nil => rfl
  | cons a l ih =>
    rw [spanN_cons]
    by_cases h : q (a.toNat : Int) = true
    · rw [if_pos h, List.take_succ_cons, spanN_cons, if_pos h, ih]
    · rw [if_neg h, List.take_zero]; rfl

theorem hasPrefix_app (D B : List UInt8) (h : D ≠ []) : Lib.hasPrefix (D ++ 32 :: B) [45, 62] = Lib.hasPrefix D [45, 62] := by
  cases D with
  | nil => exact absurd rfl h
  | cons a D =>
    cases D with
    | nil => simp [Lib.hasPrefix, List.isPrefixOf]
    | cons b D => simp [Lib.hasPrefix, List.isPrefixOf]

def ofL (D : List UInt8) : ByteArray := ⟨D.toArray⟩
theorem ofL_data (D : List UInt8) : (ofL D).data.toList = D := rfl
theorem ofL_size (D : List UInt8) : (ofL D).size = D.length := by rw [← data_len, ofL_data]
theorem ofL_self (s : ByteArray) : ofL s.data.toList = s := by cases s; simp [ofL]

theorem hd_app (s : ByteArray) (D B : List UInt8) (hD : D ≠ []) (h : s.data.toList = D ++ B) : hd s = hd (ofL D) := by
  unfold hd
  rw [h, ofL_data]
  cases D with
  | nil => exact absurd rfl hD
  | cons a D => rfl

theorem extract_app (s : ByteArray) (D B : List UInt8) (n : Nat) (hn : n ≤ D.length) (h : s.data.toList = D ++ B) : s.extract 0 n = (ofL D).extract 0 n := by
  rw [Lib.extract_eq, Lib.extract_eq, h, ofL_data]
  simp only [List.drop_zero, Nat.sub_zero]
  rw [List.take_append_of_le_length hn]

/-- a blank behind D: the first word is D's own -/
theorem local_fN (s : ByteArray) (D B : List UInt8) (hD : D ≠ []) (h : s.data.toList = D ++ 32 :: B) : fN s = fN (ofL D) := by
  unfold fN
  rw [hd_app s D _ hD h, h, ofL_data, spanN_app lord (by decide), spanN_app digi (by decide), hasPrefix_app D B hD]

theorem local_le (D : List UInt8) (hD : D ≠ []) : fN (ofL D) ≤ D.length := by
  have := fN_le (ofL D) (by rw [ofL_size]; exact List.length_pos_iff.2 hD)
  rw [ofL_size] at this
  exact this

theorem local_ext (s : ByteArray) (D B : List UInt8) (hD : D ≠ []) (h : s.data.toList = D ++ 32 :: B) : s.extract 0 (fN s) = (ofL D).extract 0 (fN (ofL D)) := by
  rw [local_fN s D B hD h]
  exact extract_app s D _ _ (local_le D hD) h

theorem local_num (s : ByteArray) (D B : List UInt8) (hD : D ≠ []) (h : s.data.toList = D ++ 32 :: B) (n : Nat) (hn : n ≤ D.length) : numErr s n = numErr (ofL D) n ∧ numNum s n = numNum (ofL D) n := by
  have e1 : numVal s n = numVal (ofL D) n := by
    unfold numVal
    rw [h, ofL_data, List.take_append_of_le_length hn]
  have e2 : numBad s n = numBad (ofL D) n := by
    unfold numBad
    rw [h, ofL_data, List.drop_append_of_le_length hn, spanN_app lett (by decide)]
    cases D with
    | nil => exact absurd rfl hD
    | cons a D => rfl
  have e3 : numErr s n = numErr (ofL D) n := by unfold numErr; rw [e1, e2]
  exact ⟨e3, by unfold numNum; rw [e3, e1]⟩

theorem local_all (s : ByteArray) (D B : List UInt8) (hD : D ≠ []) (h : s.data.toList = D ++ 32 :: B) : fK s = fK (ofL D) ∧ fE s = fE (ofL D) ∧ fV s = fV (ofL D) := by
  have hn := local_fN s D B hD h
  have hx := local_ext s D B hD h
  have hle := local_le D hD
  obtain ⟨n1, n2⟩ := local_num s D B hD h (fN (ofL D)) hle
  have hh := hd_app s D _ hD h
  refine ⟨?_, ?_, ?_⟩
  · unfold fK
    rw [hx, hn, hh, h, ofL_data, hasPrefix_app D B hD]
  · unfold fE
    rw [hn, hh, n1, h, ofL_data, hasPrefix_app D B hD]
  · unfold fV
    rw [hn, hh, n2]

theorem take_data (s : ByteArray) (n : Nat) : (s.extract 0 n).data.toList = s.data.toList.take n := by rw [Lib.extract_data]; simp

/-- a word taken alone is the same word -/
theorem alone (r : ByteArray) (h0 : 0 < r.size) (he : fE r = 0) (t : ByteArray) (ht : t = r.extract 0 (fN r)) :
    fN t = fN r ∧ fK t = fK r ∧ fE t = 0 ∧ fV t = fV r ∧ t.size = fN r ∧ hd t = hd r := by
  have hn1 := fN_pos r h0
  have hn2 := fN_le r h0
  have hd1 : t.data.toList = r.data.toList.take (fN r) := by rw [ht, take_data]
  have hsz : t.size = fN r := by rw [← data_len, hd1, List.length_take, data_len]; omega
  have hhd : hd t = hd r := by
    unfold hd
    rw [hd1]
    have : 0 < r.data.toList.length := by rw [data_len]; exact h0
    cases hl : r.data.toList with
    | nil => rw [hl] at this; simp at this
    | cons a l => rw [show fN r = (fN r - 1) + 1 by omega, List.take_succ_cons]; rfl
  have hfull : t.extract 0 (fN r) = t := by rw [← hsz]; simp
  by_cases c1 : lett (hd r) = true
  · have e1 : fN r = spanN lord r.data.toList := by unfold fN; rw [if_pos c1]
    have eN : fN t = fN r := by
      conv => lhs; unfold fN
      rw [hhd, if_pos c1, hd1, e1, spanN_take]
    have eK : fK t = fK r := by
      unfold fK
      rw [hhd, if_pos c1, if_pos c1, eN, hfull, ← ht]
    have eE : fE t = 0 := by
      rw [← he]; unfold fE; rw [hhd, if_pos c1, if_pos c1, eN]
    have eV : fV t = fV r := by unfold fV; rw [hhd, if_pos c1, if_pos c1]
    exact ⟨eN, eK, eE, eV, hsz, hhd⟩
  · by_cases c2 : digi (hd r) = true
    · have e1 : fN r = spanN digi r.data.toList := by unfold fN; rw [if_neg c1, if_pos c2]
      have eN : fN t = fN r := by
        conv => lhs; unfold fN
        rw [hhd, if_neg c1, if_pos c2, hd1, e1, spanN_take]
      have eK : fK t = fK r := by unfold fK; rw [hhd, if_neg c1, if_pos c2, if_neg c1, if_pos c2]
      have eval : numVal t (fN r) = numVal r (fN r) := by unfold numVal; rw [hd1, List.take_take, Nat.min_self]
      have her : numErr r (fN r) = 0 := by have := he; unfold fE at this; rw [if_neg c1, if_pos c2] at this; exact this
      have hbad : numBad t (fN r) = false := by
        unfold numErr at her
        split at her
        · cases her
        · split at her
          · cases her
          · rename_i hb
            rw [Bool.not_eq_true] at hb
            unfold numBad at hb ⊢
            rw [Bool.or_eq_false_iff] at hb ⊢
            refine ⟨?_, ?_⟩
            · rw [← hb.1, hd1]
              have : 0 < r.data.toList.length := by rw [data_len]; exact h0
              cases hl : r.data.toList with
              | nil => rw [hl] at this; simp at this
              | cons a l => rw [show fN r = (fN r - 1) + 1 by omega, List.take_succ_cons]; rfl
            · rw [hd1, List.drop_eq_nil_of_le (by rw [List.length_take]; omega)]; rfl
      have eE : fE t = 0 := by
        unfold fE
        rw [hhd, if_neg c1, if_pos c2, eN]
        unfold numErr at her ⊢
        rw [eval, hbad]
        split at her
        · cases her
        · rename_i h9; rw [if_neg h9]; rfl
      have eV : fV t = fV r := by
        have h1 : numErr t (fN r) = 0 := by have := eE; unfold fE at this; rw [hhd, if_neg c1, if_pos c2, eN] at this; exact this
        unfold fV
        rw [hhd, if_neg c1, if_pos c2, if_neg c1, if_pos c2, eN]
        unfold numNum
        rw [h1, her, eval]
      exact ⟨eN, eK, eE, eV, hsz, hhd⟩
    · have hpre : Lib.hasPrefix t.data.toList [45, 62] = Lib.hasPrefix r.data.toList [45, 62] := by
        have e1 : fN r = if Lib.hasPrefix r.data.toList [45, 62] then 2 else 1 := by unfold fN; rw [if_neg c1, if_neg c2]
        rw [hd1]
        cases hp : Lib.hasPrefix r.data.toList [45, 62]
        · rw [hp] at e1
          rw [e1]
          cases r.data.toList with
          | nil => rfl
          | cons a l => simp [Lib.hasPrefix, List.isPrefixOf]
        · rw [hp] at e1
          rw [e1]
          match hl : r.data.toList, hp with
          | a :: b :: l, hp => simpa [Lib.hasPrefix, List.isPrefixOf] using hp
          | [a], hp => simp [Lib.hasPrefix] at hp
          | [], hp => simp [Lib.hasPrefix] at hp
      have eN : fN t = fN r := by unfold fN; rw [hhd, hpre]; simp only [c1, c2, if_false, Bool.false_eq_true]
      have eK : fK t = fK r := by unfold fK; rw [hhd, hpre]; simp only [c1, c2, if_false, Bool.false_eq_true]
      have eE : fE t = 0 := by rw [← he]; unfold fE; rw [hhd, hpre]; simp only [c1, c2, if_false, Bool.false_eq_true]
      have eV : fV t = fV r := by unfold fV; rw [hhd, if_neg c1, if_neg c2, if_neg c1, if_neg c2]
      exact ⟨eN, eK, eE, eV, hsz, hhd⟩
end Sc
end Go.Proofs.YtjngdhbaobbaeaaDoor
