/-
  Plain facts on UTF-8 and on the first place where a predicate on runes fails.
-/
import Derived.Test.YtknhoagicdfikaaGreatDoorScan0
import Derived.Lib.DecodeN
import Derived.Lib.Strings
import Derived.Laws.RangeAny
namespace Go.Proofs.YtknhoagicdfikaaGreatDoor
namespace Sc
/-- how many of s's first bytes meet q -/
def spanN (q : Int → Bool) (l : List UInt8) : Nat := (l.takeWhile fun b => q (b.toNat : Int)).length

theorem spanN_le (q : Int → Bool) (l : List UInt8) : spanN q l ≤ l.length := by
  unfold spanN
  exact (List.takeWhile_sublist _).length_le

theorem spanN_cons (q : Int → Bool) (b : UInt8) (l : List UInt8) : spanN q (b :: l) = if q (b.toNat : Int) then spanN q l + 1 else 0 := by
  unfold spanN
  rw [List.takeWhile_cons]
  split <;> simp

theorem spanN_get (q : Int → Bool) : ∀ (l : List UInt8) (k : Nat) (h : k < l.length), k < spanN q l → q (l[k].toNat : Int) = true := by
  intro l
  induction l with
  | nil => intro k h; simp at h
  | cons b l ih =>
    intro k h hk
    rw [spanN_cons] at hk
    by_cases hq : q (b.toNat : Int) = true
    · rw [if_pos hq] at hk
      cases k with
      | zero => exact hq
      | succ k => exact ih k (by simpa using h) (by omega)
    · rw [if_neg hq] at hk; omega

theorem spanN_stop (q : Int → Bool) : ∀ (l : List UInt8) (h : spanN q l < l.length), q (l[spanN q l].toNat : Int) = false := by
  intro l
  induction l with
  | nil => intro h; simp at h
  | cons b l ih =>
    intro h
    by_cases hq : q (b.toNat : Int) = true
    · have e : spanN q (b :: l) = spanN q l + 1 := by rw [spanN_cons, if_pos hq]
      have h' : spanN q l < l.length := by rw [e] at h; simpa using h
      simp only [e, List.getElem_cons_succ]
      exact ih h'
    · have e : spanN q (b :: l) = 0 := by rw [spanN_cons, if_neg hq]
      simp only [e, List.getElem_cons_zero]
      simpa using hq

/-- one byte more -/
theorem spanN_more (q : Int → Bool) (l : List UInt8) (k : Nat) (h : k < l.length) (hk : k ≤ spanN q l) (hq : q (l[k].toNat : Int) = true) : k + 1 ≤ spanN q l := by
  rcases Nat.lt_or_ge k (spanN q l) with h1 | h1
  · omega
  · have e : spanN q l = k := by omega
    have h2 : spanN q l < l.length := by omega
    have := spanN_stop q l h2
    simp only [e] at this
    rw [hq] at this; cases this

theorem spanN_eq (q : Int → Bool) (l : List UInt8) (k : Nat) (h : k < l.length) (hk : k ≤ spanN q l) (hq : q (l[k].toNat : Int) = false) : spanN q l = k := by
  rcases Nat.lt_or_ge k (spanN q l) with h1 | h1
  · have := spanN_get q l k h h1
    rw [hq] at this; cases this
  · omega

theorem get_data (s : ByteArray) (k : Nat) (_h : k < s.size) (h' : k < s.data.toList.length) : s.data.toList[k] = s[k] := by
  simp [ByteArray.getElem_eq_getElem_data]
theorem data_len (s : ByteArray) : s.data.toList.length = s.size := by simp
end Sc
end Go.Proofs.YtknhoagicdfikaaGreatDoor
