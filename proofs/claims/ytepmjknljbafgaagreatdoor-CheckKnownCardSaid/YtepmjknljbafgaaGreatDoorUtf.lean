import Derived.Test.YtepmjknljbafgaaGreatDoorScan0
import Derived.Lib.DecodeN
import Derived.Lib.Strings
import Derived.Laws.RangeAny
namespace Go.Proofs.YtepmjknljbafgaaGreatDoor
namespace Sc
theorem get!_eq (s : ByteArray) (j : Nat) (h : j < s.size) : s.get! j = s[j] := get_at s j h
theorem zAk (s : ByteArray) (pos : Nat) (h : pos < s.size) (hb : 128 <= s[pos].toNat) :
    pos + (Utf8.decode s pos).2 <= s.size /\ ∀ j (hj : j < s.size), pos <= j -> j < pos + (Utf8.decode s pos).2 -> 128 <= s[j].toNat := by
  have g0 : (s.get! pos).toNat = s[pos].toNat := by rw [get!_eq s pos h]
  have key : pos + (Utf8.decode s pos).2 <= s.size /\ ((Utf8.decode s pos).2 <= 1 \/ (128 <= (s.get! (pos + 1)).toNat /\ ((Utf8.decode s pos).2 <= 2 \/ (128 <= (s.get! (pos + 2)).toNat /\ ((Utf8.decode s pos).2 <= 3 \/ (128 <= (s.get! (pos + 3)).toNat /\ (Utf8.decode s pos).2 <= 4)))))) := by
    rw [Lib.decode_at];have hb' : 128 <= (s.get! pos).toNat := by omega
    generalize (s.get! pos).toNat = b0 at *;generalize (s.get! (pos + 1)).toNat = b1 at *;generalize (s.get! (pos + 2)).toNat = b2 at *;generalize (s.get! (pos + 3)).toNat = b3 at *;unfold Lib.decodeN
    repeat' split
    all_goals simp only
    all_goals omega
  obtain ⟨k1, k2⟩ := key;refine ⟨k1, fun j hj h1 h2 => ?_⟩;have hd : j = pos \/ j = pos + 1 \/ j = pos + 2 \/ j = pos + 3 := by omega
  rw [← get!_eq s j hj];rcases hd with rfl | rfl | rfl | rfl <;> omega
def spanN (q : Int -> Bool) (l : List UInt8) : Nat := (l.takeWhile fun b => q (b.toNat : Int)).length
theorem qg (q : Int -> Bool) (l : List UInt8) : spanN q l <= l.length := by
  unfold spanN;exact (List.takeWhile_sublist _).length_le
theorem jM (q : Int -> Bool) (b : UInt8) (l : List UInt8) : spanN q (b :: l) = if q (b.toNat : Int) then spanN q l + 1 else 0 := by
  unfold spanN;rw [List.takeWhile_cons]
  split <;> simp
theorem vH (q : Int -> Bool) : ∀ (l : List UInt8) (k : Nat) (h : k < l.length), k < spanN q l -> q (l[k].toNat : Int) = true := by
  intro l
  induction l with
  | nil => intro k h; simp at h
  | cons b l ih =>
    intro k h hk;rw [jM] at hk
    by_cases hq : q (b.toNat : Int) = true
    · rw [if_pos hq] at hk
      cases k with
      | zero => exact hq
      | succ k => exact ih k (by simpa using h) (by omega)
    · rw [if_neg hq] at hk; omega
theorem yZ (q : Int -> Bool) : ∀ (l : List UInt8) (h : spanN q l < l.length), q (l[spanN q l].toNat : Int) = false := by
  intro l
  induction l with
  | nil => intro h; simp at h
  | cons b l ih =>
    intro h
    by_cases hq : q (b.toNat : Int) = true
    · have e : spanN q (b :: l) = spanN q l + 1 := by rw [jM, if_pos hq]
      have h' : spanN q l < l.length := by rw [e] at h; simpa using h
      simp only [e, List.getElem_cons_succ];exact ih h'
    · have e : spanN q (b :: l) = 0 := by rw [jM, if_neg hq]
      simp only [e, List.getElem_cons_zero]
      simpa using hq
theorem qw (q : Int -> Bool) (l : List UInt8) (k : Nat) (h : k < l.length) (hk : k <= spanN q l) (hq : q (l[k].toNat : Int) = true) : k + 1 <= spanN q l := by
  rcases Nat.lt_or_ge k (spanN q l) with h1 | h1
  · omega
  · have e : spanN q l = k := by omega
    have h2 : spanN q l < l.length := by omega
    have := yZ q l h2;simp only [e] at this;rw [hq] at this; cases this
theorem jL (q : Int -> Bool) (l : List UInt8) (k : Nat) (h : k < l.length) (hk : k <= spanN q l) (hq : q (l[k].toNat : Int) = false) : spanN q l = k := by
  rcases Nat.lt_or_ge k (spanN q l) with h1 | h1
  · have := vH q l k h h1
    rw [hq] at this; cases this
  · omega
theorem zBH (q : Int -> Bool) (l : List UInt8) (k : Nat) (hk : k <= spanN q l) : ∀ (d : Nat), k + d <= l.length -> (∀ j (hj : j < l.length), k <= j -> j < k + d -> q (l[j].toNat : Int) = true) -> k + d <= spanN q l := by
  intro d
  induction d with
  | zero => intro _ _; omega
  | succ d ih =>
    intro h1 h2;have := ih (by omega) (fun j hj a b => h2 j hj a (by omega));have := qw q l (k + d) (by omega) this (h2 (k + d) (by omega) (by omega) (by omega))
    omega
theorem zi (s : ByteArray) (k : Nat) (_h : k < s.size) (h' : k < s.data.toList.length) : s.data.toList[k] = s[k] := by
  simp [ByteArray.getElem_eq_getElem_data]
theorem zZ (s : ByteArray) : s.data.toList.length = s.size := by simp
end Sc
end Go.Proofs.YtepmjknljbafgaaGreatDoor
