/-
  Plain facts on numerals.
-/
import Derived.Test.YtknhoagicdfikaaGreatDoorUtf
import Derived.Lib.ParseIntB
namespace Go.Proofs.YtknhoagicdfikaaGreatDoor
namespace Sc
/-- what digits are, behind what is read already -/
def numFrom (acc : Nat) (l : List UInt8) : Nat := l.foldl (fun a c => a * 10 + (c.toNat - 48)) acc
def allDigi (l : List UInt8) : Prop := ∀ c ∈ l, 48 ≤ c.toNat ∧ c.toNat ≤ 57

theorem numFrom_le (l : List UInt8) : ∀ acc, acc ≤ numFrom acc l := by
  induction l with
  | nil => intro acc; exact Nat.le_refl _
  | cons c l ih => intro acc; have := ih (acc * 10 + (c.toNat - 48)); unfold numFrom at this ⊢; rw [List.foldl_cons]; omega

theorem numFrom_cons (c : UInt8) (l : List UInt8) (acc : Nat) : numFrom acc (c :: l) = numFrom (acc * 10 + (c.toNat - 48)) l := by unfold numFrom; rw [List.foldl_cons]

theorem parseM (M : Nat) (hM : M < 18446744073709551620) : ∀ (l : List UInt8) (acc : Nat), allDigi l → acc ≤ M → Lib.parseUintM M acc l = if numFrom acc l ≤ M then .ok (numFrom acc l) else .range := by
  intro l
  induction l with
  | nil => intro acc _ ha; rw [if_pos (show numFrom acc [] ≤ M from ha)]; rfl
  | cons c l ih =>
    intro acc h _
    have hc := h c (by simp)
    have hl : allDigi l := fun x hx => h x (by simp [hx])
    have hmono := numFrom_le l (acc * 10 + (c.toNat - 48))
    rw [numFrom_cons, Lib.parseUintM, if_pos hc]
    have hge : acc * 10 ≤ acc * 10 + (c.toNat - 48) := Nat.le_add_right _ _
    generalize acc * 10 + (c.toNat - 48) = acc2 at hmono hge ⊢
    by_cases h1 : 1844674407370955162 ≤ acc
    · have e : ¬ numFrom acc2 l ≤ M := by omega
      rw [if_pos h1, if_neg e]
    · rw [if_neg h1]
      by_cases h2 : M < acc2
      · have e : ¬ numFrom acc2 l ≤ M := by omega
        rw [if_pos h2, if_neg e]
      · rw [if_neg h2, ih acc2 hl (by omega)]

theorem parse64 (l : List UInt8) (hne : l ≠ []) (h : allDigi l) : Lib.parseIntB 64 l = if numFrom 0 l < 9223372036854775808 then .ok (numFrom 0 l : Int) else .range := by
  cases l with
  | nil => exact absurd rfl hne
  | cons c l =>
    have hc := h c (by simp)
    have h45 : ¬ c.toNat = 45 := by omega
    have h43 : ¬ (c.toNat = 43 ∨ c.toNat = 45) := by omega
    simp only [Lib.parseIntB, if_neg h43, Lib.parseUintB]
    rw [parseM _ (by decide) _ _ h (by decide)]
    by_cases hm : numFrom 0 (c :: l) ≤ 2 ^ 64 - 1
    · simp only [hm, if_true]
      by_cases h2 : numFrom 0 (c :: l) < 9223372036854775808
      · simp [h2, h45]
      · simp [h2, h45]
    · have hm' : ¬ numFrom 0 (c :: l) < 9223372036854775808 := by omega
      simp [hm, hm']

theorem allDigi_take (l : List UInt8) : allDigi (l.take (spanN digi l)) := by
  intro c hc
  obtain ⟨i, hi, rfl⟩ := List.mem_iff_getElem.1 hc
  have h1 : i < spanN digi l := by simp at hi; omega
  have h2 : i < l.length := by simp at hi; omega
  have := spanN_get digi l i h2 h1
  simp [digi] at this
  simp
  omega
end Sc
end Go.Proofs.YtknhoagicdfikaaGreatDoor
