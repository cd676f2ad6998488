/-
  A row of names as a slice; the law's Names, where both are the same.
-/
import Derived.Test.YtfkbdpehdabepaaGreatDoorFreeC
import Derived.Test.YtfkbdpehdabepaaGreatDoorFreeR
import Derived.Deep.QuietTactic
namespace Go.Proofs.YtfkbdpehdabepaaGreatDoor
open Go.RowKit Go.Maps

/-- a row of names, as a slice -/
def FreeRow (w : World) (xs : List (List UInt8)) (e : Ending) (w' : World) : Prop := ∃ A c, e = .returned (.slice A xs.length c) ∧ BRow w' A xs ∧ Below w.heap.size w w'
theorem FreePost.row {w : World} {xs : List (List UInt8)} {e : Ending} {w' : World} (h : FreePost w xs e w') : FreeRow w xs e w' := by
  obtain ⟨v, he, ho, hb⟩ := h
  have h2 := ho
  rcases h2.2 with ⟨hv, h0⟩ | ⟨g, cap, cur, hv, -⟩
  · have : xs = [] := List.eq_nil_of_length_eq_zero h0
    subst this
    exact ⟨none, 0, by rw [he, hv]; rfl, brow_nil _ _, hb⟩
  · subst hv
    exact ⟨_, cap, he, BRow.own ho rfl, hb⟩

set_option maxHeartbeats 4000000 in
set_option maxRecDepth 100000 in
theorem names_any (l : List (List UInt8)) (A A' : Option Addr) (c c' : Nat) (w : World) (hl : l.length ≤ 1000000) (hr : BRow w A l) (hr' : BRow w A' l) :
    Calls Tryz.prog 14 #[.slice A l.length c, .slice A' l.length c'] w fun e w' => e = .returned (.bool true) ∧ Below w.heap.size w w' := by
  obtain ⟨n, hn⟩ : ∃ n, n = l.length := ⟨_, rfl⟩
  rw [← hn] at hl ⊢
  have HN := Lib.hid hn
  have HR := Lib.hid hr
  have HR' := Lib.hid hr'
  have i5 : (n : Int) ≤ 1000000 := by omega
  clear hn hr hr'
  go_enter Tryz.func14, Tryz.ntmps14
  go_wp2_with fail
  go_loopw [13] (fun v wr => ∃ i : Nat, v = .int .i64 i ∧ i ≤ n ∧ Below w.heap.size w wr) (fun v _ => n - (intOf v).toNat)
  case atStart => exact ⟨0, rfl, by omega, Below.refl _ _⟩
  case round =>
    obtain ⟨i, rfl, hi, hb⟩ := hrel
    by_cases hin : i < n
    · obtain ⟨x, hx⟩ : ∃ x, l[i]? = some x := ⟨l[i]'(by have := HN.out; omega), List.getElem?_eq_getElem _⟩
      obtain ⟨g, o, hA, hc⟩ := (HR.out.below hb) i x hx
      obtain ⟨g', o', hA', hc'⟩ := (HR'.out.below hb) i x hx
      have j1 : (i : Int) < n := by omega
      have j2 : (0 : Int) ≤ i ∧ (i : Int) < n := by omega
      obtain ⟨sx, hsx, hnx⟩ := enc_of x
      rw [hsx] at hc hc'
      have e2 : (sx.toList != sx.toList) = false := by simp
      have HB := Lib.hid hb
      clear hsx hnx hx hb
      obtain rfl := hA
      obtain rfl := hA'
      go_wp2_with fail
      go_quiet (fail)
      go_wp2_with fail
      have HB2 := Lib.hid (below_drewN HB.out nq)
      clear HB
      go_roundw
      case rel => exact ⟨i + 1, by go_num, by omega, HB2.out⟩
      case measure => simp [intOf]; omega
    · have j1 : ¬ ((i : Int) < n) := by omega
      have HB := Lib.hid hb
      clear hb
      go_wp2_with fail
      go_ret
      exact ⟨rfl, HB.out⟩
end Go.Proofs.YtfkbdpehdabepaaGreatDoor
