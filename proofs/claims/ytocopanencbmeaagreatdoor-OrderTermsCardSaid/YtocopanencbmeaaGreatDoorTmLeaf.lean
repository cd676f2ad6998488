/-
  Layer 3's leaves: how many kids a kind has, which fields count; operators; labels. The world stays as it was.
-/
import Derived.Test.YtocopanencbmeaaGreatDoorTm
import Derived.Test.YtocopanencbmeaaGreatDoorScanT
namespace Go.Proofs.YtocopanencbmeaaGreatDoor
open Go.RowKit

namespace Tm
/-- the reference's word on a kind's kids -/
def kidsI (k : Int) : Int := if isKind k then (kidsN k : Int) else -1
theorem isOp_iff (s : ByteArray) : isOp s = (s.toList == [43] || s.toList == [45] || s.toList == [42] || s.toList == [47] || s.toList == [60] || s.toList == [61]) := by
  unfold isOp; rw [Bool.eq_iff_iff]; simp [or_assoc]
end Tm

set_option maxHeartbeats 1000000 in
set_option maxRecDepth 100000 in
theorem ref_hasName_any (k : Int) (w : World) :
    Calls Tryz.prog 20 #[.int .i8 k] w fun e w' => e = .returned (.bool (Tm.hasName k)) ∧ w = w' := by
  go_enter Tryz.func20, Tryz.ntmps20
  go_wp2
  all_goals go_ret
  all_goals refine ⟨ret_b ?_, rfl⟩
  all_goals (rw [Bool.eq_iff_iff]; simp [Tm.hasName]; try omega)

set_option maxHeartbeats 1000000 in
set_option maxRecDepth 100000 in
theorem ref_hasArg_any (k : Int) (w : World) :
    Calls Tryz.prog 21 #[.int .i8 k] w fun e w' => e = .returned (.bool (Tm.hasArg k)) ∧ w = w' := by
  go_enter Tryz.func21, Tryz.ntmps21
  go_wp2
  all_goals go_ret
  all_goals refine ⟨ret_b ?_, rfl⟩
  all_goals (rw [Bool.eq_iff_iff]; simp [Tm.hasArg]; try omega)

set_option maxHeartbeats 1000000 in
set_option maxRecDepth 100000 in
theorem ref_hasType_any (k : Int) (w : World) :
    Calls Tryz.prog 22 #[.int .i8 k] w fun e w' => e = .returned (.bool (Tm.hasType k)) ∧ w = w' := by
  go_enter Tryz.func22, Tryz.ntmps22
  go_wp2
  all_goals go_ret
  all_goals refine ⟨ret_b ?_, rfl⟩
  all_goals (rw [Bool.eq_iff_iff]; simp [Tm.hasType]; try omega)

set_option maxHeartbeats 1000000 in
set_option maxRecDepth 100000 in
theorem ref_hasTo_any (k : Int) (w : World) :
    Calls Tryz.prog 24 #[.int .i8 k] w fun e w' => e = .returned (.bool (Tm.hasTo k)) ∧ w = w' := by
  go_enter Tryz.func24, Tryz.ntmps24
  go_wp2
  all_goals go_ret
  all_goals refine ⟨ret_b ?_, rfl⟩
  all_goals (rw [Bool.eq_iff_iff]; simp [Tm.hasTo]; try omega)

set_option maxHeartbeats 1000000 in
set_option maxRecDepth 100000 in
theorem ref_kids_any (k : Int) (w : World) :
    Calls Tryz.prog 42 #[.int .i8 k] w fun e w' => e = .returned (.int .i64 (Tm.kidsI k)) ∧ w = w' := by
  by_cases hk : 0 ≤ k ∧ k ≤ 17
  · have hk' : k = 0 ∨ k = 1 ∨ k = 2 ∨ k = 3 ∨ k = 4 ∨ k = 5 ∨ k = 6 ∨ k = 7 ∨ k = 8 ∨ k = 9 ∨ k = 10 ∨ k = 11 ∨ k = 12 ∨ k = 13 ∨ k = 14 ∨ k = 15 ∨ k = 16 ∨ k = 17 := by omega
    rcases hk' with rfl | rfl | rfl | rfl | rfl | rfl | rfl | rfl | rfl | rfl | rfl | rfl | rfl | rfl | rfl | rfl | rfl | rfl
    all_goals
      clear hk
      go_enter Tryz.func42, Tryz.ntmps42
      go_wp2
      go_ret
      exact ⟨rfl, rfl⟩
  · have e : Tm.kidsI k = -1 := by unfold Tm.kidsI Tm.isKind; rw [if_neg (by simpa using hk)]
    rw [e]
    have h0 : (k == 0) = false := by simp; omega
    have h1 : (k == 1) = false := by simp; omega
    have h2 : (k == 2) = false := by simp; omega
    have h3 : (k == 3) = false := by simp; omega
    have h4 : (k == 4) = false := by simp; omega
    have h5 : (k == 5) = false := by simp; omega
    have h6 : (k == 6) = false := by simp; omega
    have h7 : (k == 7) = false := by simp; omega
    have h8 : (k == 8) = false := by simp; omega
    have h9 : (k == 9) = false := by simp; omega
    have h10 : (k == 10) = false := by simp; omega
    have h11 : (k == 11) = false := by simp; omega
    have h12 : (k == 12) = false := by simp; omega
    have h13 : (k == 13) = false := by simp; omega
    have h14 : (k == 14) = false := by simp; omega
    have h15 : (k == 15) = false := by simp; omega
    have h16 : (k == 16) = false := by simp; omega
    have h17 : (k == 17) = false := by simp; omega
    clear hk e
    go_enter Tryz.func42, Tryz.ntmps42
    go_wp2
    go_ret
    exact ⟨rfl, rfl⟩

set_option maxHeartbeats 1000000 in
set_option maxRecDepth 100000 in
theorem ref_op_any (s : ByteArray) (w : World) :
    Calls Tryz.prog 43 #[.string s] w fun e w' => e = .returned (.bool (Tm.isOp s)) ∧ w = w' := by
  go_enter Tryz.func43, Tryz.ntmps43
  go_wp2
  all_goals go_ret
  all_goals exact ⟨ret_b (by simp_all [Tm.isOp_iff]), rfl⟩

set_option maxHeartbeats 1000000 in
set_option maxRecDepth 100000 in
theorem operator_any (s : ByteArray) (w : World) :
    Calls Tryz.prog 49 #[.string s] w fun e w' => e = .returned (.bool (Tm.isOp s)) ∧ w = w' := by
  go_enter Tryz.func49, Tryz.ntmps49
  go_wp2
  all_goals go_ret
  all_goals exact ⟨ret_b (by simp_all [Tm.isOp_iff]), rfl⟩

set_option maxHeartbeats 1000000 in
set_option maxRecDepth 100000 in
theorem label_any (n : Int) (w : World) (h1 : -9223372036854775808 ≤ n) (h2 : n ≤ 9223372036854775807) :
    Calls Tryz.prog 29 #[.int .i64 n] w fun e w' => e = .returned (.bool (Tm.labelOk n)) ∧ w = w' := by
  go_enter Tryz.func29, Tryz.ntmps29
  go_wp2
  all_goals go_ret
  all_goals refine ⟨ret_b ?_, rfl⟩
  all_goals (rw [Bool.eq_iff_iff]; simp [Tm.labelOk]; try omega)
end Go.Proofs.YtocopanencbmeaaGreatDoor
