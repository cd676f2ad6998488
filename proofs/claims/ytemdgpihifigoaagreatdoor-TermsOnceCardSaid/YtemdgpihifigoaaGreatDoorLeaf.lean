/-
  Contracts of layer 1's leaves: what each answers; the world stays as it was.
-/
import Derived.Test.YtemdgpihifigoaaGreatDoorScan0
import Derived.WalkKit
import Derived.WalkSpells
import Derived.WalkLawsBesides
import Derived.Lib.Hide
import Derived.Deep.QuietTactic
import Derived.BigQuiet
namespace Go.Proofs.YtemdgpihifigoaaGreatDoor
open Go.RowKit

theorem ret_b {a b : Bool} (h : b = a) : Ending.returned (.bool b) = .returned (.bool a) := by rw [h]
theorem ret_i {k : IntKind} {a b : Int} (h : b = a) : Ending.returned (.int k a) = .returned (.int k b) := by rw [h]

set_option maxHeartbeats 400000 in
theorem scan_letter_any (r : Int) (w : World) :
    Calls Tryz.prog 112 #[.int .i32 r] w fun e w' => e = .returned (.bool (Sc.lett r)) ∧ w = w' := by
  go_enter Tryz.func112, Tryz.ntmps112
  go_wp2
  all_goals go_ret
  all_goals refine ⟨ret_b ?_, rfl⟩
  all_goals (rw [Bool.eq_iff_iff]; simp [Sc.lett]; try omega)

set_option maxHeartbeats 400000 in
theorem scan_digit_any (r : Int) (w : World) :
    Calls Tryz.prog 114 #[.int .i32 r] w fun e w' => e = .returned (.bool (Sc.digi r)) ∧ w = w' := by
  go_enter Tryz.func114, Tryz.ntmps114
  go_wp2
  all_goals go_ret
  all_goals refine ⟨ret_b ?_, rfl⟩
  all_goals (rw [Bool.eq_iff_iff]; simp [Sc.digi]; try omega)

set_option maxHeartbeats 400000 in
theorem scan_blank_any (r : Int) (w : World) :
    Calls Tryz.prog 73 #[.int .i32 r] w fun e w' => e = .returned (.bool (Sc.blan r)) ∧ w = w' := by
  go_enter Tryz.func73, Tryz.ntmps73
  go_wp2
  all_goals go_ret
  all_goals refine ⟨ret_b ?_, rfl⟩
  all_goals (rw [Bool.eq_iff_iff]; simp [Sc.blan]; try omega)

set_option maxHeartbeats 400000 in
theorem scan_remark1_any (r : Int) (w : World) :
    Calls Tryz.prog 111 #[.int .i32 r] w fun e w' => e = .returned (.bool (Sc.notNl r)) ∧ w = w' := by
  go_enter Tryz.func111, Tryz.ntmps111
  go_wp2
  all_goals go_ret
  all_goals refine ⟨ret_b ?_, rfl⟩
  all_goals (rw [Bool.eq_iff_iff]; simp [Sc.notNl]; try omega)

set_option maxHeartbeats 400000 in
theorem ref_letter_any (r : Int) (w : World) :
    Calls Tryz.prog 128 #[.int .u8 r] w fun e w' => e = .returned (.bool (Sc.lett r)) ∧ w = w' := by
  go_enter Tryz.func128, Tryz.ntmps128
  go_wp2
  all_goals go_ret
  all_goals refine ⟨ret_b ?_, rfl⟩
  all_goals (rw [Bool.eq_iff_iff]; simp [Sc.lett]; try omega)

set_option maxHeartbeats 400000 in
theorem ref_digit_any (r : Int) (w : World) :
    Calls Tryz.prog 131 #[.int .u8 r] w fun e w' => e = .returned (.bool (Sc.digi r)) ∧ w = w' := by
  go_enter Tryz.func131, Tryz.ntmps131
  go_wp2
  all_goals go_ret
  all_goals refine ⟨ret_b ?_, rfl⟩
  all_goals (rw [Bool.eq_iff_iff]; simp [Sc.digi]; try omega)

set_option maxHeartbeats 400000 in
theorem ref_blank_any (r : Int) (w : World) :
    Calls Tryz.prog 127 #[.int .u8 r] w fun e w' => e = .returned (.bool (Sc.blan r)) ∧ w = w' := by
  go_enter Tryz.func127, Tryz.ntmps127
  go_wp2
  all_goals go_ret
  all_goals refine ⟨ret_b ?_, rfl⟩
  all_goals (rw [Bool.eq_iff_iff]; simp [Sc.blan]; try omega)

set_option maxHeartbeats 400000 in
theorem scan_Key_any (s : ByteArray) (w : World) :
    Calls Tryz.prog 162 #[.string s] w fun e w' => e = .returned (.bool (Sc.isKey s)) ∧ w = w' := by
  go_enter Tryz.func162, Tryz.ntmps162
  go_wp2
  all_goals go_ret
  all_goals exact ⟨ret_b (by simp_all [Sc.isKey]), rfl⟩

set_option maxHeartbeats 400000 in
theorem ref_Key_any (s : ByteArray) (w : World) :
    Calls Tryz.prog 130 #[.string s] w fun e w' => e = .returned (.bool (Sc.isKey s)) ∧ w = w' := by
  go_enter Tryz.func130, Tryz.ntmps130
  go_wp2
  all_goals go_ret
  all_goals exact ⟨ret_b (by simp_all [Sc.isKey]), rfl⟩
end Go.Proofs.YtemdgpihifigoaaGreatDoor
