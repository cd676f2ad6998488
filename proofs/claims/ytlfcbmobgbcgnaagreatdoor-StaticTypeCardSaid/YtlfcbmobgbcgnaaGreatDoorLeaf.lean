import Derived.Test.YtlfcbmobgbcgnaaGreatDoorScan0
import Derived.WalkKit
import Derived.WalkSpells
import Derived.WalkLawsBesides
import Derived.Lib.Hide
import Derived.Deep.QuietTactic
import Derived.BigQuiet
namespace Go.Proofs.YtlfcbmobgbcgnaaGreatDoor
set_option maxHeartbeats 400000
open Go.RowKit
theorem qQ {a b : Bool} (h : b = a) : Ending.returned (.bool b) = .returned (.bool a) := by rw [h]
theorem yn {k : IntKind} {a b : Int} (h : b = a) : Ending.returned (.int k a) = .returned (.int k b) := by rw [h]
theorem qG (r : Int) (w : World) :
  Calls Tryz.prog 143 #[.int .i32 r] w fun e w' => e = .returned (.bool (Sc.lett r)) ∧ w = w' := by
 go_enter Tryz.func143, Tryz.ntmps143
 go_wp2
 all_goals go_ret
 all_goals refine ⟨qQ ?_, rfl⟩
 all_goals (rw [Bool.eq_iff_iff]; simp [Sc.lett]; try omega)
theorem qf (r : Int) (w : World) :
  Calls Tryz.prog 145 #[.int .i32 r] w fun e w' => e = .returned (.bool (Sc.digi r)) ∧ w = w' := by
 go_enter Tryz.func145, Tryz.ntmps145
 go_wp2
 all_goals go_ret
 all_goals refine ⟨qQ ?_, rfl⟩
 all_goals (rw [Bool.eq_iff_iff]; simp [Sc.digi]; try omega)
theorem jG (r : Int) (w : World) :
  Calls Tryz.prog 130 #[.int .u8 r] w fun e w' => e = .returned (.bool (Sc.lett r)) ∧ w = w' := by
 go_enter Tryz.func130, Tryz.ntmps130
 go_wp2
 all_goals go_ret
 all_goals refine ⟨qQ ?_, rfl⟩
 all_goals (rw [Bool.eq_iff_iff]; simp [Sc.lett]; try omega)
theorem yU (r : Int) (w : World) :
  Calls Tryz.prog 131 #[.int .u8 r] w fun e w' => e = .returned (.bool (Sc.digi r)) ∧ w = w' := by
 go_enter Tryz.func131, Tryz.ntmps131
 go_wp2
 all_goals go_ret
 all_goals refine ⟨qQ ?_, rfl⟩
 all_goals (rw [Bool.eq_iff_iff]; simp [Sc.digi]; try omega)
theorem vQ (s : ByteArray) (w : World) :
  Calls Tryz.prog 152 #[.string s] w fun e w' => e = .returned (.bool (Sc.isKey s)) ∧ w = w' := by
 go_enter Tryz.func152, Tryz.ntmps152
 go_wp2
 all_goals go_ret
 all_goals exact ⟨qQ (by simp_all [Sc.isKey]), rfl⟩
theorem jd (s : ByteArray) (w : World) :
  Calls Tryz.prog 129 #[.string s] w fun e w' => e = .returned (.bool (Sc.isKey s)) ∧ w = w' := by
 go_enter Tryz.func129, Tryz.ntmps129
 go_wp2
 all_goals go_ret
 all_goals exact ⟨qQ (by simp_all [Sc.isKey]), rfl⟩
end Go.Proofs.YtlfcbmobgbcgnaaGreatDoor
