import Derived.Test.YtglgjaomneljbacGreatDoorScan0
import Derived.WalkKit
import Derived.WalkSpells
import Derived.WalkLawsBesides
import Derived.Lib.Hide
import Derived.Deep.QuietTactic
import Derived.BigQuiet
namespace Go.Proofs.YtglgjaomneljbacGreatDoor
set_option maxHeartbeats 400000
open Go.RowKit
theorem xz {a b : Bool} (h : b = a) : Ending.returned (.bool b) = .returned (.bool a) := by rw [h]
theorem zAI {k : IntKind} {a b : Int} (h : b = a) : Ending.returned (.int k a) = .returned (.int k b) := by rw [h]
theorem zg (r : Int) (w : World) :
  Calls Tryz.prog 94 #[.int .i32 r] w fun e w' => e = .returned (.bool (Sc.lett r)) ∧ w = w' := by
 go_enter Tryz.func94, Tryz.ntmps94
 go_wp2
 all_goals go_ret
 all_goals refine ⟨xz ?_, rfl⟩
 all_goals (rw [Bool.eq_iff_iff]; simp [Sc.lett]; try omega)
theorem qA (r : Int) (w : World) :
  Calls Tryz.prog 96 #[.int .i32 r] w fun e w' => e = .returned (.bool (Sc.digi r)) ∧ w = w' := by
 go_enter Tryz.func96, Tryz.ntmps96
 go_wp2
 all_goals go_ret
 all_goals refine ⟨xz ?_, rfl⟩
 all_goals (rw [Bool.eq_iff_iff]; simp [Sc.digi]; try omega)
theorem jU (s : ByteArray) (w : World) :
  Calls Tryz.prog 103 #[.string s] w fun e w' => e = .returned (.bool (Sc.isKey s)) ∧ w = w' := by
 go_enter Tryz.func103, Tryz.ntmps103
 go_wp2
 all_goals go_ret
 all_goals exact ⟨xz (by simp_all [Sc.isKey]), rfl⟩
end Go.Proofs.YtglgjaomneljbacGreatDoor
