import Derived.Test.YtepmjknljbafgaaGreatDoorScan0
import Derived.WalkKit
import Derived.WalkSpells
import Derived.WalkLawsBesides
import Derived.Lib.Hide
import Derived.Deep.QuietTactic
import Derived.BigQuiet
namespace Go.Proofs.YtepmjknljbafgaaGreatDoor
set_option maxHeartbeats 400000
open Go.RowKit
theorem yu {a b : Bool} (h : b = a) : Ending.returned (.bool b) = .returned (.bool a) := by rw [h]
theorem zAO {k : IntKind} {a b : Int} (h : b = a) : Ending.returned (.int k a) = .returned (.int k b) := by rw [h]
theorem qL (r : Int) (w : World) :
    Calls Tryz.prog 54 #[.int .i32 r] w fun e w' => e = .returned (.bool (Sc.lett r)) /\ w = w' := by
  go_enter Tryz.func54, Tryz.ntmps54
  go_wp2
  all_goals go_ret
  all_goals refine ⟨yu ?_, rfl⟩
  all_goals (rw [Bool.eq_iff_iff]; simp [Sc.lett]; try omega)
theorem qh (r : Int) (w : World) :
    Calls Tryz.prog 56 #[.int .i32 r] w fun e w' => e = .returned (.bool (Sc.digi r)) /\ w = w' := by
  go_enter Tryz.func56, Tryz.ntmps56
  go_wp2
  all_goals go_ret
  all_goals refine ⟨yu ?_, rfl⟩
  all_goals (rw [Bool.eq_iff_iff]; simp [Sc.digi]; try omega)
theorem yf (r : Int) (w : World) :
    Calls Tryz.prog 28 #[.int .i32 r] w fun e w' => e = .returned (.bool (Sc.blan r)) /\ w = w' := by
  go_enter Tryz.func28, Tryz.ntmps28
  go_wp2
  all_goals go_ret
  all_goals refine ⟨yu ?_, rfl⟩
  all_goals (rw [Bool.eq_iff_iff]; simp [Sc.blan]; try omega)
theorem qx (r : Int) (w : World) :
    Calls Tryz.prog 53 #[.int .i32 r] w fun e w' => e = .returned (.bool (Sc.notNl r)) /\ w = w' := by
  go_enter Tryz.func53, Tryz.ntmps53
  go_wp2
  all_goals go_ret
  all_goals refine ⟨yu ?_, rfl⟩
  all_goals (rw [Bool.eq_iff_iff]; simp [Sc.notNl]; try omega)
theorem jZ (s : ByteArray) (w : World) :
    Calls Tryz.prog 81 #[.string s] w fun e w' => e = .returned (.bool (Sc.isKey s)) /\ w = w' := by
  go_enter Tryz.func81, Tryz.ntmps81
  go_wp2
  all_goals go_ret
  all_goals exact ⟨yu (by simp_all [Sc.isKey]), rfl⟩
end Go.Proofs.YtepmjknljbafgaaGreatDoor
