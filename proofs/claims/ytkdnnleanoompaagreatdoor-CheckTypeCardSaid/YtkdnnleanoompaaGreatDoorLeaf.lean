import Derived.Test.YtkdnnleanoompaaGreatDoorScan0
import Derived.WalkKit
import Derived.WalkSpells
import Derived.WalkLawsBesides
import Derived.Lib.Hide
import Derived.Deep.QuietTactic
import Derived.BigQuiet
namespace Go.Proofs.YtkdnnleanoompaaGreatDoor
set_option maxHeartbeats 400000
open Go.RowKit
theorem qm {a b : Bool} (h : b = a) : Ending.returned (.bool b) = .returned (.bool a) := by rw [h]
theorem xV {k : IntKind} {a b : Int} (h : b = a) : Ending.returned (.int k a) = .returned (.int k b) := by rw [h]
theorem qK (r : Int) (w : World) :
  Calls Tryz.prog 127 #[.int .i32 r] w fun e w' => e = .returned (.bool (Sc.lett r)) /\ w = w' := by
 go_enter Tryz.func127, Tryz.ntmps127
 go_wp2
 all_goals go_ret
 all_goals refine ⟨qm ?_, rfl⟩
 all_goals (rw [Bool.eq_iff_iff]; simp [Sc.lett]; try omega)
theorem qg (r : Int) (w : World) :
  Calls Tryz.prog 129 #[.int .i32 r] w fun e w' => e = .returned (.bool (Sc.digi r)) /\ w = w' := by
 go_enter Tryz.func129, Tryz.ntmps129
 go_wp2
 all_goals go_ret
 all_goals refine ⟨qm ?_, rfl⟩
 all_goals (rw [Bool.eq_iff_iff]; simp [Sc.digi]; try omega)
theorem jQ (r : Int) (w : World) :
  Calls Tryz.prog 114 #[.int .u8 r] w fun e w' => e = .returned (.bool (Sc.lett r)) /\ w = w' := by
 go_enter Tryz.func114, Tryz.ntmps114
 go_wp2
 all_goals go_ret
 all_goals refine ⟨qm ?_, rfl⟩
 all_goals (rw [Bool.eq_iff_iff]; simp [Sc.lett]; try omega)
theorem xI (r : Int) (w : World) :
  Calls Tryz.prog 115 #[.int .u8 r] w fun e w' => e = .returned (.bool (Sc.digi r)) /\ w = w' := by
 go_enter Tryz.func115, Tryz.ntmps115
 go_wp2
 all_goals go_ret
 all_goals refine ⟨qm ?_, rfl⟩
 all_goals (rw [Bool.eq_iff_iff]; simp [Sc.digi]; try omega)
theorem kH (s : ByteArray) (w : World) :
  Calls Tryz.prog 136 #[.string s] w fun e w' => e = .returned (.bool (Sc.isKey s)) /\ w = w' := by
 go_enter Tryz.func136, Tryz.ntmps136
 go_wp2
 all_goals go_ret
 all_goals exact ⟨qm (by simp_all [Sc.isKey]), rfl⟩
theorem jv (s : ByteArray) (w : World) :
  Calls Tryz.prog 113 #[.string s] w fun e w' => e = .returned (.bool (Sc.isKey s)) /\ w = w' := by
 go_enter Tryz.func113, Tryz.ntmps113
 go_wp2
 all_goals go_ret
 all_goals exact ⟨qm (by simp_all [Sc.isKey]), rfl⟩
end Go.Proofs.YtkdnnleanoompaaGreatDoor
