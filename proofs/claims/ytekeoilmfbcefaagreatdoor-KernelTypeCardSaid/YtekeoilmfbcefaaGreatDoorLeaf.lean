import Derived.Test.YtekeoilmfbcefaaGreatDoorScan0
import Derived.WalkKit
import Derived.WalkSpells
import Derived.WalkLawsBesides
import Derived.Lib.Hide
import Derived.Deep.QuietTactic
import Derived.BigQuiet
namespace Go.Proofs.YtekeoilmfbcefaaGreatDoor
set_option maxHeartbeats 400000
open Go.RowKit
theorem qj {a b : Bool} (h : b = a) : Ending.returned (.bool b) = .returned (.bool a) := by rw [h]
theorem yx {k : IntKind} {a b : Int} (h : b = a) : Ending.returned (.int k a) = .returned (.int k b) := by rw [h]
theorem qH (r : Int) (w : World) :
  Calls Tryz.prog 117 #[.int .i32 r] w fun e w' => e = .returned (.bool (Sc.lett r)) ∧ w = w' := by
 go_enter Tryz.func117, Tryz.ntmps117
 go_wp2
 all_goals go_ret
 all_goals refine ⟨qj ?_, rfl⟩
 all_goals (rw [Bool.eq_iff_iff]; simp [Sc.lett]; try omega)
theorem qd (r : Int) (w : World) :
  Calls Tryz.prog 119 #[.int .i32 r] w fun e w' => e = .returned (.bool (Sc.digi r)) ∧ w = w' := by
 go_enter Tryz.func119, Tryz.ntmps119
 go_wp2
 all_goals go_ret
 all_goals refine ⟨qj ?_, rfl⟩
 all_goals (rw [Bool.eq_iff_iff]; simp [Sc.digi]; try omega)
theorem jO (r : Int) (w : World) :
  Calls Tryz.prog 104 #[.int .u8 r] w fun e w' => e = .returned (.bool (Sc.lett r)) ∧ w = w' := by
 go_enter Tryz.func104, Tryz.ntmps104
 go_wp2
 all_goals go_ret
 all_goals refine ⟨qj ?_, rfl⟩
 all_goals (rw [Bool.eq_iff_iff]; simp [Sc.lett]; try omega)
theorem yV (r : Int) (w : World) :
  Calls Tryz.prog 105 #[.int .u8 r] w fun e w' => e = .returned (.bool (Sc.digi r)) ∧ w = w' := by
 go_enter Tryz.func105, Tryz.ntmps105
 go_wp2
 all_goals go_ret
 all_goals refine ⟨qj ?_, rfl⟩
 all_goals (rw [Bool.eq_iff_iff]; simp [Sc.digi]; try omega)
theorem vV (s : ByteArray) (w : World) :
  Calls Tryz.prog 126 #[.string s] w fun e w' => e = .returned (.bool (Sc.isKey s)) ∧ w = w' := by
 go_enter Tryz.func126, Tryz.ntmps126
 go_wp2
 all_goals go_ret
 all_goals exact ⟨qj (by simp_all [Sc.isKey]), rfl⟩
theorem ji (s : ByteArray) (w : World) :
  Calls Tryz.prog 103 #[.string s] w fun e w' => e = .returned (.bool (Sc.isKey s)) ∧ w = w' := by
 go_enter Tryz.func103, Tryz.ntmps103
 go_wp2
 all_goals go_ret
 all_goals exact ⟨qj (by simp_all [Sc.isKey]), rfl⟩
end Go.Proofs.YtekeoilmfbcefaaGreatDoor
