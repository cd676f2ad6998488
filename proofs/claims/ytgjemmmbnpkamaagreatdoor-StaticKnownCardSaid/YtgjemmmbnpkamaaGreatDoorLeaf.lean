import Derived.Test.YtgjemmmbnpkamaaGreatDoorScan0
import Derived.WalkKit
import Derived.WalkSpells
import Derived.WalkLawsBesides
import Derived.Lib.Hide
import Derived.Deep.QuietTactic
import Derived.BigQuiet
namespace Go.Proofs.YtgjemmmbnpkamaaGreatDoor
set_option maxHeartbeats 400000
open Go.RowKit
theorem yR {a b : Bool} (h : b = a) : Ending.returned (.bool b) = .returned (.bool a) := by rw [h]
theorem uw {k : IntKind} {a b : Int} (h : b = a) : Ending.returned (.int k a) = .returned (.int k b) := by rw [h]
theorem qI (r : Int) (w : World) :
    Calls Tryz.prog 40 #[.int .i32 r] w fun e w' => e = .returned (.bool (Sc.lett r)) ∧ w = w' := by
  go_enter Tryz.func40, Tryz.ntmps40
  go_wp2
  all_goals go_ret
  all_goals refine ⟨yR ?_, rfl⟩
  all_goals (rw [Bool.eq_iff_iff]; simp [Sc.lett]; try omega)
theorem qa (r : Int) (w : World) :
    Calls Tryz.prog 42 #[.int .i32 r] w fun e w' => e = .returned (.bool (Sc.digi r)) ∧ w = w' := by
  go_enter Tryz.func42, Tryz.ntmps42
  go_wp2
  all_goals go_ret
  all_goals refine ⟨yR ?_, rfl⟩
  all_goals (rw [Bool.eq_iff_iff]; simp [Sc.digi]; try omega)
theorem yL (r : Int) (w : World) :
    Calls Tryz.prog 16 #[.int .i32 r] w fun e w' => e = .returned (.bool (Sc.blan r)) ∧ w = w' := by
  go_enter Tryz.func16, Tryz.ntmps16
  go_wp2
  all_goals go_ret
  all_goals refine ⟨yR ?_, rfl⟩
  all_goals (rw [Bool.eq_iff_iff]; simp [Sc.blan]; try omega)
theorem qi (r : Int) (w : World) :
    Calls Tryz.prog 39 #[.int .i32 r] w fun e w' => e = .returned (.bool (Sc.notNl r)) ∧ w = w' := by
  go_enter Tryz.func39, Tryz.ntmps39
  go_wp2
  all_goals go_ret
  all_goals refine ⟨yR ?_, rfl⟩
  all_goals (rw [Bool.eq_iff_iff]; simp [Sc.notNl]; try omega)
theorem jP (s : ByteArray) (w : World) :
    Calls Tryz.prog 71 #[.string s] w fun e w' => e = .returned (.bool (Sc.isKey s)) ∧ w = w' := by
  go_enter Tryz.func71, Tryz.ntmps71
  go_wp2
  all_goals go_ret
  all_goals exact ⟨yR (by simp_all [Sc.isKey]), rfl⟩
end Go.Proofs.YtgjemmmbnpkamaaGreatDoor
