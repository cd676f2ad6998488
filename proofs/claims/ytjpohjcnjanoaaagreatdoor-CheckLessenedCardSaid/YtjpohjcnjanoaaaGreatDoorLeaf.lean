import Derived.Test.YtjpohjcnjanoaaaGreatDoorScan0
import Derived.WalkKit
import Derived.WalkSpells
import Derived.WalkLawsBesides
import Derived.Lib.Hide
import Derived.Deep.QuietTactic
import Derived.BigQuiet
namespace Go.Proofs.YtjpohjcnjanoaaaGreatDoor
open Go.RowKit

theorem uK {a b : Bool} (h : b = a) : Ending.returned (.bool b) = .returned (.bool a) := by rw [h]
theorem vG {k : IntKind} {a b : Int} (h : b = a) : Ending.returned (.int k a) = .returned (.int k b) := by rw [h]

set_option maxHeartbeats 400000 in
theorem zw (r : Int) (w : World) :
    Calls Tryz.prog 161 #[.int .i32 r] w fun e w' => e = .returned (.bool (Sc.lett r)) ∧ w = w' := by
  go_enter Tryz.func161, Tryz.ntmps161
  go_wp2
  all_goals go_ret
  all_goals refine ⟨uK ?_, rfl⟩
  all_goals (rw [Bool.eq_iff_iff]; simp [Sc.lett]; try omega)

set_option maxHeartbeats 400000 in
theorem qK (r : Int) (w : World) :
    Calls Tryz.prog 163 #[.int .i32 r] w fun e w' => e = .returned (.bool (Sc.digi r)) ∧ w = w' := by
  go_enter Tryz.func163, Tryz.ntmps163
  go_wp2
  all_goals go_ret
  all_goals refine ⟨uK ?_, rfl⟩
  all_goals (rw [Bool.eq_iff_iff]; simp [Sc.digi]; try omega)

set_option maxHeartbeats 400000 in
theorem vF (s : ByteArray) (w : World) :
    Calls Tryz.prog 170 #[.string s] w fun e w' => e = .returned (.bool (Sc.isKey s)) ∧ w = w' := by
  go_enter Tryz.func170, Tryz.ntmps170
  go_wp2
  all_goals go_ret
  all_goals exact ⟨uK (by simp_all [Sc.isKey]), rfl⟩

end Go.Proofs.YtjpohjcnjanoaaaGreatDoor
