import Derived.Test.YtglgjaomneljbaaGreatDoorScan0
import Derived.WalkKit
import Derived.WalkSpells
import Derived.WalkLawsBesides
import Derived.Lib.Hide
import Derived.Deep.QuietTactic
import Derived.BigQuiet
namespace Go.Proofs.YtglgjaomneljbaaGreatDoor
set_option maxHeartbeats 400000
open Go.RowKit
theorem qQ {a b : Bool} (h : b = a) : Ending.returned (.bool b) = .returned (.bool a) := by rw [h]
theorem xC {k : IntKind} {a b : Int} (h : b = a) : Ending.returned (.int k a) = .returned (.int k b) := by rw [h]
theorem qF (r : Int) (w : World) :
  Calls Tryz.prog 134 #[.int .i32 r] w fun e w' => e = .returned (.bool (Sc.lett r)) /\ w = w' := by
 go_enter Tryz.func134, Tryz.ntmps134
 go_wp2
 all_goals go_ret
 all_goals refine ⟨qQ ?_, rfl⟩
 all_goals (rw [Bool.eq_iff_iff]; simp [Sc.lett]; try omega)
theorem qg (r : Int) (w : World) :
  Calls Tryz.prog 136 #[.int .i32 r] w fun e w' => e = .returned (.bool (Sc.digi r)) /\ w = w' := by
 go_enter Tryz.func136, Tryz.ntmps136
 go_wp2
 all_goals go_ret
 all_goals refine ⟨qQ ?_, rfl⟩
 all_goals (rw [Bool.eq_iff_iff]; simp [Sc.digi]; try omega)
theorem jI (r : Int) (w : World) :
  Calls Tryz.prog 122 #[.int .u8 r] w fun e w' => e = .returned (.bool (Sc.lett r)) /\ w = w' := by
 go_enter Tryz.func122, Tryz.ntmps122
 go_wp2
 all_goals go_ret
 all_goals refine ⟨qQ ?_, rfl⟩
 all_goals (rw [Bool.eq_iff_iff]; simp [Sc.lett]; try omega)
theorem yj (r : Int) (w : World) :
  Calls Tryz.prog 123 #[.int .u8 r] w fun e w' => e = .returned (.bool (Sc.digi r)) /\ w = w' := by
 go_enter Tryz.func123, Tryz.ntmps123
 go_wp2
 all_goals go_ret
 all_goals refine ⟨qQ ?_, rfl⟩
 all_goals (rw [Bool.eq_iff_iff]; simp [Sc.digi]; try omega)
theorem vV (s : ByteArray) (w : World) :
  Calls Tryz.prog 143 #[.string s] w fun e w' => e = .returned (.bool (Sc.isKey s)) /\ w = w' := by
 go_enter Tryz.func143, Tryz.ntmps143
 go_wp2
 all_goals go_ret
 all_goals exact ⟨qQ (by simp_all [Sc.isKey]), rfl⟩
theorem jh (s : ByteArray) (w : World) :
  Calls Tryz.prog 121 #[.string s] w fun e w' => e = .returned (.bool (Sc.isKey s)) /\ w = w' := by
 go_enter Tryz.func121, Tryz.ntmps121
 go_wp2
 all_goals go_ret
 all_goals exact ⟨qQ (by simp_all [Sc.isKey]), rfl⟩
end Go.Proofs.YtglgjaomneljbaaGreatDoor
