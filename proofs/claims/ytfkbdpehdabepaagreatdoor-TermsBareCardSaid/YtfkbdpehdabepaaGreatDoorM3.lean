/-
  types.alike, types.Same; Nodes, Depth, Known, Ground. types.Same, Nodes, Depth, Known, Ground.
-/
import Derived.Test.YtfkbdpehdabepaaGreatDoorFormed
import Derived.Deep.OwnRows
namespace Go.Proofs.YtfkbdpehdabepaaGreatDoor
open Go.RowKit

namespace Ty
end Ty

end Go.Proofs.YtfkbdpehdabepaaGreatDoor
namespace Go.Proofs.YtfkbdpehdabepaaGreatDoor
open Go.RowKit

set_option maxHeartbeats 1000000 in
set_option maxRecDepth 100000 in
theorem nodes_any (k : Int) (kids : Fo) (A : Option Addr) (n c : Nat) (w : World) (hIs : Ty.Is w k kids A n c) :
    Calls Tryz.prog 34 #[.agg #[.int .i8 k, .slice A n c]] w fun e w' => e = .returned (.int .i64 (Ty.nod kids)) ∧ Below w.heap.size w w' := by
  have hB0 := (Below.refl w.heap.size w).alloc (Nat.le_refl _) (.cells #[.int .i8 k, .slice A n c] 25)
  have HM := Lib.hid (fun (W : World) (hb : Below w.heap.size w W) => measure_any k kids A n c W (hIs.below hb))
  clear hIs
  go_enter Tryz.func34, Tryz.ntmps34
  go_wp2_with fail
  refine (HM.out _ hB0).mono ?_
  rintro e w3 ⟨rfl, hb⟩
  go_wp2_with fail
  go_ret
  exact ⟨rfl, hB0.trans (hb.mono hB0.size)⟩

set_option maxHeartbeats 1000000 in
set_option maxRecDepth 100000 in
theorem depth_any (k : Int) (kids : Fo) (A : Option Addr) (n c : Nat) (w : World) (hIs : Ty.Is w k kids A n c) :
    Calls Tryz.prog 124 #[.agg #[.int .i8 k, .slice A n c]] w fun e w' => e = .returned (.int .i64 (Ty.dpt kids)) ∧ Below w.heap.size w w' := by
  have hB0 := (Below.refl w.heap.size w).alloc (Nat.le_refl _) (.cells #[.int .i8 k, .slice A n c] 25)
  have HM := Lib.hid (fun (W : World) (hb : Below w.heap.size w W) => measure_any k kids A n c W (hIs.below hb))
  clear hIs
  go_enter Tryz.func124, Tryz.ntmps124
  go_wp2_with fail
  refine (HM.out _ hB0).mono ?_
  rintro e w3 ⟨rfl, hb⟩
  go_wp2_with fail
  go_ret
  exact ⟨rfl, hB0.trans (hb.mono hB0.size)⟩

namespace Ty
end Ty

end Go.Proofs.YtfkbdpehdabepaaGreatDoor
