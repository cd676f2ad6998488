/-
  types.Same, Nodes, Depth, Known, Ground. The reference's Kids, right, Check, Equal, Same, open, Known. The reference's Equal, Same, Known, Of, Ground; types.Ground. The reference's Same, Known, Of, Ground; types.Ground. Types that agree: what the word says of forests. agree.agreeing, agree.Agree; the document's Right, Agree. agree.Agree; the document's Right and Agree.
-/
import Derived.Test.YtfkbdpehdabepaaGreatDoorSame
import Derived.Test.YtfkbdpehdabepaaGreatDoorM4
import Derived.Deep.OwnRows
import Derived.Test.YtfkbdpehdabepaaGreatDoorLow
import Derived.Laws.StructEq
namespace Go.Proofs.YtfkbdpehdabepaaGreatDoor
open Go.RowKit

set_option maxHeartbeats 1000000 in
set_option maxRecDepth 100000 in
theorem nodes_any (k : Int) (kids : Fo) (A : Option Addr) (n c : Nat) (w : World) (hIs : Ty.Is w k kids A n c) :
    Calls Tryz.prog 34 #[.agg #[.int .i8 k, .slice A n c]] w fun e w' => e = .returned (.int .i64 (Ty.nod kids)) ∧ Below w.heap.size w w' := by
  have hB0 := (Below.refl w.heap.size w).alloc (Nat.le_refl _) (.cells #[.int .i8 k, .slice A n c] 25)
  have HM := Lib.hid (fun (W : World) (hb : Below w.heap.size w W) => measure_any k kids A n c W (hIs.below hb))
  clear hIs
  go_enter Tryz.func34, Tryz.ntmps34
  go_wp2_with fail
  refine (HM.out _ hB0).mono ?_
  rintro e w3 ⟨rfl, hb⟩
  go_wp2_with fail
  go_ret
  exact ⟨rfl, hB0.trans (hb.mono hB0.size)⟩

set_option maxHeartbeats 1000000 in
set_option maxRecDepth 100000 in
theorem depth_any (k : Int) (kids : Fo) (A : Option Addr) (n c : Nat) (w : World) (hIs : Ty.Is w k kids A n c) :
    Calls Tryz.prog 124 #[.agg #[.int .i8 k, .slice A n c]] w fun e w' => e = .returned (.int .i64 (Ty.dpt kids)) ∧ Below w.heap.size w w' := by
  have hB0 := (Below.refl w.heap.size w).alloc (Nat.le_refl _) (.cells #[.int .i8 k, .slice A n c] 25)
  have HM := Lib.hid (fun (W : World) (hb : Below w.heap.size w W) => measure_any k kids A n c W (hIs.below hb))
  clear hIs
  go_enter Tryz.func124, Tryz.ntmps124
  go_wp2_with fail
  refine (HM.out _ hB0).mono ?_
  rintro e w3 ⟨rfl, hb⟩
  go_wp2_with fail
  go_ret
  exact ⟨rfl, hB0.trans (hb.mono hB0.size)⟩

namespace Ty
end Ty

set_option maxHeartbeats 2000000 in
set_option maxRecDepth 100000 in
theorem same_any (k : Int) (kids : Fo) (A : Option Addr) (n c : Nat) (k' : Int) (kids' : Fo) (A' : Option Addr) (n' c' : Nat) (w : World) (hIs : Ty.Is w k kids A n c) (hIs' : Ty.Is w k' kids' A' n' c') (hS : Shapes w) :
    Calls Tryz.prog 36 #[.agg #[.int .i8 k, .slice A n c], .agg #[.int .i8 k', .slice A' n' c']] w fun e w' => e = .returned (.bool (Ty.sameT k kids k' kids')) ∧ Below w.heap.size w w' := by
  have hB0 := ((Below.refl w.heap.size w).alloc (Nat.le_refl _) (.cells #[.int .i8 k, .slice A n c] 25)).alloc (by simp) (.cells #[.int .i8 k', .slice A' n' c'] 25)
  have HM := Lib.hid (fun (W : World) (hb : Below w.heap.size w W) => check_any k kids A n c W (hIs.below hb) (hS.below hb))
  have HN := Lib.hid (fun (W : World) (hb : Below w.heap.size w W) => check_any k' kids' A' n' c' W (hIs'.below hb) (hS.below hb))
  have HK := Lib.hid (fun (W : World) (hb : Below w.heap.size w W) => alike_any (Ty.nodes kids + 1) k kids A n c k' kids' A' n' c' W (by omega) (hIs.below hb) (hIs'.below hb))
  clear hIs hIs' hS
  have r0 := heap_old (heap_new w (.cells #[.int .i8 k, .slice A n c] 25)) (.cells #[.int .i8 k', .slice A' n' c'] 25)
  have r1 : ((w.alloc (.cells #[.int .i8 k, .slice A n c] 25)).alloc (.cells #[.int .i8 k', .slice A' n' c'] 25)).heap[w.heap.size + 1]? = some (.cells #[.int .i8 k', .slice A' n' c'] 25) := by
    have := heap_new (w.alloc (.cells #[.int .i8 k, .slice A n c] 25)) (.cells #[.int .i8 k', .slice A' n' c'] 25)
    simpa using this
  have R0 := Lib.hid r0
  have R1 := Lib.hid r1
  clear r0 r1
  by_cases h0 : Ty.chk k kids = 0
  · rw [h0] at HM
    by_cases h1 : Ty.chk k' kids' = 0
    · have hres : Ty.sameT k kids k' kids' = Ty.eqT k kids k' kids' := by unfold Ty.sameT; rw [h0, h1]; rfl
      rw [hres]
      rw [h1] at HN
      clear hres h0 h1
      go_enter Tryz.func36, Tryz.ntmps36
      go_wp2_with fail
      refine (HM.out _ hB0).mono ?_
      rintro e w3 ⟨rfl, hb⟩
      have hB1 := hB0.trans (hb.mono hB0.size)
      have hR0 := heap_below hb (heap_lt R0.out) R0.out
      have hR1 := heap_below hb (heap_lt R1.out) R1.out
      obtain ⟨b0, b1, _, _, _⟩ := own2 hR0
      obtain ⟨d0, d1, _, _, _⟩ := own2 hR1
      have HR0 := Lib.hid hR0
      have HR1 := Lib.hid hR1
      clear hb hR0 hR1
      go_wp2_with fail
      refine (HN.out _ hB1).mono ?_
      rintro e w4 ⟨rfl, hb⟩
      have hB2 := hB1.trans (hb.mono hB1.size)
      obtain ⟨b0, b1, _, _, _⟩ := own2 (heap_below hb (heap_lt HR0.out) HR0.out)
      obtain ⟨d0, d1, _, _, _⟩ := own2 (heap_below hb (heap_lt HR1.out) HR1.out)
      clear hb
      go_wp2_with fail
      refine (HK.out _ hB2).mono ?_
      rintro e w5 ⟨rfl, hb⟩
      go_wp2_with fail
      go_ret
      exact ⟨rfl, hB2.trans (hb.mono hB2.size)⟩
    · have hres : Ty.sameT k kids k' kids' = false := by unfold Ty.sameT; simp [h1]
      rw [hres]
      have hc : (((Ty.chk k' kids' : Nat) : Int) == 0) = false := by simp; omega
      generalize Ty.chk k' kids' = C at *
      clear hres h0 h1
      go_enter Tryz.func36, Tryz.ntmps36
      go_wp2_with fail
      refine (HM.out _ hB0).mono ?_
      rintro e w3 ⟨rfl, hb⟩
      have hB1 := hB0.trans (hb.mono hB0.size)
      obtain ⟨d0, d1, _, _, _⟩ := own2 (heap_below hb (heap_lt R1.out) R1.out)
      clear hb
      go_wp2_with fail
      refine (HN.out _ hB1).mono ?_
      rintro e w4 ⟨rfl, hb⟩
      go_wp2_with fail
      go_ret
      exact ⟨rfl, hB1.trans (hb.mono hB1.size)⟩
  · have hres : Ty.sameT k kids k' kids' = false := by unfold Ty.sameT; simp [h0]
    rw [hres]
    have hc : (((Ty.chk k kids : Nat) : Int) == 0) = false := by simp; omega
    generalize Ty.chk k kids = C at *
    clear hres h0
    go_enter Tryz.func36, Tryz.ntmps36
    go_wp2_with fail
    refine (HM.out _ hB0).mono ?_
    rintro e w3 ⟨rfl, hb⟩
    go_wp2_with fail
    go_ret
    exact ⟨rfl, hB0.trans (hb.mono hB0.size)⟩
end Go.Proofs.YtfkbdpehdabepaaGreatDoor
namespace Go.Proofs.YtfkbdpehdabepaaGreatDoor
open Go.RowKit

namespace Ty
end Ty

end Go.Proofs.YtfkbdpehdabepaaGreatDoor
namespace Go.Proofs.YtfkbdpehdabepaaGreatDoor
open Go.RowKit

end Go.Proofs.YtfkbdpehdabepaaGreatDoor
namespace Go.Proofs.YtfkbdpehdabepaaGreatDoor
open Go.RowKit

theorem Ty.chk_ok {k : Int} {kids : Fo} (h : Ty.chk k kids = 0) : Ty.okT k kids = true ∧ Ty.nodes kids + 1 ≤ 8192 ∧ Ty.dep kids + 1 ≤ 200 := by
  unfold Ty.chk at h
  split at h
  · cases h
  · split at h
    · cases h
    · split at h
      · rename_i h1 h2 h3; exact ⟨h3, by omega, by omega⟩
      · cases h

namespace Ty
end Ty

namespace Ty
end Ty
end Go.Proofs.YtfkbdpehdabepaaGreatDoor
namespace Go.Proofs.YtfkbdpehdabepaaGreatDoor
namespace Ty
end Ty
end Go.Proofs.YtfkbdpehdabepaaGreatDoor
namespace Go.Proofs.YtfkbdpehdabepaaGreatDoor
open Go.RowKit

end Go.Proofs.YtfkbdpehdabepaaGreatDoor
namespace Go.Proofs.YtfkbdpehdabepaaGreatDoor
open Go.RowKit

end Go.Proofs.YtfkbdpehdabepaaGreatDoor
