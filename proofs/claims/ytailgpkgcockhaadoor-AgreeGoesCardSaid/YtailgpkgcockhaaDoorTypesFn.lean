/-
  types.Same, Nodes, Depth, Known, Ground.
-/
import Derived.Test.YtailgpkgcockhaaDoorSame
namespace Go.Proofs.YtailgpkgcockhaaDoor
open Go.RowKit

namespace Ty
def knownT (k : Int) (kids : Fo) : Bool := (chk k kids == 0) && knT k kids
end Ty

set_option maxHeartbeats 1000000 in
set_option maxRecDepth 100000 in
theorem known_fn (k : Int) (kids : Fo) (A : Option Addr) (n c : Nat) (w : World) (hIs : Ty.Is w k kids A n c) (hS : Shapes w) :
    Calls Tryd.prog 8 #[.agg #[.int .i8 k, .slice A n c]] w fun e w' => e = .returned (.bool (Ty.knownT k kids)) ∧ Below w.heap.size w w' := by
  have hB0 := (Below.refl w.heap.size w).alloc (Nat.le_refl _) (.cells #[.int .i8 k, .slice A n c] 25)
  have HM := Lib.hid (fun (W : World) (hb : Below w.heap.size w W) => check_any k kids A n c W (hIs.below hb) (hS.below hb))
  have HK := Lib.hid (fun (W : World) (hb : Below w.heap.size w W) => known_any (Ty.nodes kids + 1) k kids A n c W (by omega) (hIs.below hb))
  clear hIs hS
  by_cases h0 : Ty.chk k kids = 0
  · have hres : Ty.knownT k kids = Ty.knT k kids := by unfold Ty.knownT; rw [h0]; rfl
    rw [hres]
    rw [h0] at HM
    clear hres h0
    go_enter Tryd.func8, Tryd.ntmps8
    go_wp2_with fail
    refine (HM.out _ hB0).mono ?_
    rintro e w3 ⟨rfl, hb⟩
    have hB1 := hB0.trans (hb.mono hB0.size)
    obtain ⟨b0, b1, _, _, _⟩ := own2 (heap_below hb (by simp) (heap_new w (.cells #[.int .i8 k, .slice A n c] 25)))
    clear hb
    go_wp2_with fail
    refine (HK.out _ hB1).mono ?_
    rintro e w4 ⟨rfl, hb⟩
    go_wp2_with fail
    go_ret
    exact ⟨rfl, hB1.trans (hb.mono hB1.size)⟩
  · have hres : Ty.knownT k kids = false := by unfold Ty.knownT; simp [h0]
    rw [hres]
    have hc : (((Ty.chk k kids : Nat) : Int) == 0) = false := by simp; omega
    generalize Ty.chk k kids = C at *
    clear hres h0
    go_enter Tryd.func8, Tryd.ntmps8
    go_wp2_with fail
    refine (HM.out _ hB0).mono ?_
    rintro e w3 ⟨rfl, hb⟩
    go_wp2_with fail
    go_ret
    exact ⟨rfl, hB0.trans (hb.mono hB0.size)⟩

set_option maxHeartbeats 2000000 in
set_option maxRecDepth 100000 in
theorem same_any (k : Int) (kids : Fo) (A : Option Addr) (n c : Nat) (k' : Int) (kids' : Fo) (A' : Option Addr) (n' c' : Nat) (w : World) (hIs : Ty.Is w k kids A n c) (hIs' : Ty.Is w k' kids' A' n' c') (hS : Shapes w) :
    Calls Tryd.prog 9 #[.agg #[.int .i8 k, .slice A n c], .agg #[.int .i8 k', .slice A' n' c']] w fun e w' => e = .returned (.bool (Ty.sameT k kids k' kids')) ∧ Below w.heap.size w w' := by
  have hB0 := ((Below.refl w.heap.size w).alloc (Nat.le_refl _) (.cells #[.int .i8 k, .slice A n c] 25)).alloc (by simp) (.cells #[.int .i8 k', .slice A' n' c'] 25)
  have HM := Lib.hid (fun (W : World) (hb : Below w.heap.size w W) => check_any k kids A n c W (hIs.below hb) (hS.below hb))
  have HN := Lib.hid (fun (W : World) (hb : Below w.heap.size w W) => check_any k' kids' A' n' c' W (hIs'.below hb) (hS.below hb))
  have HK := Lib.hid (fun (W : World) (hb : Below w.heap.size w W) => alike_any (Ty.nodes kids + 1) k kids A n c k' kids' A' n' c' W (by omega) (hIs.below hb) (hIs'.below hb))
  clear hIs hIs' hS
  have r0 := heap_old (heap_new w (.cells #[.int .i8 k, .slice A n c] 25)) (.cells #[.int .i8 k', .slice A' n' c'] 25)
  have r1 : ((w.alloc (.cells #[.int .i8 k, .slice A n c] 25)).alloc (.cells #[.int .i8 k', .slice A' n' c'] 25)).heap[w.heap.size + 1]? = some (.cells #[.int .i8 k', .slice A' n' c'] 25) := by
    have := heap_new (w.alloc (.cells #[.int .i8 k, .slice A n c] 25)) (.cells #[.int .i8 k', .slice A' n' c'] 25)
    simpa using this
  have R0 := Lib.hid r0
  have R1 := Lib.hid r1
  clear r0 r1
  by_cases h0 : Ty.chk k kids = 0
  · rw [h0] at HM
    by_cases h1 : Ty.chk k' kids' = 0
    · have hres : Ty.sameT k kids k' kids' = Ty.eqT k kids k' kids' := by unfold Ty.sameT; rw [h0, h1]; rfl
      rw [hres]
      rw [h1] at HN
      clear hres h0 h1
      go_enter Tryd.func9, Tryd.ntmps9
      go_wp2_with fail
      refine (HM.out _ hB0).mono ?_
      rintro e w3 ⟨rfl, hb⟩
      have hB1 := hB0.trans (hb.mono hB0.size)
      have hR0 := heap_below hb (heap_lt R0.out) R0.out
      have hR1 := heap_below hb (heap_lt R1.out) R1.out
      obtain ⟨b0, b1, _, _, _⟩ := own2 hR0
      obtain ⟨d0, d1, _, _, _⟩ := own2 hR1
      have HR0 := Lib.hid hR0
      have HR1 := Lib.hid hR1
      clear hb hR0 hR1
      go_wp2_with fail
      refine (HN.out _ hB1).mono ?_
      rintro e w4 ⟨rfl, hb⟩
      have hB2 := hB1.trans (hb.mono hB1.size)
      obtain ⟨b0, b1, _, _, _⟩ := own2 (heap_below hb (heap_lt HR0.out) HR0.out)
      obtain ⟨d0, d1, _, _, _⟩ := own2 (heap_below hb (heap_lt HR1.out) HR1.out)
      clear hb
      go_wp2_with fail
      refine (HK.out _ hB2).mono ?_
      rintro e w5 ⟨rfl, hb⟩
      go_wp2_with fail
      go_ret
      exact ⟨rfl, hB2.trans (hb.mono hB2.size)⟩
    · have hres : Ty.sameT k kids k' kids' = false := by unfold Ty.sameT; simp [h1]
      rw [hres]
      have hc : (((Ty.chk k' kids' : Nat) : Int) == 0) = false := by simp; omega
      generalize Ty.chk k' kids' = C at *
      clear hres h0 h1
      go_enter Tryd.func9, Tryd.ntmps9
      go_wp2_with fail
      refine (HM.out _ hB0).mono ?_
      rintro e w3 ⟨rfl, hb⟩
      have hB1 := hB0.trans (hb.mono hB0.size)
      obtain ⟨d0, d1, _, _, _⟩ := own2 (heap_below hb (heap_lt R1.out) R1.out)
      clear hb
      go_wp2_with fail
      refine (HN.out _ hB1).mono ?_
      rintro e w4 ⟨rfl, hb⟩
      go_wp2_with fail
      go_ret
      exact ⟨rfl, hB1.trans (hb.mono hB1.size)⟩
  · have hres : Ty.sameT k kids k' kids' = false := by unfold Ty.sameT; simp [h0]
    rw [hres]
    have hc : (((Ty.chk k kids : Nat) : Int) == 0) = false := by simp; omega
    generalize Ty.chk k kids = C at *
    clear hres h0
    go_enter Tryd.func9, Tryd.ntmps9
    go_wp2_with fail
    refine (HM.out _ hB0).mono ?_
    rintro e w3 ⟨rfl, hb⟩
    go_wp2_with fail
    go_ret
    exact ⟨rfl, hB0.trans (hb.mono hB0.size)⟩
end Go.Proofs.YtailgpkgcockhaaDoor
