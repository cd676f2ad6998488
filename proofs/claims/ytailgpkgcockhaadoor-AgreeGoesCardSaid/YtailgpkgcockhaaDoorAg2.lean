/-
  agree.Agree; the document's Right and Agree.
-/
import Derived.Test.YtailgpkgcockhaaDoorAg1
namespace Go.Proofs.YtailgpkgcockhaaDoor
open Go.RowKit

set_option maxHeartbeats 2000000 in
set_option maxRecDepth 100000 in
theorem agree_any (k : Int) (kids : Fo) (A : Option Addr) (n c : Nat) (k' : Int) (kids' : Fo) (A' : Option Addr) (n' c' : Nat) (w : World) (hIs : Ty.Is w k kids A n c) (hIs' : Ty.Is w k' kids' A' n' c') (hS : Shapes w) :
    Calls Tryd.prog 7 #[.agg #[.int .i8 k, .slice A n c], .agg #[.int .i8 k', .slice A' n' c']] w fun e w' => e = .returned (.bool (Ty.agreeT k kids k' kids')) ∧ Below w.heap.size w w' := by
  obtain ⟨hB0, hR0, hR1⟩ := two_boxes w k A n c k' A' n' c'
  have HM := Lib.hid (fun (W : World) (hb : Below w.heap.size w W) => check_any k kids A n c W (hIs.below hb) (hS.below hb))
  have HN := Lib.hid (fun (W : World) (hb : Below w.heap.size w W) => check_any k' kids' A' n' c' W (hIs'.below hb) (hS.below hb))
  have HK := Lib.hid (fun (W : World) (hb : Below w.heap.size w W) (h1 : Ty.okT k kids = true) (h2 : Ty.okT k' kids' = true) => agreeing_any (Ty.nodes kids + 1) k kids A n c k' kids' A' n' c' W (by omega) (hIs.below hb) (hIs'.below hb) h1 h2)
  have R0 := Lib.hid hR0
  have R1 := Lib.hid hR1
  have HB0 := Lib.hid hB0
  clear hIs hIs' hS hR0 hR1
  by_cases h0 : Ty.chk k kids = 0
  · have o1 := (Ty.chk_ok h0).1
    rw [h0] at HM
    by_cases h1 : Ty.chk k' kids' = 0
    · have o2 := (Ty.chk_ok h1).1
      have hres : Ty.agreeT k kids k' kids' = Ty.agT k kids k' kids' := by unfold Ty.agreeT; rw [h0, h1]; rfl
      have HKK := Lib.hid (fun (W : World) (hb : Below w.heap.size w W) => HK.out W hb o1 o2)
      rw [hres]
      rw [h1] at HN
      clear hres h0 h1 o1 o2 HK hB0
      go_enter Tryd.func7, Tryd.ntmps7
      go_wp2_with fail
      refine (HM.out _ HB0.out).mono ?_
      rintro e w3 ⟨rfl, hb⟩
      have hB1 := Lib.hid (HB0.out.trans (hb.mono HB0.out.size))
      have hR0 := heap_below hb (heap_lt R0.out) R0.out
      have hR1 := heap_below hb (heap_lt R1.out) R1.out
      obtain ⟨b0, b1, _, _, _⟩ := own2 hR0
      obtain ⟨d0, d1, _, _, _⟩ := own2 hR1
      have HR0 := Lib.hid hR0
      have HR1 := Lib.hid hR1
      clear hb hR0 hR1
      go_wp2_with fail
      refine (HN.out _ hB1.out).mono ?_
      rintro e w4 ⟨rfl, hb⟩
      have hB2 := Lib.hid (hB1.out.trans (hb.mono hB1.out.size))
      obtain ⟨b0, b1, _, _, _⟩ := own2 (heap_below hb (heap_lt HR0.out) HR0.out)
      obtain ⟨d0, d1, _, _, _⟩ := own2 (heap_below hb (heap_lt HR1.out) HR1.out)
      clear hb
      go_wp2_with fail
      refine (HKK.out _ hB2.out).mono ?_
      rintro e w5 ⟨rfl, hb⟩
      go_wp2_with fail
      go_ret
      exact ⟨rfl, hB2.out.trans (hb.mono hB2.out.size)⟩
    · have hres : Ty.agreeT k kids k' kids' = false := by unfold Ty.agreeT; simp [h1]
      rw [hres]
      have hc : (((Ty.chk k' kids' : Nat) : Int) == 0) = false := by simp; omega
      generalize Ty.chk k' kids' = C at *
      clear hres h0 h1 HK o1 hB0
      go_enter Tryd.func7, Tryd.ntmps7
      go_wp2_with fail
      refine (HM.out _ HB0.out).mono ?_
      rintro e w3 ⟨rfl, hb⟩
      have hB1 := Lib.hid (HB0.out.trans (hb.mono HB0.out.size))
      obtain ⟨d0, d1, _, _, _⟩ := own2 (heap_below hb (heap_lt R1.out) R1.out)
      clear hb
      go_wp2_with fail
      refine (HN.out _ hB1.out).mono ?_
      rintro e w4 ⟨rfl, hb⟩
      go_wp2_with fail
      go_ret
      exact ⟨rfl, hB1.out.trans (hb.mono hB1.out.size)⟩
  · have hres : Ty.agreeT k kids k' kids' = false := by unfold Ty.agreeT; simp [h0]
    rw [hres]
    have hc : (((Ty.chk k kids : Nat) : Int) == 0) = false := by simp; omega
    generalize Ty.chk k kids = C at *
    clear hres h0 HK hB0
    go_enter Tryd.func7, Tryd.ntmps7
    go_wp2_with fail
    refine (HM.out _ HB0.out).mono ?_
    rintro e w3 ⟨rfl, hb⟩
    go_wp2_with fail
    go_ret
    exact ⟨rfl, HB0.out.trans (hb.mono HB0.out.size)⟩

end Go.Proofs.YtailgpkgcockhaaDoor
