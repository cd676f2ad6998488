/-
  types.Text.
-/
import Derived.Test.YtkpdddlonmkebaaDoorWrite
namespace Go.Proofs.YtkpdddlonmkebaaDoor
open Go.RowKit

namespace Ty
/-- the text of a type, if it is one -/
def textT (k : Int) (kids : Fo) : ByteArray := if chk k kids = 0 then ⟨(txt k kids 1).toArray⟩ else ⟨#[]⟩
end Ty

set_option maxHeartbeats 1000000 in
set_option maxRecDepth 100000 in
theorem text_any (k : Int) (kids : Fo) (A : Option Addr) (n c : Nat) (w : World) (hIs : Ty.Is w k kids A n c) (hS : Shapes w) :
    Calls Tryd.prog 10 #[.agg #[.int .i8 k, .slice A n c]] w fun e w' => e = .returned (.tuple #[.string (Ty.textT k kids), .int .i64 (Ty.chk k kids)]) ∧ Below w.heap.size w w' := by
  have hB0 := (Below.refl w.heap.size w).alloc (Nat.le_refl _) (.cells #[.int .i8 k, .slice A n c] 29)
  have HM := Lib.hid (fun (W : World) (hb : Below w.heap.size w W) => check_any k kids A n c W (hIs.below hb) (hS.below hb))
  have hR0 := heap_new w (.cells #[.int .i8 k, .slice A n c] 29)
  by_cases h0 : Ty.chk k kids = 0
  · have hok := Ty.chk_ok h0
    have htl := Ty.txt_len k kids 1
    have hwr := fun (b : Nat) (hb : w.heap.size ≤ b) (W : World) (hW : Below w.heap.size w W) (hBl : Bld w.heap.size b [] W) => write_any w b hb hS (Ty.nodes kids + 1) k kids A n c 1 [] W (by omega) hIs hok.1 hW hBl (by simp; omega)
    have HW := Lib.hid hwr
    have e1 : Ty.textT k kids = ⟨(Ty.txt k kids 1).toArray⟩ := by unfold Ty.textT; rw [if_pos h0]
    rw [h0] at HM
    rw [h0, e1]
    generalize Ty.txt k kids 1 = T at *
    have R0 := Lib.hid hR0
    clear hIs hS hok htl hwr e1 h0 hR0
    go_enter Tryd.func10, Tryd.ntmps10
    go_wp2_with fail
    refine (HM.out _ hB0).mono ?_
    rintro e w3 ⟨rfl, hb⟩
    have hB1 := hB0.trans (hb.mono hB0.size)
    have R1 := Lib.hid (heap_below hb (heap_lt R0.out) R0.out)
    obtain ⟨b0, b1, _, _, hlt⟩ := own2 R1.out
    clear hb
    go_wp2_with fail
    refine (HW.out _ hB1.size _ (hB1.alloc hB1.size _) ?_).mono ?_
    · have := Lib.IsBuilderF.of (Lib.fresh_isBuilder 70 5 w3)
      exact bld_low this hB1.size
    rintro e w4 ⟨rfl, hbl, hw⟩
    have hB4 := (hB1.alloc hB1.size _).trans hw.below
    have HBl := Lib.hid hbl
    clear hbl hw
    go_wp2_with fail
    refine (Tryd.Builder_String_any_k w.heap.size _ T _ HBl.out hB4.size).mono ?_
    rintro e w5 ⟨rfl, -, hb5, -⟩
    go_wp2_with fail
    go_ret2
    exact ⟨rfl, hB4.trans hb5⟩
  · have e1 : Ty.textT k kids = ⟨#[]⟩ := by unfold Ty.textT; rw [if_neg h0]
    have hc : (((Ty.chk k kids : Nat) : Int) != 0) = true := by simp; omega
    rw [e1]
    generalize Ty.chk k kids = C at *
    clear hIs hS e1 h0 hR0
    go_enter Tryd.func10, Tryd.ntmps10
    go_wp2_with fail
    refine (HM.out _ hB0).mono ?_
    rintro e w3 ⟨rfl, hb⟩
    go_wp2_with fail
    go_ret2
    exact ⟨rfl, hB0.trans (hb.mono hB0.size)⟩
end Go.Proofs.YtkpdddlonmkebaaDoor
