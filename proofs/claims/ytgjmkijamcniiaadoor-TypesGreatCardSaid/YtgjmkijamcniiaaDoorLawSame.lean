/-
  P2.3: any two types: Same as the document's own answer tells it. The law's walk.
-/
import Derived.Test.YtgjmkijamcniiaaDoorWakes
namespace Go.Proofs.YtgjmkijamcniiaaDoor
open Go.RowKit

theorem Ty.same_self (k : Int) (kids : Fo) : Ty.sameT k kids k kids = (Ty.chk k kids == 0) := by
  unfold Ty.sameT Ty.eqT
  rw [Ty.eqF_refl]
  simp
theorem keep4 {wb w2 : World} {X I : Nat} {v0 v1 v2 v3 : Value} (h0 : wb.cell? ⟨X, 0, none⟩ = some v0) (h1 : wb.cell? ⟨X, 1, none⟩ = some v1) (h2 : wb.cell? ⟨I, 0, none⟩ = some v2) (h3 : wb.cell? ⟨I, 1, none⟩ = some v3) (hb : Below wb.heap.size wb w2) :
    w2.cell? ⟨X, 0, none⟩ = some v0 ∧ w2.cell? ⟨X, 1, none⟩ = some v1 ∧ w2.cell? ⟨I, 0, none⟩ = some v2 ∧ w2.cell? ⟨I, 1, none⟩ = some v3 :=
  ⟨by rw [(bcell hb).1 _ _ (Ty.cell_lt h0)]; exact h0, by rw [(bcell hb).1 _ _ (Ty.cell_lt h1)]; exact h1, by rw [(bcell hb).1 _ _ (Ty.cell_lt h2)]; exact h2, by rw [(bcell hb).1 _ _ (Ty.cell_lt h3)]; exact h3⟩

set_option maxHeartbeats 4000000 in
set_option maxRecDepth 100000 in
theorem law_TypesSame (k : Int) (kids : Fo) (A : Option Addr) (n c : Nat) (k' : Int) (kids' : Fo) (A' : Option Addr) (n' c' : Nat) (w : World) (hIs : Ty.Is w k kids A n c) (hIs' : Ty.Is w k' kids' A' n' c') (hS : Shapes w) :
    Calls Tryd.prog 4 #[.agg #[.int .i8 k, .slice A n c], .agg #[.int .i8 k', .slice A' n' c']] w fun e w' => e = .returned (.bool true) ∧ Below w.heap.size w w' := by
  obtain ⟨hB0, hR0, hR1⟩ := two_boxes w k A n c k' A' n' c'
  have hIs1 := hIs.below hB0
  have hIs2 := hIs'.below hB0
  have hS1 := hS.below hB0
  clear hIs hIs' hS
  obtain ⟨b0, b1, _, _, hb0⟩ := own2 hR0
  obtain ⟨d0, d1, _, _, hd0⟩ := own2 hR1
  clear hR0 hR1
  generalize hw1 : (w.alloc (.cells #[.int .i8 k, .slice A n c] 25)).alloc (.cells #[.int .i8 k', .slice A' n' c'] 25) = w1 at *
  have HW1 := Lib.hid hw1
  clear hw1
  have C1 := Lib.hid (fun (W : World) (hb : Below w1.heap.size w1 W) => same_any k kids A n c k' kids' A' n' c' W (hIs1.below hb) (hIs2.below hb) (hS1.below hb))
  have C2 := Lib.hid (fun (W : World) (hb : Below w1.heap.size w1 W) => ref_same k kids A n c k' kids' A' n' c' W (hIs1.below hb) (hIs2.below hb))
  have C3 := Lib.hid (fun (W : World) (hb : Below w1.heap.size w1 W) => same_any k kids A n c k kids A n c W (hIs1.below hb) (hIs1.below hb) (hS1.below hb))
  have C4 := Lib.hid (fun (W : World) (hb : Below w1.heap.size w1 W) => ref_check k kids A n c W (hIs1.below hb))
  have C5 := Lib.hid (fun (W : World) (hb : Below w1.heap.size w1 W) => wakes_any W (hS1.below hb))
  rw [Ty.same_self] at C3
  have hc : (Ty.chk k kids == 0) = (((Ty.chk k kids : Nat) : Int) == 0) := by rw [Bool.eq_iff_iff]; simp
  rw [hc] at C3
  generalize Ty.sameT k kids k' kids' = T at *
  generalize ((Ty.chk k kids : Nat) : Int) = C at *
  have D0 : Below w1.heap.size w1 w1.drew := (Below.refl _ _).drew
  clear hIs1 hIs2 hS1 hc
  cases T
  all_goals
    cases hz : (C == 0)
    all_goals
      rw [hz] at C3
      go_enter Tryd.func4, Tryd.ntmps4
      go_wp2_with fail
      rw [HW1.out]
      go_region_held3 (fun w' => w'.cell? ⟨w.heap.size, 0, none⟩ = some (.int .i8 k) ∧ w'.cell? ⟨w.heap.size, 1, none⟩ = some (.slice A n c) ∧ w'.cell? ⟨w.heap.size + 1, 0, none⟩ = some (.int .i8 k') ∧ w'.cell? ⟨w.heap.size + 1, 1, none⟩ = some (.slice A' n' c'))
        (first | exact keep4 b0 b1 d0 d1 D5 | exact keep4 b0 b1 d0 d1 D4 | exact keep4 b0 b1 d0 d1 D3 | exact keep4 b0 b1 d0 d1 D2 | exact keep4 b0 b1 d0 d1 D1 | exact keep4 b0 b1 d0 d1 D0)
        (first
          | (go_at_call 26; (with_reducible refine (C1.out _ D0).mono ?_); rintro e u1 ⟨rfl, hb⟩; have D1 := D0.trans hb; clear hb)
          | (go_at_call 27; (with_reducible refine (C2.out _ D1).mono ?_); rintro e u2 ⟨rfl, hb⟩; have D2 := D1.trans (hb.mono D1.size); clear hb)
          | (go_at_call 26; (with_reducible refine (C3.out _ D2).mono ?_); rintro e u3 ⟨rfl, hb⟩; have D3 := D2.trans (hb.mono D2.size); clear hb)
          | (go_at_call 14; (with_reducible refine (C4.out _ D3).mono ?_); rintro e u4 ⟨rfl, hb⟩; have D4 := D3.trans (hb.mono D3.size); clear hb)
          | (go_at_call 25; (with_reducible refine (C5.out _ D4).mono ?_); rintro e u5 ⟨rfl, hb⟩; have D5 := D4.trans (hb.mono D4.size); clear hb))
      go_wp2_with fail
      go_ret
      exact ⟨rfl, hB0.trans (D5.mono hB0.size)⟩
end Go.Proofs.YtgjmkijamcniiaaDoor
