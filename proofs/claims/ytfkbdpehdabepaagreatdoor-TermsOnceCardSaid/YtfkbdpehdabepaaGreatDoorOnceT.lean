/-
  terms.Bare, terms.Same.
-/
import Derived.Test.YtfkbdpehdabepaaGreatDoorBareO
import Derived.Test.YtfkbdpehdabepaaGreatDoorTmWhole
import Derived.Test.YtfkbdpehdabepaaGreatDoorTmFn
import Derived.Deep.RegionHeld3
namespace Go.Proofs.YtfkbdpehdabepaaGreatDoor
open Go.RowKit

theorem far11' {wr : World} {R b o : Nat} {v0 v1 v2 v3 v4 v5 v6 v7 v8 v9 v10 : Value} (h1 : b ≠ R) : (((((((((((wr.setCell ⟨R, 0, none⟩ v0).setCell ⟨R, 1, none⟩ v1).setCell ⟨R, 2, none⟩ v2).setCell ⟨R, 3, none⟩ v3).setCell ⟨R, 4, none⟩ v4).setCell ⟨R, 5, none⟩ v5).setCell ⟨R, 6, none⟩ v6).setCell ⟨R, 7, none⟩ v7).setCell ⟨R, 8, none⟩ v8).setCell ⟨R, 9, none⟩ v9).setCell ⟨R, 10, none⟩ v10).cell? ⟨b, o, none⟩ = wr.cell? ⟨b, o, none⟩ :=
  World.cell?_of_block (by rw [Below.heap_setCell _ _ _ b h1, Below.heap_setCell _ _ _ b h1, Below.heap_setCell _ _ _ b h1, Below.heap_setCell _ _ _ b h1, Below.heap_setCell _ _ _ b h1, Below.heap_setCell _ _ _ b h1, Below.heap_setCell _ _ _ b h1, Below.heap_setCell _ _ _ b h1, Below.heap_setCell _ _ _ b h1, Below.heap_setCell _ _ _ b h1, Below.heap_setCell _ _ _ b h1])
theorem far11 {wr : World} {R : Nat} (v0 v1 v2 v3 v4 v5 v6 v7 v8 v9 v10 : Value) (b o : Nat) (x : Value) (h1 : b ≠ R) (h2 : wr.cell? ⟨b, o, none⟩ = some x) : (((((((((((wr.setCell ⟨R, 0, none⟩ v0).setCell ⟨R, 1, none⟩ v1).setCell ⟨R, 2, none⟩ v2).setCell ⟨R, 3, none⟩ v3).setCell ⟨R, 4, none⟩ v4).setCell ⟨R, 5, none⟩ v5).setCell ⟨R, 6, none⟩ v6).setCell ⟨R, 7, none⟩ v7).setCell ⟨R, 8, none⟩ v8).setCell ⟨R, 9, none⟩ v9).setCell ⟨R, 10, none⟩ v10).cell? ⟨b, o, none⟩ = some x := by
  rw [far11' h1]; exact h2
def Tm.zero : Hd := ⟨0, ⟨#[]⟩, ⟨#[]⟩, 0, 0, .nil, 0, .nil, 0, 0⟩
/-- what Bare gives -/
def Tm.bH (h : Hd) (kids : Tm) : Hd := if Tm.chk h kids = 0 then Tm.cnt h else Tm.zero
def Tm.bK (h : Hd) (kids : Tm) : Tm := if Tm.chk h kids = 0 then Tm.bF kids else .nil
def BareP (w : World) (h : Hd) (kids : Tm) (e : Ending) (w' : World) : Prop :=
  ∃ p, e = .returned (.agg #[.int .i8 (Tm.bH h kids).kind, .string (Tm.bH h kids).name, .string (Tm.bH h kids).arg, .int .i64 (Tm.bH h kids).num, .int .i8 (Tm.bH h kids).tk, .slice p.TA p.tn p.tc, .int .i8 (Tm.bH h kids).uk, .slice p.UA p.un p.uc, .int .i64 (Tm.bH h kids).label, .int .i64 (Tm.bH h kids).pos, .slice p.A p.n p.c]) ∧ Tm.Is w' (Tm.bH h kids) (Tm.bK h kids) p ∧ Below w.heap.size w w'
theorem Tm.is_zero (w : World) : Tm.Is w Tm.zero .nil ⟨none, 0, 0, none, 0, 0, none, 0, 0⟩ := by
  have hz : ∀ w : World, Ty.Is w 0 .nil none 0 0 := fun w => ⟨trivial, rfl, Nat.le_refl _, Nat.zero_le _, by omega, by omega⟩
  exact ⟨⟨hz w, hz w, rfl, Nat.le_refl _, Nat.zero_le _, by decide, by decide, by decide, by decide, by decide, by decide⟩, trivial⟩
theorem Tm.small_of {h : Hd} {kids : Tm} (hc : Tm.chk h kids = 0) : Tm.tyN h + Tm.nodes kids ≤ 8192 := by
  have e : Tm.nd h kids = 1 + Tm.tyN h + Tm.nodes kids := rfl
  unfold Tm.chk at hc
  by_cases h1 : 8192 < Tm.nd h kids
  · rw [if_pos h1] at hc; omega
  · omega

set_option maxHeartbeats 4000000 in
set_option maxRecDepth 100000 in
theorem tm_same_any (h : Hd) (kids : Tm) (p : Pl) (h' : Hd) (kids' : Tm) (p' : Pl) (w : World) (hIs : Tm.Is w h kids p) (hIs' : Tm.Is w h' kids' p') (hG : TGlob w) :
    Calls Tryz.prog 13 #[.agg #[.int .i8 h.kind, .string h.name, .string h.arg, .int .i64 h.num, .int .i8 h.tk, .slice p.TA p.tn p.tc, .int .i8 h.uk, .slice p.UA p.un p.uc, .int .i64 h.label, .int .i64 h.pos, .slice p.A p.n p.c], .agg #[.int .i8 h'.kind, .string h'.name, .string h'.arg, .int .i64 h'.num, .int .i8 h'.tk, .slice p'.TA p'.tn p'.tc, .int .i8 h'.uk, .slice p'.UA p'.un p'.uc, .int .i64 h'.label, .int .i64 h'.pos, .slice p'.A p'.n p'.c]] w fun e w' => e = .returned (.bool (Tm.sameT h kids h' kids')) ∧ Below w.heap.size w w' := by
  have hB0 : Below w.heap.size w ((w.alloc (.cells #[.int .i8 h.kind, .string h.name, .string h.arg, .int .i64 h.num, .int .i8 h.tk, .slice p.TA p.tn p.tc, .int .i8 h.uk, .slice p.UA p.un p.uc, .int .i64 h.label, .int .i64 h.pos, .slice p.A p.n p.c] 28)).alloc (.cells #[.int .i8 h'.kind, .string h'.name, .string h'.arg, .int .i64 h'.num, .int .i8 h'.tk, .slice p'.TA p'.tn p'.tc, .int .i8 h'.uk, .slice p'.UA p'.un p'.uc, .int .i64 h'.label, .int .i64 h'.pos, .slice p'.A p'.n p'.c] 28)) := ((Below.refl _ _).alloc (Nat.le_refl _) _).alloc (by simp) _
  obtain ⟨r0, r1, _⟩ := two_new w (.cells #[.int .i8 h.kind, .string h.name, .string h.arg, .int .i64 h.num, .int .i8 h.tk, .slice p.TA p.tn p.tc, .int .i8 h.uk, .slice p.UA p.un p.uc, .int .i64 h.label, .int .i64 h.pos, .slice p.A p.n p.c] 28) (.cells #[.int .i8 h'.kind, .string h'.name, .string h'.arg, .int .i64 h'.num, .int .i8 h'.tk, .slice p'.TA p'.tn p'.tc, .int .i8 h'.uk, .slice p'.UA p'.un p'.uc, .int .i64 h'.label, .int .i64 h'.pos, .slice p'.A p'.n p'.c] 28)
  have HM := Lib.hid (fun (W : World) (hb : Below w.heap.size w W) => tcheck_any h kids p W (hIs.below hb) (hG.below hb))
  have HM' := Lib.hid (fun (W : World) (hb : Below w.heap.size w W) => tcheck_any h' kids' p' W (hIs'.below hb) (hG.below hb))
  have HA := Lib.hid (fun (W : World) (hb : Below w.heap.size w W) => talike_any (Tm.nodes kids + 1) h kids p h' kids' p' W (by omega) (hIs.below hb) (hIs'.below hb) (hG.below hb))
  have R0 := Lib.hid r0
  have R1 := Lib.hid r1
  obtain ⟨b0, hk0⟩ : ∃ b, (((Tm.chk h kids : Nat) : Int) == 0) = b := ⟨_, rfl⟩
  obtain ⟨b1, hk1⟩ : ∃ b, (((Tm.chk h' kids' : Nat) : Int) == 0) = b := ⟨_, rfl⟩
  have hR : Tm.sameT h kids h' kids' = (b0 && (b1 && Tm.alT h kids h' kids')) := by unfold Tm.sameT; rw [hk0, hk1]
  rw [hR]
  generalize Tm.alT h kids h' kids' = b2 at *
  generalize ((Tm.chk h kids : Nat) : Int) = x0 at *
  generalize ((Tm.chk h' kids' : Nat) : Int) = x1 at *
  clear hIs hIs' r0 r1 hR hG
  cases b0
  · go_enter Tryz.func13, Tryz.ntmps13
    go_wp2_with fail
    refine (HM.out _ hB0).mono ?_
    rintro e w3 ⟨rfl, hb⟩
    go_wp2_with fail
    go_ret
    exact ⟨rfl, hB0.trans (hb.mono hB0.size)⟩
  · cases b1
    · go_enter Tryz.func13, Tryz.ntmps13
      go_wp2_with fail
      refine (HM.out _ hB0).mono ?_
      rintro e w3 ⟨rfl, hb⟩
      have hB1 := hB0.trans (hb.mono hB0.size)
      obtain ⟨y0, y1, y2, y3, y4, y5, y6, y7, y8, y9, y10, yl⟩ := own11 (heap_below hb (heap_lt R1.out) R1.out)
      clear hb
      go_wp2_with fail
      refine (HM'.out _ hB1).mono ?_
      rintro e w4 ⟨rfl, hb⟩
      go_wp2_with fail
      go_ret
      exact ⟨rfl, hB1.trans (hb.mono hB1.size)⟩
    · go_enter Tryz.func13, Tryz.ntmps13
      go_wp2_with fail
      refine (HM.out _ hB0).mono ?_
      rintro e w3 ⟨rfl, hb⟩
      have hB1 := hB0.trans (hb.mono hB0.size)
      have S0 := Lib.hid (heap_below hb (heap_lt R0.out) R0.out)
      have S1 := Lib.hid (heap_below hb (heap_lt R1.out) R1.out)
      obtain ⟨y0, y1, y2, y3, y4, y5, y6, y7, y8, y9, y10, yl⟩ := own11 S1.out
      clear hb
      go_wp2_with fail
      refine (HM'.out _ hB1).mono ?_
      rintro e w4 ⟨rfl, hb⟩
      have hB2 := hB1.trans (hb.mono hB1.size)
      clear y0 y1 y2 y3 y4 y5 y6 y7 y8 y9 y10 yl
      obtain ⟨q0, q1, q2, q3, q4, q5, q6, q7, q8, q9, q10, ql⟩ := own11 (heap_below hb (heap_lt S0.out) S0.out)
      obtain ⟨y0, y1, y2, y3, y4, y5, y6, y7, y8, y9, y10, yl⟩ := own11 (heap_below hb (heap_lt S1.out) S1.out)
      clear hb
      go_wp2_with fail
      refine (HA.out _ hB2).mono ?_
      rintro e w5 ⟨rfl, hb⟩
      go_wp2_with fail
      go_ret
      exact ⟨rfl, hB2.trans (hb.mono hB2.size)⟩
def RowEl (w : World) (g : Nat) (h : Hd) (p : Pl) : Prop :=
  w.cell? ⟨g, 0, none⟩ = some (.int .i8 h.kind) ∧ w.cell? ⟨g, 1, none⟩ = some (.string h.name) ∧ w.cell? ⟨g, 2, none⟩ = some (.string h.arg) ∧ w.cell? ⟨g, 3, none⟩ = some (.int .i64 h.num) ∧ w.cell? ⟨g, 4, none⟩ = some (.int .i8 h.tk) ∧
  w.cell? ⟨g, 5, none⟩ = some (.slice p.TA p.tn p.tc) ∧ w.cell? ⟨g, 6, none⟩ = some (.int .i8 h.uk) ∧ w.cell? ⟨g, 7, none⟩ = some (.slice p.UA p.un p.uc) ∧ w.cell? ⟨g, 8, none⟩ = some (.int .i64 h.label) ∧ w.cell? ⟨g, 9, none⟩ = some (.int .i64 h.pos) ∧
  w.cell? ⟨g, 10, none⟩ = some (.slice p.A p.n p.c)
theorem RowEl.below {w w' : World} {g : Nat} {h : Hd} {p : Pl} (hr : RowEl w g h p) (hb : Below w.heap.size w w') : RowEl w' g h p := by
  have hl := Ty.cell_lt hr.1
  have hc := fun o => (bcell hb).1 g o hl
  unfold RowEl at *
  rw [hc, hc, hc, hc, hc, hc, hc, hc, hc, hc, hc]
  exact hr
theorem RowEl.of_heap {w : World} {g : Nat} {h : Hd} {p : Pl} (hh : w.heap[g]? = some (.cells #[.int .i8 h.kind, .string h.name, .string h.arg, .int .i64 h.num, .int .i8 h.tk, .slice p.TA p.tn p.tc, .int .i8 h.uk, .slice p.UA p.un p.uc, .int .i64 h.label, .int .i64 h.pos, .slice p.A p.n p.c] 28 (0, 0))) : RowEl w g h p := by
  obtain ⟨q0, q1, q2, q3, q4, q5, q6, q7, q8, q9, q10, _⟩ := own11 hh
  exact ⟨q0, q1, q2, q3, q4, q5, q6, q7, q8, q9, q10⟩
end Go.Proofs.YtfkbdpehdabepaaGreatDoor
