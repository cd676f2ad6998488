/-
  agree.As, the document's As.
-/
import Derived.Test.YtailgpkgcockhaaDoorCp
namespace Go.Proofs.YtailgpkgcockhaaDoor
open Go.RowKit

namespace Ty
def asOk (kd k : Int) (kids : Fo) : Bool := (chk k kids == 0) && decide (3 ≤ kd ∧ kd ≤ 5) && ((k == kd) || (k == 0))
def kid1 : Fo → Int × Fo
  | .node _ _ k f _ => (k, f)
  | .nil => (0, .nil)
def kid2 : Fo → Int × Fo
  | .node _ _ _ _ (.node _ _ k f _) => (k, f)
  | _ => (0, .nil)
def asL (kd k : Int) (kids : Fo) : Int × Fo := if asOk kd k kids then kid1 kids else (0, .nil)
def asR (kd k : Int) (kids : Fo) : Int × Fo := if asOk kd k kids then kid2 kids else (0, .nil)
theorem as_no {kd k : Int} {kids : Fo} (h : asOk kd k kids = false) : asL kd k kids = (0, .nil) ∧ asR kd k kids = (0, .nil) := by
  unfold asL asR; rw [h]; exact ⟨rfl, rfl⟩
theorem as_open {kd : Int} (h1 : 3 ≤ kd) (h2 : kd ≤ 5) : asOk kd 0 .nil = true ∧ asL kd 0 .nil = (0, .nil) ∧ asR kd 0 .nil = (0, .nil) := by
  have h : asOk kd 0 .nil = true := by unfold asOk; simp [h1, h2, show chk 0 .nil = 0 from rfl]
  unfold asL asR; rw [h]; exact ⟨rfl, rfl, rfl⟩
theorem as_yes {kd : Int} {a b c d : Nat} {k1 k2 : Int} {f1 f2 : Fo} (h1 : 3 ≤ kd) (h2 : kd ≤ 5) (hc : chk kd (.node a b k1 f1 (.node c d k2 f2 .nil)) = 0) :
    asOk kd kd (.node a b k1 f1 (.node c d k2 f2 .nil)) = true ∧ asL kd kd (.node a b k1 f1 (.node c d k2 f2 .nil)) = (k1, f1) ∧ asR kd kd (.node a b k1 f1 (.node c d k2 f2 .nil)) = (k2, f2) := by
  have h : asOk kd kd (.node a b k1 f1 (.node c d k2 f2 .nil)) = true := by unfold asOk; simp [h1, h2, hc]
  unfold asL asR; rw [h]; exact ⟨rfl, rfl, rfl⟩
theorem zero_is (w : World) : Is w 0 .nil none 0 0 := ⟨trivial, rfl, Nat.le_refl _, Nat.zero_le _, by omega, by omega⟩
end Ty
/-- what As leaves -/
def AsPost (w : World) (ok : Bool) (l r : Int × Fo) (e : Ending) (w' : World) : Prop :=
  ∃ G1 m1 c1 G2 m2 c2, e = .returned (.tuple #[.agg #[.int .i8 l.1, .slice G1 m1 c1], .agg #[.int .i8 r.1, .slice G2 m2 c2], .bool ok]) ∧ Ty.Is w' l.1 l.2 G1 m1 c1 ∧ Ty.Is w' r.1 r.2 G2 m2 c2 ∧ Below w.heap.size w w'
theorem keepAt' {wb w2 : World} {b o : Nat} {v : Value} (h : wb.cell? ⟨b, o, none⟩ = some v) (hb : Below wb.heap.size wb w2) : w2.cell? ⟨b, o, none⟩ = some v := by rw [(bcell hb).1 _ _ (Ty.cell_lt h)]; exact h
theorem four_set {w u : World} {X Y : Nat} (h : Below w.heap.size w u) (hX : w.heap.size ≤ X) (hY : w.heap.size ≤ Y) (v0 v1 v2 v3 : Value) : Below w.heap.size w ((((u.setCell ⟨X, 0, none⟩ v0).setCell ⟨X, 1, none⟩ v1).setCell ⟨Y, 0, none⟩ v2).setCell ⟨Y, 1, none⟩ v3) :=
  (((h.setCell (p := ⟨X, 0, none⟩) hX _).setCell (p := ⟨X, 1, none⟩) hX _).setCell (p := ⟨Y, 0, none⟩) hY _).setCell (p := ⟨Y, 1, none⟩) hY _
theorem four_keep {P : Nat → Prop} {u : World} {X Y : Nat} {v0 v1 v2 v3 : Value} (hX : ¬ P X) (hY : ¬ P Y) : ∀ b o v, P b → u.cell? ⟨b, o, none⟩ = some v → ((((u.setCell ⟨X, 0, none⟩ v0).setCell ⟨X, 1, none⟩ v1).setCell ⟨Y, 0, none⟩ v2).setCell ⟨Y, 1, none⟩ v3).cell? ⟨b, o, none⟩ = some v := by
  intro b o v hb hc
  have n1 : b ≠ X := fun e => hX (e ▸ hb)
  have n2 : b ≠ Y := fun e => hY (e ▸ hb)
  rw [World.cell?_setCell_other _ _ _ _ (fun e => n2 (by injection e with e; exact e.symm)), World.cell?_setCell_other _ _ _ _ (fun e => n2 (by injection e with e; exact e.symm)), World.cell?_setCell_other _ _ _ _ (fun e => n1 (by injection e with e; exact e.symm)), World.cell?_setCell_other _ _ _ _ (fun e => n1 (by injection e with e; exact e.symm))]
  exact hc

set_option maxHeartbeats 4000000 in
set_option maxRecDepth 100000 in
theorem as_any (kd k : Int) (kids : Fo) (A : Option Addr) (n c : Nat) (w : World) (hIs : Ty.Is w k kids A n c) (hS : Shapes w) :
    Calls Tryd.prog 12 #[.int .i8 kd, .agg #[.int .i8 k, .slice A n c]] w (AsPost w (Ty.asOk kd k kids) (Ty.asL kd k kids) (Ty.asR kd k kids)) := by
  have hB0 : Below w.heap.size w (((w.alloc (.cells #[.int .i8 k, .slice A n c] 25)).alloc (.cells #[.int .i8 0, .slice none 0 0] 25)).alloc (.cells #[.int .i8 0, .slice none 0 0] 25)) := (((Below.refl _ _).alloc (Nat.le_refl _) _).alloc (by simp) _).alloc (by simp; omega) _
  obtain ⟨r0, r1, r2⟩ := two_new w (.cells #[.int .i8 k, .slice A n c] 25) (.cells #[.int .i8 0, .slice none 0 0] 25)
  have h0 := heap_old r0 (.cells #[.int .i8 0, .slice none 0 0] 25)
  have h1 := heap_old r1 (.cells #[.int .i8 0, .slice none 0 0] 25)
  have h2 := heap_new ((w.alloc (.cells #[.int .i8 k, .slice A n c] 25)).alloc (.cells #[.int .i8 0, .slice none 0 0] 25)) (.cells #[.int .i8 0, .slice none 0 0] 25)
  rw [r2] at h2
  generalize hw1 : (((w.alloc (.cells #[.int .i8 k, .slice A n c] 25)).alloc (.cells #[.int .i8 0, .slice none 0 0] 25)).alloc (.cells #[.int .i8 0, .slice none 0 0] 25)) = w1 at *
  have HW1 := Lib.hid hw1
  have HB0 := Lib.hid hB0
  have HC := Lib.hid (check_any k kids A n c w1 (hIs.below hB0) (hS.below hB0))
  have HSH := Lib.hid (hS.below hB0)
  have HI := Lib.hid hIs
  have H0 := Lib.hid h0
  have H1 := Lib.hid h1
  have H2 := Lib.hid h2
  obtain ⟨b0, b1, _, _, hb0⟩ := own2 h0
  clear r0 r1 r2 h0 h1 h2 hw1 hB0 hIs hS
  by_cases hc0 : Ty.chk k kids = 0
  case neg =>
    have hno : Ty.asOk kd k kids = false := by unfold Ty.asOk; simp [hc0]
    obtain ⟨e1, e2⟩ := Ty.as_no hno
    rw [hno, e1, e2]
    have hcn : (((Ty.chk k kids : Nat) : Int) != 0) = true := by simp; omega
    generalize Ty.chk k kids = C at *
    clear hno e1 e2 hc0
    go_enter Tryd.func12, Tryd.ntmps12
    go_wp2_with fail
    rw [HW1.out]
    go_wp2_with fail
    refine HC.out.mono ?_
    rintro e w2 ⟨rfl, hb⟩
    obtain ⟨d0, d1, df0, df1, hd0⟩ := own2 (heap_below hb (heap_lt H1.out) H1.out)
    obtain ⟨g0, g1, gf0, gf1, hg0⟩ := own2 (heap_below hb (heap_lt H2.out) H2.out)
    have HB2 := Lib.hid (HB0.out.trans (hb.mono HB0.out.size))
    clear hb
    go_wp2_with fail
    refine bodyPost_ret (v := .tuple #[.agg #[.int .i8 0, .slice none 0 0], .agg #[.int .i8 0, .slice none 0 0], .bool false]) (by simp [results, Tryd.results12, go_sem, *]) rfl ⟨none, 0, 0, none, 0, 0, rfl, Ty.zero_is _, Ty.zero_is _, ?_⟩
    exact four_set HB2.out (Nat.le_add_right _ _) (by omega) _ _ _ _
  have hok := (Ty.chk_ok hc0).1
  have hr := Ty.okT_range hok
  have hsm := (Ty.chk_ok hc0).2.1
  rw [hc0] at HC
  by_cases hA : k = kd ∧ 3 ≤ k
  · obtain ⟨rfl, h3⟩ := hA
    obtain ⟨a1, a2, p1, f1, a3, a4, p2, f2, rfl, o1, o2⟩ := Ty.two_of hok h3
    obtain ⟨e1, e2, e3⟩ := Ty.as_yes h3 (by omega) hc0
    obtain ⟨hk1, hk2⟩ := Ty.chk_both hc0
    rw [e1, e2, e3]
    have hn := HI.out.n_eq
    simp only [Ty.len] at hn
    subst hn
    simp only [Ty.nodes] at hsm
    have hL := Ty.lies2 (HI.out.below HB0.out).lies
    obtain ⟨bb, oo, B1, c1, B2, c2, rfl, x0, x1, x2, x3, i1, i2⟩ := hL
    have hr2 : k = 3 ∨ k = 4 ∨ k = 5 := by omega
    have C1 := Lib.hid (fun (u : World) (hE : Below w1.heap.size w1 u) => ccopyL_any p1 f1 B1 _ c1 u (i1.below hE) (HSH.out.below hE) hk1)
    have C2 := Lib.hid (fun (u : World) (hE : Below w1.heap.size w1 u) => ccopyL_any p2 f2 B2 _ c2 u (i2.below hE) (HSH.out.below hE) hk2)
    have X0 := Lib.hid x0
    have X1 := Lib.hid x1
    have X2 := Lib.hid x2
    have X3 := Lib.hid x3
    clear e1 e2 e3 hok hr h3 hc0 o1 o2 hsm i1 i2 x0 x1 x2 x3
    generalize Ty.len f1 = m1 at *
    generalize Ty.len f2 = m2 at *
    rcases hr2 with rfl | rfl | rfl
    all_goals
      have e1 := fun W => eqKinds 3 3 3 3 W
      have e2 := fun W => eqKinds 4 4 3 3 W
      have e3 := fun W => eqKinds 4 4 4 4 W
      have e4 := fun W => eqKinds 5 5 3 3 W
      have e5 := fun W => eqKinds 5 5 4 4 W
      have e6 := fun W => eqKinds 5 5 5 5 W
      go_enter Tryd.func12, Tryd.ntmps12
      go_wp2_with fail
      rw [HW1.out]
      go_wp2_with fail
      refine HC.out.mono ?_
      rintro e w2 ⟨rfl, hb⟩
      have HD1 := Lib.hid (heap_below hb (heap_lt H1.out) H1.out)
      have HD2 := Lib.hid (heap_below hb (heap_lt H2.out) H2.out)
      have HD0 := Lib.hid (heap_below hb (heap_lt H0.out) H0.out)
      obtain ⟨b0, b1, _, _, hb0⟩ := own2 HD0.out
      have x0 := (keepAt' X0.out hb)
      have x1 := (keepAt' X1.out hb)
      have x2 := (keepAt' X2.out hb)
      have x3 := (keepAt' X3.out hb)
      have HBW := Lib.hid hb
      clear hb
      go_wp2_with fail
      have E1 : Below w1.heap.size w1 w2.drew := HBW.out.drew
      go_region_law (first
        | (go_simp; go_at_call 19; (with_reducible refine (C1.out _ E1).mono ?_); rintro e u1 ⟨G1, n1, q1, rfl, hn1, hb1⟩; have HU1 := Lib.hid hb1; have HN1 := Lib.hid hn1; have E2 := E1.trans (hb1.mono E1.size); have b0 := keepAt' (show w2.drew.cell? _ = _ from b0) hb1; have b1 := keepAt' (show w2.drew.cell? _ = _ from b1) hb1; have x2 := keepAt' (show w2.drew.cell? _ = _ from x2) hb1; have x3 := keepAt' (show w2.drew.cell? _ = _ from x3) hb1; clear hn1 hb1; go_wp2_with fail)
        | (go_simp; go_at_call 19; (with_reducible refine (C2.out _ E2).mono ?_); rintro e u2 ⟨G2, n2, q2, rfl, hn2, hb2⟩; have HU2 := Lib.hid hb2; have HN2 := Lib.hid hn2; have E3 := E2.trans (hb2.mono E2.size); obtain ⟨d0, d1, df0, df1, hd0⟩ := own2 (heap_below (E1.trans ((HU1.out.trans (hb2.mono HU1.out.size)).mono E1.size)) (heap_lt H1.out) H1.out); obtain ⟨g0, g1, gf0, gf1, hg0⟩ := own2 (heap_below (E1.trans ((HU1.out.trans (hb2.mono HU1.out.size)).mono E1.size)) (heap_lt H2.out) H2.out); clear hn2 hb2; go_wp2_with fail))
      all_goals
        go_wp2_with fail
        have hz1 : w1.heap.size = w.heap.size + 3 := by rw [← HW1.out]; simp
        have hz2 := E1.size
        have hz3 := E2.size
        refine bodyPost_ret (v := .tuple #[.agg #[.int .i8 p1, .slice G1 n1 q1], .agg #[.int .i8 p2, .slice G2 n2 q2], .bool true]) (by simp [results, Tryd.results12, go_sem, *]) rfl ⟨G1, n1, q1, G2, n2, q2, rfl, ?_, ?_, ?_⟩
        · exact HN1.out _ fun b o v hb hc => four_keep (P := fun b => w1.heap.size ≤ b) (by omega) (by omega) b o v (show w1.heap.size ≤ b from Nat.le_trans hz2 hb) (keepAt' hc HU2.out)
        · exact HN2.out _ fun b o v hb hc => four_keep (P := fun b => w1.heap.size ≤ b) (by omega) (by omega) b o v (show w1.heap.size ≤ b from Nat.le_trans hz3 hb) hc
        · exact four_set (HB0.out.trans (E3.mono HB0.out.size)) (Nat.le_add_right _ _) (by omega) _ _ _ _
  · by_cases hB : k = 0 ∧ 3 ≤ kd ∧ kd ≤ 5
    · obtain ⟨rfl, h3, h5⟩ := hB
      obtain rfl := Ty.none_of hok (by omega)
      obtain ⟨e1, e2, e3⟩ := Ty.as_open h3 h5
      rw [e1, e2, e3]
      have hr2 : kd = 3 ∨ kd = 4 ∨ kd = 5 := by omega
      clear e1 e2 e3 hok hr h3 h5 hc0 hsm hA
      rcases hr2 with rfl | rfl | rfl
      all_goals
        have e1 := fun W => eqKinds 3 0 3 3 W
        have e2 := fun W => eqKinds 3 0 4 4 W
        have e3 := fun W => eqKinds 3 0 5 5 W
        have e4 := fun W => eqKinds 4 0 3 3 W
        have e5 := fun W => eqKinds 4 0 4 4 W
        have e6 := fun W => eqKinds 4 0 5 5 W
        have f1 := fun W => eqKinds 5 0 3 3 W
        have f2 := fun W => eqKinds 5 0 4 4 W
        have f3 := fun W => eqKinds 5 0 5 5 W
        have g1 := fun W => eqKinds 3 0 3 0 W
        have g2 := fun W => eqKinds 4 0 3 0 W
        have g3 := fun W => eqKinds 4 0 4 0 W
        have g4 := fun W => eqKinds 5 0 3 0 W
        have g5 := fun W => eqKinds 5 0 4 0 W
        have g6 := fun W => eqKinds 5 0 5 0 W
        go_enter Tryd.func12, Tryd.ntmps12
        go_wp2_with fail
        rw [HW1.out]
        go_wp2_with fail
        refine HC.out.mono ?_
        rintro e w2 ⟨rfl, hb⟩
        obtain ⟨b0, b1, _, _, hb0⟩ := own2 (heap_below hb (heap_lt H0.out) H0.out)
        obtain ⟨d0, d1, df0, df1, hd0⟩ := own2 (heap_below hb (heap_lt H1.out) H1.out)
        obtain ⟨q0, q1, gf0, gf1, hg0⟩ := own2 (heap_below hb (heap_lt H2.out) H2.out)
        have HB2 := Lib.hid (HB0.out.trans (hb.mono HB0.out.size))
        clear hb
        go_wp2_with fail
        clear e1 e2 e3 e4 e5 e6 f1 f2 f3 g1 g2 g3 g4 g5 g6
        refine bodyPost_ret (v := .tuple #[.agg #[.int .i8 0, .slice none 0 0], .agg #[.int .i8 0, .slice none 0 0], .bool true]) (by simp [results, Tryd.results12, go_sem, *]) rfl ⟨none, 0, 0, none, 0, 0, rfl, Ty.zero_is _, Ty.zero_is _, ?_⟩
        exact four_set HB2.out (Nat.le_add_right _ _) (by omega) _ _ _ _
    · have hno : Ty.asOk kd k kids = false := by
        unfold Ty.asOk
        by_cases q1 : 3 ≤ kd ∧ kd ≤ 5
        · have n1 : k ≠ kd := fun e => hA ⟨e, by omega⟩
          have n2 : k ≠ 0 := fun e => hB ⟨e, q1⟩
          simp [n1, n2]
        · simp; omega
      obtain ⟨e1, e2⟩ := Ty.as_no hno
      rw [hno, e1, e2]
      have mk : ∀ (x y : Int), (3 ≤ x ∧ x ≤ 5 ∧ (y = x ∨ y = 0)) → ∀ W, (binOp .eql 41 (.agg #[.int .i8 kd, .int .i8 k]) (.agg #[.int .i8 x, .int .i8 y])).run Tryd.prog W = .ok (.bool false) W := fun x y hxy W => by
        rw [eqKinds]; simp; omega
      have f1 := mk 3 3 (by omega)
      have f2 := mk 4 4 (by omega)
      have f3 := mk 5 5 (by omega)
      have f4 := mk 3 0 (by omega)
      have f5 := mk 4 0 (by omega)
      have f6 := mk 5 0 (by omega)
      clear mk hno e1 e2 hc0 hA hB hok hr hsm
      go_enter Tryd.func12, Tryd.ntmps12
      go_wp2_with fail
      rw [HW1.out]
      go_wp2_with fail
      refine HC.out.mono ?_
      rintro e w2 ⟨rfl, hb⟩
      obtain ⟨b0, b1, _, _, hb0⟩ := own2 (heap_below hb (heap_lt H0.out) H0.out)
      obtain ⟨d0, d1, df0, df1, hd0⟩ := own2 (heap_below hb (heap_lt H1.out) H1.out)
      obtain ⟨q0, q1, gf0, gf1, hg0⟩ := own2 (heap_below hb (heap_lt H2.out) H2.out)
      have HB2 := Lib.hid (HB0.out.trans (hb.mono HB0.out.size))
      clear hb
      go_wp2_with fail
      clear f1 f2 f3 f4 f5 f6
      refine bodyPost_ret (v := .tuple #[.agg #[.int .i8 0, .slice none 0 0], .agg #[.int .i8 0, .slice none 0 0], .bool false]) (by simp [results, Tryd.results12, go_sem, *]) rfl ⟨none, 0, 0, none, 0, 0, rfl, Ty.zero_is _, Ty.zero_is _, ?_⟩
      exact four_set HB2.out (Nat.le_add_right _ _) (by omega) _ _ _ _
end Go.Proofs.YtailgpkgcockhaaDoor
