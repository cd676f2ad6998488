/-
  P9.5: pairs of closed terms. The law's walk.
-/
import Derived.Test.YtknhoagicdfikaaGreatDoorM25
namespace Go.Proofs.YtknhoagicdfikaaGreatDoor
open Go.RowKit
set_option maxHeartbeats 2000000 in
set_option maxRecDepth 100000 in
theorem toogreat_any (h : Hd) (k : Tm) (p : Pl) (h' : Hd) (k' : Tm) (p' : Pl) (a : Ck.T2) (Ga : Option Addr) (ma ca : Nat) (b : Ck.T2) (Gb : Option Addr) (mb cb : Nat) (w : World) (hI : Tm.Is w h k p) (hI' : Tm.Is w h' k' p') (hG : TGlob w) (hA : Ck.Ly (fun b => b < w.heap.size) w a Ga ma ca) (hB : Ck.Ly (fun b => b < w.heap.size) w b Gb mb cb) :
    Calls Tryz.prog 6 #[.agg #[.int .i8 h.kind, .string h.name, .string h.arg, .int .i64 h.num, .int .i8 h.tk, .slice p.TA p.tn p.tc, .int .i8 h.uk, .slice p.UA p.un p.uc, .int .i64 h.label, .int .i64 h.pos, .slice p.A p.n p.c], .agg #[.int .i8 h'.kind, .string h'.name, .string h'.arg, .int .i64 h'.num, .int .i8 h'.tk, .slice p'.TA p'.tn p'.tc, .int .i8 h'.uk, .slice p'.UA p'.un p'.uc, .int .i64 h'.label, .int .i64 h'.pos, .slice p'.A p'.n p'.c], .agg #[.int .i8 a.1, .slice Ga ma ca], .agg #[.int .i8 b.1, .slice Gb mb cb]] w fun e w' => e = .returned (.bool (decide (Tm.chk Ck.hd9 (Ck.two h k h' k') ≠ 0 ∨ Ck.chk (Ck.mk2 4 a b) ≠ 0))) ∧ Below w.heap.size w w' := by
  have hb4 := below_n4 w (.cells #[.int .i8 h.kind, .string h.name, .string h.arg, .int .i64 h.num, .int .i8 h.tk, .slice p.TA p.tn p.tc, .int .i8 h.uk, .slice p.UA p.un p.uc, .int .i64 h.label, .int .i64 h.pos, .slice p.A p.n p.c] 28) (.cells #[.int .i8 h'.kind, .string h'.name, .string h'.arg, .int .i64 h'.num, .int .i8 h'.tk, .slice p'.TA p'.tn p'.tc, .int .i8 h'.uk, .slice p'.UA p'.un p'.uc, .int .i64 h'.label, .int .i64 h'.pos, .slice p'.A p'.n p'.c] 28) (.cells #[.int .i8 a.1, .slice Ga ma ca] 25) (.cells #[.int .i8 b.1, .slice Gb mb cb] 25)
  obtain ⟨x0, x1, x2, x3⟩ := heap_n4 w (.cells #[.int .i8 h.kind, .string h.name, .string h.arg, .int .i64 h.num, .int .i8 h.tk, .slice p.TA p.tn p.tc, .int .i8 h.uk, .slice p.UA p.un p.uc, .int .i64 h.label, .int .i64 h.pos, .slice p.A p.n p.c] 28) (.cells #[.int .i8 h'.kind, .string h'.name, .string h'.arg, .int .i64 h'.num, .int .i8 h'.tk, .slice p'.TA p'.tn p'.tc, .int .i8 h'.uk, .slice p'.UA p'.un p'.uc, .int .i64 h'.label, .int .i64 h'.pos, .slice p'.A p'.n p'.c] 28) (.cells #[.int .i8 a.1, .slice Ga ma ca] 25) (.cells #[.int .i8 b.1, .slice Gb mb cb] 25)
  generalize hw1 : (((w.alloc (.cells #[.int .i8 h.kind, .string h.name, .string h.arg, .int .i64 h.num, .int .i8 h.tk, .slice p.TA p.tn p.tc, .int .i8 h.uk, .slice p.UA p.un p.uc, .int .i64 h.label, .int .i64 h.pos, .slice p.A p.n p.c] 28)).alloc (.cells #[.int .i8 h'.kind, .string h'.name, .string h'.arg, .int .i64 h'.num, .int .i8 h'.tk, .slice p'.TA p'.tn p'.tc, .int .i8 h'.uk, .slice p'.UA p'.un p'.uc, .int .i64 h'.label, .int .i64 h'.pos, .slice p'.A p'.n p'.c] 28)).alloc (.cells #[.int .i8 a.1, .slice Ga ma ca] 25)).alloc (.cells #[.int .i8 b.1, .slice Gb mb cb] 25) = w1 at *
  have HW1 := Lib.hid hw1
  have HB1 := Lib.hid hb4
  have X0 := Lib.hid x0
  have X1 := Lib.hid x1
  have X2 := Lib.hid x2
  have X3 := Lib.hid x3
  have hr := below_n1 w1 (.cells #[.int .i8 h.kind, .string h.name, .string h.arg, .int .i64 h.num, .int .i8 h.tk, .slice p.TA p.tn p.tc, .int .i8 h.uk, .slice p.UA p.un p.uc, .int .i64 h.label, .int .i64 h.pos, .slice p.A p.n p.c, .int .i8 h'.kind, .string h'.name, .string h'.arg, .int .i64 h'.num, .int .i8 h'.tk, .slice p'.TA p'.tn p'.tc, .int .i8 h'.uk, .slice p'.UA p'.un p'.uc, .int .i64 h'.label, .int .i64 h'.pos, .slice p'.A p'.n p'.c] 28)
  have CT : Calls Tryz.prog 14 #[.agg #[.int .i8 9, .string ⟨#[]⟩, .string ⟨#[]⟩, .int .i64 0, .int .i8 0, .slice none 0 0, .int .i8 0, .slice none 0 0, .int .i64 0, .int .i64 0, .slice (some ⟨w1.heap.size, 0, none⟩) 2 2]] (w1.alloc (.cells #[.int .i8 h.kind, .string h.name, .string h.arg, .int .i64 h.num, .int .i8 h.tk, .slice p.TA p.tn p.tc, .int .i8 h.uk, .slice p.UA p.un p.uc, .int .i64 h.label, .int .i64 h.pos, .slice p.A p.n p.c, .int .i8 h'.kind, .string h'.name, .string h'.arg, .int .i64 h'.num, .int .i8 h'.tk, .slice p'.TA p'.tn p'.tc, .int .i8 h'.uk, .slice p'.UA p'.un p'.uc, .int .i64 h'.label, .int .i64 h'.pos, .slice p'.A p'.n p'.c] 28)) fun e w' => e = .returned (.int .i64 (Tm.chk Ck.hd9 (Ck.two h k h' k'))) ∧ Below (w1.alloc (.cells #[.int .i8 h.kind, .string h.name, .string h.arg, .int .i64 h.num, .int .i8 h.tk, .slice p.TA p.tn p.tc, .int .i8 h.uk, .slice p.UA p.un p.uc, .int .i64 h.label, .int .i64 h.pos, .slice p.A p.n p.c, .int .i8 h'.kind, .string h'.name, .string h'.arg, .int .i64 h'.num, .int .i8 h'.tk, .slice p'.TA p'.tn p'.tc, .int .i8 h'.uk, .slice p'.UA p'.un p'.uc, .int .i64 h'.label, .int .i64 h'.pos, .slice p'.A p'.n p'.c] 28)).heap.size (w1.alloc (.cells #[.int .i8 h.kind, .string h.name, .string h.arg, .int .i64 h.num, .int .i8 h.tk, .slice p.TA p.tn p.tc, .int .i8 h.uk, .slice p.UA p.un p.uc, .int .i64 h.label, .int .i64 h.pos, .slice p.A p.n p.c, .int .i8 h'.kind, .string h'.name, .string h'.arg, .int .i64 h'.num, .int .i8 h'.tk, .slice p'.TA p'.tn p'.tc, .int .i8 h'.uk, .slice p'.UA p'.un p'.uc, .int .i64 h'.label, .int .i64 h'.pos, .slice p'.A p'.n p'.c] 28)) w' :=
    tcheck_any Ck.hd9 (Ck.two h k h' k') (⟨none, 0, 0, none, 0, 0, some ⟨w1.heap.size, 0, none⟩, 2, 2⟩ : Pl) _ (Ck.two_is (heap_new w1 _) ((hI.below hb4).below hr) ((hI'.below hb4).below hr)) ((hG.below hb4).below hr)
  have HCT := Lib.hid CT
  have HR := Lib.hid hr
  have HG := Lib.hid (hG.below hb4)
  have HA := Lib.hid (hA.later hb4)
  have HB := Lib.hid (hB.later hb4)
  have HN1 := Lib.hid hb4.size
  clear hw1 hb4 x0 x1 x2 x3 hr CT hI hI' hG hA hB
  generalize Tm.chk Ck.hd9 (Ck.two h k h' k') = C at *
  obtain ⟨D, hD⟩ : ∃ D, Ck.chk (Ck.mk2 4 a b) = D := ⟨_, rfl⟩
  rw [hD]
  have HD := Lib.hid hD
  clear hD
  go_enter Tryz.func6, Tryz.ntmps6
  go_upto_region 1 with fail
  rw [HW1.out]
  obtain ⟨q0, q1, q2, q3, q4, q5, q6, q7, q8, q9, q10, ql⟩ := own11 X0.out
  obtain ⟨y0, y1, y2, y3, y4, y5, y6, y7, y8, y9, y10, yl⟩ := own11 X1.out
  by_cases h0 : C = 0
  · subst h0
    go_wp2_with fail
    refine HCT.out.mono ?_
    rintro e w2 ⟨rfl, hb2⟩
    have HB2 := Lib.hid (HR.out.trans (hb2.mono HR.out.size))
    clear hb2 q0 q1 q2 q3 q4 q5 q6 q7 q8 q9 q10 ql y0 y1 y2 y3 y4 y5 y6 y7 y8 y9 y10 yl
    obtain ⟨u0, u1, -, -, ul⟩ := own2 (heap_below HB2.out (heap_lt X2.out) X2.out)
    obtain ⟨v0, v1, -, -, vl⟩ := own2 (heap_below HB2.out (heap_lt X3.out) X3.out)
    have hr2 := below_n1 w2 (.cells #[.int .i8 a.1, .slice Ga ma ca, .int .i8 b.1, .slice Gb mb cb] 25)
    have CC : Calls Tryz.prog 15 #[.agg #[.int .i8 4, .slice (some ⟨w2.heap.size, 0, none⟩) 2 2]] (w2.alloc (.cells #[.int .i8 a.1, .slice Ga ma ca, .int .i8 b.1, .slice Gb mb cb] 25)) fun e w' => e = .returned (.int .i64 (Ck.chk (Ck.mk2 4 a b))) ∧ Below (w2.alloc (.cells #[.int .i8 a.1, .slice Ga ma ca, .int .i8 b.1, .slice Gb mb cb] 25)).heap.size (w2.alloc (.cells #[.int .i8 a.1, .slice Ga ma ca, .int .i8 b.1, .slice Gb mb cb] 25)) w' :=
      check_any 4 (Ck.mk2 4 a b).2 (some ⟨w2.heap.size, 0, none⟩) 2 2 _ (Ck.Ly.two (Q := fun _ => True) (a := a) (b := b) (heap_new w2 _) trivial (((HA.out.later HB2.out).later hr2).weak fun _ _ _ => trivial) (((HB.out.later HB2.out).later hr2).weak fun _ _ _ => trivial) 4 (by decide)).is ((HG.out.below HB2.out).below hr2).types
    rw [HD.out] at CC
    have HCC := Lib.hid CC
    have HR2 := Lib.hid (HB2.out.trans (hr2.mono HB2.out.size))
    clear CC hr2
    go_wp2_with fail
    refine HCC.out.mono ?_
    rintro e w3 ⟨rfl, hb3⟩
    have HB3 := Lib.hid (HR2.out.trans (hb3.mono HR2.out.size))
    clear hb3 u0 u1 ul v0 v1 vl
    by_cases h1 : D = 0
    · subst h1
      go_wp2_with fail
      go_ret
      exact ⟨by simp, HB1.out.trans (HB3.out.mono HB1.out.size)⟩
    · have hd : (((D : Nat) : Int) != 0) = true := by simp; omega
      go_wp2_with fail
      go_ret
      exact ⟨by simp [h1], HB1.out.trans (HB3.out.mono HB1.out.size)⟩
  · have hc : (((C : Nat) : Int) != 0) = true := by simp; omega
    go_wp2_with fail
    refine HCT.out.mono ?_
    rintro e w2 ⟨rfl, hb2⟩
    have HB2 := Lib.hid (HR.out.trans (hb2.mono HR.out.size))
    clear hb2 q0 q1 q2 q3 q4 q5 q6 q7 q8 q9 q10 ql y0 y1 y2 y3 y4 y5 y6 y7 y8 y9 y10 yl
    go_wp2_with fail
    go_ret
    exact ⟨by simp [h0], HB1.out.trans (HB2.out.mono HB1.out.size)⟩

set_option maxHeartbeats 4000000 in
set_option maxRecDepth 100000 in
theorem law_CheckParts (h : Hd) (k : Tm) (p : Pl) (h' : Hd) (k' : Tm) (p' : Pl) (w : World) (hI : Tm.Is w h k p) (hI' : Tm.Is w h' k' p') (hG : TGlob w) :
    Calls Tryz.prog 3 #[.agg #[.int .i8 h.kind, .string h.name, .string h.arg, .int .i64 h.num, .int .i8 h.tk, .slice p.TA p.tn p.tc, .int .i8 h.uk, .slice p.UA p.un p.uc, .int .i64 h.label, .int .i64 h.pos, .slice p.A p.n p.c], .agg #[.int .i8 h'.kind, .string h'.name, .string h'.arg, .int .i64 h'.num, .int .i8 h'.tk, .slice p'.TA p'.tn p'.tc, .int .i8 h'.uk, .slice p'.UA p'.un p'.uc, .int .i64 h'.label, .int .i64 h'.pos, .slice p'.A p'.n p'.c]] w fun e w' => e = .returned (.bool true) ∧ Below w.heap.size w w' := by
  have hb0 := below_n2 w (.cells #[.int .i8 h.kind, .string h.name, .string h.arg, .int .i64 h.num, .int .i8 h.tk, .slice p.TA p.tn p.tc, .int .i8 h.uk, .slice p.UA p.un p.uc, .int .i64 h.label, .int .i64 h.pos, .slice p.A p.n p.c] 28) (.cells #[.int .i8 h'.kind, .string h'.name, .string h'.arg, .int .i64 h'.num, .int .i8 h'.tk, .slice p'.TA p'.tn p'.tc, .int .i8 h'.uk, .slice p'.UA p'.un p'.uc, .int .i64 h'.label, .int .i64 h'.pos, .slice p'.A p'.n p'.c] 28)
  obtain ⟨x0, x1⟩ := heap_n2 w (.cells #[.int .i8 h.kind, .string h.name, .string h.arg, .int .i64 h.num, .int .i8 h.tk, .slice p.TA p.tn p.tc, .int .i8 h.uk, .slice p.UA p.un p.uc, .int .i64 h.label, .int .i64 h.pos, .slice p.A p.n p.c] 28) (.cells #[.int .i8 h'.kind, .string h'.name, .string h'.arg, .int .i64 h'.num, .int .i8 h'.tk, .slice p'.TA p'.tn p'.tc, .int .i8 h'.uk, .slice p'.UA p'.un p'.uc, .int .i64 h'.label, .int .i64 h'.pos, .slice p'.A p'.n p'.c] 28)
  generalize hw1 : (w.alloc (.cells #[.int .i8 h.kind, .string h.name, .string h.arg, .int .i64 h.num, .int .i8 h.tk, .slice p.TA p.tn p.tc, .int .i8 h.uk, .slice p.UA p.un p.uc, .int .i64 h.label, .int .i64 h.pos, .slice p.A p.n p.c] 28)).alloc (.cells #[.int .i8 h'.kind, .string h'.name, .string h'.arg, .int .i64 h'.num, .int .i8 h'.tk, .slice p'.TA p'.tn p'.tc, .int .i8 h'.uk, .slice p'.UA p'.un p'.uc, .int .i64 h'.label, .int .i64 h'.pos, .slice p'.A p'.n p'.c] 28) = w1 at *
  have HW1 := Lib.hid hw1
  have HB0 := Lib.hid hb0
  have X0 := Lib.hid x0
  have X1 := Lib.hid x1
  have HI := Lib.hid (hI.below hb0)
  have HI' := Lib.hid (hI'.below hb0)
  have HG := Lib.hid (hG.below hb0)
  have hTW := Ck.tell_two h k h' k'
  have CT1 := Lib.hid (fun (W : World) (hb : Below w1.heap.size w1 W) => (ckType_any h k p W (HI.out.below hb) (HG.out.below hb)))
  have CT2 := Lib.hid (fun (W : World) (hb : Below w1.heap.size w1 W) => (ckType_any h' k' p' W (HI'.out.below hb) (HG.out.below hb)))
  have CT3 : Hid (∀ (W : World) (_ : Below w1.heap.size w1 W), Calls Tryz.prog 5 #[.agg #[.int .i8 9, .string ⟨#[]⟩, .string ⟨#[]⟩, .int .i64 0, .int .i8 0, .slice none 0 0, .int .i8 0, .slice none 0 0, .int .i64 0, .int .i64 0, .slice (some ⟨W.heap.size, 0, none⟩) 2 2]] (W.alloc (.cells #[.int .i8 h.kind, .string h.name, .string h.arg, .int .i64 h.num, .int .i8 h.tk, .slice p.TA p.tn p.tc, .int .i8 h.uk, .slice p.UA p.un p.uc, .int .i64 h.label, .int .i64 h.pos, .slice p.A p.n p.c, .int .i8 h'.kind, .string h'.name, .string h'.arg, .int .i64 h'.num, .int .i8 h'.tk, .slice p'.TA p'.tn p'.tc, .int .i8 h'.uk, .slice p'.UA p'.un p'.uc, .int .i64 h'.label, .int .i64 h'.pos, .slice p'.A p'.n p'.c] 28)) (Ck.TyPost (W.alloc (.cells #[.int .i8 h.kind, .string h.name, .string h.arg, .int .i64 h.num, .int .i8 h.tk, .slice p.TA p.tn p.tc, .int .i8 h.uk, .slice p.UA p.un p.uc, .int .i64 h.label, .int .i64 h.pos, .slice p.A p.n p.c, .int .i8 h'.kind, .string h'.name, .string h'.arg, .int .i64 h'.num, .int .i8 h'.tk, .slice p'.TA p'.tn p'.tc, .int .i8 h'.uk, .slice p'.UA p'.un p'.uc, .int .i64 h'.label, .int .i64 h'.pos, .slice p'.A p'.n p'.c] 28)) (Ck.tell Ck.hd9 (Ck.two h k h' k')))) :=
    Lib.hid (fun W hb => ckType_any Ck.hd9 (Ck.two h k h' k') (⟨none, 0, 0, none, 0, 0, some ⟨W.heap.size, 0, none⟩, 2, 2⟩ : Pl) _ (Ck.two_is (heap_new W _) ((HI.out.below hb).below (below_n1 W _)) ((HI'.out.below hb).below (below_n1 W _))) ((HG.out.below hb).below (below_n1 W _)))
  have eF := eNeqF
  have eN := eNeqN
  have eF2 := eEqlF
  have eN2 := eEqlN
  have hcase : (∃ E q x E' q' x', Ck.tell h k = .bad E q x ∧ Ck.tell Ck.hd9 (Ck.two h k h' k') = .bad E' q' x') ∨ (∃ t1 E q x E' q' x', Ck.tell h k = .ok t1 ∧ Ck.tell h' k' = .bad E q x ∧ Ck.tell Ck.hd9 (Ck.two h k h' k') = .bad E' q' x') ∨ (∃ t1 t2 E' q' x', Ck.tell h k = .ok t1 ∧ Ck.tell h' k' = .ok t2 ∧ Ck.tell Ck.hd9 (Ck.two h k h' k') = .bad E' q' x' ∧ decide (Tm.chk Ck.hd9 (Ck.two h k h' k') ≠ 0 ∨ Ck.chk (Ck.mk2 4 t1 t2) ≠ 0) = true) ∨ (∃ t1 t2, Ck.tell h k = .ok t1 ∧ Ck.tell h' k' = .ok t2 ∧ Ck.tell Ck.hd9 (Ck.two h k h' k') = .ok (Ck.mk2 4 t1 t2)) := by
    rcases hTW with ⟨hbad, hwhy⟩ | ⟨a, b, e3, e1, e2⟩
    · cases e3 : Ck.tell Ck.hd9 (Ck.two h k h' k') with
      | ok a => rw [e3] at hbad; exact hbad.elim
      | bad E' q' x' =>
        cases e1 : Ck.tell h k with
        | bad E q x => exact .inl ⟨_, _, _, _, _, _, rfl, rfl⟩
        | ok t1 =>
          cases e2 : Ck.tell h' k' with
          | bad E q x => exact .inr (.inl ⟨_, _, _, _, _, _, _, rfl, rfl, rfl⟩)
          | ok t2 =>
            refine .inr (.inr (.inl ⟨_, _, _, _, _, rfl, rfl, rfl, decide_eq_true ?_⟩))
            rcases hwhy with q | q | q | ⟨a, b, q1, q2, q3⟩
            · rw [e1] at q; exact q.elim
            · rw [e2] at q; exact q.elim
            · exact .inl q
            · rw [e1] at q1; rw [e2] at q2
              injection q1 with q1; injection q2 with q2
              subst q1 q2
              exact .inr q3
    · exact .inr (.inr (.inr ⟨a, b, e1, e2, e3⟩))
  clear hw1 hb0 x0 x1 hI hI' hG hTW
  rcases hcase with ⟨E, q, x, E', q', x', e1, e3⟩ | ⟨t1, E, q, x, E', q', x', e1, e2, e3⟩ | ⟨t1, t2, E', q', x', e1, e2, e3, hdec⟩ | ⟨t1, t2, e1, e2, e3⟩
  · rw [e1] at CT1
    rw [e3] at CT3
    clear e1 e3
    cases e2 : Ck.tell h' k' with
    | bad E q x =>
      rw [e2] at CT2
      clear e2
      go_enter Tryz.func3, Tryz.ntmps3
      go_upto_region 1 with fail
      rw [HW1.out]
      obtain ⟨q0, q1, q2, q3, q4, q5, q6, q7, q8, q9, q10, ql⟩ := own11 X0.out
      go_wp2_with fail
      refine (CT1.out w1 (Below.refl _ _)).mono ?_
      rintro e u1 hp
      obtain ⟨g1, rfl, -, -, hb1⟩ := hp
      have hbb := below_n1 u1 (.cells #[.int .i8 0, .slice none 0 0] 25)
      have HX1 := Lib.hid (heap_new u1 (.cells #[.int .i8 0, .slice none 0 0] 25))
      have HB1 := Lib.hid (hb1.trans (hbb.mono hb1.size))
      clear hb1 hbb q0 q1 q2 q3 q4 q5 q6 q7 q8 q9 q10 ql
      go_upto_region 2 with fail
      generalize hw2 : u1.alloc (.cells #[.int .i8 0, .slice none 0 0] 25) = w2 at *
      clear hw2
      generalize u1.heap.size = S1 at *
      obtain ⟨q0, q1, q2, q3, q4, q5, q6, q7, q8, q9, q10, ql⟩ := own11 (heap_below HB1.out (heap_lt X1.out) X1.out)
      go_wp2_with fail
      refine (CT2.out w2 HB1.out).mono ?_
      rintro e u2 hp
      obtain ⟨g2, rfl, -, -, hb2⟩ := hp
      have hbb := below_n1 u2 (.cells #[.int .i8 0, .slice none 0 0] 25)
      have HX2 := Lib.hid (heap_new u2 (.cells #[.int .i8 0, .slice none 0 0] 25))
      have hb23 := hb2.trans (hbb.mono hb2.size)
      have HX1 := Lib.hid (heap_below hb23 (heap_lt HX1.out) HX1.out)
      have HB2 := Lib.hid (HB1.out.trans (hb23.mono HB1.out.size))
      clear hb2 hbb hb23 HB1 q0 q1 q2 q3 q4 q5 q6 q7 q8 q9 q10 ql
      go_upto_region 3 with fail
      generalize hw3 : u2.alloc (.cells #[.int .i8 0, .slice none 0 0] 25) = w3 at *
      clear hw3
      generalize u2.heap.size = S2 at *
      obtain ⟨q0, q1, q2, q3, q4, q5, q6, q7, q8, q9, q10, ql⟩ := own11 (heap_below HB2.out (heap_lt X0.out) X0.out)
      obtain ⟨y0, y1, y2, y3, y4, y5, y6, y7, y8, y9, y10, yl⟩ := own11 (heap_below HB2.out (heap_lt X1.out) X1.out)
      go_wp2_with fail
      refine (CT3.out w3 HB2.out).mono ?_
      rintro e u3 hp
      obtain ⟨g3, rfl, -, -, hb3⟩ := hp
      have hrow := below_n1 w3 (.cells #[.int .i8 h.kind, .string h.name, .string h.arg, .int .i64 h.num, .int .i8 h.tk, .slice p.TA p.tn p.tc, .int .i8 h.uk, .slice p.UA p.un p.uc, .int .i64 h.label, .int .i64 h.pos, .slice p.A p.n p.c, .int .i8 h'.kind, .string h'.name, .string h'.arg, .int .i64 h'.num, .int .i8 h'.tk, .slice p'.TA p'.tn p'.tc, .int .i8 h'.uk, .slice p'.UA p'.un p'.uc, .int .i64 h'.label, .int .i64 h'.pos, .slice p'.A p'.n p'.c] 28)
      have hbb := below_n1 u3 (.cells #[.int .i8 0, .slice none 0 0] 25)
      have HX3 := Lib.hid (heap_new u3 (.cells #[.int .i8 0, .slice none 0 0] 25))
      have hb34 := hrow.trans ((hb3.trans (hbb.mono hb3.size)).mono hrow.size)
      have HX1 := Lib.hid (heap_below hb34 (heap_lt HX1.out) HX1.out)
      have HX2 := Lib.hid (heap_below hb34 (heap_lt HX2.out) HX2.out)
      have HB3 := Lib.hid (HB2.out.trans (hb34.mono HB2.out.size))
      clear hb3 hbb hb34 hrow HB2 q0 q1 q2 q3 q4 q5 q6 q7 q8 q9 q10 ql y0 y1 y2 y3 y4 y5 y6 y7 y8 y9 y10 yl
      go_upto_region 4 with fail
      generalize hw4 : u3.alloc (.cells #[.int .i8 0, .slice none 0 0] 25) = w4 at *
      clear hw4
      generalize u3.heap.size = S3 at *
      have HBW := Lib.hid (HB0.out.trans (HB3.out.mono HB0.out.size))
      go_wp2_with fail
      go_ret
      exact ⟨rfl, HBW.out⟩
    | ok t2 =>
      rw [e2] at CT2
      clear e2
      go_enter Tryz.func3, Tryz.ntmps3
      go_upto_region 1 with fail
      rw [HW1.out]
      obtain ⟨q0, q1, q2, q3, q4, q5, q6, q7, q8, q9, q10, ql⟩ := own11 X0.out
      go_wp2_with fail
      refine (CT1.out w1 (Below.refl _ _)).mono ?_
      rintro e u1 hp
      obtain ⟨g1, rfl, -, -, hb1⟩ := hp
      have hbb := below_n1 u1 (.cells #[.int .i8 0, .slice none 0 0] 25)
      have HX1 := Lib.hid (heap_new u1 (.cells #[.int .i8 0, .slice none 0 0] 25))
      have HB1 := Lib.hid (hb1.trans (hbb.mono hb1.size))
      clear hb1 hbb q0 q1 q2 q3 q4 q5 q6 q7 q8 q9 q10 ql
      go_upto_region 2 with fail
      generalize hw2 : u1.alloc (.cells #[.int .i8 0, .slice none 0 0] 25) = w2 at *
      clear hw2
      generalize u1.heap.size = S1 at *
      obtain ⟨q0, q1, q2, q3, q4, q5, q6, q7, q8, q9, q10, ql⟩ := own11 (heap_below HB1.out (heap_lt X1.out) X1.out)
      go_wp2_with fail
      refine (CT2.out w2 HB1.out).mono ?_
      rintro e u2 hp
      obtain ⟨G2, m2, c2, rfl, hl2, hb2⟩ := hp
      have HL2 := Lib.hid ((Ck.Ly.weak (Q' := fun _ => True) hl2 fun _ _ _ => trivial).later (below_n1 u2 (.cells #[.int .i8 t2.1, .slice G2 m2 c2] 25)))
      clear hl2
      have hbb := below_n1 u2 (.cells #[.int .i8 t2.1, .slice G2 m2 c2] 25)
      have HX2 := Lib.hid (heap_new u2 (.cells #[.int .i8 t2.1, .slice G2 m2 c2] 25))
      have hb23 := hb2.trans (hbb.mono hb2.size)
      have HX1 := Lib.hid (heap_below hb23 (heap_lt HX1.out) HX1.out)
      have HB2 := Lib.hid (HB1.out.trans (hb23.mono HB1.out.size))
      clear hb2 hbb hb23 HB1 q0 q1 q2 q3 q4 q5 q6 q7 q8 q9 q10 ql
      go_upto_region 3 with fail
      generalize hw3 : u2.alloc (.cells #[.int .i8 t2.1, .slice G2 m2 c2] 25) = w3 at *
      clear hw3
      generalize u2.heap.size = S2 at *
      obtain ⟨q0, q1, q2, q3, q4, q5, q6, q7, q8, q9, q10, ql⟩ := own11 (heap_below HB2.out (heap_lt X0.out) X0.out)
      obtain ⟨y0, y1, y2, y3, y4, y5, y6, y7, y8, y9, y10, yl⟩ := own11 (heap_below HB2.out (heap_lt X1.out) X1.out)
      go_wp2_with fail
      refine (CT3.out w3 HB2.out).mono ?_
      rintro e u3 hp
      obtain ⟨g3, rfl, -, -, hb3⟩ := hp
      have hrow := below_n1 w3 (.cells #[.int .i8 h.kind, .string h.name, .string h.arg, .int .i64 h.num, .int .i8 h.tk, .slice p.TA p.tn p.tc, .int .i8 h.uk, .slice p.UA p.un p.uc, .int .i64 h.label, .int .i64 h.pos, .slice p.A p.n p.c, .int .i8 h'.kind, .string h'.name, .string h'.arg, .int .i64 h'.num, .int .i8 h'.tk, .slice p'.TA p'.tn p'.tc, .int .i8 h'.uk, .slice p'.UA p'.un p'.uc, .int .i64 h'.label, .int .i64 h'.pos, .slice p'.A p'.n p'.c] 28)
      have hbb := below_n1 u3 (.cells #[.int .i8 0, .slice none 0 0] 25)
      have HX3 := Lib.hid (heap_new u3 (.cells #[.int .i8 0, .slice none 0 0] 25))
      have hb34 := hrow.trans ((hb3.trans (hbb.mono hb3.size)).mono hrow.size)
      have HX1 := Lib.hid (heap_below hb34 (heap_lt HX1.out) HX1.out)
      have HX2 := Lib.hid (heap_below hb34 (heap_lt HX2.out) HX2.out)
      have HL2 := Lib.hid (HL2.out.later hb34)
      have HB3 := Lib.hid (HB2.out.trans (hb34.mono HB2.out.size))
      clear hb3 hbb hb34 hrow HB2 q0 q1 q2 q3 q4 q5 q6 q7 q8 q9 q10 ql y0 y1 y2 y3 y4 y5 y6 y7 y8 y9 y10 yl
      go_upto_region 4 with fail
      generalize hw4 : u3.alloc (.cells #[.int .i8 0, .slice none 0 0] 25) = w4 at *
      clear hw4
      generalize u3.heap.size = S3 at *
      have HBW := Lib.hid (HB0.out.trans (HB3.out.mono HB0.out.size))
      go_wp2_with fail
      go_ret
      exact ⟨rfl, HBW.out⟩
  · rw [e1] at CT1
    rw [e2] at CT2
    rw [e3] at CT3
    clear e1 e2 e3
    go_enter Tryz.func3, Tryz.ntmps3
    go_upto_region 1 with fail
    rw [HW1.out]
    obtain ⟨q0, q1, q2, q3, q4, q5, q6, q7, q8, q9, q10, ql⟩ := own11 X0.out
    go_wp2_with fail
    refine (CT1.out w1 (Below.refl _ _)).mono ?_
    rintro e u1 hp
    obtain ⟨G1, m1, c1, rfl, hl1, hb1⟩ := hp
    have HL1 := Lib.hid ((Ck.Ly.weak (Q' := fun _ => True) hl1 fun _ _ _ => trivial).later (below_n1 u1 (.cells #[.int .i8 t1.1, .slice G1 m1 c1] 25)))
    clear hl1
    have hbb := below_n1 u1 (.cells #[.int .i8 t1.1, .slice G1 m1 c1] 25)
    have HX1 := Lib.hid (heap_new u1 (.cells #[.int .i8 t1.1, .slice G1 m1 c1] 25))
    have HB1 := Lib.hid (hb1.trans (hbb.mono hb1.size))
    clear hb1 hbb q0 q1 q2 q3 q4 q5 q6 q7 q8 q9 q10 ql
    go_upto_region 2 with fail
    generalize hw2 : u1.alloc (.cells #[.int .i8 t1.1, .slice G1 m1 c1] 25) = w2 at *
    clear hw2
    generalize u1.heap.size = S1 at *
    obtain ⟨q0, q1, q2, q3, q4, q5, q6, q7, q8, q9, q10, ql⟩ := own11 (heap_below HB1.out (heap_lt X1.out) X1.out)
    go_wp2_with fail
    refine (CT2.out w2 HB1.out).mono ?_
    rintro e u2 hp
    obtain ⟨g2, rfl, -, -, hb2⟩ := hp
    have hbb := below_n1 u2 (.cells #[.int .i8 0, .slice none 0 0] 25)
    have HX2 := Lib.hid (heap_new u2 (.cells #[.int .i8 0, .slice none 0 0] 25))
    have hb23 := hb2.trans (hbb.mono hb2.size)
    have HX1 := Lib.hid (heap_below hb23 (heap_lt HX1.out) HX1.out)
    have HL1 := Lib.hid (HL1.out.later hb23)
    have HB2 := Lib.hid (HB1.out.trans (hb23.mono HB1.out.size))
    clear hb2 hbb hb23 HB1 q0 q1 q2 q3 q4 q5 q6 q7 q8 q9 q10 ql
    go_upto_region 3 with fail
    generalize hw3 : u2.alloc (.cells #[.int .i8 0, .slice none 0 0] 25) = w3 at *
    clear hw3
    generalize u2.heap.size = S2 at *
    obtain ⟨q0, q1, q2, q3, q4, q5, q6, q7, q8, q9, q10, ql⟩ := own11 (heap_below HB2.out (heap_lt X0.out) X0.out)
    obtain ⟨y0, y1, y2, y3, y4, y5, y6, y7, y8, y9, y10, yl⟩ := own11 (heap_below HB2.out (heap_lt X1.out) X1.out)
    go_wp2_with fail
    refine (CT3.out w3 HB2.out).mono ?_
    rintro e u3 hp
    obtain ⟨g3, rfl, -, -, hb3⟩ := hp
    have hrow := below_n1 w3 (.cells #[.int .i8 h.kind, .string h.name, .string h.arg, .int .i64 h.num, .int .i8 h.tk, .slice p.TA p.tn p.tc, .int .i8 h.uk, .slice p.UA p.un p.uc, .int .i64 h.label, .int .i64 h.pos, .slice p.A p.n p.c, .int .i8 h'.kind, .string h'.name, .string h'.arg, .int .i64 h'.num, .int .i8 h'.tk, .slice p'.TA p'.tn p'.tc, .int .i8 h'.uk, .slice p'.UA p'.un p'.uc, .int .i64 h'.label, .int .i64 h'.pos, .slice p'.A p'.n p'.c] 28)
    have hbb := below_n1 u3 (.cells #[.int .i8 0, .slice none 0 0] 25)
    have HX3 := Lib.hid (heap_new u3 (.cells #[.int .i8 0, .slice none 0 0] 25))
    have hb34 := hrow.trans ((hb3.trans (hbb.mono hb3.size)).mono hrow.size)
    have HX1 := Lib.hid (heap_below hb34 (heap_lt HX1.out) HX1.out)
    have HX2 := Lib.hid (heap_below hb34 (heap_lt HX2.out) HX2.out)
    have HL1 := Lib.hid (HL1.out.later hb34)
    have HB3 := Lib.hid (HB2.out.trans (hb34.mono HB2.out.size))
    clear hb3 hbb hb34 hrow HB2 q0 q1 q2 q3 q4 q5 q6 q7 q8 q9 q10 ql y0 y1 y2 y3 y4 y5 y6 y7 y8 y9 y10 yl
    go_upto_region 4 with fail
    generalize hw4 : u3.alloc (.cells #[.int .i8 0, .slice none 0 0] 25) = w4 at *
    clear hw4
    generalize u3.heap.size = S3 at *
    have HBW := Lib.hid (HB0.out.trans (HB3.out.mono HB0.out.size))
    go_wp2_with fail
    go_ret
    exact ⟨rfl, HBW.out⟩
  · rw [e1] at CT1
    rw [e2] at CT2
    rw [e3] at CT3
    have HDEC := Lib.hid hdec
    clear e1 e2 e3 hdec
    go_enter Tryz.func3, Tryz.ntmps3
    go_upto_region 1 with fail
    rw [HW1.out]
    obtain ⟨q0, q1, q2, q3, q4, q5, q6, q7, q8, q9, q10, ql⟩ := own11 X0.out
    go_wp2_with fail
    refine (CT1.out w1 (Below.refl _ _)).mono ?_
    rintro e u1 hp
    obtain ⟨G1, m1, c1, rfl, hl1, hb1⟩ := hp
    have HL1 := Lib.hid ((Ck.Ly.weak (Q' := fun _ => True) hl1 fun _ _ _ => trivial).later (below_n1 u1 (.cells #[.int .i8 t1.1, .slice G1 m1 c1] 25)))
    clear hl1
    have hbb := below_n1 u1 (.cells #[.int .i8 t1.1, .slice G1 m1 c1] 25)
    have HX1 := Lib.hid (heap_new u1 (.cells #[.int .i8 t1.1, .slice G1 m1 c1] 25))
    have HB1 := Lib.hid (hb1.trans (hbb.mono hb1.size))
    clear hb1 hbb q0 q1 q2 q3 q4 q5 q6 q7 q8 q9 q10 ql
    go_upto_region 2 with fail
    generalize hw2 : u1.alloc (.cells #[.int .i8 t1.1, .slice G1 m1 c1] 25) = w2 at *
    clear hw2
    generalize u1.heap.size = S1 at *
    obtain ⟨q0, q1, q2, q3, q4, q5, q6, q7, q8, q9, q10, ql⟩ := own11 (heap_below HB1.out (heap_lt X1.out) X1.out)
    go_wp2_with fail
    refine (CT2.out w2 HB1.out).mono ?_
    rintro e u2 hp
    obtain ⟨G2, m2, c2, rfl, hl2, hb2⟩ := hp
    have HL2 := Lib.hid ((Ck.Ly.weak (Q' := fun _ => True) hl2 fun _ _ _ => trivial).later (below_n1 u2 (.cells #[.int .i8 t2.1, .slice G2 m2 c2] 25)))
    clear hl2
    have hbb := below_n1 u2 (.cells #[.int .i8 t2.1, .slice G2 m2 c2] 25)
    have HX2 := Lib.hid (heap_new u2 (.cells #[.int .i8 t2.1, .slice G2 m2 c2] 25))
    have hb23 := hb2.trans (hbb.mono hb2.size)
    have HX1 := Lib.hid (heap_below hb23 (heap_lt HX1.out) HX1.out)
    have HL1 := Lib.hid (HL1.out.later hb23)
    have HB2 := Lib.hid (HB1.out.trans (hb23.mono HB1.out.size))
    clear hb2 hbb hb23 HB1 q0 q1 q2 q3 q4 q5 q6 q7 q8 q9 q10 ql
    go_upto_region 3 with fail
    generalize hw3 : u2.alloc (.cells #[.int .i8 t2.1, .slice G2 m2 c2] 25) = w3 at *
    clear hw3
    generalize u2.heap.size = S2 at *
    obtain ⟨q0, q1, q2, q3, q4, q5, q6, q7, q8, q9, q10, ql⟩ := own11 (heap_below HB2.out (heap_lt X0.out) X0.out)
    obtain ⟨y0, y1, y2, y3, y4, y5, y6, y7, y8, y9, y10, yl⟩ := own11 (heap_below HB2.out (heap_lt X1.out) X1.out)
    go_wp2_with fail
    refine (CT3.out w3 HB2.out).mono ?_
    rintro e u3 hp
    obtain ⟨g3, rfl, -, -, hb3⟩ := hp
    have hrow := below_n1 w3 (.cells #[.int .i8 h.kind, .string h.name, .string h.arg, .int .i64 h.num, .int .i8 h.tk, .slice p.TA p.tn p.tc, .int .i8 h.uk, .slice p.UA p.un p.uc, .int .i64 h.label, .int .i64 h.pos, .slice p.A p.n p.c, .int .i8 h'.kind, .string h'.name, .string h'.arg, .int .i64 h'.num, .int .i8 h'.tk, .slice p'.TA p'.tn p'.tc, .int .i8 h'.uk, .slice p'.UA p'.un p'.uc, .int .i64 h'.label, .int .i64 h'.pos, .slice p'.A p'.n p'.c] 28)
    have hbb := below_n1 u3 (.cells #[.int .i8 0, .slice none 0 0] 25)
    have HX3 := Lib.hid (heap_new u3 (.cells #[.int .i8 0, .slice none 0 0] 25))
    have hb34 := hrow.trans ((hb3.trans (hbb.mono hb3.size)).mono hrow.size)
    have HX1 := Lib.hid (heap_below hb34 (heap_lt HX1.out) HX1.out)
    have HX2 := Lib.hid (heap_below hb34 (heap_lt HX2.out) HX2.out)
    have HL1 := Lib.hid (HL1.out.later hb34)
    have HL2 := Lib.hid (HL2.out.later hb34)
    have HB3 := Lib.hid (HB2.out.trans (hb34.mono HB2.out.size))
    clear hb3 hbb hb34 hrow HB2 q0 q1 q2 q3 q4 q5 q6 q7 q8 q9 q10 ql y0 y1 y2 y3 y4 y5 y6 y7 y8 y9 y10 yl
    go_upto_region 4 with fail
    generalize hw4 : u3.alloc (.cells #[.int .i8 0, .slice none 0 0] 25) = w4 at *
    clear hw4
    generalize u3.heap.size = S3 at *
    have HBW := Lib.hid (HB0.out.trans (HB3.out.mono HB0.out.size))
    obtain ⟨q0, q1, q2, q3, q4, q5, q6, q7, q8, q9, q10, ql⟩ := own11 (heap_below HB3.out (heap_lt X0.out) X0.out)
    obtain ⟨y0, y1, y2, y3, y4, y5, y6, y7, y8, y9, y10, yl⟩ := own11 (heap_below HB3.out (heap_lt X1.out) X1.out)
    obtain ⟨u0, u1', -, -, ul⟩ := own2 HX1.out
    obtain ⟨z0, z1, -, -, zl⟩ := own2 HX2.out
    have CG := Lib.hid (toogreat_any h k p h' k' p' t1 G1 m1 c1 t2 G2 m2 c2 w4 (HI.out.below HB3.out) (HI'.out.below HB3.out) (HG.out.below HB3.out) (HL1.out.weak fun _ hb _ => hb) (HL2.out.weak fun _ hb _ => hb))
    rw [HDEC.out] at CG
    go_wp2_with fail
    refine CG.out.mono ?_
    rintro e w5 ⟨rfl, hb5⟩
    go_wp2_with fail
    go_ret
    exact ⟨rfl, HBW.out.trans (hb5.mono HBW.out.size)⟩
  · rw [e1] at CT1
    rw [e2] at CT2
    rw [e3] at CT3
    clear e1 e2 e3
    go_enter Tryz.func3, Tryz.ntmps3
    go_upto_region 1 with fail
    rw [HW1.out]
    obtain ⟨q0, q1, q2, q3, q4, q5, q6, q7, q8, q9, q10, ql⟩ := own11 X0.out
    go_wp2_with fail
    refine (CT1.out w1 (Below.refl _ _)).mono ?_
    rintro e u1 hp
    obtain ⟨G1, m1, c1, rfl, hl1, hb1⟩ := hp
    have HL1 := Lib.hid ((Ck.Ly.weak (Q' := fun _ => True) hl1 fun _ _ _ => trivial).later (below_n1 u1 (.cells #[.int .i8 t1.1, .slice G1 m1 c1] 25)))
    clear hl1
    have hbb := below_n1 u1 (.cells #[.int .i8 t1.1, .slice G1 m1 c1] 25)
    have HX1 := Lib.hid (heap_new u1 (.cells #[.int .i8 t1.1, .slice G1 m1 c1] 25))
    have HB1 := Lib.hid (hb1.trans (hbb.mono hb1.size))
    clear hb1 hbb q0 q1 q2 q3 q4 q5 q6 q7 q8 q9 q10 ql
    go_upto_region 2 with fail
    generalize hw2 : u1.alloc (.cells #[.int .i8 t1.1, .slice G1 m1 c1] 25) = w2 at *
    clear hw2
    generalize u1.heap.size = S1 at *
    obtain ⟨q0, q1, q2, q3, q4, q5, q6, q7, q8, q9, q10, ql⟩ := own11 (heap_below HB1.out (heap_lt X1.out) X1.out)
    go_wp2_with fail
    refine (CT2.out w2 HB1.out).mono ?_
    rintro e u2 hp
    obtain ⟨G2, m2, c2, rfl, hl2, hb2⟩ := hp
    have HL2 := Lib.hid ((Ck.Ly.weak (Q' := fun _ => True) hl2 fun _ _ _ => trivial).later (below_n1 u2 (.cells #[.int .i8 t2.1, .slice G2 m2 c2] 25)))
    clear hl2
    have hbb := below_n1 u2 (.cells #[.int .i8 t2.1, .slice G2 m2 c2] 25)
    have HX2 := Lib.hid (heap_new u2 (.cells #[.int .i8 t2.1, .slice G2 m2 c2] 25))
    have hb23 := hb2.trans (hbb.mono hb2.size)
    have HX1 := Lib.hid (heap_below hb23 (heap_lt HX1.out) HX1.out)
    have HL1 := Lib.hid (HL1.out.later hb23)
    have HB2 := Lib.hid (HB1.out.trans (hb23.mono HB1.out.size))
    clear hb2 hbb hb23 HB1 q0 q1 q2 q3 q4 q5 q6 q7 q8 q9 q10 ql
    go_upto_region 3 with fail
    generalize hw3 : u2.alloc (.cells #[.int .i8 t2.1, .slice G2 m2 c2] 25) = w3 at *
    clear hw3
    generalize u2.heap.size = S2 at *
    obtain ⟨q0, q1, q2, q3, q4, q5, q6, q7, q8, q9, q10, ql⟩ := own11 (heap_below HB2.out (heap_lt X0.out) X0.out)
    obtain ⟨y0, y1, y2, y3, y4, y5, y6, y7, y8, y9, y10, yl⟩ := own11 (heap_below HB2.out (heap_lt X1.out) X1.out)
    go_wp2_with fail
    refine (CT3.out w3 HB2.out).mono ?_
    rintro e u3 hp
    obtain ⟨G3, m3, c3, rfl, hl3, hb3⟩ := hp
    have HL3 := Lib.hid ((Ck.Ly.weak (Q' := fun _ => True) hl3 fun _ _ _ => trivial).later (below_n1 u3 (.cells #[.int .i8 (Ck.mk2 4 t1 t2).1, .slice G3 m3 c3] 25)))
    clear hl3
    have hrow := below_n1 w3 (.cells #[.int .i8 h.kind, .string h.name, .string h.arg, .int .i64 h.num, .int .i8 h.tk, .slice p.TA p.tn p.tc, .int .i8 h.uk, .slice p.UA p.un p.uc, .int .i64 h.label, .int .i64 h.pos, .slice p.A p.n p.c, .int .i8 h'.kind, .string h'.name, .string h'.arg, .int .i64 h'.num, .int .i8 h'.tk, .slice p'.TA p'.tn p'.tc, .int .i8 h'.uk, .slice p'.UA p'.un p'.uc, .int .i64 h'.label, .int .i64 h'.pos, .slice p'.A p'.n p'.c] 28)
    have hbb := below_n1 u3 (.cells #[.int .i8 (Ck.mk2 4 t1 t2).1, .slice G3 m3 c3] 25)
    have HX3 := Lib.hid (heap_new u3 (.cells #[.int .i8 (Ck.mk2 4 t1 t2).1, .slice G3 m3 c3] 25))
    have hb34 := hrow.trans ((hb3.trans (hbb.mono hb3.size)).mono hrow.size)
    have HX1 := Lib.hid (heap_below hb34 (heap_lt HX1.out) HX1.out)
    have HX2 := Lib.hid (heap_below hb34 (heap_lt HX2.out) HX2.out)
    have HL1 := Lib.hid (HL1.out.later hb34)
    have HL2 := Lib.hid (HL2.out.later hb34)
    have HB3 := Lib.hid (HB2.out.trans (hb34.mono HB2.out.size))
    clear hb3 hbb hb34 hrow HB2 q0 q1 q2 q3 q4 q5 q6 q7 q8 q9 q10 ql y0 y1 y2 y3 y4 y5 y6 y7 y8 y9 y10 yl
    go_upto_region 4 with fail
    generalize hw4 : u3.alloc (.cells #[.int .i8 (Ck.mk2 4 t1 t2).1, .slice G3 m3 c3] 25) = w4 at *
    clear hw4
    generalize u3.heap.size = S3 at *
    have HBW := Lib.hid (HB0.out.trans (HB3.out.mono HB0.out.size))
    have h3 : Ck.Ly (fun _ => True) w4 (Ck.mk2 4 t1 t2) G3 m3 c3 := HL3.out
    have h3i := h3.is
    have hm3 : m3 = 2 := h3i.n_eq
    obtain ⟨gb, go, B1, cb1, hA1, ⟨hk1, hk2⟩, g0, g1, n1, n2, l1, lr⟩ := h3i.lies
    obtain ⟨gb', go', B2, cb2, hA2, ⟨hk3, hk4⟩, g2, g3, n3, n4, l2, -⟩ := lr
    subst hA1
    injection hA2 with hA2
    injection hA2 with ea eb
    subst ea eb hm3
    have HK1 := Lib.hid (fun (W : World) (hb : Below w4.heap.size w4 W) => kind9_any (Ty.nodes t1.2 + 1) t1.1 t1.2 B1 (Ty.len t1.2) cb1 t1.1 t1.2 G1 m1 c1 W (Nat.lt_succ_self _) (Ty.Is.below ⟨l1, rfl, n1, n2, hk1, hk2⟩ hb) (Ck.Ly.is (HL1.out.later hb)))
    have HK2 := Lib.hid (fun (W : World) (hb : Below w4.heap.size w4 W) => kind9_any (Ty.nodes t2.2 + 1) t2.1 t2.2 B2 (Ty.len t2.2) cb2 t2.1 t2.2 G2 m2 c2 W (Nat.lt_succ_self _) (Ty.Is.below ⟨l2, rfl, n3, n4, hk3, hk4⟩ hb) (Ck.Ly.is (HL2.out.later hb)))
    have ra : Ty.eqT t1.1 t1.2 t1.1 t1.2 = true := by unfold Ty.eqT; simp [Ty.eqF_refl]
    have rb : Ty.eqT t2.1 t2.2 t2.1 t2.2 = true := by unfold Ty.eqT; simp [Ty.eqF_refl]
    rw [ra] at HK1
    rw [rb] at HK2
    obtain ⟨u0, u1', -, -, ul⟩ := own2 HX1.out
    obtain ⟨z0, z1, -, -, zl⟩ := own2 HX2.out
    obtain ⟨s0, s1, -, -, sl⟩ := own2 HX3.out
    clear h3 h3i l1 l2 ra rb hk1 hk2 hk3 hk4
    simp only [Nat.zero_mul, Nat.add_zero, Nat.zero_add, Nat.one_mul] at g0 g1 g2 g3
    go_upto_region 6 with fail
    have U0 := later_cell u0
    have U1 := later_cell u1'
    have Z0 := later_cell z0
    have Z1 := later_cell z1
    have S0' := later_cell s0
    have S1' := later_cell s1
    have Q0 := later_cell g0
    have Q1 := later_cell g1
    have Q2 := later_cell g2
    have Q3 := later_cell g3
    clear u0 u1' ul z0 z1 zl s0 s1 sl g0 g1 g2 g3
    refine wp_region_low (by kernel_rfl) (by kernel_rfl) ?_
    repeat
      first
        | go_big_quiet_skip
        | (go_big_quiet_want
           go_big_quiet_op
           first
             | go_big_quiet_on
             | (refine ⟨_, fun _ => rfl, ?_⟩
                go_big_quiet_on)
             | (apply Exists.intro
                refine ⟨fun h => ?_, ?_⟩
                · first
                    | (go_at_call 7; with_reducible exact call_low h (HK1.out h.u h.low))
                    | (go_at_call 7; with_reducible exact call_low h (HK2.out h.u h.low))
                go_big_quiet_on))
    refine wpQuiet_nil ?_
    rintro w9 ⟨⟨_, E9⟩, rfl⟩
    go_wp2_with fail
    go_ret
    exact ⟨rfl, HBW.out.trans (E9.mono HBW.out.size)⟩
end Go.Proofs.YtknhoagicdfikaaGreatDoor
