/-
  terms.alike.
-/
import Derived.Test.YtfkbdpehdabepaaGreatDoorTmEqual
namespace Go.Proofs.YtfkbdpehdabepaaGreatDoor
open Go.RowKit

theorem heap_set11 {w : World} {g : Nat} {u0 u1 u2 u3 u4 u5 u6 u7 u8 u9 u10 v0 v1 v2 v3 v4 v5 v6 v7 v8 v9 v10 : Value} {t : TypeId} (h : w.heap[g]? = some (.cells #[u0, u1, u2, u3, u4, u5, u6, u7, u8, u9, u10] t (0, 0))) :
    (((((((((((w.setCell ⟨g, 0, none⟩ v0).setCell ⟨g, 1, none⟩ v1).setCell ⟨g, 2, none⟩ v2).setCell ⟨g, 3, none⟩ v3).setCell ⟨g, 4, none⟩ v4).setCell ⟨g, 5, none⟩ v5).setCell ⟨g, 6, none⟩ v6).setCell ⟨g, 7, none⟩ v7).setCell ⟨g, 8, none⟩ v8).setCell ⟨g, 9, none⟩ v9).setCell ⟨g, 10, none⟩ v10).heap[g]? = some (.cells #[v0, v1, v2, v3, v4, v5, v6, v7, v8, v9, v10] t (0, 0)) := by
  simp [World.setCell, Array.getElem?_modify, h]
theorem heap_far11 {w : World} {g k : Nat} {x : Obj} (h : w.heap[k]? = some x) (hk : k ≠ g) (v0 v1 v2 v3 v4 v5 v6 v7 v8 v9 v10 : Value) : (((((((((((w.setCell ⟨g, 0, none⟩ v0).setCell ⟨g, 1, none⟩ v1).setCell ⟨g, 2, none⟩ v2).setCell ⟨g, 3, none⟩ v3).setCell ⟨g, 4, none⟩ v4).setCell ⟨g, 5, none⟩ v5).setCell ⟨g, 6, none⟩ v6).setCell ⟨g, 7, none⟩ v7).setCell ⟨g, 8, none⟩ v8).setCell ⟨g, 9, none⟩ v9).setCell ⟨g, 10, none⟩ v10).heap[k]? = some x := by
  rw [Below.heap_setCell _ _ _ k hk, Below.heap_setCell _ _ _ k hk, Below.heap_setCell _ _ _ k hk, Below.heap_setCell _ _ _ k hk, Below.heap_setCell _ _ _ k hk, Below.heap_setCell _ _ _ k hk, Below.heap_setCell _ _ _ k hk, Below.heap_setCell _ _ _ k hk, Below.heap_setCell _ _ _ k hk, Below.heap_setCell _ _ _ k hk, Below.heap_setCell _ _ _ k hk]; exact h
theorem below_only11 {B g : Nat} {a w : World} (hb : Below B a w) (h : B ≤ g) (v0 v1 v2 v3 v4 v5 v6 v7 v8 v9 v10 : Value) : Below B a (((((((((((w.setCell ⟨g, 0, none⟩ v0).setCell ⟨g, 1, none⟩ v1).setCell ⟨g, 2, none⟩ v2).setCell ⟨g, 3, none⟩ v3).setCell ⟨g, 4, none⟩ v4).setCell ⟨g, 5, none⟩ v5).setCell ⟨g, 6, none⟩ v6).setCell ⟨g, 7, none⟩ v7).setCell ⟨g, 8, none⟩ v8).setCell ⟨g, 9, none⟩ v9).setCell ⟨g, 10, none⟩ v10) :=
  ((((((((((hb.setCell (p := ⟨g, 0, none⟩) h _).setCell (p := ⟨g, 1, none⟩) h _).setCell (p := ⟨g, 2, none⟩) h _).setCell (p := ⟨g, 3, none⟩) h _).setCell (p := ⟨g, 4, none⟩) h _).setCell (p := ⟨g, 5, none⟩) h _).setCell (p := ⟨g, 6, none⟩) h _).setCell (p := ⟨g, 7, none⟩) h _).setCell (p := ⟨g, 8, none⟩) h _).setCell (p := ⟨g, 9, none⟩) h _).setCell (p := ⟨g, 10, none⟩) h _

/-- both boxes hold what counts -/
structure Counted2 (w wx : World) (X Y : Nat) (a : Hd) (q : Pl) (b : Hd) (r : Pl) : Prop where
  x : wx.heap[X]? = some (.cells #[.int .i8 a.kind, .string a.name, .string a.arg, .int .i64 a.num, .int .i8 a.tk, .slice q.TA q.tn q.tc, .int .i8 a.uk, .slice q.UA q.un q.uc, .int .i64 a.label, .int .i64 a.pos, .slice q.A q.n q.c] 28 (0, 0))
  y : wx.heap[Y]? = some (.cells #[.int .i8 b.kind, .string b.name, .string b.arg, .int .i64 b.num, .int .i8 b.tk, .slice r.TA r.tn r.tc, .int .i8 b.uk, .slice r.UA r.un r.uc, .int .i64 b.label, .int .i64 b.pos, .slice r.A r.n r.c] 28 (0, 0))
  below : Below w.heap.size w wx

attribute [local go_sem ↓] Go.wp_at_zero Go.wp_at_succ
set_option maxHeartbeats 8000000 in
set_option maxRecDepth 100000 in
theorem talike_any (K : Nat) : ∀ (h : Hd) (kids : Tm) (p : Pl) (h' : Hd) (kids' : Tm) (p' : Pl) (w : World), Tm.nodes kids < K → Tm.Is w h kids p → Tm.Is w h' kids' p' → TGlob w →
    Calls Tryz.prog 43 #[.agg #[.int .i8 h.kind, .string h.name, .string h.arg, .int .i64 h.num, .int .i8 h.tk, .slice p.TA p.tn p.tc, .int .i8 h.uk, .slice p.UA p.un p.uc, .int .i64 h.label, .int .i64 h.pos, .slice p.A p.n p.c], .agg #[.int .i8 h'.kind, .string h'.name, .string h'.arg, .int .i64 h'.num, .int .i8 h'.tk, .slice p'.TA p'.tn p'.tc, .int .i8 h'.uk, .slice p'.UA p'.un p'.uc, .int .i64 h'.label, .int .i64 h'.pos, .slice p'.A p'.n p'.c]] w fun e w' => e = .returned (.bool (Tm.alT h kids h' kids')) ∧ Below w.heap.size w w' := by
  induction K with
  | zero => intro _ _ _ _ _ _ _ hK; omega
  | succ K ih =>
    intro h kids p h' kids' p' w hK hIs hIs' hG
    have hB0 : Below w.heap.size w ((w.alloc (.cells #[.int .i8 h.kind, .string h.name, .string h.arg, .int .i64 h.num, .int .i8 h.tk, .slice p.TA p.tn p.tc, .int .i8 h.uk, .slice p.UA p.un p.uc, .int .i64 h.label, .int .i64 h.pos, .slice p.A p.n p.c] 28)).alloc (.cells #[.int .i8 h'.kind, .string h'.name, .string h'.arg, .int .i64 h'.num, .int .i8 h'.tk, .slice p'.TA p'.tn p'.tc, .int .i8 h'.uk, .slice p'.UA p'.un p'.uc, .int .i64 h'.label, .int .i64 h'.pos, .slice p'.A p'.n p'.c] 28)) := ((Below.refl _ _).alloc (Nat.le_refl _) _).alloc (by simp) _
    obtain ⟨r0, r1, r2⟩ := two_new w (.cells #[.int .i8 h.kind, .string h.name, .string h.arg, .int .i64 h.num, .int .i8 h.tk, .slice p.TA p.tn p.tc, .int .i8 h.uk, .slice p.UA p.un p.uc, .int .i64 h.label, .int .i64 h.pos, .slice p.A p.n p.c] 28) (.cells #[.int .i8 h'.kind, .string h'.name, .string h'.arg, .int .i64 h'.num, .int .i8 h'.tk, .slice p'.TA p'.tn p'.tc, .int .i8 h'.uk, .slice p'.UA p'.un p'.uc, .int .i64 h'.label, .int .i64 h'.pos, .slice p'.A p'.n p'.c] 28)
    have hI1 := hIs.below hB0
    have hI2 := hIs'.below hB0
    have hG1 := hG.below hB0
    have IH := Lib.hid ih
    have HI := Lib.hid (fun (W : World) (hb : Below w.heap.size w W) => (hIs.below hb).cnt)
    have HI' := Lib.hid (fun (W : World) (hb : Below w.heap.size w W) => (hIs'.below hb).cnt)
    have HG := Lib.hid (fun (W : World) (hb : Below w.heap.size w W) => hG.below hb)
    clear ih hIs hIs' hG
    obtain ⟨b0, hk0⟩ : ∃ b, ((Tm.cnt h).kind == (Tm.cnt h').kind) = b := ⟨_, rfl⟩
    obtain ⟨b1, hk1⟩ : ∃ b, ((Tm.cnt h).name.toList == (Tm.cnt h').name.toList) = b := ⟨_, rfl⟩
    obtain ⟨b2, hk2⟩ : ∃ b, ((Tm.cnt h).arg.toList == (Tm.cnt h').arg.toList) = b := ⟨_, rfl⟩
    obtain ⟨b3, hk3⟩ : ∃ b, ((Tm.cnt h).num == (Tm.cnt h').num) = b := ⟨_, rfl⟩
    obtain ⟨b4, hk4⟩ : ∃ b, ((Tm.cnt h).label == (Tm.cnt h').label) = b := ⟨_, rfl⟩
    obtain ⟨b5, hk5⟩ : ∃ b, Ty.sameT (Tm.cnt h).tk (Tm.cnt h).tkids (Tm.cnt h').tk (Tm.cnt h').tkids = b := ⟨_, rfl⟩
    obtain ⟨b6, hk6⟩ : ∃ b, Ty.sameT (Tm.cnt h).uk (Tm.cnt h).ukids (Tm.cnt h').uk (Tm.cnt h').ukids = b := ⟨_, rfl⟩
    obtain ⟨b7, hk7⟩ : ∃ b, Tm.alF kids kids' = b := ⟨_, rfl⟩
    have hR : Tm.alT h kids h' kids' = ((b0 && (b1 && (b2 && (b3 && (b4 && (b5 && b6)))))) && b7) := by
      rw [← hk0, ← hk1, ← hk2, ← hk3, ← hk4, ← hk5, ← hk6, ← hk7]; rfl
    rw [hR]
    have HK := Lib.hid (And.intro hk0 (And.intro hk1 (And.intro hk2 (And.intro hk3 (And.intro hk4 (And.intro hk5 (And.intro hk6 hk7)))))))
    clear hR hk0 hk1 hk2 hk3 hk4 hk5 hk6 hk7
    go_enter Tryz.func43, Tryz.ntmps43
    go_upto_region 2 with fail
    generalize hw1 : (w.alloc (.cells #[.int .i8 h.kind, .string h.name, .string h.arg, .int .i64 h.num, .int .i8 h.tk, .slice p.TA p.tn p.tc, .int .i8 h.uk, .slice p.UA p.un p.uc, .int .i64 h.label, .int .i64 h.pos, .slice p.A p.n p.c] 28)).alloc (.cells #[.int .i8 h'.kind, .string h'.name, .string h'.arg, .int .i64 h'.num, .int .i8 h'.tk, .slice p'.TA p'.tn p'.tc, .int .i8 h'.uk, .slice p'.UA p'.un p'.uc, .int .i64 h'.label, .int .i64 h'.pos, .slice p'.A p'.n p'.c] 28) = w1 at *
    have HB0 := Lib.hid hB0
    have hD0 : Below w1.heap.size w1 w1.drew := (Below.refl _ _).drew
    have CA := Lib.hid (fun (W : World) (hb : Below w1.heap.size w1 W) => counting_any h _ p W (hI1.below hb).fit (hG1.terms.below hb))
    have CB := Lib.hid (fun (W : World) (hb : Below w1.heap.size w1 W) => counting_any h' _ p' W (hI2.below hb).fit (hG1.terms.below hb))
    have HI1 := Lib.hid hI1
    have HI2 := Lib.hid hI2
    have HG1 := Lib.hid hG1
    have R0 := Lib.hid r0
    have R1 := Lib.hid r1
    have HSZ := Lib.hid r2
    clear hI1 hI2 hG1 hB0 hw1
    have x0 : w.heap.size < w1.heap.size := by omega
    have x1 : w.heap.size + 1 < w1.heap.size := by omega
    clear r0 r1 r2
    go_cut [5] (fun _ wx => Counted2 w wx w.heap.size (w.heap.size + 1) (Tm.cnt h) (Tm.cntP h p) (Tm.cnt h') (Tm.cntP h' p'))
    case first =>
      have Q0 := R0.out
      have Q1 := R1.out
      obtain ⟨q0, q1, q2, q3, q4, q5, q6, q7, q8, q9, q10, ql⟩ := own11 R0.out
      obtain ⟨y0, y1, y2, y3, y4, y5, y6, y7, y8, y9, y10, yl⟩ := own11 R1.out
      clear Q0 Q1
      go_region_law (first
        | (go_simp; go_at_call 72; (with_reducible refine (CA.out _ hD0).mono ?_); rintro e u1 ⟨rfl, hb⟩; have D1 := hD0.trans (hb.mono hD0.size); have z1 := Nat.lt_of_lt_of_le x1 D1.size; have P0 := Lib.hid (heap_below D1 x0 R0.out); have P1 := Lib.hid (heap_below D1 x1 R1.out); clear hb; obtain ⟨a0, a1, a2, a3, a4, a5, a6, a7, a8, a9, a10, al⟩ := own11 P1.out; go_wp2_with fail)
        | (go_simp; go_at_call 72; (with_reducible refine (CB.out _ D1).mono ?_); rintro e u2 ⟨rfl, hb⟩; have D2 := D1.trans (hb.mono D1.size); have z2 := Nat.lt_of_lt_of_le x1 D2.size; have S0 := Lib.hid (heap_below D2 x0 R0.out); have S1 := Lib.hid (heap_below D2 x1 R1.out); clear hb; obtain ⟨b0, b1, b2, b3, b4, b5, b6, b7, b8, b9, b10, bl⟩ := own11 S0.out; obtain ⟨c0, c1, c2, c3, c4, c5, c6, c7, c8, c9, c10, cl⟩ := own11 S1.out; have f0 := free11 S0.out 0; have f1 := free11 S0.out 1; have f2 := free11 S0.out 2; have f3 := free11 S0.out 3; have f4 := free11 S0.out 4; have f5 := free11 S0.out 5; have f6 := free11 S0.out 6; have f7 := free11 S0.out 7; have f8 := free11 S0.out 8; have f9 := free11 S0.out 9; have f10 := free11 S0.out 10; have g0 := free11 S1.out 0; have g1 := free11 S1.out 1; have g2 := free11 S1.out 2; have g3 := free11 S1.out 3; have g4 := free11 S1.out 4; have g5 := free11 S1.out 5; have g6 := free11 S1.out 6; have g7 := free11 S1.out 7; have g8 := free11 S1.out 8; have g9 := free11 S1.out 9; have g10 := free11 S1.out 10; go_wp2_with fail))
      all_goals
        go_wp2_with fail
        go_meet
        refine ⟨heap_far11 (heap_set11 S0.out) (by omega) _ _ _ _ _ _ _ _ _ _ _, heap_set11 (heap_far11 S1.out (by omega) _ _ _ _ _ _ _ _ _ _ _), ?_⟩
        exact below_only11 (below_only11 (HB0.out.trans (D2.mono HB0.out.size)) (Nat.le_refl _) _ _ _ _ _ _ _ _ _ _ _) (by omega) _ _ _ _ _ _ _ _ _ _ _
    case rest =>
      obtain ⟨hx, hy, hbc⟩ := hcut
      have HA := Lib.hid (HI.out _ hbc)
      have HA' := Lib.hid (HI'.out _ hbc)
      have HGc := Lib.hid (HG.out _ hbc)
      have HX := Lib.hid hx
      have HY := Lib.hid hy
      have HBC := Lib.hid hbc
      obtain ⟨hk0, hk1, hk2, hk3, hk4, hk5, hk6, hk7⟩ := HK.out
      clear hx hy hbc HK HI1 HI2 HG1 R0 R1 HSZ CA CB hD0 x0 x1 HI HI' HG HB0
      generalize Tm.cnt h = a at *
      generalize Tm.cnt h' = a' at *
      generalize Tm.cntP h p = q at *
      generalize Tm.cntP h' p' = q' at *
      have C1 := Lib.hid (fun (W : World) (hb : Below wc.heap.size wc W) => same_any a.tk a.tkids q.TA q.tn q.tc a'.tk a'.tkids q'.TA q'.tn q'.tc W (HA.out.below hb).fit.ty (HA'.out.below hb).fit.ty (HGc.out.types.below hb))
      have C2 := Lib.hid (fun (W : World) (hb : Below wc.heap.size wc W) => same_any a.uk a.ukids q.UA q.un q.uc a'.uk a'.ukids q'.UA q'.un q'.uc W (HA.out.below hb).fit.to (HA'.out.below hb).fit.to (HGc.out.types.below hb))
      have C3 := Lib.hid (fun (W : World) (hb : Below wc.heap.size wc W) => tm_equal_any 43 kids kids' q.A q'.A q.n q.c q'.n q'.c W (HA.out.below hb).lies HA.out.fit.n_eq HA.out.fit.n_le HA.out.fit.c_le (HA'.out.below hb).lies HA'.out.fit.n_eq HA'.out.fit.n_le HA'.out.fit.c_le
        (fun args W => by simp [go_sem]) (fun h1 kd p1 h2 kd' p2 W' h3 h4 h5 h6 => IH.out h1 kd p1 h2 kd' p2 W' (by omega) h4 h5 ((HGc.out.below hb).below h6)))
      rw [hk5] at C1
      rw [hk6] at C2
      rw [hk7] at C3
      clear IH HA HA' HGc hk5 hk6 hk7
      have D0 : Below wc.heap.size wc wc := Below.refl _ _
      cases b0
      · obtain ⟨q0, q1, q2, q3, q4, q5, q6, q7, q8, q9, q10, ql⟩ := own11 HX.out
        obtain ⟨y0, y1, y2, y3, y4, y5, y6, y7, y8, y9, y10, yl⟩ := own11 HY.out
        go_wp2_with fail
        go_ret
        exact ⟨rfl, HBC.out.trans (D0.mono HBC.out.size)⟩
      cases b1
      · obtain ⟨q0, q1, q2, q3, q4, q5, q6, q7, q8, q9, q10, ql⟩ := own11 HX.out
        obtain ⟨y0, y1, y2, y3, y4, y5, y6, y7, y8, y9, y10, yl⟩ := own11 HY.out
        go_wp2_with fail
        go_ret
        exact ⟨rfl, HBC.out.trans (D0.mono HBC.out.size)⟩
      cases b2
      · obtain ⟨q0, q1, q2, q3, q4, q5, q6, q7, q8, q9, q10, ql⟩ := own11 HX.out
        obtain ⟨y0, y1, y2, y3, y4, y5, y6, y7, y8, y9, y10, yl⟩ := own11 HY.out
        go_wp2_with fail
        go_ret
        exact ⟨rfl, HBC.out.trans (D0.mono HBC.out.size)⟩
      cases b3
      · obtain ⟨q0, q1, q2, q3, q4, q5, q6, q7, q8, q9, q10, ql⟩ := own11 HX.out
        obtain ⟨y0, y1, y2, y3, y4, y5, y6, y7, y8, y9, y10, yl⟩ := own11 HY.out
        go_wp2_with fail
        go_ret
        exact ⟨rfl, HBC.out.trans (D0.mono HBC.out.size)⟩
      cases b4
      · obtain ⟨q0, q1, q2, q3, q4, q5, q6, q7, q8, q9, q10, ql⟩ := own11 HX.out
        obtain ⟨y0, y1, y2, y3, y4, y5, y6, y7, y8, y9, y10, yl⟩ := own11 HY.out
        go_wp2_with fail
        go_ret
        exact ⟨rfl, HBC.out.trans (D0.mono HBC.out.size)⟩
      cases b5
      · obtain ⟨q0, q1, q2, q3, q4, q5, q6, q7, q8, q9, q10, ql⟩ := own11 HX.out
        obtain ⟨y0, y1, y2, y3, y4, y5, y6, y7, y8, y9, y10, yl⟩ := own11 HY.out
        go_wp2_with fail
        refine (C1.out _ D0).mono ?_
        rintro e u1 ⟨rfl, hb⟩
        have D1 := D0.trans (hb.mono D0.size)
        clear hb q0 q1 q2 q3 q4 q5 q6 q7 q8 q9 q10 ql y0 y1 y2 y3 y4 y5 y6 y7 y8 y9 y10 yl
        obtain ⟨q0, q1, q2, q3, q4, q5, q6, q7, q8, q9, q10, ql⟩ := own11 (heap_below D1 (heap_lt HX.out) HX.out)
        obtain ⟨y0, y1, y2, y3, y4, y5, y6, y7, y8, y9, y10, yl⟩ := own11 (heap_below D1 (heap_lt HY.out) HY.out)
        go_wp2_with fail
        go_ret
        exact ⟨rfl, HBC.out.trans (D1.mono HBC.out.size)⟩
      cases b6
      · obtain ⟨q0, q1, q2, q3, q4, q5, q6, q7, q8, q9, q10, ql⟩ := own11 HX.out
        obtain ⟨y0, y1, y2, y3, y4, y5, y6, y7, y8, y9, y10, yl⟩ := own11 HY.out
        go_wp2_with fail
        refine (C1.out _ D0).mono ?_
        rintro e u1 ⟨rfl, hb⟩
        have D1 := D0.trans (hb.mono D0.size)
        clear hb q0 q1 q2 q3 q4 q5 q6 q7 q8 q9 q10 ql y0 y1 y2 y3 y4 y5 y6 y7 y8 y9 y10 yl
        obtain ⟨q0, q1, q2, q3, q4, q5, q6, q7, q8, q9, q10, ql⟩ := own11 (heap_below D1 (heap_lt HX.out) HX.out)
        obtain ⟨y0, y1, y2, y3, y4, y5, y6, y7, y8, y9, y10, yl⟩ := own11 (heap_below D1 (heap_lt HY.out) HY.out)
        go_wp2_with fail
        refine (C2.out _ D1).mono ?_
        rintro e u2 ⟨rfl, hb⟩
        have D2 := D1.trans (hb.mono D1.size)
        clear hb q0 q1 q2 q3 q4 q5 q6 q7 q8 q9 q10 ql y0 y1 y2 y3 y4 y5 y6 y7 y8 y9 y10 yl
        obtain ⟨q0, q1, q2, q3, q4, q5, q6, q7, q8, q9, q10, ql⟩ := own11 (heap_below D2 (heap_lt HX.out) HX.out)
        obtain ⟨y0, y1, y2, y3, y4, y5, y6, y7, y8, y9, y10, yl⟩ := own11 (heap_below D2 (heap_lt HY.out) HY.out)
        go_wp2_with fail
        go_ret
        exact ⟨rfl, HBC.out.trans (D2.mono HBC.out.size)⟩
      obtain ⟨q0, q1, q2, q3, q4, q5, q6, q7, q8, q9, q10, ql⟩ := own11 HX.out
      obtain ⟨y0, y1, y2, y3, y4, y5, y6, y7, y8, y9, y10, yl⟩ := own11 HY.out
      go_wp2_with fail
      refine (C1.out _ D0).mono ?_
      rintro e u1 ⟨rfl, hb⟩
      have D1 := D0.trans (hb.mono D0.size)
      clear hb q0 q1 q2 q3 q4 q5 q6 q7 q8 q9 q10 ql y0 y1 y2 y3 y4 y5 y6 y7 y8 y9 y10 yl
      obtain ⟨q0, q1, q2, q3, q4, q5, q6, q7, q8, q9, q10, ql⟩ := own11 (heap_below D1 (heap_lt HX.out) HX.out)
      obtain ⟨y0, y1, y2, y3, y4, y5, y6, y7, y8, y9, y10, yl⟩ := own11 (heap_below D1 (heap_lt HY.out) HY.out)
      go_wp2_with fail
      refine (C2.out _ D1).mono ?_
      rintro e u2 ⟨rfl, hb⟩
      have D2 := D1.trans (hb.mono D1.size)
      clear hb q0 q1 q2 q3 q4 q5 q6 q7 q8 q9 q10 ql y0 y1 y2 y3 y4 y5 y6 y7 y8 y9 y10 yl
      obtain ⟨q0, q1, q2, q3, q4, q5, q6, q7, q8, q9, q10, ql⟩ := own11 (heap_below D2 (heap_lt HX.out) HX.out)
      obtain ⟨y0, y1, y2, y3, y4, y5, y6, y7, y8, y9, y10, yl⟩ := own11 (heap_below D2 (heap_lt HY.out) HY.out)
      go_wp2_with fail
      refine (C3.out _ D2).mono ?_
      rintro e u3 ⟨rfl, hb⟩
      have D3 := D2.trans (hb.mono D2.size)
      clear hb q0 q1 q2 q3 q4 q5 q6 q7 q8 q9 q10 ql y0 y1 y2 y3 y4 y5 y6 y7 y8 y9 y10 yl
      obtain ⟨q0, q1, q2, q3, q4, q5, q6, q7, q8, q9, q10, ql⟩ := own11 (heap_below D3 (heap_lt HX.out) HX.out)
      obtain ⟨y0, y1, y2, y3, y4, y5, y6, y7, y8, y9, y10, yl⟩ := own11 (heap_below D3 (heap_lt HY.out) HY.out)
      go_wp2_with fail
      go_ret
      exact ⟨rfl, HBC.out.trans (D3.mono HBC.out.size)⟩
end Go.Proofs.YtfkbdpehdabepaaGreatDoor
