import Derived.Laws.StructEq
import Derived.Maps.AppendAt
import Derived.Deep.RegionLaw
import Derived.Deep.RegionHeld3
import Derived.Deep.DrawnRows
import Derived.WalkKit
import Derived.ChangeSame
import Derived.Deep.Trees
import Derived.Deep.Slices
import Derived.Below
import Derived.Lib.Hide
import Derived.StillTailTactics
import Derived.WalkSpells
import Derived.WalkLawsBesides
import Derived.Deep.QuietTactic
import Derived.BigQuiet
import Derived.RegionTactic
import Derived.BigRegion
import Derived.Defers
import Derived.Recover
import Derived.Deep.LoopGhost
import Derived.WalkSmall
import Derived.OwnWalk
import Derived.Laws.AppendOwn
import Derived.Deep.AppendLies
import Derived.Lib.ParseIntB
import Derived.Deep.DeepCutAuto
import Derived.Deep.OwnRows
import Derived.Laws.Cover4
import Derived.Test.YtglgjaomneljbaaGreatDoorRows
import Derived.IntWalk
import Derived.Shelf.Small.Utf8
import Derived.Shelf.Small.Strs
import Derived.Shelf.LaysM
import Derived.Shelf.Strconv.Clone
import Derived.Shelf.LaysC
import Derived.Shelf.Strconv.Lower
import Derived.Shelf.Strconv.ParseUint10
import Derived.Shelf.Strconv.ParseUint10Empty
import Derived.Shelf.Strconv.ParseUint10Any
import Derived.Shelf.Strconv.ParseInt10
import Derived.Shelf.Strconv.RangeError
import Derived.Shelf.Strconv.ParseUintEmpty
import Derived.Shelf.Strconv.ParseInt10At64
import Derived.Shelf.Strconv.ParseInt10All
import Derived.Shelf.Strconv.ParseIntPublic10
import Derived.Shelf.Strconv.ErrVarParseInt
import Derived.Shelf.Strings.Search1
import Derived.Shelf.Strings.Prefix
import Derived.Shelf.Strings.Runes
import Derived.Deep.RegionWith
import Derived.Lib.DecodeN
import Derived.Lib.Strings
import Derived.Laws.RangeAny
namespace Go.Proofs.YtglgjaomneljbaaGreatDoor
open Go.RowKit
theorem c2_ {P : Prop} (h : P := by
 have HF := k0_ (HR.out.trans (show _ = Ck.lift h (.ok (Ck.mk2 5 (qv.D.asl 5 (Ck.TT h)) (qv.D.asr 5 (Ck.TT h)))) from by rw [has, if_pos rfl, hag, if_pos rfl]));have CFI := k0_ (fun (G : Option Addr) (m cc : Nat) (W : World) (hl1 : Ck.Ly (Ck.Cut Q w.heap.size (w.heap.size + 4)) W (Ck.mk2 5 (qv.D.asl 5 (Ck.TT h)) (qv.D.asr 5 (Ck.TT h))) G m cc) => jD (Ck.Cut Q w.heap.size (w.heap.size + 4)) h p (Ck.mk2 5 (qv.D.asl 5 (Ck.TT h)) (qv.D.asr 5 (Ck.TT h))) G m cc W hl1 HOK.out);obtain ⟨q0', q1', q2', q3', q4', q5', q6', q7', q8', q9', q10'⟩ := HK.out _ HBW.out
 go_upto_region 9 with fail
 clear q0' q1' q2' q3' q4' q5' q6' q7' q8' q9' q10';refine zI 134 rfl [58, 59, 60, 61, 62, 63, 64] (by kernel_rfl) (by kernel_rfl) (by kernel_rfl) (fun listed a' w' => a'.defers = [] /\ a'.tmps.size = 134 /\ (a'.eval (.tmp 2) = .int .i64 qv.md /\ a'.eval (.tmp 3) = .pointer (some ⟨w.heap.size, 0, none⟩) /\ a'.eval (.tmp 6) = .pointer (some ⟨w.heap.size + 1 + 1, 0, none⟩) /\ a'.eval (.tmp 7) = .pointer (some ⟨w.heap.size + 1 + 1 + 1, 0, none⟩) /\ a'.eval (.tmp 8) = .pointer (some ⟨w2.heap.size, 0, none⟩) /\ a'.eval (.tmp 9) = .pointer (some ⟨w2.heap.size + 1, 0, none⟩)) /\ ∃ Gm mm cm t3 E3 pp3 xx3 G3 m3 cc3, (listed[0]? = some true -> (a'.eval (.tmp 58) = .agg #[.int .i8 (qv.D.asl 5 (Ck.TT h)).1, .slice Gx mx cx])) /\ (listed[1]? = some true -> (a'.eval (.tmp 59) = .agg #[.int .i8 (qv.D.asr 5 (Ck.TT h)).1, .slice Gy my cy])) /\ (listed[2]? = some true -> (a'.eval (.tmp 60) = .agg #[.int .i8 5, .slice Gm mm cm]) /\ (Ck.Ly (Ck.Cut Q w.heap.size (w.heap.size + 4)) w' (Ck.mk2 5 (qv.D.asl 5 (Ck.TT h)) (qv.D.asr 5 (Ck.TT h))) Gm mm cm)) /\ (listed[3]? = some true -> (a'.eval (.tmp 61) = .agg (tC_ h p))) /\ (listed[4]? = some true -> (a'.eval (.tmp 62) = .tuple #[.agg #[.int .i8 t3.1, .slice G3 m3 cc3], .agg #[.int .i64 E3, .int .i64 pp3, .string xx3]]) /\ (Qr.Nz (Ck.lift h (.ok (Ck.mk2 5 (qv.D.asl 5 (Ck.TT h)) (qv.D.asr 5 (Ck.TT h))))) /\ Qr.tyO (Ck.lift h (.ok (Ck.mk2 5 (qv.D.asl 5 (Ck.TT h)) (qv.D.asr 5 (Ck.TT h))))) = t3 /\ Qr.eO (Ck.lift h (.ok (Ck.mk2 5 (qv.D.asl 5 (Ck.TT h)) (qv.D.asr 5 (Ck.TT h))))) = E3 /\ Qr.pO (Ck.lift h (.ok (Ck.mk2 5 (qv.D.asl 5 (Ck.TT h)) (qv.D.asr 5 (Ck.TT h))))) = pp3 /\ Qr.xO (Ck.lift h (.ok (Ck.mk2 5 (qv.D.asl 5 (Ck.TT h)) (qv.D.asr 5 (Ck.TT h))))) = xx3) /\ (Ck.Ly (Ck.Cut Q w.heap.size (w.heap.size + 4)) w' t3 G3 m3 cc3)) /\ (listed[5]? = some true -> (a'.eval (.tmp 63) = .agg #[.int .i8 t3.1, .slice G3 m3 cc3]) /\ (listed[4]? = some true)) /\ (listed[6]? = some true -> (a'.eval (.tmp 64) = .agg #[.int .i64 E3, .int .i64 pp3, .string xx3]) /\ (listed[4]? = some true)) /\ (listed[7]? = some true -> (listed[4]? = some true) /\ (w'.heap[w.heap.size + 1 + 1]? = some (.cells #[.int .i8 t3.1, .slice G3 m3 cc3] 25 (0, 0)))) /\ (listed[8]? = some true -> (listed[4]? = some true) /\ (w'.heap[w.heap.size + 1 + 1 + 1]? = some (.cells #[.int .i64 E3, .int .i64 pp3, .string xx3] 35 (0, 0)))) /\ (∃ u0 u1, w'.heap[w.heap.size + 1 + 1]? = some (.cells #[u0, u1] 25 (0, 0))) /\ (∃ u0 u1 u2, w'.heap[w.heap.size + 1 + 1 + 1]? = some (.cells #[u0, u1, u2] 35 (0, 0))) /\ (w'.heap[w2.heap.size]? = some (.cells #[.int .i8 (qv.D.asl 5 (Ck.TT h)).1, .slice Gx mx cx] 25 (0, 0))) /\ (w'.heap[w2.heap.size + 1]? = some (.cells #[.int .i8 (qv.D.asr 5 (Ck.TT h)).1, .slice Gy my cy] 25 (0, 0))) /\ (Ck.Ly (Ck.Cut Q w.heap.size (w.heap.size + 4)) w' (qv.D.asl 5 (Ck.TT h)) Gx mx cx) /\ (Ck.Ly (Ck.Cut Q w.heap.size (w.heap.size + 4)) w' (qv.D.asr 5 (Ck.TT h)) Gy my cy) /\ Below b1.heap.size b1 w') (fun _ _ _ h => h.1) ?_ ?_ ?_
 ·have hz0 := HZ.out
  refine ⟨rfl, rfl, ⟨rfl, rfl, rfl, rfl, rfl, rfl⟩, none, 0, 0, (0, .nil), 0, 0, ⟨#[]⟩, none, 0, 0, FH, FH, FH, FH, FH, FH, FH, FH, FH, ⟨_, _, H6.out⟩, ⟨_, _, _, H7.out⟩, HBX.out, HBY.out, HLX.out, HLY.out, HBW.out.drew⟩
 ·rintro listed a' w' i o ⟨hdf, hsz, hx, Gm, mm, cm, t3, E3, pp3, xx3, G3, m3, cc3, y0, y1, y2, y3, y4, y5, y6, y7, y8, hB0, hB1, hH0, hH1, hH2, hH3, hbw⟩ hz hsz0 ho hi hp
  have hi13 : i < 9 := by
   rcases Nat.lt_or_ge i 9 with q | q
   ·exact q
   ·rw [Array.getElem?_eq_none (by simpa using q)] at ho; cases ho
  rcases (by omega : i = 0 \/ i = 1 \/ i = 2 \/ i = 3 \/ i = 4 \/ i = 5 \/ i = 6 \/ i = 7 \/ i = 8) with rfl | rfl | rfl | rfl | rfl | rfl | rfl | rfl | rfl
  ·obtain rfl := SI ho
   obtain ⟨e0, e1, -, -, -⟩ := zF hH0;exact V_ ho 58 ⟨pd hdf, ps hsz, KX hx, Gm, mm, cm, t3, E3, pp3, xx3, G3, m3, cc3, (fun _ => pS hsz), K2 y1, K2 y2, K2 y3, K2 y4, K2 y5, K2 y6, K2 y7, K2 y8, hB0, hB1, hH0, hH1, hH2, hH3, hbw⟩
  ·obtain rfl := SI ho
   obtain ⟨e0, e1, -, -, -⟩ := zF hH1;exact V_ ho 59 ⟨pd hdf, ps hsz, KX hx, Gm, mm, cm, t3, E3, pp3, xx3, G3, m3, cc3, K2 y0, (fun _ => pS hsz), K2 y2, K2 y3, K2 y4, K2 y5, K2 y6, K2 y7, K2 y8, hB0, hB1, hH0, hH1, hH2, hH3, hbw⟩
  ·obtain rfl := SI ho
   have v0 := hpv hp 0 (by simp);have ww0 := (y0 v0);have v1 := hpv hp 1 (by simp);have ww1 := (y1 v1);refine C_ ho 60 (jw (Ck.Cut Q w.heap.size (w.heap.size + 4)) 5 (by decide) (qv.D.asl 5 (Ck.TT h)) Gx mx cx (qv.D.asr 5 (Ck.TT h)) Gy my cy w' hH2 hH3) fun e u hg => ?_
   ·obtain ⟨Gm', mm', cm', rfl, hl, hb⟩ := hg
    refine ⟨.agg #[.int .i8 5, .slice Gm' mm' cm'], rfl, ?_⟩;have hbs := hbw.size;have hz1 := HZ.out;have hzb := HZB.out;have hzl := L2.out;have hzz : w.heap.size + 4 <= w'.heap.size := by have := zC hH0; omega
    have hbs2 := hb.size;exact ⟨pd hdf, ps hsz, KX hx, Gm', mm', cm', t3, E3, pp3, xx3, G3, m3, cc3, K2 y0, K2 y1, (fun _ => ⟨pS hsz, Ck.Ly.weak hl (fun b _ hq => Qr.j6 hzz hq)⟩), K2 y3, K2 y4, K2 y5, K2 y6, K2 y7, K2 y8, (qJ hb hB0), (zw hb hB1), (zA hb (zC hH0) hH0), (zA hb (zC hH1) hH1), (Ck.Ly.later hH2 hb), (Ck.Ly.later hH3 hb), hbw.trans (hb.mono hbw.size)⟩
  ·obtain rfl := SI ho
   obtain ⟨q0', q1', q2', q3', q4', q5', q6', q7', q8', q9', q10'⟩ := HK.out w' hbw;exact V_ ho 61 ⟨pd hdf, ps hsz, KX hx, Gm, mm, cm, t3, E3, pp3, xx3, G3, m3, cc3, K2 y0, K2 y1, K2 y2, (fun _ => pS hsz), K2 y4, K2 y5, K2 y6, K2 y7, K2 y8, hB0, hB1, hH0, hH1, hH2, hH3, hbw⟩
  ·obtain rfl := SI ho
   have v2 := hpv hp 2 (by simp);have ww2 := (y2 v2).1;have v3 := hpv hp 3 (by simp);have ww3 := (y3 v3);refine C_ ho 62 ((CFI.out Gm mm cm w' ((y2 v2).2)).mono (fun _ _ hp => hp.names)) fun e u hg => ?_
   ·obtain ⟨t3', E3', pp3', xx3', G3', m3', cc3', rfl, hgn, hl, hb⟩ := hg
    refine ⟨.tuple #[.agg #[.int .i8 t3'.1, .slice G3' m3' cc3'], .agg #[.int .i64 E3', .int .i64 pp3', .string xx3']], rfl, ?_⟩;have hbs := hbw.size;have hz1 := HZ.out;have hzb := HZB.out;have hzl := L2.out;have hzz : w.heap.size + 4 <= w'.heap.size := by have := zC hH0; omega
    have hbs2 := hb.size;exact ⟨pd hdf, ps hsz, KX hx, Gm, mm, cm, t3', E3', pp3', xx3', G3', m3', cc3', K2 y0, K2 y1, K2 y2, K2 y3, (fun _ => ⟨pS hsz, hgn, Ck.Ly.weak hl (fun b _ hq => Qr.j6 hzz hq)⟩), KN y5, KN y6, KN y7, KN y8, (qJ hb hB0), (zw hb hB1), (zA hb (zC hH0) hH0), (zA hb (zC hH1) hH1), (Ck.Ly.later hH2 hb), (Ck.Ly.later hH3 hb), hbw.trans (hb.mono hbw.size)⟩
  ·obtain rfl := SI ho
   have v4 := hpv hp 4 (by simp);have ww4 := (y4 v4).1;exact V_ ho 63 ⟨pd hdf, ps hsz, KX hx, Gm, mm, cm, t3, E3, pp3, xx3, G3, m3, cc3, K2 y0, K2 y1, K2 y2, K2 y3, K2 y4, (fun _ => ⟨pS hsz, (z8 v4)⟩), K2 y6, K2 y7, K2 y8, hB0, hB1, hH0, hH1, hH2, hH3, hbw⟩
  ·obtain rfl := SI ho
   have v4 := hpv hp 4 (by simp);have ww4 := (y4 v4).1;exact V_ ho 64 ⟨pd hdf, ps hsz, KX hx, Gm, mm, cm, t3, E3, pp3, xx3, G3, m3, cc3, K2 y0, K2 y1, K2 y2, K2 y3, K2 y4, K2 y5, (fun _ => ⟨pS hsz, (z8 v4)⟩), K2 y7, K2 y8, hB0, hB1, hH0, hH1, hH2, hH3, hbw⟩
  ·obtain rfl := SI ho
   have v5 := hpv hp 5 (by simp);have ww5 := (y5 v5).1;obtain ⟨u0, u1, hbox⟩ := id hB0;obtain ⟨bc0, bc1, bf0, bf1, -⟩ := zF hbox;refine zN ho rfl (zT rfl (w2 := ((w'.setCell ⟨w.heap.size + 1 + 1, 0, none⟩ (.int .i8 t3.1)).setCell ⟨w.heap.size + 1 + 1, 1, none⟩ (.slice G3 m3 cc3))) ?_ ?_)
   ·exact EV
   ·have hsa : (((w'.setCell ⟨w.heap.size + 1 + 1, 0, none⟩ (.int .i8 t3.1)).setCell ⟨w.heap.size + 1 + 1, 1, none⟩ (.slice G3 m3 cc3))).heap.size = w'.heap.size := by simp
    have hbs := hbw.size;have hz1 := HZ.out;have hzb := HZB.out;have hzl := L2.out;have hzz : w.heap.size + 4 <= w'.heap.size := by have := zC hH0; omega
    exact ⟨hdf, hsz, hx, Gm, mm, cm, t3, E3, pp3, xx3, G3, m3, cc3, K2 y0, K2 y1, K2 y2, K2 y3, K2 y4, K2 y5, K2 y6, (fun _ => ⟨(z8 ((y5 v5).2)), zL hbox _ _⟩), K2 y8, ⟨_, _, zL hbox _ _⟩, (qA hB1 (by omega)), (zM hH0 (by omega) _ _), (zM hH1 (by omega) _ _), (Ck.Ly.set2 hH2 (fun b hq => hq.ne (by omega) (by omega)) _ _), (Ck.Ly.set2 hH3 (fun b hq => hq.ne (by omega) (by omega)) _ _), zG hbw (by omega) _ _⟩
  ·obtain rfl := SI ho
   have v6 := hpv hp 6 (by simp);have ww6 := (y6 v6).1;obtain ⟨u0, u1, u2, hbox⟩ := id hB1;obtain ⟨bc0, bc1, bc2, bf0, bf1, bf2, -⟩ := cells3 hbox;refine zN ho rfl (zT rfl (w2 := (((w'.setCell ⟨w.heap.size + 1 + 1 + 1, 0, none⟩ (.int .i64 E3)).setCell ⟨w.heap.size + 1 + 1 + 1, 1, none⟩ (.int .i64 pp3)).setCell ⟨w.heap.size + 1 + 1 + 1, 2, none⟩ (.string xx3))) ?_ ?_)
   ·exact EV
   ·have hsa : ((((w'.setCell ⟨w.heap.size + 1 + 1 + 1, 0, none⟩ (.int .i64 E3)).setCell ⟨w.heap.size + 1 + 1 + 1, 1, none⟩ (.int .i64 pp3)).setCell ⟨w.heap.size + 1 + 1 + 1, 2, none⟩ (.string xx3))).heap.size = w'.heap.size := by simp
    have hbs := hbw.size;have hz1 := HZ.out;have hzb := HZB.out;have hzl := L2.out;have hzz : w.heap.size + 4 <= w'.heap.size := by have := zC hH0; omega
    exact ⟨hdf, hsz, hx, Gm, mm, cm, t3, E3, pp3, xx3, G3, m3, cc3, K2 y0, K2 y1, K2 y2, K2 y3, K2 y4, K2 y5, K2 y6, K2 y7, (fun _ => ⟨(z8 ((y6 v6).2)), zf hbox _ _ _⟩), (qB hB0 (by omega)), ⟨_, _, _, zf hbox _ _ _⟩, (zR hH0 (by omega) _ _ _), (zR hH1 (by omega) _ _ _), (Ck.Ly.zh hH2 (fun b hq => hq.ne (by omega) (by omega)) _ _ _), (Ck.Ly.zh hH3 (fun b hq => hq.ne (by omega) (by omega)) _ _ _), qD hbw (by omega) _ _ _⟩
 ·rintro listed u w' t ht hu ⟨-, -, -, Gm, mm, cm, t3, E3, pp3, xx3, G3, m3, cc3, y0, y1, y2, y3, y4, y5, y6, y7, y8, hB0, hB1, hH0, hH1, hH2, hH3, hbw⟩ hall
  have v4 := hall 4 (by decide);have v7 := hall 7 (by decide);have v8 := hall 8 (by decide);have HBX := k0_ (hfrom.out w' hbw);have hx := ((y7 v7).2);have hy := ((y8 v8).2);have hgn := ((y4 v4).2.1);have hl := ((y4 v4).2.2);clear y0 y1 y2 y3 y4 y5 y6 y7 y8 v4 v7 v8 hall hu;clear hbw;simp only [over, List.setIfInBounds_toArray, List.set_cons_succ, List.set_cons_zero] at ht;subst ht;obtain ⟨k0, k1', -, -, -⟩ := zF hx;obtain ⟨k2', k3', k4', -, -, -, -⟩ := cells3 hy
  go_wp2_with fail
  refine ⟨rfl, .tuple #[.agg #[.int .i8 t3.1, .slice G3 m3 cc3], .agg #[.int .i64 E3, .int .i64 pp3, .string xx3]], by simp [results, Tryz.results62, go_sem, k0, k1', k2', k3', k4'], ?_⟩
  exact HF.out ▸ Qr.Post.mk hgn.1 hgn.2 (hl.weak (fun b _ hq => hq.out (by omega))) HBX.out) : P := h
theorem c3_ {P : Prop} (h : P := by
 obtain ⟨w1, hw1, hB3, x0, x1, x2, hz⟩ := qN w (.cells #[.func (Fn.func rv.fr) #[] rv.cpt, .func (Fn.func rv.fa) #[] #[], .func (Fn.func rv.fm) #[] #[], .func (Fn.func rv.ft) #[] #[], rv.vg] 45) (.cells #[.int .i8 h.kind, .string h.name, .string h.arg, .int .i64 h.num, .int .i8 h.tk, .slice p.TA p.tn p.tc, .int .i8 h.uk, .slice p.UA p.un p.uc, .int .i64 h.label, .int .i64 h.pos, .slice p.A p.n p.c] 28) (.cells #[.int .i8 0, .slice none 0 0] 25);have HW1 := k0_ hw1;have H0 := k0_ x0;have H1 := k0_ x1;have H2 := k0_ x2;have HZ := k0_ hz;have HB3 := k0_ hB3;have CC := k0_ (hC w1 hB3 (by omega))
 try rw [hk] at CC
 have HKK := k0_ hk;clear x0 x1 x2 hz hB3 hC hk
 go_enter Tryz.func48, Tryz.ntmps48
 go_upto_region 1 with fail
 rw [← HW1.out];clear hw1;obtain ⟨r0, r1, r2, r3, r4, -, -, -, -, -, rl⟩ := jL H0.out;obtain ⟨q0, q1, q2, q3, q4, q5, q6, q7, q8, q9, q10, ql⟩ := zJ H1.out;rw [HKK.out] at q0
 go_wp2_with fail
 refine CC.out.mono ?_;rintro e w5 hg;rcases Ck.Post.split hg with ⟨E, pp, x, hr1, hg⟩ | ⟨t1, hr1, hg⟩
 ·have HP : Ck.Post Q w R e w5 := by rw [hr1]; exact Ck.Gave.from hg HB3.out
  obtain ⟨g, rfl, -⟩ := hg;clear hr1 r0 r1 r2 r3 r4 rl q0 q1 q2 q3 q4 q5 q6 q7 q8 q9 q10 ql
  go_wp2_with fail
  exact ⟨rfl, HP⟩
 ·obtain ⟨G, m, cg, rfl, hl, hb⟩ := hg
  have HL := k0_ hl;have HB := k0_ hb;have H5 := kp_ hb H2;have hzz := HZ.out;clear hl hb hg r0 r1 r2 r3 r4 rl q0 q1 q2 q3 q4 q5 q6 q7 q8 q9 q10 ql;obtain ⟨y0, y1, f0, f1, yl⟩ := zF H5.out
  go_wp2_with fail
  have z3 := zL H5.out (.int .i8 t1.1) (.slice G m cg);obtain ⟨k0, k1, -, -, -⟩ := zF z3;refine bodyPost_ret (v := .agg #[.int .i8 t1.1, .slice G m cg]) (by simp [results, Tryz.results48, go_sem, k0, k1]) rfl ?_;rw [hr1]
  exact ⟨G, m, cg, rfl, (HL.out.set2 (fun b hq => (Ck.Cut.in (by omega) hq).ne (by omega) (by omega)) _ _).weak (fun b _ hq => (Ck.Cut.in (by omega) hq).out (by omega)), zG (HB3.out.trans (HB.out.mono HB3.out.size)) (by omega) _ _⟩) : P := h
theorem c5_ {P : Prop} (h : P := by
 rintro e w5 hp;obtain ⟨t4, E4, pp4, xx4, G4, m4, cc4, rfl, hgn, hl, hb⟩ := hp.names;have HGG := k0_ hgn;have HBW := kt_ HBW hb;have LZ := kz_ LZ hb;have H6 := kp_ hb H6;have H7 := kp_ hb H7;have HLF4 := k0_ (hl.weak (fun b _ hq => Qr.j6 LWF.out hq));clear hl hb hgn hp yl y0 y1 y2 y3 y4 y5 y6 y7 y8 y9 y10 y11;clear q0' q1' q2' q3' q4' q5' q6' q7' q8' q9' q10';have HRS := k0_ (zQ H6.out H7.out (show w.heap.size + 1 ≠ w.heap.size + 1 + 1 by omega) (hfrom.out _ HBW.out) (by omega) (by omega) (.int .i8 t4.1) (.slice G4 m4 cc4) (.int .i64 E4) (.int .i64 pp4) (.string xx4));have HLF := k0_ ((HLF4.out.set2 (X := w.heap.size + 1) (fun b hq => hq.ne (by omega) (by omega)) (.int .i8 t4.1) (.slice G4 m4 cc4)).zh (X := w.heap.size + 1 + 1) (fun b hq => hq.ne (by omega) (by omega)) (.int .i64 E4) (.int .i64 pp4) (.string xx4));obtain ⟨z0, z1, z2, z3, zl⟩ := zF H6.out;obtain ⟨y0, y1, y2, y3, y4, y5, yl⟩ := cells3 H7.out
 go_wp2_with fail
 clear z0 z1 z2 z3 zl y0 y1 y2 y3 y4 y5 yl;generalize (((((w5.setCell ⟨w.heap.size + 1, 0, none⟩ (.int .i8 t4.1)).setCell ⟨w.heap.size + 1, 1, none⟩ (.slice G4 m4 cc4)).setCell ⟨w.heap.size + 1 + 1, 0, none⟩ (.int .i64 E4)).setCell ⟨w.heap.size + 1 + 1, 1, none⟩ (.int .i64 pp4)).setCell ⟨w.heap.size + 1 + 1, 2, none⟩ (.string xx4)) = wz at *;obtain ⟨k0, k1', -, -, -⟩ := zF HRS.out.1;obtain ⟨k2', k3', k4', -, -, -, -⟩ := cells3 HRS.out.2.1;refine bodyPost_ret (v := .tuple #[.agg #[.int .i8 t4.1, .slice G4 m4 cc4], .agg #[.int .i64 E4, .int .i64 pp4, .string xx4]]) (by simp [results, Tryz.results36, go_sem, k0, k1', k2', k3', k4']) rfl ?_
 exact HS.out ▸ Qr.Post.mk HGG.out.1 HGG.out.2 (HLF.out.weak (fun b _ hq => hq.out (by omega))) HRS.out.2.2) : P := h
theorem c7_ {P : Prop} (h : P := by
 obtain ⟨q0', q1', q2', q3', q4', q5', q6', q7', q8', q9', q10'⟩ := HK.out _ HBW.out;have LWF := k0_ LZ.out
 go_wp2_with fail
 refine (HCF.out 91 (by decide) _).mono ?_;rintro e w3 hp;obtain ⟨Gf, mf, cf, rfl, hl, hb⟩ := hp.flt;have HBW := kt_ HBW hb;have LZ := kz_ LZ hb;have H6 := kp_ hb H6;have H7 := kp_ hb H7;have HZL := k0_ (hl.weak (fun b _ hq => Qr.j6 LWF.out hq));clear hb hl hp;clear q0' q1' q2' q3' q4' q5' q6' q7' q8' q9' q10';have HRS := k0_ (zQ H6.out H7.out (show w.heap.size + 1 + 1 ≠ w.heap.size + 1 + 1 + 1 by omega) (hfrom.out _ HBW.out) (by omega) (by omega) (.int .i8 0) (.slice Gf mf cf) (.int .i64 91) (.int .i64 h.pos) (.string ⟨#[]⟩));have HLF := k0_ ((HZL.out.set2 (X := w.heap.size + 1 + 1) (fun b hq => hq.ne (by omega) (by omega)) (.int .i8 0) (.slice Gf mf cf)).zh (X := w.heap.size + 1 + 1 + 1) (fun b hq => hq.ne (by omega) (by omega)) (.int .i64 91) (.int .i64 h.pos) (.string ⟨#[]⟩));obtain ⟨z0, z1, z2, z3, zl⟩ := zF H6.out;obtain ⟨y0, y1, y2, y3, y4, y5, yl⟩ := cells3 H7.out
 go_wp2_with fail
 clear z0 z1 z2 z3 zl y0 y1 y2 y3 y4 y5 yl;generalize (((((w3.setCell ⟨w.heap.size + 1 + 1, 0, none⟩ (.int .i8 0)).setCell ⟨w.heap.size + 1 + 1, 1, none⟩ (.slice Gf mf cf)).setCell ⟨w.heap.size + 1 + 1 + 1, 0, none⟩ (.int .i64 91)).setCell ⟨w.heap.size + 1 + 1 + 1, 1, none⟩ (.int .i64 h.pos)).setCell ⟨w.heap.size + 1 + 1 + 1, 2, none⟩ (.string ⟨#[]⟩)) = wz at *;obtain ⟨k0, k1', -, -, -⟩ := zF HRS.out.1;obtain ⟨k2', k3', k4', -, -, -, -⟩ := cells3 HRS.out.2.1;refine bodyPost_ret (v := .tuple #[.agg #[.int .i8 0, .slice Gf mf cf], .agg #[.int .i64 91, .int .i64 h.pos, .string ⟨#[]⟩]]) (by simp [results, Tryz.results62, go_sem, k0, k1', k2', k3', k4']) rfl ?_
 exact HF.out ▸ Qr.Post.mk (a := (0, .nil)) (Qr.Nz.fault h (by decide)) ⟨rfl, rfl, rfl, rfl⟩ (HLF.out.weak (fun b _ hq => hq.out (by omega))) HRS.out.2.2) : P := h
theorem c8_ {P : Prop} (h : P := by
 have HF := k0_ (HS.out.trans (show _ = Ck.fault h 90 from by rw [hag, if_neg (by decide)]));obtain ⟨q0', q1', q2', q3', q4', q5', q6', q7', q8', q9', q10'⟩ := HK.out _ HBW.out;have LWF := k0_ LW.out
 go_wp2_with fail
 refine (HCF.out 90 (by decide) _).mono ?_;rintro e w6 hp;obtain ⟨G, m, cg, rfl, hl, hb⟩ := hp.flt;have HBW := kt_ HBW hb;have LZ := kz_ LZ hb;have H6 := kp_ hb H6;have H7 := kp_ hb H7;have HZL := k0_ (hl.weak (fun b _ hq => Qr.j6 LWF.out hq));clear hb hl hp;clear q0' q1' q2' q3' q4' q5' q6' q7' q8' q9' q10';have HRS := k0_ (zQ H6.out H7.out (show w.heap.size + 1 ≠ w.heap.size + 1 + 1 by omega) (hfrom.out _ HBW.out) (by omega) (by omega) (.int .i8 0) (.slice G m cg) (.int .i64 90) (.int .i64 h.pos) (.string ⟨#[]⟩));have HLF := k0_ ((HZL.out.set2 (X := w.heap.size + 1) (fun b hq => hq.ne (by omega) (by omega)) (.int .i8 0) (.slice G m cg)).zh (X := w.heap.size + 1 + 1) (fun b hq => hq.ne (by omega) (by omega)) (.int .i64 90) (.int .i64 h.pos) (.string ⟨#[]⟩));obtain ⟨z0, z1, z2, z3, zl⟩ := zF H6.out;obtain ⟨y0, y1, y2, y3, y4, y5, yl⟩ := cells3 H7.out
 go_wp2_with fail
 clear z0 z1 z2 z3 zl y0 y1 y2 y3 y4 y5 yl;generalize (((((w6.setCell ⟨w.heap.size + 1, 0, none⟩ (.int .i8 0)).setCell ⟨w.heap.size + 1, 1, none⟩ (.slice G m cg)).setCell ⟨w.heap.size + 1 + 1, 0, none⟩ (.int .i64 90)).setCell ⟨w.heap.size + 1 + 1, 1, none⟩ (.int .i64 h.pos)).setCell ⟨w.heap.size + 1 + 1, 2, none⟩ (.string ⟨#[]⟩)) = wz at *;obtain ⟨k0, k1', -, -, -⟩ := zF HRS.out.1;obtain ⟨k2', k3', k4', -, -, -, -⟩ := cells3 HRS.out.2.1;refine bodyPost_ret (v := .tuple #[.agg #[.int .i8 0, .slice G m cg], .agg #[.int .i64 90, .int .i64 h.pos, .string ⟨#[]⟩]]) (by simp [results, Tryz.results36, go_sem, k0, k1', k2', k3', k4']) rfl ?_
 exact HF.out ▸ Qr.Post.mk (a := (0, .nil)) (Qr.Nz.fault h (by decide)) ⟨rfl, rfl, rfl, rfl⟩ (HLF.out.weak (fun b _ hq => hq.out (by omega))) HRS.out.2.2) : P := h
theorem zGR {P : Prop} (h : P := by
 obtain ⟨R, hR⟩ : ∃ R, R = (Ck.R.ok (2, .nil)) := ⟨_, rfl⟩
 rw [← hR];have HR := k0_ hR;obtain ⟨b1, w1, hw1, hb0, g0, hb1, h6, h7, hzb, hz⟩ := Qr.three w (.cells (tC_ h p) 28);have HW1 := k0_ hw1;have HB0 := k0_ hb0;have H0 := k0_ g0;have HBW := k0_ hb1;have H6 := k0_ h6;have H7 := k0_ h7;have HZB := k0_ hzb;have HZ := k0_ hz;have LZ := k0_ (Nat.le_of_eq hz.symm);have hfrom := k0_ (fun (W : World) (hb : Below b1.heap.size b1 W) => hb0.trans (hb.mono hb0.size));have HE : Hid (Ck.EAt (Ck.Cut Q w.heap.size (w.heap.size + 3)) b1 l A n c) := k0_ ((hE.weak (fun b hb hq => .inl ⟨hq, hb⟩)).below hb0);have HK := k0_ (fun (W : World) (hb : Below b1.heap.size b1 W) => Qr.jA (zA hb (zC H0.out) H0.out));clear hR hb0 g0 hb1 h6 h7 hzb hz hE;have HKK := k0_ hk;clear hk
 go_enter Tryz.func15, Tryz.ntmps15
 go_upto_region 1 with fail
 rw [← HW1.out];clear hw1 HW1;obtain ⟨q0', q1', q2', q3', q4', q5', q6', q7', q8', q9', q10'⟩ := HK.out w1 HBW.out;rw [HKK.out] at q0';have CS := k0_ (qY 2 w1)
 go_wp2_with fail
 refine CS.out.mono ?_;rintro e w2 ⟨rfl, hb⟩;have HBW := kt_ HBW hb;have LZ := kz_ LZ hb;have H6 := kp_ hb H6;have H7 := kp_ hb H7;clear hb;clear q0' q1' q2' q3' q4' q5' q6' q7' q8' q9' q10';have HZL := k0_ (Ck.wI (Ck.Cut Q w.heap.size (w.heap.size + 3)) w2 2 (by decide));have HRS := k0_ (zQ H6.out H7.out (show w.heap.size + 1 ≠ w.heap.size + 1 + 1 by omega) (hfrom.out _ HBW.out) (by omega) (by omega) (.int .i8 2) (.slice none 0 0) (.int .i64 0) (.int .i64 0) (.string ⟨#[]⟩));have HLF := k0_ ((HZL.out.set2 (X := w.heap.size + 1) (fun b hq => hq.ne (by omega) (by omega)) (.int .i8 2) (.slice none 0 0)).zh (X := w.heap.size + 1 + 1) (fun b hq => hq.ne (by omega) (by omega)) (.int .i64 0) (.int .i64 0) (.string ⟨#[]⟩));obtain ⟨z0, z1, z2, z3, zl⟩ := zF H6.out;obtain ⟨y0, y1, y2, y3, y4, y5, yl⟩ := cells3 H7.out
 go_wp2_with fail
 clear z0 z1 z2 z3 zl y0 y1 y2 y3 y4 y5 yl;generalize (((((w2.setCell ⟨w.heap.size + 1, 0, none⟩ (.int .i8 2)).setCell ⟨w.heap.size + 1, 1, none⟩ (.slice none 0 0)).setCell ⟨w.heap.size + 1 + 1, 0, none⟩ (.int .i64 0)).setCell ⟨w.heap.size + 1 + 1, 1, none⟩ (.int .i64 0)).setCell ⟨w.heap.size + 1 + 1, 2, none⟩ (.string ⟨#[]⟩)) = wz at *;obtain ⟨k0, k1', -, -, -⟩ := zF HRS.out.1;obtain ⟨k2', k3', k4', -, -, -, -⟩ := cells3 HRS.out.2.1;refine bodyPost_ret (v := .tuple #[.agg #[.int .i8 2, .slice none 0 0], .agg #[.int .i64 0, .int .i64 0, .string ⟨#[]⟩]]) (by simp [results, Tryz.results15, go_sem, k0, k1', k2', k3', k4']) rfl ?_
 exact Qr.Post.mk (a := (2, .nil)) (HR.out ▸ Qr.Nz.ok _) (HR.out ▸ ⟨rfl, rfl, rfl, rfl⟩) (HLF.out.weak (fun b _ hq => hq.out (by omega))) HRS.out.2.2) : P := h
theorem zGP {P : Prop} (h : P := by
 rintro listed u w' t ht hu ⟨-, -, -, y0, y1, y2, y3, y4, y5, y6, hbw⟩ hall;have v6 := hall 6 (by decide);have HBX := k0_ hbw;have P1 := k0_ ((y6 v6).2);clear y0 y1 y2 y3 y4 y5 y6 v6 hall hu;clear hbw;simp only [over, List.setIfInBounds_toArray, List.set_cons_succ, List.set_cons_zero] at ht;subst ht;have hx1 := zA HBX.out (zC HX1.out) HX1.out;have hx2 := zA HBX.out (zC HX2.out) HX2.out;obtain ⟨s0, s1, -, -, -⟩ := zF hx1;obtain ⟨s2, s3, -, -, -⟩ := zF hx2;have hA := zO w' (.cells #[.int .i8 (rv.D.asl 5 (Ck.TT h)).1, .slice G1 m1 c1, .int .i8 (rv.D.asr 5 (Ck.TT h)).1, .slice G2 m2 c2] 25);have hAn := zD w' (.cells #[.int .i8 (rv.D.asl 5 (Ck.TT h)).1, .slice G1 m1 c1, .int .i8 (rv.D.asr 5 (Ck.TT h)).1, .slice G2 m2 c2] 25);have HF := k0_ (Ck.Ly.two (Q := Ck.Cut Q w.heap.size (w.heap.size + 3)) (a := (rv.D.asl 5 (Ck.TT h))) (b := (rv.D.asr 5 (Ck.TT h))) hAn (.inr (by have h1 := HBW.out.size; have h2 := HBX.out.size; have h3 := H1Z.out; omega)) ((HL1.out.later HBX.out).later hA) ((HL2.out.later HBX.out).later hA) 5 (by decide));have HA := kt_ HBX hA;clear hA hAn hx1 hx2;have CO := k0_ (fun (G : Option Addr) (W : World) => qM 5 G 2 2 W)
 go_wp2_with fail
 refine (CO.out _ _).mono ?_;rintro e w5 ⟨rfl, hb5⟩;have HF := Ck.kl_ HF hb5;have HA := kt_ HA hb5;clear hb5;have z2 := zA HA.out (zC H2.out) H2.out;obtain ⟨x0, x1, f0, f1, xl⟩ := zF z2;generalize w'.heap.size = S5 at *
 go_wp2_with fail
 have z3 := zL z2 (.int .i8 5) (.slice (some ⟨S5, 0, none⟩) 2 2);obtain ⟨k0, k1, -, -, -⟩ := zF z3;have hz1 := H1Z.out;refine ⟨rfl, .agg #[.int .i8 5, .slice (some ⟨S5, 0, none⟩) 2 2], by simp [results, Tryz.results84, go_sem, k0, k1], ?_⟩;rw [HR.out, if_pos HQ1.out, if_pos P1.out]
 exact ⟨some ⟨S5, 0, none⟩, 2, 2, rfl, (HF.out.set2 (fun b hq => hq.ne (by omega) (by omega)) _ _).weak (fun b _ hq => hq.out (by omega)), zG (hfrom.out _ HA.out) (by omega) _ _⟩) : P := h
theorem zGO {P : Prop} (h : P := by
 have HF := k0_ (HR.out.trans (show _ = Ck.fault h 91 from by rw [has, if_pos rfl, hag, if_neg (by decide)]));obtain ⟨q0', q1', q2', q3', q4', q5', q6', q7', q8', q9', q10'⟩ := HK.out _ HBW.out;have LWF := k0_ LZ.out
 go_wp2_with fail
 refine (HCF.out 91 (by decide) _).mono ?_;rintro e w5 hp;obtain ⟨Gf, mf, cf, rfl, hl, hb⟩ := hp.flt;have HBW := kt_ HBW hb;have LZ := kz_ LZ hb;have H6 := kp_ hb H6;have H7 := kp_ hb H7;have HZL := k0_ (hl.weak (fun b _ hq => Qr.j6 LWF.out hq));clear hb hl hp;clear q0' q1' q2' q3' q4' q5' q6' q7' q8' q9' q10';have HRS := k0_ (zQ H6.out H7.out (show w.heap.size + 1 + 1 ≠ w.heap.size + 1 + 1 + 1 by omega) (hfrom.out _ HBW.out) (by omega) (by omega) (.int .i8 0) (.slice Gf mf cf) (.int .i64 91) (.int .i64 h.pos) (.string ⟨#[]⟩));have HLF := k0_ ((HZL.out.set2 (X := w.heap.size + 1 + 1) (fun b hq => hq.ne (by omega) (by omega)) (.int .i8 0) (.slice Gf mf cf)).zh (X := w.heap.size + 1 + 1 + 1) (fun b hq => hq.ne (by omega) (by omega)) (.int .i64 91) (.int .i64 h.pos) (.string ⟨#[]⟩));obtain ⟨z0, z1, z2, z3, zl⟩ := zF H6.out;obtain ⟨y0, y1, y2, y3, y4, y5, yl⟩ := cells3 H7.out
 go_wp2_with fail
 clear z0 z1 z2 z3 zl y0 y1 y2 y3 y4 y5 yl;generalize (((((w5.setCell ⟨w.heap.size + 1 + 1, 0, none⟩ (.int .i8 0)).setCell ⟨w.heap.size + 1 + 1, 1, none⟩ (.slice Gf mf cf)).setCell ⟨w.heap.size + 1 + 1 + 1, 0, none⟩ (.int .i64 91)).setCell ⟨w.heap.size + 1 + 1 + 1, 1, none⟩ (.int .i64 h.pos)).setCell ⟨w.heap.size + 1 + 1 + 1, 2, none⟩ (.string ⟨#[]⟩)) = wz at *;obtain ⟨k0, k1', -, -, -⟩ := zF HRS.out.1;obtain ⟨k2', k3', k4', -, -, -, -⟩ := cells3 HRS.out.2.1;refine bodyPost_ret (v := .tuple #[.agg #[.int .i8 0, .slice Gf mf cf], .agg #[.int .i64 91, .int .i64 h.pos, .string ⟨#[]⟩]]) (by simp [results, Tryz.results62, go_sem, k0, k1', k2', k3', k4']) rfl ?_
 exact HF.out ▸ Qr.Post.mk (a := (0, .nil)) (Qr.Nz.fault h (by decide)) ⟨rfl, rfl, rfl, rfl⟩ (HLF.out.weak (fun b _ hq => hq.out (by omega))) HRS.out.2.2) : P := h
theorem zGN {P : Prop} (h : P := by
 have HF := k0_ (HR.out.trans (show _ = Ck.fault h 90 from by rw [has, if_neg (by decide)]));obtain ⟨q0', q1', q2', q3', q4', q5', q6', q7', q8', q9', q10'⟩ := HK.out _ HBW.out;have LWF := k0_ LZ.out
 go_wp2_with fail
 refine (HCF.out 90 (by decide) _).mono ?_;rintro e w3 hp;obtain ⟨Gf, mf, cf, rfl, hl, hb⟩ := hp.flt;have HBW := kt_ HBW hb;have LZ := kz_ LZ hb;have H6 := kp_ hb H6;have H7 := kp_ hb H7;have HZL := k0_ (hl.weak (fun b _ hq => Qr.j6 LWF.out hq));clear hb hl hp;clear q0' q1' q2' q3' q4' q5' q6' q7' q8' q9' q10';have HRS := k0_ (zQ H6.out H7.out (show w.heap.size + 1 + 1 ≠ w.heap.size + 1 + 1 + 1 by omega) (hfrom.out _ HBW.out) (by omega) (by omega) (.int .i8 0) (.slice Gf mf cf) (.int .i64 90) (.int .i64 h.pos) (.string ⟨#[]⟩));have HLF := k0_ ((HZL.out.set2 (X := w.heap.size + 1 + 1) (fun b hq => hq.ne (by omega) (by omega)) (.int .i8 0) (.slice Gf mf cf)).zh (X := w.heap.size + 1 + 1 + 1) (fun b hq => hq.ne (by omega) (by omega)) (.int .i64 90) (.int .i64 h.pos) (.string ⟨#[]⟩));obtain ⟨z0, z1, z2, z3, zl⟩ := zF H6.out;obtain ⟨y0, y1, y2, y3, y4, y5, yl⟩ := cells3 H7.out
 go_wp2_with fail
 clear z0 z1 z2 z3 zl y0 y1 y2 y3 y4 y5 yl;generalize (((((w3.setCell ⟨w.heap.size + 1 + 1, 0, none⟩ (.int .i8 0)).setCell ⟨w.heap.size + 1 + 1, 1, none⟩ (.slice Gf mf cf)).setCell ⟨w.heap.size + 1 + 1 + 1, 0, none⟩ (.int .i64 90)).setCell ⟨w.heap.size + 1 + 1 + 1, 1, none⟩ (.int .i64 h.pos)).setCell ⟨w.heap.size + 1 + 1 + 1, 2, none⟩ (.string ⟨#[]⟩)) = wz at *;obtain ⟨k0, k1', -, -, -⟩ := zF HRS.out.1;obtain ⟨k2', k3', k4', -, -, -, -⟩ := cells3 HRS.out.2.1;refine bodyPost_ret (v := .tuple #[.agg #[.int .i8 0, .slice Gf mf cf], .agg #[.int .i64 90, .int .i64 h.pos, .string ⟨#[]⟩]]) (by simp [results, Tryz.results62, go_sem, k0, k1', k2', k3', k4']) rfl ?_
 exact HF.out ▸ Qr.Post.mk (a := (0, .nil)) (Qr.Nz.fault h (by decide)) ⟨rfl, rfl, rfl, rfl⟩ (HLF.out.weak (fun b _ hq => hq.out (by omega))) HRS.out.2.2) : P := h
theorem zGM {P : Prop} (h : P := by
 go_wp2_with fail
 refine (qY 2 w9).mono ?_;rintro e w10 ⟨rfl, hb⟩;have HBW := kt_ HBW hb;have LZ := kz_ LZ hb;have H6 := kp_ hb H6;have H7 := kp_ hb H7;clear hb;clear q0' q1' q2' q3' q4' q5' q6' q7' q8' q9' q10';have HZL := k0_ (Ck.wI (Ck.Cut Q w.heap.size (w.heap.size + 4)) w10 2 (by decide));have HRS := k0_ (zQ H6.out H7.out (show w.heap.size + 1 + 1 ≠ w.heap.size + 1 + 1 + 1 by omega) (hfrom.out _ HBW.out) (by omega) (by omega) (.int .i8 2) (.slice none 0 0) (.int .i64 0) (.int .i64 0) (.string ⟨#[]⟩));have HLF := k0_ ((HZL.out.set2 (X := w.heap.size + 1 + 1) (fun b hq => hq.ne (by omega) (by omega)) (.int .i8 2) (.slice none 0 0)).zh (X := w.heap.size + 1 + 1 + 1) (fun b hq => hq.ne (by omega) (by omega)) (.int .i64 0) (.int .i64 0) (.string ⟨#[]⟩));obtain ⟨z0, z1, z2, z3, zl⟩ := zF H6.out;obtain ⟨y0, y1, y2, y3, y4, y5, yl⟩ := cells3 H7.out
 go_wp2_with fail
 clear z0 z1 z2 z3 zl y0 y1 y2 y3 y4 y5 yl;generalize (((((w10.setCell ⟨w.heap.size + 1 + 1, 0, none⟩ (.int .i8 2)).setCell ⟨w.heap.size + 1 + 1, 1, none⟩ (.slice none 0 0)).setCell ⟨w.heap.size + 1 + 1 + 1, 0, none⟩ (.int .i64 0)).setCell ⟨w.heap.size + 1 + 1 + 1, 1, none⟩ (.int .i64 0)).setCell ⟨w.heap.size + 1 + 1 + 1, 2, none⟩ (.string ⟨#[]⟩)) = wz at *;obtain ⟨k0, k1', -, -, -⟩ := zF HRS.out.1;obtain ⟨k2', k3', k4', -, -, -, -⟩ := cells3 HRS.out.2.1;refine bodyPost_ret (v := .tuple #[.agg #[.int .i8 2, .slice none 0 0], .agg #[.int .i64 0, .int .i64 0, .string ⟨#[]⟩]]) (by simp [results, Tryz.results62, go_sem, k0, k1', k2', k3', k4']) rfl ?_
 exact HF.out ▸ Qr.Post.mk (a := (2, .nil)) (Qr.Nz.ok _) ⟨rfl, rfl, rfl, rfl⟩ (HLF.out.weak (fun b _ hq => hq.out (by omega))) HRS.out.2.2) : P := h
theorem zFH {P : Prop} (h : P := by
 have hbs := hbw.size;have hzz := HZ.out;have hsa : (w'.alloc (.cells #[.int .i8 0, .slice none 0 0] 25)).heap.size = w'.heap.size + 1 := by simp
 have hba : Below w'.heap.size w' (w'.alloc (.cells #[.int .i8 0, .slice none 0 0] 25)) := (Below.refl _ _).alloc (Nat.le_refl _) _;have hnew := zD w' (.cells #[.int .i8 0, .slice none 0 0] 25)
 exact ⟨pd hdf, ps hsz, KX hx, w'.heap.size, Z2, Gl, ml, cl, Gr, mr, cr, K1 y0, K1 y1, K1 y2, K1 y3, K1 y4, (kF y5 (fun q => ⟨pn q.1, q.2.1, (Ck.Ly.later (Ck.Ly.weak q.2.2.1 (fun b hl hq => ⟨hq.1, Nat.ne_of_lt hl, hq.2.2⟩)) hba), (Ck.Ly.later (Ck.Ly.weak q.2.2.2 (fun b hl hq => ⟨hq.1, Nat.ne_of_lt hl, hq.2.2⟩)) hba)⟩)), K1 y6, K1 y7, K1 y8, (fun _ => ⟨pS hsz, hbs, (by omega), ⟨_, _, hnew⟩⟩), (kF y10 (fun q => ⟨pn q.1, q.2.1, (by omega), (kH q.2.2.2)⟩)), KN y11, K1 y12, ⟨(by omega), .inr hbs⟩, ⟨(by omega), hZZ2⟩, hbw.alloc hbw.size _⟩) : P := h
theorem zFG {P : Prop} (h : P := by
 have hbs := hbw.size;have hzz := HZ.out;have hsa : (w'.alloc (.cells #[.int .i8 0, .slice none 0 0] 25)).heap.size = w'.heap.size + 1 := by simp
 have hba : Below w'.heap.size w' (w'.alloc (.cells #[.int .i8 0, .slice none 0 0] 25)) := (Below.refl _ _).alloc (Nat.le_refl _) _;have hnew := zD w' (.cells #[.int .i8 0, .slice none 0 0] 25)
 exact ⟨pd hdf, ps hsz, KX hx, Z1, w'.heap.size, Gl, ml, cl, Gr, mr, cr, K1 y0, K1 y1, K1 y2, K1 y3, K1 y4, (kF y5 (fun q => ⟨pn q.1, q.2.1, (Ck.Ly.later (Ck.Ly.weak q.2.2.1 (fun b hl hq => ⟨hq.1, hq.2.1, Nat.ne_of_lt hl⟩)) hba), (Ck.Ly.later (Ck.Ly.weak q.2.2.2 (fun b hl hq => ⟨hq.1, hq.2.1, Nat.ne_of_lt hl⟩)) hba)⟩)), K1 y6, K1 y7, K1 y8, (kF y9 (fun q => ⟨pn q.1, q.2.1, (by omega), (kH q.2.2.2)⟩)), (fun _ => ⟨pS hsz, hbs, (by omega), ⟨_, _, hnew⟩⟩), K1 y11, KN y12, ⟨(by omega), hZZ1⟩, ⟨(by omega), .inr hbs⟩, hbw.alloc hbw.size _⟩) : P := h
theorem zGL {P : Prop} (h : P := by
 go_wp2_with fail
 refine CC.out.mono ?_;rintro e w2 hp;have HNZ := k0_ hp.1;obtain ⟨a, E, pq, x, G, m, cg, hg, rfl, hl, hb⟩ := hp.gen;have HGG := k0_ hg;have HBW := kt_ HBW hb;have LZ := kz_ LZ hb;have H6 := kp_ hb H6;have H7 := kp_ hb H7;have HLY := k0_ (hl.weak (fun b _ hq => Qr.zq (by have := HZ.out; omega) hq));clear hl hb hg hp;clear q0' q1' q2' q3' q4' q5' q6' q7' q8' q9' q10';have HRS := k0_ (zQ H6.out H7.out (show w.heap.size + 1 ≠ w.heap.size + 1 + 1 by omega) (hfrom.out _ HBW.out) (by omega) (by omega) (.int .i8 a.1) (.slice G m cg) (.int .i64 E) (.int .i64 pq) (.string x));have HLF := k0_ ((HLY.out.set2 (X := w.heap.size + 1) (fun b hq => hq.ne (by omega) (by omega)) (.int .i8 a.1) (.slice G m cg)).zh (X := w.heap.size + 1 + 1) (fun b hq => hq.ne (by omega) (by omega)) (.int .i64 E) (.int .i64 pq) (.string x));obtain ⟨z0, z1, z2, z3, zl⟩ := zF H6.out;obtain ⟨y0, y1, y2, y3, y4, y5, yl⟩ := cells3 H7.out
 go_wp2_with fail
 clear z0 z1 z2 z3 zl y0 y1 y2 y3 y4 y5 yl;generalize (((((w2.setCell ⟨w.heap.size + 1, 0, none⟩ (.int .i8 a.1)).setCell ⟨w.heap.size + 1, 1, none⟩ (.slice G m cg)).setCell ⟨w.heap.size + 1 + 1, 0, none⟩ (.int .i64 E)).setCell ⟨w.heap.size + 1 + 1, 1, none⟩ (.int .i64 pq)).setCell ⟨w.heap.size + 1 + 1, 2, none⟩ (.string x)) = wz at *;obtain ⟨k0, k1', -, -, -⟩ := zF HRS.out.1;obtain ⟨k2', k3', k4', -, -, -, -⟩ := cells3 HRS.out.2.1;refine bodyPost_ret (v := .tuple #[.agg #[.int .i8 a.1, .slice G m cg], .agg #[.int .i64 E, .int .i64 pq, .string x]]) (by simp [results, Tryz.results15, go_sem, k0, k1', k2', k3', k4']) rfl ?_
 exact HR.out ▸ Qr.Post.mk HNZ.out HGG.out (HLF.out.weak (fun b _ hq => hq.out (by omega))) HRS.out.2.2) : P := h
theorem zCW {P : Prop} (h : P := by
 obtain ⟨he, hb⟩ := hg;refine .inl ?_;refine ⟨.tuple #[], he, ?_⟩;have hbs := hbw.size;have hzz := HZ.out;have hbs2 := hb.size
 exact ⟨pd hdf, ps hsz, KX hx, K1 y0, K1 y1, K1 y2, K1 y3, K1 y4, K1 y5, (fun _ => ⟨pS hsz, hq⟩), hbw.trans (hb.mono hbw.size)⟩) : P := h
theorem vG {P : Prop} (h : P := by
 obtain ⟨g, rfl, hg2⟩ := hg
 exact .inr ⟨_, rfl, hdf, HP⟩) : P := h
theorem zGI {P : Prop} (h : P := by
 obtain rfl := SI ho;have v10 := hpv hp 10 (by simp);have ww10 := (y10 v10).1;have v8 := hpv hp 8 (by simp);have ww8 := (y8 v8).1;have hne := ((y10 v10).2.2.1);have hlo := ((y10 v10).2.1);obtain ⟨u0, u1, hbox⟩ := ((y10 v10).2.2.2);obtain ⟨bc0, bc1, bf0, bf1, -⟩ := zF hbox;refine zN ho rfl (zT rfl (w2 := (w'.setCell ⟨Z2, 0, none⟩ (.int .i8 (rv.D.asr 4 a).1)).setCell ⟨Z2, 1, none⟩ (.slice Gr mr cr)) ?_ ?_)
 ·exact EV
 ·have hsa : ((w'.setCell ⟨Z2, 0, none⟩ (.int .i8 (rv.D.asr 4 a).1)).setCell ⟨Z2, 1, none⟩ (.slice Gr mr cr)).heap.size = w'.heap.size := by simp
  have hbs := hbw.size;have hzz := HZ.out
  exact ⟨hdf, hsz, hx, Z1, Z2, Gl, ml, cl, Gr, mr, cr, K1 y0, K1 y1, K1 y2, K1 y3, K1 y4, K1 y5, K1 y6, K1 y7, K1 y8, K1 y9, (kF y10 (fun q => ⟨q.1, q.2.1, q.2.2.1, (jR q.2.2.2)⟩)), K1 y11, (fun _ => ⟨(z8 ((y8 v8).2)), (z8 v10), zL hbox _ _⟩), ⟨(by omega), hZZ1⟩, ⟨(by omega), hZZ2⟩, zG hbw hlo _ _⟩) : P := h
theorem zDr {P : Prop} (h : P := by
 exact HRR.out ▸ Qr.Post.mk (a := (0, .nil)) (fun _ _ _ e => by injection e with e; rw [← e]; exact HNE.out) ⟨rfl, rfl, rfl, rfl⟩ (HLF.out.weak (fun b _ hq => hq.out (by omega))) HRS.out.2.2) : P := h
theorem zGH {P : Prop} (h : P := by
 obtain rfl := SI ho;have v9 := hpv hp 9 (by simp);have ww9 := (y9 v9).1;have v7 := hpv hp 7 (by simp);have ww7 := (y7 v7).1;have hne := ((y9 v9).2.2.1);have hlo := ((y9 v9).2.1);obtain ⟨u0, u1, hbox⟩ := ((y9 v9).2.2.2);obtain ⟨bc0, bc1, bf0, bf1, -⟩ := zF hbox;refine zN ho rfl (zT rfl (w2 := (w'.setCell ⟨Z1, 0, none⟩ (.int .i8 (rv.D.asl 4 a).1)).setCell ⟨Z1, 1, none⟩ (.slice Gl ml cl)) ?_ ?_)
 ·exact EV
 ·have hsa : ((w'.setCell ⟨Z1, 0, none⟩ (.int .i8 (rv.D.asl 4 a).1)).setCell ⟨Z1, 1, none⟩ (.slice Gl ml cl)).heap.size = w'.heap.size := by simp
  have hbs := hbw.size;have hzz := HZ.out
  exact ⟨hdf, hsz, hx, Z1, Z2, Gl, ml, cl, Gr, mr, cr, K1 y0, K1 y1, K1 y2, K1 y3, K1 y4, K1 y5, K1 y6, K1 y7, K1 y8, (kF y9 (fun q => ⟨q.1, q.2.1, q.2.2.1, (jR q.2.2.2)⟩)), K1 y10, (fun _ => ⟨(z8 ((y7 v7).2)), (z8 v9), zL hbox _ _⟩), K1 y12, ⟨(by omega), hZZ1⟩, ⟨(by omega), hZZ2⟩, zG hbw hlo _ _⟩) : P := h
theorem zFF {P : Prop} (h : P := by
 obtain ⟨k0, k1', -, -, -⟩ := zF HRS.out.1;obtain ⟨k2', k3', k4', -, -, -, -⟩ := cells3 HRS.out.2.1;refine bodyPost_ret (v := .tuple #[.agg #[.int .i8 0, .slice G m cg], .agg #[.int .i64 91, .int .i64 h.pos, .string ⟨#[]⟩]]) (by simp [results, Tryz.results36, go_sem, k0, k1', k2', k3', k4']) rfl ?_
 exact HF.out ▸ Qr.Post.mk (a := (0, .nil)) (Qr.Nz.fault h (by decide)) ⟨rfl, rfl, rfl, rfl⟩ (HLF.out.weak (fun b _ hq => hq.out (by omega))) HRS.out.2.2) : P := h
theorem zGG {P : Prop} (h : P := by
 have hbs := hbw.size;have hzz := HZ.out;have hbs2 := hb.size
 exact ⟨pd hdf, ps hsz, KX hx, Z1, Z2, Gl', ml', cl', Gr', mr', cr', K1 y0, K1 y1, K1 y2, K1 y3, K1 y4, (fun _ => ⟨pS hsz, hq, Ck.Ly.weak hl (fun b _ hq => qm (by omega) (by omega) (by omega) hq), Ck.Ly.weak hl2 (fun b _ hq => qm (by omega) (by omega) (by omega) hq)⟩), KN y6, KN y7, KN y8, K1 y9, K1 y10, KN y11, KN y12, ⟨(by omega), hZZ1⟩, ⟨(by omega), hZZ2⟩, hbw.trans (hb.mono hbw.size)⟩) : P := h
theorem zFE {P : Prop} (h : P := by
 have hz := HZ.out
 refine ⟨rfl, rfl, ⟨rfl, rfl, rfl, rfl⟩, (w.heap.size + 2), (w.heap.size + 2), none, 0, 0, none, 0, 0, FH, FH, FH, FH, FH, FH, FH, FH, FH, FH, FH, FH, FH, ⟨(Nat.lt_of_lt_of_le (by omega) (show Below w1.heap.size w1 w1.drew from (Below.refl _ _).drew).size), .inl rfl⟩, ⟨(Nat.lt_of_lt_of_le (by omega) (show Below w1.heap.size w1 w1.drew from (Below.refl _ _).drew).size), .inl rfl⟩, (Below.refl _ _).drew⟩) : P := h
theorem uw {P : Prop} (h : P := by
 rcases Nat.lt_or_ge i 7 with q | q
 ·exact q
 ·rw [Array.getElem?_eq_none (by simpa using q)] at ho; cases ho) : P := h
theorem zGE {P : Prop} (h : P := by
 have hP' : (wr.alloc o1).heap.size <= b' := by simpa using hP
 have hbl := Ty.zZ hx;have hne : some b' ≠ v.ownBlock := fun e => by have := (hlt b' e.symm).2; omega
 refine ⟨?_, ?_⟩
 ·simp only [Bool.and_eq_true, decide_eq_true_eq]
  refine ⟨by have := h5.size; omega, fun e => ?_⟩;rcases hat with q | q
  ·exact hne (by rw [← q, e])
  ·rw [q] at e; injection e with e; omega
 ·rw [World.cell?_of_block (hg.block b' (by omega) hne), ((Below.refl u.heap.size u).alloc (Nat.le_refl _) o2).cell (p := ⟨b', o', none⟩) hbl]; exact hx) : P := h
theorem zGD {P : Prop} (h : P := by
 clear hbw;simp only [over, List.setIfInBounds_toArray, List.set_cons_succ, List.set_cons_zero] at ht;subst ht;obtain ⟨k0, k1', -, -, -⟩ := zF hx;obtain ⟨k2', k3', k4', -, -, -, -⟩ := cells3 hy
 go_wp2_with fail
 refine ⟨rfl, .tuple #[.agg #[.int .i8 t2.1, .slice G2 m2 cc2], .agg #[.int .i64 E2, .int .i64 pp2, .string xx2]], by simp [results, Tryz.results15, go_sem, k0, k1', k2', k3', k4'], ?_⟩
 exact HRR.out ▸ Qr.Post.mk hgn.1 hgn.2 (hl.weak (fun b _ hq => hq.out (by omega))) HBX.out) : P := h
theorem zGC {P : Prop} (h : P := by
 simp only [Bool.and_eq_true, decide_eq_true_eq] at hP;have hbl := Ty.zZ hx;have hne : some b' ≠ v.ownBlock := fun e => hP.2 e.symm
 refine ⟨?_, ?_⟩
 ·simp only [Bool.and_eq_true, decide_eq_true_eq]
  refine ⟨hP.1, fun e => ?_⟩;rcases hat with q | q
  ·exact hP.2 (by rw [← q, e])
  ·rw [q] at e; injection e with e; have := hwu.size; omega
 ·rw [World.cell?_of_block (hg.block b' (Nat.lt_of_lt_of_le hbl hwu.size) hne), hwu.cell (p := ⟨b', o', none⟩) hbl]; exact hx) : P := h
theorem zCV {P : Prop} (h : P := by
 obtain ⟨hcst, hfn⟩ := evc a'; generalize a'.eval = ev at *;clear hp y0 y1 y2 y3 y4 y5
 go_simp) : P := h
theorem jY {P : Prop} (h : P := by
 rw [Array.getElem?_eq_none (by simpa using q)] at ho; cases ho) : P := h
theorem zG9 {P : Prop} (h : P := by
 go_upto_region 11 with fail
 have U0 := zP r0;have U1 := zP r1;have U2 := zP r2;have U3 := zP r3;clear r0 r1 r2 r3;clear q0' q1' q2' q3' q4' q5' q6' q7' q8' q9' q10';refine jO (by kernel_rfl) (by kernel_rfl) ?_
 repeat
  first
   | go_big_quiet_skip
   | (go_big_quiet_want
      go_big_quiet_op
      first
       | go_big_quiet_on
       | (refine ⟨_, fun _ => rfl, ?_⟩
          go_big_quiet_on)
       | (apply Exists.intro
          refine ⟨fun h => ?_, ?_⟩
          ·first
            | (go_at_call 29; with_reducible exact qU h (HSI.out h.u))
            | (go_at_call 33; with_reducible exact qU h (HCA.out h.u h.low))
            | (go_at_call 33; with_reducible exact qU h (HCB.out h.u h.low))
          go_big_quiet_on))
 refine wpQuiet_nil ?_;rintro w9 ⟨⟨_, hb⟩, rfl⟩;have HBW := kt_ HBW hb;have LZ := kz_ LZ hb;have H6 := kp_ hb H6;have H7 := kp_ hb H7;clear hb U0 U1 U2 U3
 exact c7_) : P := h
theorem zFD {P : Prop} (h : P := by
 obtain ⟨k0, k1', -, -, -⟩ := zF HRS.out.1;obtain ⟨k2', k3', k4', -, -, -, -⟩ := cells3 HRS.out.2.1
 go_wp2_with fail
 refine bodyPost_ret (v := .tuple #[.agg #[.int .i8 0, .slice none 0 0], .agg #[.int .i64 E1, .int .i64 pp1, .string xx1]]) (by simp [results, Tryz.results15, go_sem, k0, k1', k2', k3', k4']) rfl ?_
 exact zDr) : P := h
theorem zG8 {P : Prop} (h : P := by
 rcases hg with ⟨hq, hg⟩ | ⟨hq, hg⟩
 ·have HP : Ck.Post Q w R e u := by rw [HR.out, if_neg (zY (show rv.D.ag a (Ck.TT h) = false from hq))]; exact Ck.Gave.from hg (hfrom.out w' hbw)
  exact vG
 ·obtain ⟨he, hb⟩ := hg
  refine .inl ?_;refine ⟨.tuple #[], he, ?_⟩;have hbs := hbw.size;have hzz := HZ.out;have hbs2 := hb.size
  exact ⟨pd hdf, ps hsz, KX hx, K1 y0, K1 y1, K1 y2, K1 y3, K1 y4, K1 y5, K1 y6, (fun _ => ⟨pS hsz, hq⟩), hbw.trans (hb.mono hbw.size)⟩) : P := h
theorem zG7 {P : Prop} (h : P := by
 rcases hg with ⟨hq, hg⟩ | ⟨hq, hg⟩
 ·have HP : Ck.Post Q w R e u := by rw [HR.out, if_neg (zY (show rv.D.asO 4 a = false from hq))]; exact Ck.Gave.from hg (hfrom.out w' hbw)
  exact vG
 ·obtain ⟨Gl', ml', cl', Gr', mr', cr', rfl, hl, hl2, hb⟩ := hg
  refine .inl ?_;refine ⟨.tuple #[.agg #[.int .i8 (rv.D.asl 4 a).1, .slice Gl' ml' cl'], .agg #[.int .i8 (rv.D.asr 4 a).1, .slice Gr' mr' cr']], rfl, ?_⟩
  exact zGG) : P := h
theorem zG6 {P : Prop} (h : P := by
 have HQ := k0_ hq
 go_wp2_with fail
 go_roundw
 case rel =>
  refine ⟨j, by go_num, by omega, fun i' y' hi' hy' => ?_, HB.out⟩;rcases Nat.lt_or_ge j i' with g | g
  ·exact HNO.out i' y' (by omega) hy'
  ·obtain rfl : i' = j := by omega
   have q := HYY.out;rw [hy'] at q;injection q with q
   rw [q]; exact HQ.out
 case measure => simp [intOf]) : P := h
theorem zG5 {P : Prop} (h : P := by
 rcases hown.2 with ⟨-, h0⟩ | ⟨g, cap, cur, hv, -, hg, h1, h2, -, -⟩
 ·omega
 ·refine ⟨some ⟨g, 0, none⟩, cap, hv, hn, h1, h2, (fun h => by cases h), xs, hE.below hw, fun a ha => ?_⟩
  injection ha with ha
  subst ha;refine ⟨g, 0, rfl, zC hg, fun j u hu => ?_⟩;have := hown.cells (g := g) (by rw [hv]; rfl) j u hu;rw [show (⟨g, 0, none⟩ : Addr).add j = ⟨g, j, none⟩ by unfold Addr.add; by_cases h : j = 0 <;> simp [h]] at this
  rw [Nat.zero_add]; exact this) : P := h
theorem zG4 {P : Prop} (h : P := by
 obtain ⟨k0, k1', -, -, -⟩ := zF HRS.out.1;obtain ⟨k2', k3', k4', -, -, -, -⟩ := cells3 HRS.out.2.1;refine bodyPost_ret (v := .tuple #[.agg #[.int .i8 0, .slice G m cg], .agg #[.int .i64 91, .int .i64 h.pos, .string ⟨#[]⟩]]) (by simp [results, Tryz.results15, go_sem, k0, k1', k2', k3', k4']) rfl ?_
 exact HRR.out ▸ Qr.Post.mk (a := (0, .nil)) (Qr.Nz.fault h (by decide)) ⟨rfl, rfl, rfl, rfl⟩ (HLF.out.weak (fun b _ hq => hq.out (by omega))) HRS.out.2.2) : P := h
theorem zFB {P : Prop} (h : P := by
 have hbs := hbw.size;have hzz := HZ.out;have hbs2 := hb.size
 exact ⟨pd hdf, ps hsz, KX hx, K1 y0, K1 y1, K1 y2, K1 y3, K1 y4, (fun _ => pS hsz), K1 y6, hbw.trans (hb.mono hbw.size)⟩) : P := h
theorem zEW {P : Prop} (h : P := by
 have HP : Ck.Post Q w R e u := by rw [HR.out, hr1]; exact Ck.Gave.from hg (hfrom.out w' hbw)
 exact vG) : P := h
theorem zFv {P : Prop} (h : P := by
 intro v' w' hown hg;have hfin := HFIN.out v' w' (by simpa using hown) hg;obtain ⟨G, k, rfl, h1, h2⟩ := hfin;have HF := k0_ (And.intro h1 h2);clear h1 h2 hown hg
 go_wp2_with fail
 go_ret
 exact ⟨G, k, rfl, HF.out.1, HF.out.2⟩) : P := h
theorem zEU {P : Prop} (h : P := by
 obtain ⟨g, rfl, -⟩ := hg
 go_wp2_with fail
 exact ⟨rfl, HP⟩) : P := h
theorem zF9 {P : Prop} (h : P := by
 have hz := HZ.out
 refine ⟨rfl, rfl, ⟨rfl, rfl, rfl, rfl, rfl, rfl⟩, FH, FH, FH, FH, FH, FH, FH, (Below.refl _ _).drew⟩) : P := h
theorem zF8 {P : Prop} (h : P := by
 exact HF.out ▸ Qr.Post.mk (Qr.Nz.ok _) ⟨rfl, rfl, rfl, rfl⟩ (HLF.out.weak (fun b _ hq => hq.out (by omega))) HRS.out.2.2) : P := h
theorem zET {P : Prop} (h : P := by
 rcases Nat.lt_or_ge i 15 with q | q
 ·exact q
 ·exact jY) : P := h
theorem zF4 {P : Prop} (h : P := by
 exact (h5.trans (hwu.mono h5.size)).grown hg (Nat.le_trans h5.size hwu.size) fun q hq => (hlt q hq).1) : P := h
theorem zFh {P : Prop} (h : P := by
 go_wp2_with fail
 exact bodyPost_ret (v := .agg #[.int .i8 2, .slice none 0 0]) (by simp [results, Tryz.results119, go_sem, *]) rfl ⟨rfl, zG HB2.out (Nat.le_refl _) _ _⟩) : P := h
theorem zFf {P : Prop} (h : P := by
 have HP : Ck.Post Q w R e w2 := by rw [HR.out, if_neg (zY (show rv.D.asO 5 (Ck.TT h) = false from hq))]; exact Ck.Gave.from hg (hfrom.out w1 (Below.refl _ _))
 exact zEU) : P := h
theorem zFe {P : Prop} (h : P := by
 injection ha with ha
 subst ha;refine ⟨X, 0, rfl, zC hX, fun j u hu => ?_⟩;rw [Nat.zero_add]
 exact cell_of_heap hX j (by rw [← Array.getElem?_toList]; exact hu)) : P := h
theorem zFc {P : Prop} (h : P := by
 rw [← zBC h1 h1'] at hrun;unfold Oper.wp
 simp [execOp, hop, resolve, invoke, builtin, hs, hx, hrun, Result.andThen]
 exact hK' _ _ (hK v' w' r1 r2)) : P := h
theorem zDu {P : Prop} (h : P := by
 rcases Nat.lt_or_ge i 17 with q | q
 ·exact q
 ·exact jY) : P := h
theorem zEn {P : Prop} (h : P := by
 obtain ⟨g, rfl, -⟩ := hg;clear hr1 r0 r1 r2 r3 r4 rl q0 q1 q2 q3 q4 q5 q6 q7 q8 q9 q10 ql
 go_wp2_with fail
 exact ⟨rfl, HP⟩) : P := h
theorem zEl {P : Prop} (h : P := by
 refine ⟨n, rfl, Nat.le_refl _, fun j y hj hy => ?_, Below.refl _ _⟩;have hnn := HN.out
 rw [List.getElem?_eq_none (by omega)] at hy; cases hy) : P := h
end Go.Proofs.YtglgjaomneljbaaGreatDoor
