/-
  P3.6: what counts is the whole of a term. The law's walk.
-/
import Derived.Test.YtfkbdpehdabepaaGreatDoorOnceT
import Derived.Test.YtfkbdpehdabepaaGreatDoorOnce0
import Derived.Test.YtfkbdpehdabepaaGreatDoorNames
import Derived.Deep.RegionHeld3
import Derived.Test.YtfkbdpehdabepaaGreatDoorOnceB
namespace Go.Proofs.YtfkbdpehdabepaaGreatDoor
open Go.RowKit

/-- a kid of a term that is one is smaller -/
theorem Tm.kid_small {h g : Hd} {kk kids : Tm} (hc : Tm.chk h kids = 0) (hn : Tm.nd g kk ≤ Tm.nodes kids) (hd : Tm.dp g kk ≤ Tm.dep kids) (ho : Tm.okT g kk = true) :
    Tm.chk g kk = 0 ∧ Tm.nod g kk < Tm.nod h kids ∧ Tm.dpt g kk < Tm.dpt h kids := by
  obtain ⟨-, h1, h2⟩ := Tm.chk_ok hc
  have e1 : Tm.nd h kids = 1 + Tm.tyN h + Tm.nodes kids := rfl
  have e2 : Tm.dp h kids = 1 + max (Tm.tyD h) (Tm.dep kids) := rfl
  refine ⟨?_, ?_, ?_⟩
  · unfold Tm.chk; rw [if_neg (by omega), if_neg (by omega), if_pos ho]
  · unfold Tm.nod; omega
  · unfold Tm.dpt; rw [if_neg (by omega), if_neg (by omega)]; omega

/-- a round's state -/
structure OR (w w4 wr : World) (kids : Tm) (A : Option Addr) (n i : Nat) (rest : Tm) : Prop where
  i_eq : i + Tm.len rest = n
  lies : Tm.Lies w rest A i
  ok : Tm.okF rest = true
  nd : Tm.nodes rest ≤ Tm.nodes kids
  dp : Tm.dep rest ≤ Tm.dep kids
  below : Below w4.heap.size w4 wr

attribute [local go_sem ↓] Go.wp_at_zero Go.wp_at_succ
set_option maxHeartbeats 8000000 in
set_option maxRecDepth 100000 in
theorem law_TermsOnce (h : Hd) (kids : Tm) (p : Pl) (w : World) (hIs : Tm.Is w h kids p) (hG : TGlob w) :
    Calls Tryz.prog 4 #[.agg #[.int .i8 h.kind, .string h.name, .string h.arg, .int .i64 h.num, .int .i8 h.tk, .slice p.TA p.tn p.tc, .int .i8 h.uk, .slice p.UA p.un p.uc, .int .i64 h.label, .int .i64 h.pos, .slice p.A p.n p.c]] w fun e w' => e = .returned (.bool true) ∧ Below w.heap.size w w' := by
  have hB0 : Below w.heap.size w (w.alloc (.cells #[.int .i8 h.kind, .string h.name, .string h.arg, .int .i64 h.num, .int .i8 h.tk, .slice p.TA p.tn p.tc, .int .i8 h.uk, .slice p.UA p.un p.uc, .int .i64 h.label, .int .i64 h.pos, .slice p.A p.n p.c] 28)) := (Below.refl _ _).alloc (Nat.le_refl _) _
  have HX := Lib.hid (heap_new w (.cells #[.int .i8 h.kind, .string h.name, .string h.arg, .int .i64 h.num, .int .i8 h.tk, .slice p.TA p.tn p.tc, .int .i8 h.uk, .slice p.UA p.un p.uc, .int .i64 h.label, .int .i64 h.pos, .slice p.A p.n p.c] 28))
  have CB := Lib.hid (fun (W : World) (hb : Below w.heap.size w W) => tbare_any h kids p W (hIs.below hb) (hG.below hb))
  have CC := Lib.hid (fun (W : World) (hb : Below w.heap.size w W) => tcheck_any h kids p W (hIs.below hb) (hG.below hb))
  have CS := Lib.hid (fun (W : World) (hb : Below w.heap.size w W) => tm_same_any h kids p h kids p W (hIs.below hb) (hIs.below hb) (hG.below hb))
  have HIs := Lib.hid hIs
  have HG := Lib.hid hG
  have HB0 := Lib.hid hB0
  clear hB0 hIs hG
  by_cases h0 : Tm.chk h kids = 0
  · have ea : Tm.bH h kids = Tm.cnt h := by unfold Tm.bH; rw [if_pos h0]
    have ek : Tm.bK h kids = Tm.bF kids := by unfold Tm.bK; rw [if_pos h0]
    have es := Tm.same_bare h0
    have ex := Tm.frS_bare h kids
    have en := Tm.nod_bare h kids
    have ed := Tm.dpt_bare h kids
    have ec := Tm.chk_bare h kids
    have ea2 : Tm.bH (Tm.cnt h) (Tm.bF kids) = Tm.cnt h := by unfold Tm.bH; rw [if_pos (ec.trans h0), Tm.cnt_cnt]
    have ek2 : Tm.bK (Tm.cnt h) (Tm.bF kids) = Tm.bF kids := by unfold Tm.bK; rw [if_pos (ec.trans h0), Tm.bF_bF]
    rw [h0] at CC
    have hxl := Tm.frS_len h kids
    unfold BareP at CB
    rw [ea, ek] at CB
    have HE := Lib.hid (And.intro es.1 (And.intro es.2 (And.intro ex (And.intro en (And.intro ed (And.intro ea2 ek2))))))
    have H0 := Lib.hid h0
    clear ea ek es ex en ed ec ea2 ek2 h0 CS
    obtain ⟨a0, a1, a2, a3, a4, a5, a6, a7, a8, a9, a10, al⟩ := own11 HX.out
    go_enter Tryz.func4, Tryz.ntmps4
    go_wp2_with fail
    refine (CB.out _ HB0.out).mono ?_
    rintro e u1 ⟨pb, rfl, hIb, hb⟩
    have HB1 := Lib.hid (HB0.out.trans (hb.mono HB0.out.size))
    have HX1 := Lib.hid (heap_below hb (by simp) HX.out)
    have HIb := Lib.hid hIb
    clear hb hIb a0 a1 a2 a3 a4 a5 a6 a7 a8 a9 a10 al
    obtain ⟨a0, a1, a2, a3, a4, a5, a6, a7, a8, a9, a10, al⟩ := own11 HX1.out
    go_upto_region 2 with fail
    have HB2 := Lib.hid (HB1.out.alloc HB1.out.size (.cells #[.int .i8 (Tm.cnt h).kind, .string (Tm.cnt h).name, .string (Tm.cnt h).arg, .int .i64 (Tm.cnt h).num, .int .i8 (Tm.cnt h).tk, .slice pb.TA pb.tn pb.tc, .int .i8 (Tm.cnt h).uk, .slice pb.UA pb.un pb.uc, .int .i64 (Tm.cnt h).label, .int .i64 (Tm.cnt h).pos, .slice pb.A pb.n pb.c] 28))
    have HX2 := Lib.hid (heap_old HX1.out (.cells #[.int .i8 (Tm.cnt h).kind, .string (Tm.cnt h).name, .string (Tm.cnt h).arg, .int .i64 (Tm.cnt h).num, .int .i8 (Tm.cnt h).tk, .slice pb.TA pb.tn pb.tc, .int .i8 (Tm.cnt h).uk, .slice pb.UA pb.un pb.uc, .int .i64 (Tm.cnt h).label, .int .i64 (Tm.cnt h).pos, .slice pb.A pb.n pb.c] 28))
    have HY2 := Lib.hid (heap_new u1 (.cells #[.int .i8 (Tm.cnt h).kind, .string (Tm.cnt h).name, .string (Tm.cnt h).arg, .int .i64 (Tm.cnt h).num, .int .i8 (Tm.cnt h).tk, .slice pb.TA pb.tn pb.tc, .int .i8 (Tm.cnt h).uk, .slice pb.UA pb.un pb.uc, .int .i64 (Tm.cnt h).label, .int .i64 (Tm.cnt h).pos, .slice pb.A pb.n pb.c] 28))
    have HI2 := Lib.hid (HIb.out.alloc (.cells #[.int .i8 (Tm.cnt h).kind, .string (Tm.cnt h).name, .string (Tm.cnt h).arg, .int .i64 (Tm.cnt h).num, .int .i8 (Tm.cnt h).tk, .slice pb.TA pb.tn pb.tc, .int .i8 (Tm.cnt h).uk, .slice pb.UA pb.un pb.uc, .int .i64 (Tm.cnt h).label, .int .i64 (Tm.cnt h).pos, .slice pb.A pb.n pb.c] 28))
    have hnl : w.heap.size ≠ u1.heap.size := by omega
    clear a0 a1 a2 a3 a4 a5 a6 a7 a8 a9 a10 al HX HX1 HIb HB1
    generalize u1.alloc (.cells #[.int .i8 (Tm.cnt h).kind, .string (Tm.cnt h).name, .string (Tm.cnt h).arg, .int .i64 (Tm.cnt h).num, .int .i8 (Tm.cnt h).tk, .slice pb.TA pb.tn pb.tc, .int .i8 (Tm.cnt h).uk, .slice pb.UA pb.un pb.uc, .int .i64 (Tm.cnt h).label, .int .i64 (Tm.cnt h).pos, .slice pb.A pb.n pb.c] 28) = u2 at *
    generalize u1.heap.size = M at *
    obtain ⟨a0, a1, a2, a3, a4, a5, a6, a7, a8, a9, a10, al⟩ := own11 HX2.out
    go_wp2_with fail
    refine (CC.out _ HB2.out).mono ?_
    rintro e u3 ⟨rfl, hb⟩
    have HB3 := Lib.hid (HB2.out.trans (hb.mono HB2.out.size))
    have HX := Lib.hid (RowEl.of_heap (heap_below hb (heap_lt HX2.out) HX2.out))
    have HY := Lib.hid (RowEl.of_heap (heap_below hb (heap_lt HY2.out) HY2.out))
    have HI3 := Lib.hid (HI2.out.below hb)
    have HIt := Lib.hid (HIs.out.below HB3.out)
    have HG3 := Lib.hid (HG.out.below HB3.out)
    clear hb a0 a1 a2 a3 a4 a5 a6 a7 a8 a9 a10 al HX2 HY2 HI2 HB2
    go_wp2_with fail
    have E := HE.out
    have C1 := Lib.hid (fun (W : World) (hb : Below u3.heap.size u3 W) => E.1 ▸ tm_same_any h kids p (Tm.cnt h) (Tm.bF kids) pb W (HIt.out.below hb) (HI3.out.below hb) (HG3.out.below hb))
    have C2 := Lib.hid (fun (W : World) (hb : Below u3.heap.size u3 W) => E.2.1 ▸ tm_same_any (Tm.cnt h) (Tm.bF kids) pb h kids p W (HI3.out.below hb) (HIt.out.below hb) (HG3.out.below hb))
    have C3 := Lib.hid (fun (W : World) (hb : Below u3.heap.size u3 W) => (show Calls Tryz.prog 10 #[.agg #[.int .i8 (Tm.cnt h).kind, .string (Tm.cnt h).name, .string (Tm.cnt h).arg, .int .i64 (Tm.cnt h).num, .int .i8 (Tm.cnt h).tk, .slice pb.TA pb.tn pb.tc, .int .i8 (Tm.cnt h).uk, .slice pb.UA pb.un pb.uc, .int .i64 (Tm.cnt h).label, .int .i64 (Tm.cnt h).pos, .slice pb.A pb.n pb.c]] W (fun e w' => ∃ p3, e = .returned (.agg #[.int .i8 (Tm.cnt h).kind, .string (Tm.cnt h).name, .string (Tm.cnt h).arg, .int .i64 (Tm.cnt h).num, .int .i8 (Tm.cnt h).tk, .slice p3.TA p3.tn p3.tc, .int .i8 (Tm.cnt h).uk, .slice p3.UA p3.un p3.uc, .int .i64 (Tm.cnt h).label, .int .i64 (Tm.cnt h).pos, .slice p3.A p3.n p3.c]) ∧ Tm.Is w' (Tm.cnt h) (Tm.bF kids) p3 ∧ Below W.heap.size W w') from by
      have q := tbare_any (Tm.cnt h) (Tm.bF kids) pb W (HI3.out.below hb) (HG3.out.below hb)
      unfold BareP at q
      rw [E.2.2.2.2.2.1, E.2.2.2.2.2.2] at q
      exact q))
    have C4 := Lib.hid (fun (p3 : Pl) (W : World) (hb : Below u3.heap.size u3 W) (hI : Tm.Is W (Tm.cnt h) (Tm.bF kids) p3) => whole_any (Tm.nodes (Tm.bF kids) + 1) (Tm.cnt h) (Tm.bF kids) p3 pb W (by omega) hI (HI3.out.below hb))
    have C5 := Lib.hid (fun (W : World) (hb : Below u3.heap.size u3 W) => ((E.2.2.1 ▸ tfree_any (Tm.cnt h) (Tm.bF kids) pb W (HI3.out.below hb) (HG3.out.below hb) : Calls _ _ _ W (FreePost W (Tm.frS h kids)))).mono fun _ _ q => q.row)
    have C6 := Lib.hid (fun (W : World) (hb : Below u3.heap.size u3 W) => (tfree_any h kids p W (HIt.out.below hb) (HG3.out.below hb)).mono fun _ _ q => q.row)
    have C7 := Lib.hid (fun (W : World) (hb : Below u3.heap.size u3 W) => E.2.2.2.1 ▸ tnodes_any (Tm.cnt h) (Tm.bF kids) pb W (HI3.out.below hb) (HG3.out.below hb).terms)
    have C8 := Lib.hid (fun (W : World) (hb : Below u3.heap.size u3 W) => tnodes_any h kids p W (HIt.out.below hb) (HG3.out.below hb).terms)
    have C9 := Lib.hid (fun (W : World) (hb : Below u3.heap.size u3 W) => E.2.2.2.2.1 ▸ tdepth_any (Tm.cnt h) (Tm.bF kids) pb W (HI3.out.below hb) (HG3.out.below hb).terms)
    have C10 := Lib.hid (fun (W : World) (hb : Below u3.heap.size u3 W) => tdepth_any h kids p W (HIt.out.below hb) (HG3.out.below hb).terms)
    clear E
    generalize hxs : Tm.frS h kids = xs at *
    have D : Below u3.heap.size u3 u3.drew := (Below.refl _ _).drew
    clear hxs
    go_upto_region 4 with fail
    go_cut [58] (fun s wx => s = .bool false ∧ Below u3.heap.size u3 wx)
    case first =>
      generalize hN : ((Tm.nod h kids : Nat) : Int) = N at *
      generalize hP : ((Tm.dpt h kids : Nat) : Int) = P at *
      clear hN hP
      have e1 : (N != N) = false := by simp
      have e2 : (P != P) = false := by simp
      go_region_held3 (fun w' => (w'.cell? ⟨w.heap.size, 0, none⟩ = some (.int .i8 h.kind) ∧ w'.cell? ⟨w.heap.size, 1, none⟩ = some (.string h.name) ∧ w'.cell? ⟨w.heap.size, 2, none⟩ = some (.string h.arg) ∧ w'.cell? ⟨w.heap.size, 3, none⟩ = some (.int .i64 h.num) ∧ w'.cell? ⟨w.heap.size, 4, none⟩ = some (.int .i8 h.tk) ∧ w'.cell? ⟨w.heap.size, 5, none⟩ = some (.slice p.TA p.tn p.tc) ∧ w'.cell? ⟨w.heap.size, 6, none⟩ = some (.int .i8 h.uk) ∧ w'.cell? ⟨w.heap.size, 7, none⟩ = some (.slice p.UA p.un p.uc) ∧ w'.cell? ⟨w.heap.size, 8, none⟩ = some (.int .i64 h.label) ∧ w'.cell? ⟨w.heap.size, 9, none⟩ = some (.int .i64 h.pos) ∧ w'.cell? ⟨w.heap.size, 10, none⟩ = some (.slice p.A p.n p.c)) ∧ (w'.cell? ⟨M, 0, none⟩ = some (.int .i8 (Tm.cnt h).kind) ∧ w'.cell? ⟨M, 1, none⟩ = some (.string (Tm.cnt h).name) ∧ w'.cell? ⟨M, 2, none⟩ = some (.string (Tm.cnt h).arg) ∧ w'.cell? ⟨M, 3, none⟩ = some (.int .i64 (Tm.cnt h).num) ∧ w'.cell? ⟨M, 4, none⟩ = some (.int .i8 (Tm.cnt h).tk) ∧ w'.cell? ⟨M, 5, none⟩ = some (.slice pb.TA pb.tn pb.tc) ∧ w'.cell? ⟨M, 6, none⟩ = some (.int .i8 (Tm.cnt h).uk) ∧ w'.cell? ⟨M, 7, none⟩ = some (.slice pb.UA pb.un pb.uc) ∧ w'.cell? ⟨M, 8, none⟩ = some (.int .i64 (Tm.cnt h).label) ∧ w'.cell? ⟨M, 9, none⟩ = some (.int .i64 (Tm.cnt h).pos) ∧ w'.cell? ⟨M, 10, none⟩ = some (.slice pb.A pb.n pb.c)))
        (exact ⟨HX.out.below D, HY.out.below D⟩)
        (first
        | (go_at_call 13; (with_reducible refine (C1.out _ D).mono ?_); rintro e u ⟨rfl, hb⟩; have D := D.trans (hb.mono D.size); clear hb)
        | (go_at_call 13; (with_reducible refine (C2.out _ D).mono ?_); rintro e u ⟨rfl, hb⟩; have D := D.trans (hb.mono D.size); clear hb)
        | (go_at_call 10; (with_reducible refine (C3.out _ D).mono ?_); rintro e u ⟨p3, rfl, hI3, hb⟩; have I3 := Lib.hid hI3; clear hI3; have D := D.trans (hb.mono D.size); clear hb)
        | (go_at_call 9; (with_reducible refine (C4.out _ _ D I3.out).mono ?_); rintro e u ⟨rfl, hb⟩; have D := D.trans (hb.mono D.size); clear hb)
        | (go_at_call 15; (with_reducible refine (C5.out _ D).mono ?_); rintro e u ⟨A2, c2, rfl, hr, hb⟩; have F2 := Lib.hid (And.intro (R1.out.below hb) hr); clear hr; have D := D.trans (hb.mono D.size); clear hb)
        | (go_at_call 15; (with_reducible refine (C6.out _ D).mono ?_); rintro e u ⟨A2, c2, rfl, hr, hb⟩; have F2 := Lib.hid (And.intro (R1.out.below hb) hr); clear hr; have D := D.trans (hb.mono D.size); clear hb)
        | (go_at_call 15; (with_reducible refine (C5.out _ D).mono ?_); rintro e u ⟨A1, c1, rfl, hr, hb⟩; have R1 := Lib.hid hr; clear hr; have D := D.trans (hb.mono D.size); clear hb)
        | (go_at_call 15; (with_reducible refine (C6.out _ D).mono ?_); rintro e u ⟨A1, c1, rfl, hr, hb⟩; have R1 := Lib.hid hr; clear hr; have D := D.trans (hb.mono D.size); clear hb)
        | (go_at_call 14; (with_reducible refine (names_any xs _ _ _ _ _ (by omega) F2.out.1 F2.out.2).mono ?_); rintro e u ⟨rfl, hb⟩; have D := D.trans (hb.mono D.size); clear hb)
        | (go_at_call 14; (with_reducible refine (names_any xs _ _ _ _ _ (by omega) F2.out.2 F2.out.1).mono ?_); rintro e u ⟨rfl, hb⟩; have D := D.trans (hb.mono D.size); clear hb)
        | (go_at_call 16; (with_reducible refine (C7.out _ D).mono ?_); rintro e u ⟨rfl, hb⟩; have D := D.trans (hb.mono D.size); clear hb)
        | (go_at_call 16; (with_reducible refine (C8.out _ D).mono ?_); rintro e u ⟨rfl, hb⟩; have D := D.trans (hb.mono D.size); clear hb)
        | (go_at_call 17; (with_reducible refine (C9.out _ D).mono ?_); rintro e u ⟨rfl, hb⟩; have D := D.trans (hb.mono D.size); clear hb)
        | (go_at_call 17; (with_reducible refine (C10.out _ D).mono ?_); rintro e u ⟨rfl, hb⟩; have D := D.trans (hb.mono D.size); clear hb))
      all_goals
        go_wp2_with fail
        go_meet
        exact ⟨rfl, D⟩
    case rest =>
      obtain ⟨rfl, F5⟩ := hcut
      have HXC := Lib.hid (fun (W : World) (hb : Below u3.heap.size u3 W) => (show (W.cell? ⟨w.heap.size, 0, none⟩ = some (.int .i8 h.kind) ∧ W.cell? ⟨w.heap.size, 1, none⟩ = some (.string h.name) ∧ W.cell? ⟨w.heap.size, 2, none⟩ = some (.string h.arg) ∧ W.cell? ⟨w.heap.size, 3, none⟩ = some (.int .i64 h.num) ∧ W.cell? ⟨w.heap.size, 4, none⟩ = some (.int .i8 h.tk) ∧ W.cell? ⟨w.heap.size, 5, none⟩ = some (.slice p.TA p.tn p.tc) ∧ W.cell? ⟨w.heap.size, 6, none⟩ = some (.int .i8 h.uk) ∧ W.cell? ⟨w.heap.size, 7, none⟩ = some (.slice p.UA p.un p.uc) ∧ W.cell? ⟨w.heap.size, 8, none⟩ = some (.int .i64 h.label) ∧ W.cell? ⟨w.heap.size, 9, none⟩ = some (.int .i64 h.pos) ∧ W.cell? ⟨w.heap.size, 10, none⟩ = some (.slice p.A p.n p.c)) from HX.out.below hb))
      obtain ⟨x0, x1, x2, x3, x4, x5, x6, x7, x8, x9, x10⟩ := HXC.out _ F5
      have hwl : w.heap.size < u3.heap.size := Ty.cell_lt (HXC.out _ (Below.refl _ _)).1
      have hL := HIs.out.lies
      have hpn := HIs.out.fit.n_eq
      have hpc : p.n ≤ maxLen := Nat.le_trans HIs.out.fit.n_le HIs.out.fit.c_le
      have i5 : (p.n : Int) ≤ 9223372036854775807 := by unfold maxLen at hpc; omega
      have hok : Tm.okF kids = true := by have q := (Tm.chk_ok H0.out).1; unfold Tm.okT at q; rw [Bool.and_eq_true] at q; exact q.2
      have HST := Lib.hid (⟨by omega, hL, hok, Nat.le_refl _, Nat.le_refl _, F5⟩ : OR w u3 _ kids p.A p.n 0 kids)
      clear hL hpn hpc hok HX HY C1 C2 C3 C4 C5 C6 C7 C9 D
      generalize p.A = PA at *
      generalize p.n = n at *
      go_wp2_with fail
      go_loopw [62] (fun v wr => ∃ (i : Nat) (rest : Tm), v = .int .i64 i ∧ OR w u3 wr kids PA n i rest) (fun v _ => n - (intOf v).toNat)
      case atStart => exact ⟨0, kids, rfl, HST.out⟩
      case round =>
        obtain ⟨i, rest, rfl, hR⟩ := hrel
        clear HST x0 x1 x2 x3 x4 x5 x6 x7 x8 x9 x10 F5
        cases rest with
        | nil =>
          have hi : i = n := by have := hR.i_eq; simpa [Tm.len] using this
          have HBW := Lib.hid (HB3.out.trans (hR.below.mono HB3.out.size))
          clear hR
          subst hi
          go_wp2_with fail
          go_ret
          exact ⟨rfl, HBW.out⟩
        | node g kk r =>
          have q1 := hR.i_eq
          have q2 := hR.lies
          have q3 := hR.ok
          have q4 := hR.nd
          have q5 := hR.dp
          have hbw := HB3.out.trans (hR.below.mono HB3.out.size)
          have hb3 := hR.below
          simp only [Tm.len, Tm.nodes, Tm.dep, Tm.okF, Bool.and_eq_true] at q1 q3 q4 q5
          obtain ⟨bb, oo, q, hA, hcs, hfit, hl3, hl4⟩ := q2
          have hokk : Tm.okT g kk = true := by unfold Tm.okT; rw [Bool.and_eq_true]; exact q3.1
          obtain ⟨s1, s2, s3⟩ := Tm.kid_small H0.out (g := g) (kk := kk) (by show 1 + Tm.tyN g + Tm.nodes kk ≤ _; omega) (by show 1 + max (Tm.tyD g) (Tm.dep kk) ≤ _; omega) hokk
          have hcs' : ∀ j v, (g.cells q)[j]? = some v → wr.cell? ⟨bb, oo + i * 11 + j, none⟩ = some v := fun j v hv => by
            have := hcs j v hv
            rw [hbw.cell (p := ⟨bb, _, none⟩) (Ty.cell_lt this)]; exact this
          have hIk : Tm.Is (wr.alloc (.cells #[.int .i8 g.kind, .string g.name, .string g.arg, .int .i64 g.num, .int .i8 g.tk, .slice q.TA q.tn q.tc, .int .i8 g.uk, .slice q.UA q.un q.uc, .int .i64 g.label, .int .i64 g.pos, .slice q.A q.n q.c] 28)) g kk q := (Tm.Is.below ⟨hfit, hl3⟩ hbw).alloc _
          have hbk : Below u3.heap.size u3 (wr.alloc (.cells #[.int .i8 g.kind, .string g.name, .string g.arg, .int .i64 g.num, .int .i8 g.tk, .slice q.TA q.tn q.tc, .int .i8 g.uk, .slice q.UA q.un q.uc, .int .i64 g.label, .int .i64 g.pos, .slice q.A q.n q.c] 28)) := hb3.alloc hb3.size _
          have hxk := heap_new wr (.cells #[.int .i8 g.kind, .string g.name, .string g.arg, .int .i64 g.num, .int .i8 g.tk, .slice q.TA q.tn q.tc, .int .i8 g.uk, .slice q.UA q.un q.uc, .int .i64 g.label, .int .i64 g.pos, .slice q.A q.n q.c] 28)
          have hsz := hb3.size
          have hxl := HB3.out.size
          obtain ⟨c0, c1, c2, c3, c4, c5, c6, c7, c8, c9, c10⟩ := Tm.row hcs'
          have j1 : (i : Int) < n := by omega
          have HR := Lib.hid hR
          have HL4 := Lib.hid hl4
          have HQ := Lib.hid q3.2
          clear hR hcs hcs' hfit hl3 hl4 q3 hokk hbw hb3
          obtain rfl := hA
          go_upto_region 9 with fail
          generalize wr.alloc (.cells #[.int .i8 g.kind, .string g.name, .string g.arg, .int .i64 g.num, .int .i8 g.tk, .slice q.TA q.tn q.tc, .int .i8 g.uk, .slice q.UA q.un q.uc, .int .i64 g.label, .int .i64 g.pos, .slice q.A q.n q.c] 28) = wk at *
          have K1 := Lib.hid (fun (W : World) (hb : Below wk.heap.size wk W) => (show Calls Tryz.prog 12 #[.agg #[.int .i8 g.kind, .string g.name, .string g.arg, .int .i64 g.num, .int .i8 g.tk, .slice q.TA q.tn q.tc, .int .i8 g.uk, .slice q.UA q.un q.uc, .int .i64 g.label, .int .i64 g.pos, .slice q.A q.n q.c]] W (fun e w' => e = .returned (.int .i64 0) ∧ Below W.heap.size W w') from by
            have z := tcheck_any g kk q W (hIk.below hb) (HG3.out.below (hbk.trans (hb.mono hbk.size))); rw [s1] at z; exact z))
          have K2 := Lib.hid (fun (W : World) (hb : Below wk.heap.size wk W) => tnodes_any g kk q W (hIk.below hb) (HG3.out.below (hbk.trans (hb.mono hbk.size))).terms)
          have K3 := Lib.hid (fun (W : World) (hb : Below wk.heap.size wk W) => C8.out W (hbk.trans (hb.mono hbk.size)))
          have K4 := Lib.hid (fun (W : World) (hb : Below wk.heap.size wk W) => tdepth_any g kk q W (hIk.below hb) (HG3.out.below (hbk.trans (hb.mono hbk.size))).terms)
          have K5 := Lib.hid (fun (W : World) (hb : Below wk.heap.size wk W) => C10.out W (hbk.trans (hb.mono hbk.size)))
          have HY := Lib.hid (fun (W : World) (hb : Below wk.heap.size wk W) => RowEl.of_heap (heap_below hb (heap_lt hxk) hxk))
          have HZ := Lib.hid (fun (W : World) (hb : Below wk.heap.size wk W) => HXC.out W (hbk.trans (hb.mono hbk.size)))
          have HBK := Lib.hid hbk
          have hMn : w.heap.size ≠ wr.heap.size := by omega
          clear hIk hbk hxk
          generalize wr.heap.size = KB at *
          generalize hN : ((Tm.nod h kids : Nat) : Int) = N at *
          generalize hP : ((Tm.dpt h kids : Nat) : Int) = P at *
          generalize hN2 : ((Tm.nod g kk : Nat) : Int) = N2 at *
          generalize hP2 : ((Tm.dpt g kk : Nat) : Int) = P2 at *
          have t1 : N2 < N := by omega
          have t2 : P2 < P := by omega
          have t3 : decide (N ≤ N2) = false := by simp; omega
          have t4 : decide (P ≤ P2) = false := by simp; omega
          have D : Below wk.heap.size wk wk.drew := (Below.refl _ _).drew
          clear hN hP hN2 hP2 s2 s3
          go_cut [82] (fun s wx => s = .bool false ∧ Below wk.heap.size wk wx)
          case first =>
            go_region_held3 (fun w' => (w'.cell? ⟨KB, 0, none⟩ = some (.int .i8 g.kind) ∧ w'.cell? ⟨KB, 1, none⟩ = some (.string g.name) ∧ w'.cell? ⟨KB, 2, none⟩ = some (.string g.arg) ∧ w'.cell? ⟨KB, 3, none⟩ = some (.int .i64 g.num) ∧ w'.cell? ⟨KB, 4, none⟩ = some (.int .i8 g.tk) ∧ w'.cell? ⟨KB, 5, none⟩ = some (.slice q.TA q.tn q.tc) ∧ w'.cell? ⟨KB, 6, none⟩ = some (.int .i8 g.uk) ∧ w'.cell? ⟨KB, 7, none⟩ = some (.slice q.UA q.un q.uc) ∧ w'.cell? ⟨KB, 8, none⟩ = some (.int .i64 g.label) ∧ w'.cell? ⟨KB, 9, none⟩ = some (.int .i64 g.pos) ∧ w'.cell? ⟨KB, 10, none⟩ = some (.slice q.A q.n q.c)) ∧ (w'.cell? ⟨w.heap.size, 0, none⟩ = some (.int .i8 h.kind) ∧ w'.cell? ⟨w.heap.size, 1, none⟩ = some (.string h.name) ∧ w'.cell? ⟨w.heap.size, 2, none⟩ = some (.string h.arg) ∧ w'.cell? ⟨w.heap.size, 3, none⟩ = some (.int .i64 h.num) ∧ w'.cell? ⟨w.heap.size, 4, none⟩ = some (.int .i8 h.tk) ∧ w'.cell? ⟨w.heap.size, 5, none⟩ = some (.slice p.TA p.tn p.tc) ∧ w'.cell? ⟨w.heap.size, 6, none⟩ = some (.int .i8 h.uk) ∧ w'.cell? ⟨w.heap.size, 7, none⟩ = some (.slice p.UA p.un p.uc) ∧ w'.cell? ⟨w.heap.size, 8, none⟩ = some (.int .i64 h.label) ∧ w'.cell? ⟨w.heap.size, 9, none⟩ = some (.int .i64 h.pos) ∧ w'.cell? ⟨w.heap.size, 10, none⟩ = some (.slice (some ⟨bb, oo, none⟩) n p.c)))
              (exact ⟨HY.out _ D, HZ.out _ D⟩)
              (first
        | (go_at_call 12; (with_reducible refine (K1.out _ D).mono ?_); rintro e u ⟨rfl, hb⟩; have D := D.trans (hb.mono D.size); clear hb)
        | (go_at_call 16; (with_reducible refine (K2.out _ D).mono ?_); rintro e u ⟨rfl, hb⟩; have D := D.trans (hb.mono D.size); clear hb)
        | (go_at_call 16; (with_reducible refine (K3.out _ D).mono ?_); rintro e u ⟨rfl, hb⟩; have D := D.trans (hb.mono D.size); clear hb)
        | (go_at_call 17; (with_reducible refine (K4.out _ D).mono ?_); rintro e u ⟨rfl, hb⟩; have D := D.trans (hb.mono D.size); clear hb)
        | (go_at_call 17; (with_reducible refine (K5.out _ D).mono ?_); rintro e u ⟨rfl, hb⟩; have D := D.trans (hb.mono D.size); clear hb))
            all_goals
              go_wp2_with fail
              go_meet
              exact ⟨rfl, D⟩
          case rest =>
            obtain ⟨rfl, F6⟩ := hcut
            have hR2 : Hid (OR w u3 _ kids (some ⟨bb, oo, none⟩) n (i + 1) r) := Lib.hid ⟨by omega, HL4.out, HQ.out, by omega, by omega, HBK.out.trans (F6.mono HBK.out.size)⟩
            clear F6
            go_wp2_with fail
            go_roundw
            case rel => exact ⟨i + 1, r, by go_num, hR2.out⟩
            case measure => simp [intOf]; omega
  · have ea : Tm.bH h kids = Tm.zero := by unfold Tm.bH; rw [if_neg h0]
    have ek : Tm.bK h kids = .nil := by unfold Tm.bK; rw [if_neg h0]
    have es : Tm.sameT h kids h kids = false := by
      have q : (((Tm.chk h kids : Nat) : Int) == 0) = false := by simp; omega
      unfold Tm.sameT; rw [q]; rfl
    have hc : (((Tm.chk h kids : Nat) : Int) != 0) = true := by simp; omega
    unfold BareP at CB
    rw [ea, ek] at CB
    rw [es] at CS
    generalize Tm.chk h kids = C at *
    clear ea ek es h0
    have CW := Lib.hid (fun (pb : Pl) (W : World) (hI : Tm.Is W Tm.zero .nil pb) => whole_any 1 Tm.zero .nil pb ⟨none, 0, 0, none, 0, 0, none, 0, 0⟩ W (by decide) hI (Tm.is_zero W))
    obtain ⟨a0, a1, a2, a3, a4, a5, a6, a7, a8, a9, a10, al⟩ := own11 HX.out
    go_enter Tryz.func4, Tryz.ntmps4
    go_wp2_with fail
    refine (CB.out _ HB0.out).mono ?_
    rintro e u1 ⟨pb, rfl, hIb, hb⟩
    have HB1 := Lib.hid (HB0.out.trans (hb.mono HB0.out.size))
    have HX1 := Lib.hid (heap_below hb (by simp) HX.out)
    have HIb := Lib.hid hIb
    clear hb hIb a0 a1 a2 a3 a4 a5 a6 a7 a8 a9 a10 al
    go_upto_region 2 with fail
    have HB2 := Lib.hid (HB1.out.alloc HB1.out.size (.cells #[.int .i8 Tm.zero.kind, .string Tm.zero.name, .string Tm.zero.arg, .int .i64 Tm.zero.num, .int .i8 Tm.zero.tk, .slice pb.TA pb.tn pb.tc, .int .i8 Tm.zero.uk, .slice pb.UA pb.un pb.uc, .int .i64 Tm.zero.label, .int .i64 Tm.zero.pos, .slice pb.A pb.n pb.c] 28))
    have HX2 := Lib.hid (heap_old HX1.out (.cells #[.int .i8 Tm.zero.kind, .string Tm.zero.name, .string Tm.zero.arg, .int .i64 Tm.zero.num, .int .i8 Tm.zero.tk, .slice pb.TA pb.tn pb.tc, .int .i8 Tm.zero.uk, .slice pb.UA pb.un pb.uc, .int .i64 Tm.zero.label, .int .i64 Tm.zero.pos, .slice pb.A pb.n pb.c] 28))
    have HY2 := Lib.hid (heap_new u1 (.cells #[.int .i8 Tm.zero.kind, .string Tm.zero.name, .string Tm.zero.arg, .int .i64 Tm.zero.num, .int .i8 Tm.zero.tk, .slice pb.TA pb.tn pb.tc, .int .i8 Tm.zero.uk, .slice pb.UA pb.un pb.uc, .int .i64 Tm.zero.label, .int .i64 Tm.zero.pos, .slice pb.A pb.n pb.c] 28))
    have HI2 := Lib.hid (HIb.out.alloc (.cells #[.int .i8 Tm.zero.kind, .string Tm.zero.name, .string Tm.zero.arg, .int .i64 Tm.zero.num, .int .i8 Tm.zero.tk, .slice pb.TA pb.tn pb.tc, .int .i8 Tm.zero.uk, .slice pb.UA pb.un pb.uc, .int .i64 Tm.zero.label, .int .i64 Tm.zero.pos, .slice pb.A pb.n pb.c] 28))
    clear HX HX1 HIb HB1
    generalize u1.alloc (.cells #[.int .i8 Tm.zero.kind, .string Tm.zero.name, .string Tm.zero.arg, .int .i64 Tm.zero.num, .int .i8 Tm.zero.tk, .slice pb.TA pb.tn pb.tc, .int .i8 Tm.zero.uk, .slice pb.UA pb.un pb.uc, .int .i64 Tm.zero.label, .int .i64 Tm.zero.pos, .slice pb.A pb.n pb.c] 28) = u2 at *
    generalize u1.heap.size = M at *
    obtain ⟨a0, a1, a2, a3, a4, a5, a6, a7, a8, a9, a10, al⟩ := own11 HX2.out
    go_wp2_with fail
    refine (CC.out _ HB2.out).mono ?_
    rintro e u3 ⟨rfl, hb⟩
    have HB3 := Lib.hid (HB2.out.trans (hb.mono HB2.out.size))
    have HX3 := Lib.hid (heap_below hb (heap_lt HX2.out) HX2.out)
    have HY3 := Lib.hid (heap_below hb (heap_lt HY2.out) HY2.out)
    have HI3 := Lib.hid (HI2.out.below hb)
    clear hb a0 a1 a2 a3 a4 a5 a6 a7 a8 a9 a10 al HX2 HY2 HI2 HB2
    obtain ⟨y0, y1, y2, y3, y4, y5, y6, y7, y8, y9, y10, yl⟩ := own11 HY3.out
    go_wp2_with fail
    refine (CW.out pb _ HI3.out).mono ?_
    rintro e u4 ⟨rfl, hb⟩
    have HB4 := Lib.hid (HB3.out.trans (hb.mono HB3.out.size))
    have HX4 := Lib.hid (heap_below hb (heap_lt HX3.out) HX3.out)
    clear hb y0 y1 y2 y3 y4 y5 y6 y7 y8 y9 y10 yl
    obtain ⟨a0, a1, a2, a3, a4, a5, a6, a7, a8, a9, a10, al⟩ := own11 HX4.out
    go_wp2_with fail
    refine (CS.out _ HB4.out).mono ?_
    rintro e u5 ⟨rfl, hb⟩
    have HB5 := Lib.hid (HB4.out.trans (hb.mono HB4.out.size))
    clear hb
    go_wp2_with fail
    go_ret
    exact ⟨rfl, HB5.out⟩
end Go.Proofs.YtfkbdpehdabepaaGreatDoor
