/-
  P5.2: what is told is read as it was. The law's walk.
-/
import Derived.Test.YtocehfklacjgbaaGreatDoorM19
import Derived.Test.YtocehfklacjgbaaGreatDoorM2
import Derived.Test.YtocehfklacjgbaaGreatDoorTx1
import Derived.Test.YtocehfklacjgbaaGreatDoorM11
import Derived.Deep.DeepCutAuto
namespace Go.Proofs.YtocehfklacjgbaaGreatDoor
open Go.RowKit

set_option maxHeartbeats 4000000 in
set_option maxRecDepth 100000 in
theorem law_ShowBack (h : Hd) (kids : Tm) (p : Pl) (w : World) (hIs : Tm.Is w h kids p) (hG : TGlob w) (ht : Tens w) (hnu : Sh.nuT h kids = true) :
    Calls Tryz.prog 4 #[.agg #[.int .i8 h.kind, .string h.name, .string h.arg, .int .i64 h.num, .int .i8 h.tk, .slice p.TA p.tn p.tc, .int .i8 h.uk, .slice p.UA p.un p.uc, .int .i64 h.label, .int .i64 h.pos, .slice p.A p.n p.c]] w fun e w' => e = .returned (.bool true) ∧ Below w.heap.size w w' := by
  have hB0 : Below w.heap.size w (w.alloc (.cells #[.int .i8 h.kind, .string h.name, .string h.arg, .int .i64 h.num, .int .i8 h.tk, .slice p.TA p.tn p.tc, .int .i8 h.uk, .slice p.UA p.un p.uc, .int .i64 h.label, .int .i64 h.pos, .slice p.A p.n p.c] 30)) := (Below.refl _ _).alloc (Nat.le_refl _) _
  have HX := Lib.hid (heap_new w (.cells #[.int .i8 h.kind, .string h.name, .string h.arg, .int .i64 h.num, .int .i8 h.tk, .slice p.TA p.tn p.tc, .int .i8 h.uk, .slice p.UA p.un p.uc, .int .i64 h.label, .int .i64 h.pos, .slice p.A p.n p.c] 30))
  have HB0 := Lib.hid hB0
  have hlt := heap_lt HX.out
  have C1 := Lib.hid (stext_any h kids p _ (hIs.below hB0) (hG.below hB0) (ht.below hB0) hnu)
  by_cases he : Sh.txE h kids = 0
  · obtain ⟨hc, g, hs, hz⟩ := Sh.tx_ok hnu he
    obtain ⟨t0, t1, t2⟩ := Sh.told_pt g _ hs
    obtain ⟨g', u, hsame, hout⟩ := Sh.told_out g hc _ hs hz
    have C2 := Lib.hid (fun (W : World) (hb : Below w.heap.size w W) => pterm_any (Sh.txS h kids) W (hG.below hb))
    have C3 := Lib.hid (fun (W : World) (hb : Below w.heap.size w W) (p' : Pl) (hI : Tm.Is W g' u p') => tm_same_any h kids p g' u p' W (hIs.below hb) hI (hG.below hb))
    rw [hsame] at C3
    have C4 := Lib.hid (fun (W : World) => parted_any (Sh.txS h kids) W hz t0 t1 t2)
    have HO := Lib.hid hout
    rw [he] at C1
    generalize Sh.txS h kids = S at *
    clear hIs hG ht hnu he hc g hs hz t0 t1 t2 hsame hout hB0
    go_enter Tryz.func4, Tryz.ntmps4
    go_wp2_with fail
    refine C1.out.mono ?_
    rintro e w3 ⟨rfl, hb3⟩
    have HB3 := Lib.hid (HB0.out.trans (hb3.mono HB0.out.size))
    have R3 := Lib.hid (heap_below hb3 hlt HX.out)
    clear hb3
    go_wp2_with fail
    refine (C2.out _ HB3.out).mono ?_
    rintro e w4 ⟨q, hq, hp⟩
    obtain rfl := TxOut.det HO.out hq
    obtain ⟨p', rfl, hf, hb4⟩ := hp
    have hb5 : Below w4.heap.size w4 (w4.alloc (.cells #[.int .i8 g'.kind, .string g'.name, .string g'.arg, .int .i64 g'.num, .int .i8 g'.tk, .slice p'.TA p'.tn p'.tc, .int .i8 g'.uk, .slice p'.UA p'.un p'.uc, .int .i64 g'.label, .int .i64 g'.pos, .slice p'.A p'.n p'.c] 30)) := (Below.refl _ _).alloc (Nat.le_refl _) _
    have HB5 := Lib.hid (HB3.out.trans ((hb4.trans (hb5.mono hb4.size)).mono HB3.out.size))
    have hR4 := heap_below hb4 (heap_lt R3.out) R3.out
    have R5 := Lib.hid (heap_below hb5 (heap_lt hR4) hR4)
    have U5 := Lib.hid (heap_new w4 (.cells #[.int .i8 g'.kind, .string g'.name, .string g'.arg, .int .i64 g'.num, .int .i8 g'.tk, .slice p'.TA p'.tn p'.tc, .int .i8 g'.uk, .slice p'.UA p'.un p'.uc, .int .i64 g'.label, .int .i64 g'.pos, .slice p'.A p'.n p'.c] 30))
    have HI5 := Lib.hid (hf.is.below hb5)
    clear hq hf hb4 hb5 hR4 HO C2
    go_upto_region 5 with fail
    generalize w4.alloc (.cells #[.int .i8 g'.kind, .string g'.name, .string g'.arg, .int .i64 g'.num, .int .i8 g'.tk, .slice p'.TA p'.tn p'.tc, .int .i8 g'.uk, .slice p'.UA p'.un p'.uc, .int .i64 g'.label, .int .i64 g'.pos, .slice p'.A p'.n p'.c] 30) = w5 at *
    obtain ⟨b0, b1, b2, b3, b4, b5, b6, b7, b8, b9, b10, hlt3⟩ := own11 R5.out
    obtain ⟨c0, c1, c2, c3, c4, c5, c6, c7, c8, c9, c10, hlt4⟩ := own11 U5.out
    go_wp2_with fail
    refine (C3.out _ HB5.out p' HI5.out).mono ?_
    rintro e w6 ⟨rfl, hb6⟩
    have HB6 := Lib.hid (HB5.out.trans (hb6.mono HB5.out.size))
    clear hb6 b0 b1 b2 b3 b4 b5 b6 b7 b8 b9 b10 c0 c1 c2 c3 c4 c5 c6 c7 c8 c9 c10
    go_wp2_with fail
    refine (C4.out _).mono ?_
    rintro e w7 ⟨rfl, pos, rfl⟩
    go_wp2_with fail
    go_ret
    exact ⟨rfl, HB6.out.trans ((Below.refl _ _).alloc (Nat.le_refl _) _ |>.mono HB6.out.size)⟩
  · have hS := Sh.tx_no he
    have hne : (Sh.txE h kids != 0) = true := by simpa using he
    rw [hS] at C1
    generalize Sh.txE h kids = E at *
    clear hIs hG ht hnu he hS hB0
    go_enter Tryz.func4, Tryz.ntmps4
    go_wp2_with fail
    refine C1.out.mono ?_
    rintro e w3 ⟨rfl, hb3⟩
    go_wp2_with fail
    go_ret
    exact ⟨rfl, HB0.out.trans (hb3.mono HB0.out.size)⟩
end Go.Proofs.YtocehfklacjgbaaGreatDoor
