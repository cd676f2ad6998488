/-
  P5.2: a text that is taken, told, read and told again. The law's walk.
-/
import Derived.Test.YtocehfklacjgbaaGreatDoorM19
import Derived.Test.YtocehfklacjgbaaGreatDoorTx1
import Derived.Test.YtocehfklacjgbaaGreatDoorM11
import Derived.Deep.DeepCutAuto
namespace Go.Proofs.YtocehfklacjgbaaGreatDoor
open Go.RowKit

theorem Sh.tx_three {h : Hd} {t : Tm} (hc : Tm.chk h t = 0) (hb : Sh.badT h t = false) (he : Sh.txE h t ≠ 0) : Sh.txE h t = 3 := by
  unfold Sh.txE at he ⊢
  rw [hc, hb] at he ⊢
  simp only [ne_eq, not_true_eq_false, if_false, Bool.false_eq_true] at he ⊢
  split
  · rfl
  · rename_i h3; rw [if_neg h3] at he; exact absurd rfl he
theorem seq_self (s : ByteArray) : (s.toList == s.toList) = true := by simp

set_option maxHeartbeats 8000000 in
set_option maxRecDepth 100000 in
theorem law_ShowAgain (s : ByteArray) (w : World) (hG : TGlob w) (ht : Tens w) :
    Calls Tryz.prog 5 #[.string s] w fun e w' => e = .returned (.bool true) ∧ Below w.heap.size w w' := by
  have C1 := Lib.hid (pterm_any s w hG)
  have HG := Lib.hid hG
  have HT := Lib.hid ht
  clear hG ht
  go_enter Tryz.func5, Tryz.ntmps5
  go_wp2_with fail
  refine C1.out.mono ?_
  rintro e w1 ⟨q, hq, hp⟩
  cases q with
  | bad E a x =>
    obtain ⟨g, rfl, -, -, hb⟩ := hp
    go_wp2_with fail
    go_ret
    exact ⟨rfl, hb.trans (((Below.refl _ _).alloc (Nat.le_refl _) _).mono hb.size)⟩
  | ok h kids =>
    obtain ⟨p, rfl, hf, hb1⟩ := hp
    obtain ⟨hc, hbd, hnu⟩ := Sh.out_fine hq
    have g := Sh.Good.of hc hbd hnu
    have hb2 : Below w1.heap.size w1 (w1.alloc (.cells #[.int .i8 h.kind, .string h.name, .string h.arg, .int .i64 h.num, .int .i8 h.tk, .slice p.TA p.tn p.tc, .int .i8 h.uk, .slice p.UA p.un p.uc, .int .i64 h.label, .int .i64 h.pos, .slice p.A p.n p.c] 30)) := (Below.refl _ _).alloc (Nat.le_refl _) _
    have HB2 := Lib.hid (hb1.trans (hb2.mono hb1.size))
    have R2 := Lib.hid (heap_new w1 (.cells #[.int .i8 h.kind, .string h.name, .string h.arg, .int .i64 h.num, .int .i8 h.tk, .slice p.TA p.tn p.tc, .int .i8 h.uk, .slice p.UA p.un p.uc, .int .i64 h.label, .int .i64 h.pos, .slice p.A p.n p.c] 30))
    have HI2 := Lib.hid (hf.is.below hb2)
    clear hq hf hb1 hb2 C1
    go_upto_region 4 with fail
    generalize w1.alloc (.cells #[.int .i8 h.kind, .string h.name, .string h.arg, .int .i64 h.num, .int .i8 h.tk, .slice p.TA p.tn p.tc, .int .i8 h.uk, .slice p.UA p.un p.uc, .int .i64 h.label, .int .i64 h.pos, .slice p.A p.n p.c] 30) = w2 at *
    have C2 := Lib.hid (stext_any h kids p w2 HI2.out (HG.out.below HB2.out) (HT.out.below HB2.out) hnu)
    obtain ⟨b0, b1, b2, b3, b4, b5, b6, b7, b8, b9, b10, hlt⟩ := own11 R2.out
    by_cases he : Sh.txE h kids = 0
    · obtain ⟨-, -, hs, hz⟩ := Sh.tx_ok hnu he
      obtain ⟨g', u, hsame, hout⟩ := Sh.told_out g hc _ hs hz
      obtain ⟨hc', hbd', hnu'⟩ := Sh.out_fine hout
      obtain ⟨e1, e2⟩ := Sh.tx_al g hsame hbd'
      rw [he] at e2
      have C3 := Lib.hid (fun (W : World) (hb : Below w.heap.size w W) => pterm_any (Sh.txS h kids) W (HG.out.below hb))
      have C4 := Lib.hid (fun (W : World) (hb : Below w2.heap.size w2 W) (hb' : Below w.heap.size w W) (p' : Pl) (hI : Tm.Is W g' u p') => tm_same_any h kids p g' u p' W (HI2.out.below hb) hI (HG.out.below hb'))
      have C5 := Lib.hid (fun (W : World) (hb' : Below w.heap.size w W) (p' : Pl) (hI : Tm.Is W g' u p') => stext_any g' u p' W hI (HG.out.below hb') (HT.out.below hb') hnu')
      rw [hsame] at C4
      rw [e1, e2] at C5
      rw [he] at C2
      have HO := Lib.hid hout
      have hss := seq_self (Sh.txS h kids)
      have HSS := Lib.hid hss
      generalize Sh.txS h kids = S at *
      clear hc hbd hnu g he hs hz hsame hout hc' hbd' hnu' e1 e2 hss
      go_wp2_with fail
      refine C2.out.mono ?_
      rintro e w3 ⟨rfl, hb3⟩
      have HB3 := Lib.hid (HB2.out.trans (hb3.mono HB2.out.size))
      have HD3 := Lib.hid hb3
      have R3 := Lib.hid (heap_below hb3 (heap_lt R2.out) R2.out)
      clear hb3 b0 b1 b2 b3 b4 b5 b6 b7 b8 b9 b10 hlt C2
      go_wp2_with fail
      refine (C3.out _ HB3.out).mono ?_
      rintro e w4 ⟨q, hq, hp⟩
      obtain rfl := TxOut.det HO.out hq
      obtain ⟨p', rfl, hf, hb4⟩ := hp
      have hb5 : Below w4.heap.size w4 (w4.alloc (.cells #[.int .i8 g'.kind, .string g'.name, .string g'.arg, .int .i64 g'.num, .int .i8 g'.tk, .slice p'.TA p'.tn p'.tc, .int .i8 g'.uk, .slice p'.UA p'.un p'.uc, .int .i64 g'.label, .int .i64 g'.pos, .slice p'.A p'.n p'.c] 30)) := (Below.refl _ _).alloc (Nat.le_refl _) _
      have hb6 := hb4.trans (hb5.mono hb4.size)
      have HB5 := Lib.hid (HB3.out.trans (hb6.mono HB3.out.size))
      have HD5 := Lib.hid (HD3.out.trans (hb6.mono HD3.out.size))
      have R5 := Lib.hid (heap_below hb6 (heap_lt R3.out) R3.out)
      have U5 := Lib.hid (heap_new w4 (.cells #[.int .i8 g'.kind, .string g'.name, .string g'.arg, .int .i64 g'.num, .int .i8 g'.tk, .slice p'.TA p'.tn p'.tc, .int .i8 g'.uk, .slice p'.UA p'.un p'.uc, .int .i64 g'.label, .int .i64 g'.pos, .slice p'.A p'.n p'.c] 30))
      have HI5 := Lib.hid (hf.is.below hb5)
      clear hq hf hb4 hb5 hb6 HO C3
      go_upto_region 8 with fail
      generalize w4.alloc (.cells #[.int .i8 g'.kind, .string g'.name, .string g'.arg, .int .i64 g'.num, .int .i8 g'.tk, .slice p'.TA p'.tn p'.tc, .int .i8 g'.uk, .slice p'.UA p'.un p'.uc, .int .i64 g'.label, .int .i64 g'.pos, .slice p'.A p'.n p'.c] 30) = w5 at *
      obtain ⟨b0, b1, b2, b3, b4, b5, b6, b7, b8, b9, b10, hlt3⟩ := own11 R5.out
      obtain ⟨c0, c1, c2, c3, c4, c5, c6, c7, c8, c9, c10, hlt4⟩ := own11 U5.out
      go_wp2_with fail
      refine (C4.out _ HD5.out HB5.out p' HI5.out).mono ?_
      rintro e w6 ⟨rfl, hb6⟩
      have HB6 := Lib.hid (HB5.out.trans (hb6.mono HB5.out.size))
      have U6 := Lib.hid (heap_below hb6 (heap_lt U5.out) U5.out)
      have HI6 := Lib.hid (HI5.out.below hb6)
      clear hb6 b0 b1 b2 b3 b4 b5 b6 b7 b8 b9 b10 c0 c1 c2 c3 c4 c5 c6 c7 c8 c9 c10 hlt3 hlt4
      obtain ⟨c0, c1, c2, c3, c4, c5, c6, c7, c8, c9, c10, hlt4⟩ := own11 U6.out
      go_wp2_with fail
      refine (C5.out _ HB6.out p' HI6.out).mono ?_
      rintro e w7 ⟨rfl, hb7⟩
      have hss := HSS.out
      go_wp2_with fail
      go_ret
      exact ⟨rfl, HB6.out.trans (hb7.mono HB6.out.size)⟩
    · have hS := Sh.tx_no he
      have hE := Sh.tx_three hc hbd he
      rw [hS, hE] at C2
      clear hc hbd hnu g he hS hE
      go_wp2_with fail
      refine C2.out.mono ?_
      rintro e w3 ⟨rfl, hb3⟩
      go_wp2_with fail
      go_ret
      exact ⟨rfl, HB2.out.trans (hb3.mono HB2.out.size)⟩
end Go.Proofs.YtocehfklacjgbaaGreatDoor
