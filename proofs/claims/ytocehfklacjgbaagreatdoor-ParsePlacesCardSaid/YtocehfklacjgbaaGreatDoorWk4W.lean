/-
  Layer 4: what the document says of a few texts: the walk of the laws' wakes.
-/
import Derived.Test.YtocehfklacjgbaaGreatDoorM19
import Derived.Test.YtocehfklacjgbaaGreatDoorTx1
import Derived.Test.YtocehfklacjgbaaGreatDoorRdF
import Derived.Deep.DeepCutAuto
namespace Go.Proofs.YtocehfklacjgbaaGreatDoor
open Go.RowKit

/-- errors.As knows the error type -/
def ErrT (w : World) : Prop := w.cell? ⟨0, 0, none⟩ = some (.iface 182 (.agg #[.pointer (some ⟨9, 32, none⟩)]))
theorem ErrT.below {w w' : World} (h : ErrT w) (hb : Below w.heap.size w w') : ErrT w' := by
  unfold ErrT at h ⊢
  rw [hb.cell (p := ⟨0, 0, none⟩) (Ty.cell_lt h)]
  exact h
/-- the first kid of a term of one kid -/
theorem one_kid {w : World} {g : Hd} {h1 : Hd} {k1 : Tm} {p : Pl} (h : Tm.Is w g (.node h1 k1 .nil) p) : ∃ b o q, p.A = some ⟨b, o, none⟩ ∧ p.n = 1 ∧ w.cell? ⟨b, o, none⟩ = some (.int .i8 h1.kind) ∧ w.cell? ⟨b, o + 9, none⟩ = some (.int .i64 h1.pos) ∧ (q : Pl) = q := by
  obtain ⟨hf, b, o, q, hA, hc, -, -, -⟩ := h
  refine ⟨b, o, q, hA, hf.n_eq, ?_, ?_, rfl⟩
  · have := hc 0 _ rfl
    simpa using this
  · have := hc 9 _ rfl
    simpa using this

set_option maxHeartbeats 4000000 in
set_option maxRecDepth 100000 in
theorem wakes4_any (w : World) (hG : TGlob w) (hE : ErrT w) :
    Calls Tryz.prog 13 #[] w fun e w' => e = .returned (.bool true) ∧ Below w.heap.size w w' := by
  obtain ⟨g, h1, k1, hO, hk, hn, ht, hk1, hp1⟩ := Sh.wx1_read
  have C1 := Lib.hid (show Calls Tryz.prog 9 #[.string ⟨#[92, 120, 58, 105, 110, 116, 46, 120, 43, 49]⟩] w _ from pterm_any Sh.wx1 w hG)
  have C2 := Lib.hid (fun (W : World) (hb : Below w.heap.size w W) => (show Calls Tryz.prog 9 #[.string ⟨#[49, 32, 60, 32, 50, 32, 60, 32, 51]⟩] W _ from pterm_any Sh.wx2 W (hG.below hb)))
  have HO := Lib.hid hO
  have HF := Lib.hid (And.intro hk (And.intro hn (And.intro ht (And.intro hk1 hp1))))
  have HE := Lib.hid hE
  clear hG hE hO hk hn ht hk1 hp1
  go_enter Tryz.func13, Tryz.ntmps13
  go_wp2_with fail
  refine C1.out.mono ?_
  rintro e w1 ⟨q, hq, hp⟩
  obtain rfl := TxOut.det HO.out hq
  obtain ⟨p, rfl, hf, hb1⟩ := hp
  have hb2 : Below w1.heap.size w1 (w1.alloc (.cells #[.int .i8 g.kind, .string g.name, .string g.arg, .int .i64 g.num, .int .i8 g.tk, .slice p.TA p.tn p.tc, .int .i8 g.uk, .slice p.UA p.un p.uc, .int .i64 g.label, .int .i64 g.pos, .slice p.A p.n p.c] 30)) := (Below.refl _ _).alloc (Nat.le_refl _) _
  have HB2 := Lib.hid (hb1.trans (hb2.mono hb1.size))
  have R2 := Lib.hid (heap_new w1 (.cells #[.int .i8 g.kind, .string g.name, .string g.arg, .int .i64 g.num, .int .i8 g.tk, .slice p.TA p.tn p.tc, .int .i8 g.uk, .slice p.UA p.un p.uc, .int .i64 g.label, .int .i64 g.pos, .slice p.A p.n p.c] 30))
  have HI2 := Lib.hid (hf.is.below hb2)
  clear hq hf hb1 hb2 HO C1
  go_upto_region 2 with fail
  generalize w1.alloc (.cells #[.int .i8 g.kind, .string g.name, .string g.arg, .int .i64 g.num, .int .i8 g.tk, .slice p.TA p.tn p.tc, .int .i8 g.uk, .slice p.UA p.un p.uc, .int .i64 g.label, .int .i64 g.pos, .slice p.A p.n p.c] 30) = w2 at *
  go_wp2_with fail
  refine (C2.out _ HB2.out).mono ?_
  rintro e w3 ⟨q, hq, hp⟩
  obtain rfl := TxOut.det Sh.wx2_read hq
  obtain ⟨N, rfl, hN, hNl, hb3⟩ := hp
  have hb4 : Below w3.heap.size w3 (w3.alloc (.cells #[.int .i8 0, .string ⟨#[]⟩, .string ⟨#[]⟩, .int .i64 0, .int .i8 0, .slice none 0 0, .int .i8 0, .slice none 0 0, .int .i64 0, .int .i64 0, .slice none 0 0] 30)) := (Below.refl _ _).alloc (Nat.le_refl _) _
  have hb5 := hb3.trans (hb4.mono hb3.size)
  have HB4 := Lib.hid (HB2.out.trans (hb5.mono HB2.out.size))
  have HD4 := Lib.hid hb5
  have HN := Lib.hid (heap_below hb4 (heap_lt hN) hN)
  clear hq hN hNl hb3 hb4 hb5 C2
  go_upto_region 3 with fail
  generalize w3.alloc (.cells #[.int .i8 0, .string ⟨#[]⟩, .string ⟨#[]⟩, .int .i64 0, .int .i8 0, .slice none 0 0, .int .i8 0, .slice none 0 0, .int .i64 0, .int .i64 0, .slice none 0 0] 30) = w4 at *
  have CF := Lib.hid (tfault_own N 40 6 ⟨#[60]⟩ w4 HN.out (by decide) (HE.out.below HB4.out))
  go_wp2_with fail
  refine CF.out.mono ?_
  rintro e w5 ⟨rfl, hb5⟩
  have hb6 : Below w5.heap.size w5 (w5.alloc (.cells #[.int .i64 40, .int .i64 6, .string ⟨#[60]⟩] 53)) := (Below.refl _ _).alloc (Nat.le_refl _) _
  have hb7 := hb5.trans (hb6.mono hb5.size)
  have HB6 := Lib.hid (HB4.out.trans (hb7.mono HB4.out.size))
  have HD6 := Lib.hid (HD4.out.trans (hb7.mono HD4.out.size))
  have F6 := Lib.hid (heap_new w5 (.cells #[.int .i64 40, .int .i64 6, .string ⟨#[60]⟩] 53))
  have R6 := Lib.hid (heap_below HD6.out (heap_lt R2.out) R2.out)
  have HI6 := Lib.hid (HI2.out.below HD6.out)
  clear hb5 hb6 hb7 CF
  go_upto_region 4 with fail
  generalize w5.alloc (.cells #[.int .i64 40, .int .i64 6, .string ⟨#[60]⟩] 53) = w6 at *
  obtain ⟨b0, b1, b2, b3, b4, b5, b6, b7, b8, b9, b10, hlt⟩ := own11 R6.out
  obtain ⟨f0, f1, f2, _, _, _, hfl⟩ := own3' F6.out
  obtain ⟨b, o, -, hA, hpn, c0, c9, -⟩ := one_kid HI6.out
  have hc1 : p.c ≤ maxLen := HI6.out.1.c_le
  obtain ⟨hk, hn, ht, hk1, hp1⟩ := HF.out
  rw [hk] at b0
  rw [hn] at b1
  rw [ht] at b4
  rw [hA, hpn] at b10
  rw [hk1] at c0
  rw [hp1] at c9
  clear hk hn ht hk1 hp1 HF
  go_wp2_with fail
  go_ret
  exact ⟨rfl, HB6.out⟩
end Go.Proofs.YtocehfklacjgbaaGreatDoor
