/-
  P5.1: some terms, told by hand. The law's walk. gen_lawshk.py wrote this.
-/
import Derived.Test.YtocehfklacjgbaaGreatDoorM19
import Derived.Test.YtocehfklacjgbaaGreatDoorLawShA
namespace Go.Proofs.YtocehfklacjgbaaGreatDoor
open Go.RowKit

theorem known_cells {w : World} {B : Nat} {t : TypeId} (h : w.heap[B]? = some (.cells #[.string (Sh.kx 0), .string (Sh.kw 0), .string (Sh.kx 1), .string (Sh.kw 1), .string (Sh.kx 2), .string (Sh.kw 2), .string (Sh.kx 3), .string (Sh.kw 3), .string (Sh.kx 4), .string (Sh.kw 4), .string (Sh.kx 5), .string (Sh.kw 5), .string (Sh.kx 6), .string (Sh.kw 6)] t (0, 0))) (i : Nat) (hi : i < 7) :
    w.cell? ⟨B, i * 2, none⟩ = some (.string (Sh.kx i)) ∧ w.cell? ⟨B, i * 2 + 1, none⟩ = some (.string (Sh.kw i)) := by
  have hc : i = 0 ∨ i = 1 ∨ i = 2 ∨ i = 3 ∨ i = 4 ∨ i = 5 ∨ i = 6 := by omega
  rcases hc with rfl | rfl | rfl | rfl | rfl | rfl | rfl <;> exact ⟨by simp [World.cell?, h], by simp [World.cell?, h]⟩
def pv : Pl := ⟨none, 0, 0, none, 0, 0, none, 0, 0⟩
theorem ty_z (w : World) : Ty.Is w 0 .nil none 0 0 := ⟨trivial, rfl, Nat.le_refl _, Nat.zero_le _, by decide, by decide⟩
theorem is_cast {w : World} {B : Nat} {t : TypeId} (h : w.heap[B]? = some (.cells #[.int .i8 0, .string ⟨#[120]⟩, .string ⟨#[]⟩, .int .i64 0, .int .i8 0, .slice none 0 0, .int .i8 0, .slice none 0 0, .int .i64 0, .int .i64 0, .slice none 0 0] t (0, 0))) :
    Tm.Is w Sh.hc17 (.node (Sh.vr 120) .nil .nil) ⟨none, 0, 0, none, 0, 0, some ⟨B, 0, none⟩, 1, 1⟩ := by
  have f0 : Tm.Fit w (Sh.vr 120) pv 0 := ⟨ty_z w, ty_z w, rfl, Nat.le_refl _, Nat.zero_le _, by decide, by decide, by decide, by decide, by decide, by decide⟩
  refine ⟨⟨ty_z w, ty_z w, rfl, Nat.le_refl _, by show (1 : Nat) ≤ maxLen; unfold maxLen; omega, by decide, by decide, by decide, by decide, by decide, by decide⟩, ?_⟩
  refine ⟨B, 0, pv, rfl, fun j v hv => ?_, f0, trivial, trivial⟩
  rw [show 0 + 0 * 11 + j = j by omega]
  simp only [World.cell?, h, Option.isSome_none, Bool.false_eq_true, if_false]
  rw [← Array.getElem?_toList]
  exact hv

set_option maxHeartbeats 8000000 in
set_option maxRecDepth 100000 in
theorem law_ShowKnown (w : World) (hG : TGlob w) (ht : Tens w) :
    Calls Tryz.prog 3 #[] w fun e w' => e = .returned (.bool true) ∧ Below w.heap.size w w' := by
  have hb1 : Below w.heap.size w (w.alloc (.cells #[.string ⟨#[40, 92, 120, 58, 105, 110, 116, 46, 120, 41, 40, 51, 41]⟩, .string ⟨#[40, 32, 92, 32, 120, 32, 58, 32, 105, 110, 116, 32, 46, 32, 120, 32, 41, 32, 40, 32, 51, 32, 41]⟩, .string ⟨#[49, 45, 50, 45, 51]⟩, .string ⟨#[49, 32, 45, 32, 50, 32, 45, 32, 51]⟩, .string ⟨#[49, 45, 40, 50, 45, 51, 41]⟩, .string ⟨#[49, 32, 45, 32, 40, 32, 50, 32, 45, 32, 51, 32, 41]⟩, .string ⟨#[102, 115, 116, 32, 102, 40, 120, 41]⟩, .string ⟨#[102, 115, 116, 32, 102, 32, 40, 32, 120, 32, 41]⟩, .string ⟨#[40, 102, 115, 116, 32, 102, 41, 40, 120, 41]⟩, .string ⟨#[40, 32, 102, 115, 116, 32, 102, 32, 41, 32, 40, 32, 120, 32, 41]⟩, .string ⟨#[102, 115, 116, 32, 45, 53]⟩, .string ⟨#[102, 115, 116, 32, 45, 32, 53]⟩, .string ⟨#[40, 120, 58, 105, 110, 116, 41, 58, 63]⟩, .string ⟨#[120, 32, 58, 32, 105, 110, 116, 32, 58, 32, 63]⟩] 22)) := (Below.refl _ _).alloc (Nat.le_refl _) _
  have hr1 := heap_new w (.cells #[.string ⟨#[40, 92, 120, 58, 105, 110, 116, 46, 120, 41, 40, 51, 41]⟩, .string ⟨#[40, 32, 92, 32, 120, 32, 58, 32, 105, 110, 116, 32, 46, 32, 120, 32, 41, 32, 40, 32, 51, 32, 41]⟩, .string ⟨#[49, 45, 50, 45, 51]⟩, .string ⟨#[49, 32, 45, 32, 50, 32, 45, 32, 51]⟩, .string ⟨#[49, 45, 40, 50, 45, 51, 41]⟩, .string ⟨#[49, 32, 45, 32, 40, 32, 50, 32, 45, 32, 51, 32, 41]⟩, .string ⟨#[102, 115, 116, 32, 102, 40, 120, 41]⟩, .string ⟨#[102, 115, 116, 32, 102, 32, 40, 32, 120, 32, 41]⟩, .string ⟨#[40, 102, 115, 116, 32, 102, 41, 40, 120, 41]⟩, .string ⟨#[40, 32, 102, 115, 116, 32, 102, 32, 41, 32, 40, 32, 120, 32, 41]⟩, .string ⟨#[102, 115, 116, 32, 45, 53]⟩, .string ⟨#[102, 115, 116, 32, 45, 32, 53]⟩, .string ⟨#[40, 120, 58, 105, 110, 116, 41, 58, 63]⟩, .string ⟨#[120, 32, 58, 32, 105, 110, 116, 32, 58, 32, 63]⟩] 22)
  generalize hw1 : w.alloc (.cells #[.string ⟨#[40, 92, 120, 58, 105, 110, 116, 46, 120, 41, 40, 51, 41]⟩, .string ⟨#[40, 32, 92, 32, 120, 32, 58, 32, 105, 110, 116, 32, 46, 32, 120, 32, 41, 32, 40, 32, 51, 32, 41]⟩, .string ⟨#[49, 45, 50, 45, 51]⟩, .string ⟨#[49, 32, 45, 32, 50, 32, 45, 32, 51]⟩, .string ⟨#[49, 45, 40, 50, 45, 51, 41]⟩, .string ⟨#[49, 32, 45, 32, 40, 32, 50, 32, 45, 32, 51, 32, 41]⟩, .string ⟨#[102, 115, 116, 32, 102, 40, 120, 41]⟩, .string ⟨#[102, 115, 116, 32, 102, 32, 40, 32, 120, 32, 41]⟩, .string ⟨#[40, 102, 115, 116, 32, 102, 41, 40, 120, 41]⟩, .string ⟨#[40, 32, 102, 115, 116, 32, 102, 32, 41, 32, 40, 32, 120, 32, 41]⟩, .string ⟨#[102, 115, 116, 32, 45, 53]⟩, .string ⟨#[102, 115, 116, 32, 45, 32, 53]⟩, .string ⟨#[40, 120, 58, 105, 110, 116, 41, 58, 63]⟩, .string ⟨#[120, 32, 58, 32, 105, 110, 116, 32, 58, 32, 63]⟩] 22) = w1 at *
  have HW1 := Lib.hid hw1
  have HB1 := Lib.hid hb1
  have HC := Lib.hid (fun (i : Nat) (hi : i < 7) => known_cells (w := w1) (B := w.heap.size) (t := 22) hr1 i hi)
  have HG := Lib.hid hG
  have HT := Lib.hid ht
  clear hG ht hw1 hb1 hr1
  go_enter Tryz.func3, Tryz.ntmps3
  go_upto_region 2 with fail
  rw [HW1.out]
  go_loopw [18] (fun v18 wr => ∃ i : Nat, i ≤ 7 ∧ v18 = .int .i64 i ∧ Below w1.heap.size w1 wr) (fun v _ => 7 - (intOf v).toNat)
  case atStart => exact ⟨0, by decide, rfl, Below.refl _ _⟩
  case round =>
    obtain ⟨i, hi, rfl, hbr⟩ := hrel
    have HBR := Lib.hid (HB1.out.trans (hbr.mono HB1.out.size))
    by_cases hlt : i < 7
    · obtain ⟨y0, y1⟩ := HC.out i hlt
      have x0 : wr.cell? ⟨w.heap.size, i * 2, none⟩ = some (.string (Sh.kx i)) := by rw [hbr.cell (p := ⟨w.heap.size, i * 2, none⟩) (Ty.cell_lt y0)]; exact y0
      have x1 : wr.cell? ⟨w.heap.size, i * 2 + 1, none⟩ = some (.string (Sh.kw i)) := by rw [hbr.cell (p := ⟨w.heap.size, i * 2 + 1, none⟩) (Ty.cell_lt y1)]; exact y1
      obtain ⟨g, u, hO, hnu, hs, he⟩ := Sh.known_pair i hlt
      have j1 : (i : Int) < 7 := by omega
      have j2 : (0 : Int) ≤ i ∧ (i : Int) < 7 := by omega
      have hb2 : Below wr.heap.size wr (wr.alloc (.cells #[.string (Sh.kx i), .string (Sh.kw i)] 22)) := (Below.refl _ _).alloc (Nat.le_refl _) _
      have R2 := Lib.hid (heap_new wr (.cells #[.string (Sh.kx i), .string (Sh.kw i)] 22))
      have HD2 := Lib.hid (hbr.trans (hb2.mono hbr.size))
      have HB2 := Lib.hid (HBR.out.trans (hb2.mono HBR.out.size))
      have C1 := Lib.hid (fun (W : World) (hb : Below w.heap.size w W) => pterm_any (Sh.kx i) W (HG.out.below hb))
      have C2 := Lib.hid (fun (W : World) (hb : Below w.heap.size w W) (p : Pl) (hI : Tm.Is W g u p) => stext_any g u p W hI (HG.out.below hb) (HT.out.below hb) hnu)
      rw [hs, he] at C2
      have HO := Lib.hid hO
      have hss := seq_self (Sh.kw i)
      have HSS := Lib.hid hss
      generalize Sh.kx i = X at *
      generalize Sh.kw i = S at *
      clear y0 y1 hO hnu hs he hb2 hss hbr
      go_upto_region 4 with fail
      generalize wr.alloc (.cells #[.string X, .string S] 22) = w2 at *
      obtain ⟨z0, z1, _, _, hz⟩ := own2 R2.out
      clear x0 x1
      go_wp2_with fail
      refine (C1.out _ HB2.out).mono ?_
      rintro e w3 ⟨q, hq, hp⟩
      obtain rfl := TxOut.det HO.out hq
      obtain ⟨p, rfl, hf, hb3⟩ := hp
      have hb4 : Below w3.heap.size w3 (w3.alloc (.cells #[.int .i8 g.kind, .string g.name, .string g.arg, .int .i64 g.num, .int .i8 g.tk, .slice p.TA p.tn p.tc, .int .i8 g.uk, .slice p.UA p.un p.uc, .int .i64 g.label, .int .i64 g.pos, .slice p.A p.n p.c] 30)) := (Below.refl _ _).alloc (Nat.le_refl _) _
      have hb5 := hb3.trans (hb4.mono hb3.size)
      have HB4 := Lib.hid (HB2.out.trans (hb5.mono HB2.out.size))
      have HD4 := Lib.hid (HD2.out.trans (hb5.mono HD2.out.size))
      have R4 := Lib.hid (heap_below hb5 (heap_lt R2.out) R2.out)
      have U4 := Lib.hid (heap_new w3 (.cells #[.int .i8 g.kind, .string g.name, .string g.arg, .int .i64 g.num, .int .i8 g.tk, .slice p.TA p.tn p.tc, .int .i8 g.uk, .slice p.UA p.un p.uc, .int .i64 g.label, .int .i64 g.pos, .slice p.A p.n p.c] 30))
      have HI4 := Lib.hid (hf.is.below hb4)
      clear hq hf hb3 hb4 hb5 HO C1 z0 z1 hz
      go_upto_region 5 with fail
      generalize w3.alloc (.cells #[.int .i8 g.kind, .string g.name, .string g.arg, .int .i64 g.num, .int .i8 g.tk, .slice p.TA p.tn p.tc, .int .i8 g.uk, .slice p.UA p.un p.uc, .int .i64 g.label, .int .i64 g.pos, .slice p.A p.n p.c] 30) = w4 at *
      obtain ⟨c0, c1, c2, c3, c4, c5, c6, c7, c8, c9, c10, hlt4⟩ := own11 U4.out
      go_wp2_with fail
      refine (C2.out _ HB4.out p HI4.out).mono ?_
      rintro e w5 ⟨rfl, hb5⟩
      have HD5 := Lib.hid (HD4.out.trans (hb5.mono HD4.out.size))
      obtain ⟨z0, z1, _, _, hz⟩ := own2 (heap_below hb5 (heap_lt R4.out) R4.out)
      have hss := HSS.out
      clear hb5 c0 c1 c2 c3 c4 c5 c6 c7 c8 c9 c10 hlt4 C2
      go_wp2_with fail
      go_roundw
      case rel => exact ⟨i + 1, by omega, by go_num, HD5.out⟩
      case measure => simp [intOf]; omega
    · obtain rfl : i = 7 := by omega
      have hb2 : Below wr.heap.size wr (wr.alloc (.cells #[.int .i8 0, .string ⟨#[120]⟩, .string ⟨#[]⟩, .int .i64 0, .int .i8 0, .slice none 0 0, .int .i8 0, .slice none 0 0, .int .i64 0, .int .i64 0, .slice none 0 0] 30)) := (Below.refl _ _).alloc (Nat.le_refl _) _
      have HB2 := Lib.hid (HBR.out.trans (hb2.mono HBR.out.size))
      have HI := Lib.hid (is_cast (heap_new wr (.cells #[.int .i8 0, .string ⟨#[120]⟩, .string ⟨#[]⟩, .int .i64 0, .int .i8 0, .slice none 0 0, .int .i8 0, .slice none 0 0, .int .i64 0, .int .i64 0, .slice none 0 0] 30)))
      have C2 := Lib.hid (stext_any Sh.hc17 (.node (Sh.vr 120) .nil .nil) ⟨none, 0, 0, none, 0, 0, some ⟨wr.heap.size, 0, none⟩, 1, 1⟩ _ HI.out (HG.out.below HB2.out) (HT.out.below HB2.out) Sh.cast_no.2)
      rw [Sh.cast_no.1] at C2
      generalize Sh.txS Sh.hc17 (.node (Sh.vr 120) .nil .nil) = S at *
      clear hb2 hbr hlt hi
      go_wp2_with fail
      refine C2.out.mono ?_
      rintro e w5 ⟨rfl, hb5⟩
      go_wp2_with fail
      go_ret
      exact ⟨rfl, HB2.out.trans (hb5.mono HB2.out.size)⟩
end Go.Proofs.YtocehfklacjgbaaGreatDoor
