/-
  The reader's atom: brackets.
-/
import Derived.Test.YtkpdddlonmkebaaDoorRd4
namespace Go.Proofs.YtkpdddlonmkebaaDoor
open Go.RowKit Rd

set_option maxHeartbeats 8000000 in
set_option maxRecDepth 100000 in
theorem atom_br (l : List W4) (A : Option Addr) (c rb i : Nat) (w : World) (h : RdS l A c rb w i) (hyes : Rd.sees l i 4 [40] = true)
    (hw : ∀ W : World, RdS l A c rb W (i + 1) → Calls Tryd.prog 20 #[.pointer (some ⟨rb, 0, none⟩), .int .i64 1] W (RPost l A c rb W (.wh 1 (i + 1)))) :
    Calls Tryd.prog 34 #[.pointer (some ⟨rb, 0, none⟩)] w (RPost l A c rb w (.one i)) := by
  have hb0 : Below w.heap.size w (w.alloc (.cells #[.int .i8 0, .slice none 0 0] 29)) := (Below.refl _ _).alloc (Nat.le_refl _) _
  have hX := heap_new w (.cells #[.int .i8 0, .slice none 0 0] 29)
  have hlit : (⟨#[40]⟩ : ByteArray).toList = [40] := (Lib.toList_data _).trans rfl
  have hlit2 : (⟨#[41]⟩ : ByteArray).toList = [41] := (Lib.toList_data _).trans rfl
  have hl : l.length ≤ maxLen := Nat.le_of_lt h.len
  have hil := Rd.sees_lt hyes
  have CS := Lib.hid (fun (W : World) (hb : Below w.heap.size w W) => (show Calls Tryd.prog 60 #[.pointer (some ⟨rb, 0, none⟩), .int .i8 4, .string ⟨#[40]⟩] W (fun e w' => e = .returned (.bool true) ∧ ∃ m, w' = W.drewN m) from by
    have q := sees_any l A c rb i 4 ⟨#[40]⟩ W hl h.le (h.below hb).rdr (h.below hb).row
    rw [hlit, hyes] at q; exact q))
  have CS2 := Lib.hid (fun (j : Nat) (b : Bool) (hj : Rd.sees l j 4 [41] = b) (W : World) (hr : RdS l A c rb W j) => (show Calls Tryd.prog 60 #[.pointer (some ⟨rb, 0, none⟩), .int .i8 4, .string ⟨#[41]⟩] W (fun e w' => e = .returned (.bool b) ∧ ∃ m, w' = W.drewN m) from by
    have q := sees_any l A c rb j 4 ⟨#[41]⟩ W hl hr.le hr.rdr hr.row
    rw [hlit2, hj] at q; exact q))
  have H := Lib.hid h
  have HX := Lib.hid hX
  have HB0 := Lib.hid hb0
  have HY := Lib.hid hyes
  have HWH := Lib.hid hw
  have hne : w.heap.size ≠ rb := by have := heap_lt h.rdr; omega
  have hii : (i : Int) + 1 ≤ 9223372036854775807 := by have := h.len; unfold maxLen at this; omega
  have HIL := Lib.hid hil
  clear hlit hlit2 hl hX hb0 hyes h hw hil
  go_enter Tryd.func34, Tryd.ntmps34
  go_wp2_with fail
  refine (CS.out _ HB0.out).mono ?_
  rintro e w2 ⟨rfl, m, rfl⟩
  have HB1 := Lib.hid (below_drewN HB0.out m)
  have hs1 := H.out.below HB1.out
  have HX1 : Hid (((w.alloc (.cells #[.int .i8 0, .slice none 0 0] 29)).drewN m).heap[w.heap.size]? = _) := Lib.hid HX.out
  generalize (w.alloc (.cells #[.int .i8 0, .slice none 0 0] 29)).drewN m = u1 at *
  obtain ⟨r0, r1, f0, f1, rl⟩ := own2 hs1.rdr
  have hg2 : u1.grownBy (u1.setCell ⟨rb, 1, none⟩ (.int .i64 ((i : Int) + 1))) (some rb) := only_setCell (only_refl u1 rb) (.inl rfl) _
  have hr2 := rdr_set hs1.rdr (i + 1)
  rw [show ((i + 1 : Nat) : Int) = (i : Int) + 1 by omega] at hr2
  have HS2 := Lib.hid (hs1.step hg2 hr2 (by have := HIL.out; omega))
  have HG2 := Lib.hid (only_trans (only_below HB1.out) hg2)
  have HX2 := Lib.hid (heap_grown hg2 hne HX1.out)
  clear hs1 hg2 hr2 HX1 HX HB0 HB1
  go_wp2_with fail
  refine (HWH.out _ HS2.out).mono ?_
  rintro e w3 (⟨k, kids, j, hRk, G, mg, cg, rfl, hF, hRd, hg⟩ | ⟨q, hRq, hB⟩)
  · have hjl := hRk.goes (by show i + 1 ≤ l.length; have := HIL.out; omega)
    have hjj : j ≤ l.length := hjl.2
    have hx3 := heap_grown hg hne HX2.out
    have hs3 := HS2.out.step hg hRd hjj
    have hb4 : Below w3.heap.size w3 (w3.alloc (.cells #[.int .i8 k, .slice G mg cg] 29)) := (Below.refl _ _).alloc (Nat.le_refl _) _
    have HS4 := Lib.hid (hs3.below hb4)
    have HX4 := Lib.hid (heap_old hx3 (.cells #[.int .i8 k, .slice G mg cg] 29))
    have HY4 := Lib.hid (heap_new w3 (.cells #[.int .i8 k, .slice G mg cg] 29))
    have HG4 := Lib.hid (only_trans HG2.out (only_alloc hg (.cells #[.int .i8 k, .slice G mg cg] 29)))
    have HF4 := Lib.hid ((hF.below hb4).low (show w.heap.size + 1 ≤ _ from heap_lt HX2.out))
    have hn4 : w3.heap.size ≠ rb := by have := heap_lt hRd; omega
    have hn5 : w.heap.size ≠ w3.heap.size := by have := heap_lt hx3; omega
    have HRk := Lib.hid hRk
    clear hjl hx3 hs3 hb4 hF hRd hg hRk
    go_upto_region 4 with fail
    generalize w3.alloc (.cells #[.int .i8 k, .slice G mg cg] 29) = w4 at *
    generalize w3.heap.size = Y at *
    cases hse : Rd.sees l j 4 [41]
    · have CC := Lib.hid (CS2.out j false hse w4 HS4.out)
      have HSE := Lib.hid hse
      clear hse
      go_wp2_with fail
      refine CC.out.mono ?_
      rintro e w5 ⟨rfl, m2, rfl⟩
      have hb5 := below_drewN (Below.refl w4.heap.size w4) m2
      have hs5 := HS4.out.below hb5
      have HG5 := Lib.hid (only_trans HG4.out (only_below (rb := rb) hb5))
      have HW5 := Lib.hid (want_no l A c rb j _ (Nat.le_of_lt hs5.len) hs5.le hs5.small hs5.rdr hs5.row)
      clear hb5 hs5
      go_wp2_with fail
      refine HW5.out.mono ?_
      intro e w6 hg
      have HP := Lib.hid (show RPost l A c rb w (.one i) e w6 from .inr ⟨j, .brNo HY.out HRk.out HSE.out, hg.bad HG5.out⟩)
      obtain ⟨g, rfl, -⟩ := hg
      exact ⟨rfl, HP.out⟩
    · have CC := Lib.hid (CS2.out j true hse w4 HS4.out)
      have HSE := Lib.hid hse
      clear hse
      go_wp2_with fail
      refine CC.out.mono ?_
      rintro e w5 ⟨rfl, m2, rfl⟩
      have hb5 := below_drewN (Below.refl w4.heap.size w4) m2
      have hs5 := HS4.out.below hb5
      have HG5 := Lib.hid (only_trans HG4.out (only_below (rb := rb) hb5))
      have HF5 := Lib.hid (HF4.out.below hb5)
      have HX5 : Hid ((w4.drewN m2).heap[w.heap.size]? = _) := Lib.hid HX4.out
      have HY5 : Hid ((w4.drewN m2).heap[Y]? = _) := Lib.hid HY4.out
      have HW5 := Lib.hid (want_yes A l.length c rb j _ (by have := Rd.sees_lt HSE.out; have := hs5.len; omega) hs5.rdr)
      clear hb5 hs5
      generalize w4.drewN m2 = w5 at *
      go_wp2_with fail
      refine HW5.out.mono ?_
      rintro e w6 ⟨rfl, hR, hg⟩
      obtain ⟨x0, x1, g0, g1, xl⟩ := own2 (heap_grown hg hne HX5.out)
      obtain ⟨y0, y1, -, -, yl⟩ := own2 (heap_grown hg hn4 HY5.out)
      have HR := Lib.hid hR
      have HG6 := Lib.hid (only_trans HG5.out hg)
      have HF6 := Lib.hid (HF5.out.keep (w' := w6) fun b o v hb hc => by
        rw [World.cell?_of_block (hg.block b (Ty.cell_lt hc) (fun e => by injection e with e; have := heap_lt H.out.rdr; omega))]; exact hc)
      clear hR hg
      go_wp2_with fail
      refine bodyPost_ret (v := .agg #[.int .i8 k, .slice G mg cg]) (by simp [results, Tryd.results34, go_sem, *]) rfl (.inl ⟨k, kids, j + 1, .br HY.out HRk.out HSE.out, G, mg, cg, rfl, ?_, ?_, only_setCell (only_setCell HG6.out (.inr (Nat.le_refl _)) _) (.inr (Nat.le_refl _)) _⟩)
      · refine (HF6.out.keep fun b o v hb hc => ?_).low (Nat.le_succ _)
        rw [World.cell?_setCell_other _ _ _ _ (fun e => by injection e with e; omega), World.cell?_setCell_other _ _ _ _ (fun e => by injection e with e; omega)]
        exact hc
      · have hr := HR.out
        unfold Rdr at hr ⊢
        rw [Below.heap_setCell _ _ _ _ (fun e => hne e.symm), Below.heap_setCell _ _ _ _ (fun e => hne e.symm)]
        exact hr
  · have HP := Lib.hid (show RPost l A c rb w (.one i) e w3 from .inr ⟨q, .brBad HY.out hRq, hB.from HG2.out⟩)
    obtain ⟨g, rfl, -⟩ := hB
    exact ⟨rfl, HP.out⟩
end Go.Proofs.YtkpdddlonmkebaaDoor
