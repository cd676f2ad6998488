/-
  P3.4: the free names. The law's walk.
-/
import Derived.Test.YtemdgpihifigoaaGreatDoorFreeE
namespace Go.Proofs.YtemdgpihifigoaaGreatDoor
open Go.RowKit Go.Maps

/-- a row of names, as a slice -/
def FreeRow (w : World) (xs : List (List UInt8)) (e : Ending) (w' : World) : Prop := ∃ A c, e = .returned (.slice A xs.length c) ∧ BRow w' A xs ∧ Below w.heap.size w w'
theorem FreePost.row {w : World} {xs : List (List UInt8)} {e : Ending} {w' : World} (h : FreePost w xs e w') : FreeRow w xs e w' := by
  obtain ⟨v, he, ho, hb⟩ := h
  have h2 := ho
  rcases h2.2 with ⟨hv, h0⟩ | ⟨g, cap, cur, hv, -⟩
  · have : xs = [] := List.eq_nil_of_length_eq_zero h0
    subst this
    exact ⟨none, 0, by rw [he, hv]; rfl, brow_nil _ _, hb⟩
  · subst hv
    exact ⟨_, cap, he, BRow.own ho rfl, hb⟩

set_option maxHeartbeats 4000000 in
set_option maxRecDepth 100000 in
theorem names_any (l : List (List UInt8)) (A A' : Option Addr) (c c' : Nat) (w : World) (hl : l.length ≤ 1000000) (hr : BRow w A l) (hr' : BRow w A' l) :
    Calls Tryz.prog 7 #[.slice A l.length c, .slice A' l.length c'] w fun e w' => e = .returned (.bool true) ∧ Below w.heap.size w w' := by
  obtain ⟨n, hn⟩ : ∃ n, n = l.length := ⟨_, rfl⟩
  rw [← hn] at hl ⊢
  have HN := Lib.hid hn
  have HR := Lib.hid hr
  have HR' := Lib.hid hr'
  have i5 : (n : Int) ≤ 1000000 := by omega
  clear hn hr hr'
  go_enter Tryz.func7, Tryz.ntmps7
  go_wp2_with fail
  go_loopw [13] (fun v wr => ∃ i : Nat, v = .int .i64 i ∧ i ≤ n ∧ Below w.heap.size w wr) (fun v _ => n - (intOf v).toNat)
  case atStart => exact ⟨0, rfl, by omega, Below.refl _ _⟩
  case round =>
    obtain ⟨i, rfl, hi, hb⟩ := hrel
    by_cases hin : i < n
    · obtain ⟨x, hx⟩ : ∃ x, l[i]? = some x := ⟨l[i]'(by have := HN.out; omega), List.getElem?_eq_getElem _⟩
      obtain ⟨g, o, hA, hc⟩ := (HR.out.below hb) i x hx
      obtain ⟨g', o', hA', hc'⟩ := (HR'.out.below hb) i x hx
      have j1 : (i : Int) < n := by omega
      have j2 : (0 : Int) ≤ i ∧ (i : Int) < n := by omega
      obtain ⟨sx, hsx, hnx⟩ := enc_of x
      rw [hsx] at hc hc'
      have e2 : (sx.toList != sx.toList) = false := by simp
      have HB := Lib.hid hb
      clear hsx hnx hx hb
      obtain rfl := hA
      obtain rfl := hA'
      go_wp2_with fail
      go_quiet (fail)
      go_wp2_with fail
      have HB2 := Lib.hid (below_drewN HB.out nq)
      clear HB
      go_roundw
      case rel => exact ⟨i + 1, by go_num, by omega, HB2.out⟩
      case measure => simp [intOf]; omega
    · have j1 : ¬ ((i : Int) < n) := by omega
      have HB := Lib.hid hb
      clear hb
      go_wp2_with fail
      go_ret
      exact ⟨rfl, HB.out⟩

set_option maxHeartbeats 4000000 in
set_option maxRecDepth 100000 in
theorem law_TermsFree (h : Hd) (kids : Tm) (p : Pl) (w : World) (hIs : Tm.Is w h kids p) (hG : TGlob w) :
    Calls Tryz.prog 3 #[.agg #[.int .i8 h.kind, .string h.name, .string h.arg, .int .i64 h.num, .int .i8 h.tk, .slice p.TA p.tn p.tc, .int .i8 h.uk, .slice p.UA p.un p.uc, .int .i64 h.label, .int .i64 h.pos, .slice p.A p.n p.c]] w fun e w' => e = .returned (.bool true) ∧ Below w.heap.size w w' := by
  have hB0 : Below w.heap.size w (w.alloc (.cells #[.int .i8 h.kind, .string h.name, .string h.arg, .int .i64 h.num, .int .i8 h.tk, .slice p.TA p.tn p.tc, .int .i8 h.uk, .slice p.UA p.un p.uc, .int .i64 h.label, .int .i64 h.pos, .slice p.A p.n p.c] 28)) := (Below.refl _ _).alloc (Nat.le_refl _) _
  have HX := Lib.hid (heap_new w (.cells #[.int .i8 h.kind, .string h.name, .string h.arg, .int .i64 h.num, .int .i8 h.tk, .slice p.TA p.tn p.tc, .int .i8 h.uk, .slice p.UA p.un p.uc, .int .i64 h.label, .int .i64 h.pos, .slice p.A p.n p.c] 28))
  have CF := Lib.hid (fun (W : World) (hb : Below w.heap.size w W) => (tfree_any h kids p W (hIs.below hb) (hG.below hb)).mono fun _ _ q => q.row)
  have CR := Lib.hid (fun (W : World) (hb : Below w.heap.size w W) => (tref_Free h kids p W (hIs.below hb)).mono fun _ _ q => q.row)
  have hxl := Tm.frS_len h kids
  generalize Tm.frS h kids = xs at *
  have HB0 := Lib.hid hB0
  clear hB0 hIs hG
  generalize hw1 : w.alloc (.cells #[.int .i8 h.kind, .string h.name, .string h.arg, .int .i64 h.num, .int .i8 h.tk, .slice p.TA p.tn p.tc, .int .i8 h.uk, .slice p.UA p.un p.uc, .int .i64 h.label, .int .i64 h.pos, .slice p.A p.n p.c] 28) = w1 at *
  have HW := Lib.hid hw1
  clear hw1
  obtain ⟨a0, a1, a2, a3, a4, a5, a6, a7, a8, a9, a10, al⟩ := own11 HX.out
  go_enter Tryz.func3, Tryz.ntmps3
  go_wp2_with fail
  rw [HW.out]
  go_region_law (first
    | (go_simp; go_at_call 8; (with_reducible refine (CF.out _ D1.out).mono ?_); rintro e u2 ⟨A2, c2, rfl, hr, hb⟩; have F2 := Lib.hid hr; have F1 := Lib.hid (R1.out.below hb); have D2 := Lib.hid (D1.out.trans (hb.mono D1.out.size)); clear hr hb; go_wp2_with fail)
    | (go_simp; go_at_call 9; (with_reducible refine (CR.out _ D1.out).mono ?_); rintro e u2 ⟨A2, c2, rfl, hr, hb⟩; have F2 := Lib.hid hr; have F1 := Lib.hid (R1.out.below hb); have D2 := Lib.hid (D1.out.trans (hb.mono D1.out.size)); clear hr hb; go_wp2_with fail)
    | (go_simp; go_at_call 8; (with_reducible refine (CF.out _ HB0.out.drew).mono ?_); rintro e u1 ⟨A1, c1, rfl, hr, hb⟩; have R1 := Lib.hid hr; have D1 := Lib.hid (HB0.out.drew.trans (hb.mono HB0.out.drew.size)); obtain ⟨x0, x1, x2, x3, x4, x5, x6, x7, x8, x9, x10, xl⟩ := own11 (heap_below hb (show w.heap.size < w1.drew.heap.size from al) (show w1.drew.heap[w.heap.size]? = _ from HX.out)); clear hr hb; go_wp2_with fail)
    | (go_simp; go_at_call 9; (with_reducible refine (CR.out _ HB0.out.drew).mono ?_); rintro e u1 ⟨A1, c1, rfl, hr, hb⟩; have R1 := Lib.hid hr; have D1 := Lib.hid (HB0.out.drew.trans (hb.mono HB0.out.drew.size)); obtain ⟨x0, x1, x2, x3, x4, x5, x6, x7, x8, x9, x10, xl⟩ := own11 (heap_below hb (show w.heap.size < w1.drew.heap.size from al) (show w1.drew.heap[w.heap.size]? = _ from HX.out)); clear hr hb; go_wp2_with fail)
    | (go_simp; go_at_call 7; (with_reducible refine (names_any xs _ _ _ _ _ (by omega) F1.out F2.out).mono ?_); rintro e u3 ⟨rfl, hb⟩; have D3 := Lib.hid (D2.out.trans (hb.mono D2.out.size)); clear hb; go_wp2_with fail)
    | (go_simp; go_at_call 7; (with_reducible refine (names_any xs _ _ _ _ _ (by omega) F2.out F1.out).mono ?_); rintro e u3 ⟨rfl, hb⟩; have D3 := Lib.hid (D2.out.trans (hb.mono D2.out.size)); clear hb; go_wp2_with fail))
  all_goals
    go_wp2_with fail
    go_ret
    exact ⟨rfl, D3.out⟩
end Go.Proofs.YtemdgpihifigoaaGreatDoor
