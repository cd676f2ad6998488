/-
  P4.3: every term of a text that is taken knows its place. The law's walk.
-/
import Derived.Test.YtocehfklacjgbaaGreatDoorPlB
import Derived.Test.YtocehfklacjgbaaGreatDoorWk4W
import Derived.Deep.OwnRows
namespace Go.Proofs.YtocehfklacjgbaaGreatDoor
open Go.RowKit
namespace Plw
/-- no place of the first i is one of those behind -/
theorem fresh {L : List Int} (hn : L.Nodup) {i j : Nat} {x y : Int} (hx : L[i]? = some x) (hy : L[j]? = some y) (hij : i < j) : y ≠ x := by
  intro e
  subst e
  have hi : i < L.length := by rcases Nat.lt_or_ge i L.length with q | q; exact q; rw [List.getElem?_eq_none q] at hx; cases hx
  have hj : j < L.length := by rcases Nat.lt_or_ge j L.length with q | q; exact q; rw [List.getElem?_eq_none q] at hy; cases hy
  rw [List.getElem?_eq_getElem hi] at hx
  rw [List.getElem?_eq_getElem hj] at hy
  injection hx with hx; injection hy with hy
  have := (List.nodup_iff_pairwise_ne.1 hn)
  rw [List.pairwise_iff_getElem] at this
  exact this i j hi hj hij (by rw [hx, hy])
/-- the counts' state: what is not counted yet is 0 -/
structure Cnt (w wr : World) (S : Nat) (m : Nat) (L : List Int) (i : Nat) : Prop where
  row : ∃ f : Nat → Value, wr.rowIs S 3 m f ∧ ∀ j q, i ≤ j → L[j]? = some ((q : Nat) : Int) → f q = .int .i64 0
  below : Below S w wr
end Plw
open Plw

set_option maxHeartbeats 8000000 in
set_option maxRecDepth 100000 in
theorem law_ParsePlaces (s : ByteArray) (w : World) (hG : TGlob w) (hE : ErrT w) (ht : Tens w) :
    Calls Tryz.prog 6 #[.string s] w fun e w' => e = .returned (.bool true) ∧ Below w.heap.size w w' := by
  have HW := Lib.hid (fun (W : World) (hb : Below w.heap.size w W) => wakes4_any W (hG.below hb) (hE.below hb))
  have C1 := Lib.hid (pterm_any s w hG)
  have HG := Lib.hid hG
  have HT := Lib.hid ht
  clear hG hE ht
  go_enter Tryz.func6, Tryz.ntmps6
  by_cases hs : s.size ≤ 16384
  · have j1 : ¬ ((16384 : Int) < s.size) := by omega
    go_wp2_with fail
    refine C1.out.mono ?_
    rintro e w1 ⟨q, hq, hp⟩
    cases q with
    | bad E a x =>
      obtain ⟨g, rfl, -, -, hb⟩ := hp
      have HB := Lib.hid (hb.trans (((Below.refl _ _).alloc (Nat.le_refl _) (.cells #[.int .i8 0, .string ⟨#[]⟩, .string ⟨#[]⟩, .int .i64 0, .int .i8 0, .slice none 0 0, .int .i8 0, .slice none 0 0, .int .i64 0, .int .i64 0, .slice none 0 0] 30)).mono hb.size))
      clear hb hq
      go_wp2_with fail
      refine (HW.out _ HB.out).mono ?_
      rintro e w3 ⟨rfl, hb3⟩
      go_wp2_with fail
      go_ret
      exact ⟨rfl, HB.out.trans (hb3.mono HB.out.size)⟩
    | ok h kids =>
      obtain ⟨p, rfl, hf, hb1⟩ := hp
      obtain ⟨hc, -, -⟩ := Sh.out_fine hq
      obtain ⟨hat, hnd⟩ := out_at hq
      have hb2 : Below w1.heap.size w1 (w1.alloc (.cells #[.int .i8 h.kind, .string h.name, .string h.arg, .int .i64 h.num, .int .i8 h.tk, .slice p.TA p.tn p.tc, .int .i8 h.uk, .slice p.UA p.un p.uc, .int .i64 h.label, .int .i64 h.pos, .slice p.A p.n p.c] 30)) := (Below.refl _ _).alloc (Nat.le_refl _) _
      have HB2 := Lib.hid (hb1.trans (hb2.mono hb1.size))
      have R2 := Lib.hid (heap_new w1 (.cells #[.int .i8 h.kind, .string h.name, .string h.arg, .int .i64 h.num, .int .i8 h.tk, .slice p.TA p.tn p.tc, .int .i8 h.uk, .slice p.UA p.un p.uc, .int .i64 h.label, .int .i64 h.pos, .slice p.A p.n p.c] 30))
      have HI2 := Lib.hid (hf.is.below hb2)
      have hlen : (h :: hds kids).length ≤ 8193 := by
        have h1 := (Tm.chk_le hc)
        have h2 := hds_len kids
        simp only [List.length_cons]; omega
      have HAT := Lib.hid hat
      have HND := Lib.hid hnd
      have HSP := Lib.hid (spots hat)
      have HC := Lib.hid hc
      clear hq hf hb1 hb2 C1 hat hnd hc
      go_upto_region 6 with fail
      generalize w1.alloc (.cells #[.int .i8 h.kind, .string h.name, .string h.arg, .int .i64 h.num, .int .i8 h.tk, .slice p.TA p.tn p.tc, .int .i8 h.uk, .slice p.UA p.un p.uc, .int .i64 h.label, .int .i64 h.pos, .slice p.A p.n p.c] 30) = w2 at *
      have CP := Lib.hid (places_any s hs (Tm.nodes kids + 1) h kids p w2 w2 (.slice none 0 0) [] (by omega) HI2.out HAT.out (by simp only [List.length_nil, List.length_cons] at hlen ⊢; omega) (fun W hb => HT.out.below (HB2.out.trans (hb.mono HB2.out.size))) ⟨rfl, .inl ⟨rfl, rfl⟩⟩ (Below.refl _ _))
      have CC := Lib.hid (fun (W : World) (hb : Below w2.heap.size w2 W) => tcheck_any h kids p W (HI2.out.below hb) (HG.out.below (HB2.out.trans (hb.mono HB2.out.size))))
      obtain ⟨b0, b1, b2, b3, b4, b5, b6, b7, b8, b9, b10, hlt⟩ := own11 R2.out
      go_wp2_with fail
      refine CP.out.mono ?_
      rintro e w3 ⟨v, rfl, hown, hgr⟩
      have hb3 : Below w2.heap.size w2 w3 := (Below.refl _ _).grown hgr.1 (Nat.le_refl _) fun k hk => by cases hk
      have HB3 := Lib.hid hb3
      have HOW := Lib.hid hown
      have R3 := Lib.hid (heap_below hb3 hlt R2.out)
      clear hown hgr hb3 b0 b1 b2 b3 b4 b5 b6 b7 b8 b9 b10 hlt CP
      obtain ⟨b0, b1, b2, b3, b4, b5, b6, b7, b8, b9, b10, hlt⟩ := own11 R3.out
      obtain ⟨L, hL⟩ : ∃ L : List Int, L = (h :: hds kids).map (fun g : Hd => g.pos) := ⟨_, rfl⟩
      have HSP2 := Lib.hid (show ∀ x ∈ L, ∃ q : Nat, x = (q : Int) ∧ q < s.size from fun x hx => HSP.out x (by rw [← hL]; exact hx))
      have HND2 := Lib.hid (show L.Nodup by rw [hL]; exact HND.out)
      have hll : L.length = 1 + (hds kids).length := by rw [hL]; simp; omega
      have hps : ps (h :: hds kids) = L.map (fun x => (.int .i64 x : Value)) := by rw [hL]; simp [ps]
      have how : w3.ownsRow w2.heap.size 3 1 v L.length (L.map fun x => (.int .i64 x : Value)) := by
        have q := HOW.out
        rw [hps] at q
        rw [hll]
        simpa using q
      have hl1 : L.length ≤ 8193 := by rw [hll]; simp only [List.length_cons] at hlen; omega
      have hl0 : 0 < L.length := by omega
      obtain ⟨gB, cap, hv, hgB, hcell⟩ : ∃ gB cap, v = .slice (some ⟨gB, 0, none⟩) L.length cap ∧ gB < w3.heap.size ∧ ∀ j x, L[j]? = some x → w3.cell? ⟨gB, j, none⟩ = some (.int .i64 x) := by
        rcases how.2 with ⟨-, h0⟩ | ⟨g, cap, cur, hv, -, hg, -, -, -, -⟩
        · omega
        · refine ⟨g, cap, hv, heap_lt hg, fun j x hx => ?_⟩
          have := how.cells (g := g) (by rw [hv]; rfl) j (.int .i64 x) (by simp [hx])
          rw [show (⟨g, 0, none⟩ : Addr).add j = ⟨g, j, none⟩ by unfold Addr.add; by_cases h : j = 0 <;> simp [h]] at this
          exact this
      have HCELL := Lib.hid hcell
      subst hv
      clear hcell how hps hlen hll HSP HND HAT HOW hL
      go_wp2_with fail
      refine (CC.out w3 HB3.out).mono ?_
      rintro e w4 ⟨rfl, hb4⟩
      rw [HC.out]
      have HB4 := Lib.hid hb4
      have z4 := hb4.size
      have HCELL4 := Lib.hid (fun (W : World) (hb : Below w4.heap.size w4 W) (j : Nat) (x : Int) (hx : L[j]? = some x) => (show W.cell? ⟨gB, j, none⟩ = some (.int .i64 x) by
        rw [hb.cell (p := ⟨gB, j, none⟩) (show gB < w4.heap.size by omega), hb4.cell (p := ⟨gB, j, none⟩) hgB]; exact HCELL.out j x hx))
      clear hb4 b0 b1 b2 b3 b4 b5 b6 b7 b8 b9 b10
      have i5 : (s.size : Int) ≤ 16384 := by omega
      go_upto_region 9 with fail
      obtain ⟨i0, hi, hz1, hz2, hz3⟩ := info_parts info_int
      go_wp2_with (first | (at_make; refine wpList_make_row _ rfl _ _ 42 rfl 3 i0 (.int .i64 0) Tryz.underlying42 hi hz1 hz2 rfl .i64 .i64 (s.size + 1) rfl rfl (by rw [hz3]; omega) (by omega) ?_))
      have hrow := World.rowIs_made w4 (.int .i64 0) (s.size + 1) 3
      have hbz : Below w4.heap.size w4 (w4.alloc (.cells (madeCells #[.int .i64 0] (s.size + 1)) 3)) := (Below.refl _ _).alloc (Nat.le_refl _) _
      have hst : Cnt w4 (w4.alloc (.cells (madeCells #[.int .i64 0] (s.size + 1)) 3)) w4.heap.size (s.size + 1) L 0 := ⟨⟨_, hrow, fun _ _ _ _ => rfl⟩, hbz⟩
      have HST := Lib.hid hst
      generalize w4.alloc (.cells (madeCells #[.int .i64 0] (s.size + 1)) 3) = w5 at *
      clear hrow hbz hst hi hz1 hz2 hz3
      go_wp2_with fail
      go_loopw [8] (fun v8 wr => ∃ i : Nat, v8 = .int .i64 i ∧ i ≤ L.length ∧ Cnt w4 wr w4.heap.size (s.size + 1) L i) (fun v _ => L.length - (intOf v).toNat)
      case atStart => exact ⟨0, rfl, by omega, HST.out⟩
      case round =>
        obtain ⟨i, rfl, hi', hR⟩ := hrel
        obtain ⟨⟨f, hrow, hz⟩, hbr⟩ := hR
        by_cases hin : i < L.length
        · obtain ⟨x, hx⟩ : ∃ x, L[i]? = some x := ⟨L[i]'hin, List.getElem?_eq_getElem _⟩
          obtain ⟨q, rfl, hqs⟩ := HSP2.out x (List.mem_of_getElem? hx)
          have hc := HCELL4.out wr hbr i q hx
          have hfq := hz i q (Nat.le_refl _) hx
          have hcq := hrow.cell (i := q) (by omega)
          rw [hfq] at hcq
          have hfr := hrow.frozen q
          have hset := hrow.set q (.int .i64 1)
          have hnx : ∀ j y, i + 1 ≤ j → L[j]? = some ((y : Nat) : Int) → y ≠ q := fun j y hj hy e => fresh HND2.out hx hy (by omega) (by rw [e])
          have hrel : Cnt w4 (wr.setCell ⟨w4.heap.size, q, none⟩ (.int .i64 1)) w4.heap.size (s.size + 1) L (i + 1) :=
            ⟨⟨_, hset, fun j y hj hy => by rw [if_neg (hnx j y hj hy)]; exact hz j y (by omega) hy⟩, hbr.setCell (p := ⟨w4.heap.size, q, none⟩) (Nat.le_refl _) _⟩
          have HREL := Lib.hid hrel
          have j1 : (i : Int) < L.length := by omega
          have j2 : (0 : Int) ≤ i ∧ (i : Int) < L.length := by omega
          have j3 : (0 : Int) ≤ q ∧ (q : Int) < ((s.size + 1 : Nat) : Int) := by omega
          have hgne : gB ≠ w4.heap.size := by omega
          have hc2 : (wr.setCell ⟨w4.heap.size, q, none⟩ (.int .i64 1)).cell? ⟨gB, i, none⟩ = some (.int .i64 q) := by
            rw [World.cell?_setCell_other _ _ _ _ (fun e => hgne (by injection e with e; exact e.symm))]; exact hc
          clear hrow hset hz hnx hrel hfq hbr
          go_wp2_with fail
          go_roundw
          case rel => exact ⟨i + 1, by go_num, by omega, HREL.out⟩
          case measure => simp [intOf]; omega
        · obtain rfl : i = L.length := by omega
          have j1 : ¬ ((L.length : Int) < L.length) := by omega
          have hb5 : Below w.heap.size w wr := HB2.out.trans ((HB3.out.trans ((HB4.out.trans (hbr.mono z4)).mono HB3.out.size)).mono HB2.out.size)
          have HB5 := Lib.hid hb5
          clear hrow hz hbr hb5
          go_wp2_with fail
          refine (HW.out wr HB5.out).mono ?_
          rintro e w6 ⟨rfl, hb6⟩
          go_wp2_with fail
          go_ret
          exact ⟨rfl, HB5.out.trans (hb6.mono HB5.out.size)⟩
  · have j1 : (16384 : Int) < s.size := by omega
    go_wp2_with fail
    refine (HW.out w (Below.refl _ _)).mono ?_
    rintro e w3 ⟨rfl, hb3⟩
    go_wp2_with fail
    go_ret
    exact ⟨rfl, hb3⟩
end Go.Proofs.YtocehfklacjgbaaGreatDoor
