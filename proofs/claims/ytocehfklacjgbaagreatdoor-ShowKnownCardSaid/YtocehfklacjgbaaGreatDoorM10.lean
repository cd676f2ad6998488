/-
  show: a number's words, a type's text; what a step of writing leaves. show: a number. show: the writer's kids, one behind the other. show: the state of a term's own writing; a type's text. show: a term's own words, by its kind. gen_sh.py wrote this. show: a term's own words, by its kind. gen_sh.py wrote this. show: a term's own words, by its kind. gen_sh.py wrote this. show: a term's own words, by its kind. gen_sh.py wrote this. show: a term's own words, by its kind. gen_sh.py wrote this. show: a term's own words, by its kind. gen_sh.py wrote this. show: a number's words; what is open to the right, from own; a term at a strength. gen_sh.py's kin wrote this. show: any right term that can be written, at a strength. gen_sh11.py wrote this. A term's words with their kinds; what the grammar makes of one word; a type among a term's words. What is told is read as it was: terms that are open to the right. What is told is read as it was: what stands between operators. What is told is read as it was: operators; any right term. show: how long a right term's words are; unwritable. The document's Has (of Cast), least. The document's words: at a strength, given a term's own. The document's words, kinds 10, 11, 4, 16. The document's words, kinds 6, 9, 12, 13. The document's words, kinds 5, 7. The document's words, kinds 8, 14. The document's words: leaves, operators. The document's words of a right term. An argument that is a term, with what its numbers are: as XOpenTm, and each number is an int64's.
-/
import Derived.Test.YtocehfklacjgbaaGreatDoorM6
import Derived.Test.YtocehfklacjgbaaGreatDoorM8
import Derived.Test.YtocehfklacjgbaaGreatDoorM9
import Derived.Deep.RegionLaw
import Derived.Deep.RegionHeld3
import Derived.StillTailTactics
import Derived.Test.YtocehfklacjgbaaGreatDoorM11
import Derived.Test.YtocehfklacjgbaaGreatDoorM13
import Derived.Test.YtocehfklacjgbaaGreatDoorM7
import Derived.Test.YtocehfklacjgbaaGreatDoorShR0
import Derived.Test.YtocehfklacjgbaaGreatDoorLow
import Derived.Test.YtocehfklacjgbaaGreatDoorM4
namespace Go.Proofs.YtocehfklacjgbaaGreatDoor
open Go.RowKit

theorem cf_put (args : Array Value) (W : World) : (callFunc 25 args).run Tryz.prog W = .ok (.enter 25 args) W := by simp [go_sem]
theorem cf_kid (args : Array Value) (W : World) : (callFunc 138 args).run Tryz.prog W = .ok (.enter 138 args) W := by simp [go_sem]
theorem wrote_grow {B b : Nat} {w : World} (hB : B ≤ w.heap.size) (k : Nat) (os : Array Obj) : Wrote B b w (Sort.grow (w.drewN k) os) := by
  have hb : ∀ i, i < w.heap.size → (Sort.grow (w.drewN k) os).heap[i]? = w.heap[i]? := fun i hi => by
    show ((w.drewN k).heap ++ os)[i]? = _
    rw [Array.getElem?_append_left (by exact hi)]; rfl
  refine ⟨⟨rfl, rfl, rfl, by simp [World.drewN], fun i hi => hb i (by omega)⟩, fun i o h _ _ => ?_⟩
  rw [hb i (heap_lt h)]; exact h
theorem Wrote.undrew {B b n : Nat} {w v : World} (h : Wrote B b (w.drewN n) v) : Wrote B b w v := ⟨⟨h.below.os, h.below.tape, h.below.output, h.below.size, h.below.block⟩, fun k o h1 => h.others k o h1⟩
theorem Wrote.low {B b : Nat} {w w' : World} (hb : Below w.heap.size w w') (hB : B ≤ w.heap.size) : Wrote B b w w' :=
  ⟨hb.mono hB, fun k o h _ _ => by rw [hb.block k (heap_lt h)]; exact h⟩
theorem Bld.low {B b : Nat} {l : List UInt8} {w w' : World} (h : Bld B b l w) (hb : Below w.heap.size w w') : Bld B b l w' := by
  have key : ∀ p, Lib.BuilderAtF 70 5 B b p (Lib.byteCells l) w → Lib.BuilderAtF 70 5 B b p (Lib.byteCells l) w' := by
    rintro p ⟨hB, v, hbk, hown, hne⟩
    refine ⟨hB, v, heap_below hb (heap_lt hbk) hbk, hown.kept (row := none) ⟨hb.os, hb.tape, hb.output, hb.size, fun k hk _ => hb.block k hk⟩ ?_, hne⟩
    cases hv : v.ownBlock <;> simp
  rcases h with h | h
  · exact .inl (key _ h)
  · exact .inr (key _ h)
theorem Bld.grow {B b : Nat} {l : List UInt8} {w : World} (h : Bld B b l w) (k : Nat) (os : Array Obj) : Bld B b l (Sort.grow (w.drewN k) os) :=
  h.low (wrote_grow (B := w.heap.size) (b := 0) (Nat.le_refl _) k os).below
/-- the table of tens -/
def Tens (w : World) : Prop := Lib.TabIs Tryz.prog w "internal/strconv.uint64pow10" .u64 Lib.pow10Tab
/-- the table stands below B -/
theorem Tens.below {w w' : World} (h : Tens w) (hb : Below w.heap.size w w') : Tens w' := var_at hb h

set_option maxHeartbeats 1000000 in
set_option maxRecDepth 100000 in
theorem fint_any (B b : Nat) (l : List UInt8) (n : Int) (h0 : 0 ≤ n) (h1 : n ≤ 9223372036854775807) (w : World) (h : Bld B b l w) (hB : B ≤ w.heap.size) (ht : Tens w) :
    Calls Tryz.prog 31 #[.int .i64 n, .int .i64 10] w fun e w' => e = .returned (.string ⟨(Lib.decDigits n.toNat).toArray⟩) ∧ Bld B b l w' ∧ Wrote B b w w' := by
  have CF := Lib.hid (Tryz.internal_strconv_FormatInt_10 n (by omega) h1 w ht)
  have hi : Lib.itoa n = Lib.decDigits n.toNat := by unfold Lib.itoa; rw [if_neg (by omega)]
  rw [hi] at CF
  have H := Lib.hid h
  clear h ht hi
  go_enter Tryz.func31, Tryz.ntmps31
  go_wp2_with fail
  refine CF.out.mono ?_
  rintro e w2 ⟨rfl, k, os, rfl⟩
  have HF := Lib.hid (And.intro (H.out.grow k os) (wrote_grow (b := b) hB k os))
  go_wp2_with fail
  go_ret
  exact ⟨rfl, HF.out.1, HF.out.2⟩

/-- a new row of words behind what is there -/
theorem row_new (w : World) (b : Nat) (hb : b < w.heap.size) (ws : List ByteArray) : Row (w.alloc (.cells (ws.map Value.string).toArray 9)) b (some ⟨w.heap.size, 0, none⟩) ws :=
  .inr ⟨w.heap.size, 9, rfl, heap_new w _, by omega, by decide⟩
/-- words put out of a new row -/
theorem put_new (B b : Nat) (l : List UInt8) (ws : List ByteArray) (c : Nat) (w : World) (h : Bld B b l w) (hB : B ≤ w.heap.size) (hn : ws.length ≤ 1000) (hl : l.length + Sh.tl (bytes ws) ≤ 140737488355328) :
    Calls Tryz.prog 25 #[.slice (some ⟨w.heap.size, 0, none⟩) ws.length c, .pointer (some ⟨b, 0, none⟩)] (w.alloc (.cells (ws.map Value.string).toArray 9)) (Puts B b l (bytes ws) w) := by
  have hb0 : Below w.heap.size w (w.alloc (.cells (ws.map Value.string).toArray 9)) := (Below.refl _ _).alloc (Nat.le_refl _) _
  refine (put_any B b l ws _ c _ (h.low hb0) (Nat.le_trans hB hb0.size) (row_new w b h.lt.2 ws) hn hl).mono ?_
  rintro e w' ⟨h1, h2, h3⟩
  exact ⟨h1, h2, (Wrote.low hb0 hB).trans h3⟩

end Go.Proofs.YtocehfklacjgbaaGreatDoor
namespace Go.Proofs.YtocehfklacjgbaaGreatDoor
open Go.RowKit

set_option maxHeartbeats 4000000 in
set_option maxRecDepth 100000 in
theorem snum_any (B b : Nat) (l : List UInt8) (n : Int) (h0 : -9223372036854775808 < n) (h1 : n ≤ 9223372036854775807) (w : World) (h : Bld B b l w) (hB : B ≤ w.heap.size) (ht : ∀ W : World, Below B w W → Tens W) (hl : l.length ≤ 100000000) :
    Calls Tryz.prog 98 #[.agg #[(.func (Fn.func 25) #[] #[.pointer (some ⟨b, 0, none⟩)])], .int .i64 n] w (Puts B b l (Sh.numW n) w) := by
  have hcf := cf_put
  have hb1 : Below w.heap.size w (w.alloc (.cells #[(.func (Fn.func 25) #[] #[.pointer (some ⟨b, 0, none⟩)])] 77)) := (Below.refl _ _).alloc (Nat.le_refl _) _
  have HX := Lib.hid (heap_new w (.cells #[(.func (Fn.func 25) #[] #[.pointer (some ⟨b, 0, none⟩)])] 77))
  have hblt := h.lt.2
  generalize hw1 : w.alloc (.cells #[(.func (Fn.func 25) #[] #[.pointer (some ⟨b, 0, none⟩)])] 77) = w1 at *
  have HW := Lib.hid hw1
  have HB1 := Lib.hid (h.low hb1)
  have HBW := Lib.hid (Nat.le_trans hB hb1.size)
  have HT := Lib.hid (ht w1 (hb1.mono hB))
  have HTT := Lib.hid ht
  have HWR := Lib.hid (Wrote.low (B := B) (b := b) hb1 hB)
  have HLT := Lib.hid hblt
  have HL := Lib.hid hl
  have H1 := Lib.hid h1
  have H0 := Lib.hid h0
  clear hw1 h hB ht hb1 hblt hl h1 h0
  have CE := Lib.hid (fun (l2 : List UInt8) (m : Int) (u : World) (hm : 0 ≤ m) (hm2 : m ≤ 9223372036854775807) (hb : Bld B b l2 u) (hB : B ≤ u.heap.size) (ht : Tens u) => fint_any B b l2 m hm hm2 u hb hB ht)
  have CP := Lib.hid (fun (l2 : List UInt8) (s : ByteArray) (u : World) (hb : Bld B b l2 u) (hB : B ≤ u.heap.size) (hl : l2.length + s.size ≤ 110000000) => show Calls Tryz.prog 25 #[.slice (some ⟨u.heap.size, 0, none⟩) 1 1, .pointer (some ⟨b, 0, none⟩)] (u.alloc (.cells #[.string s] 9)) (Puts B b l2 (bytes [s]) u) from
    put_new B b l2 [s] 1 u hb hB (by simp) (by simp only [bytes, List.map, Sh.tl]; have : s.data.toList.length = s.size := rfl; omega))
  obtain ⟨x0, _, hxl⟩ := own1 HX.out
  by_cases hn : n < 0
  · have e1 : Sh.numW n = bytes [⟨#[45]⟩] ++ bytes [⟨(Lib.decDigits (-n).toNat).toArray⟩] := by unfold Sh.numW; rw [if_pos hn, show (-n).toNat = n.natAbs by omega]; rfl
    rw [e1]
    have HD := Lib.hid (show (⟨(Lib.decDigits (-n).toNat).toArray⟩ : ByteArray).size ≤ 20 by
      have := Sh.decDigits_len (-n).toNat 19 (by have := H0.out; have := H1.out; omega)
      show (Lib.decDigits (-n).toNat).toArray.size ≤ 20
      simp; omega)
    have j1 : IntKind.i64.wrap (-n) = -n := by have := H0.out; have := H1.out; exact IntWalk.i64_in _ (by omega)
    clear e1
    go_enter Tryz.func98, Tryz.ntmps98
    go_upto_region 1 with fail
    rw [HW.out]
    go_wp2_with fail
    refine (CP.out l ⟨#[45]⟩ w1 HB1.out HBW.out (by have := HL.out; have e : (⟨#[45]⟩ : ByteArray).size = 1 := rfl; omega)).mono ?_
    rintro e u ⟨rfl, hb, hw⟩
    have HBu := Lib.hid hb
    have HWu := Lib.hid (HWR.out.trans hw)
    have HBWu := Lib.hid (Nat.le_trans HBW.out hw.below.size)
    have HTu := Lib.hid (HTT.out u HWu.out.below)
    have HXu := Lib.hid (hw.box HX.out (by have := HLT.out; omega) (by decide))
    have HLL := Lib.hid (show (Sh.puts l (bytes [⟨#[45]⟩])).length ≤ 100000003 by have h1 := Sh.puts_len (bytes [⟨#[45]⟩]) l; have h2 := HL.out; have h3 : Sh.tl (bytes [⟨#[45]⟩]) = 2 := rfl; omega)
    clear hb hw x0 hxl
    go_upto_region 4 with fail
    have hD := below_drewN (Below.refl u.heap.size u) 1
    have C1 := Lib.hid (CE.out (Sh.puts l (bytes [⟨#[45]⟩])) (-n) u.drew (by have := H0.out; have := H1.out; omega) (by have := H0.out; have := H1.out; omega) (HBu.out.low hD) HBWu.out (HTu.out.below hD))
    obtain ⟨x0, _, hxl⟩ := own1 HXu.out
    clear hD
    go_region_law (first
      | (go_simp; go_at_call 31; (with_reducible refine C1.out.mono ?_); rintro e v ⟨rfl, hb, hw⟩; have HBv := Lib.hid hb; have HWv := Lib.hid (show Wrote B b u v from Wrote.undrew (n := 1) hw); have HBWv := Lib.hid (Nat.le_trans HBWu.out hw.below.size); have HXv := Lib.hid (hw.box (show u.drew.heap[w.heap.size]? = _ from HXu.out) (by have := HLT.out; omega) (by decide)); clear hb hw; obtain ⟨x2, _, hxl2⟩ := own1 HXv.out; go_wp2_with fail)
      | (go_simp; go_at_call 25; (with_reducible refine (CP.out (Sh.puts l (bytes [⟨#[45]⟩])) _ _ HBv.out HBWv.out (by have := HLL.out; have := HD.out; omega)).mono ?_); rintro e z ⟨rfl, hb, hw⟩; have HBz := Lib.hid hb; have HWz := Lib.hid hw; clear hb hw; go_wp2_with fail))
    all_goals
      go_wp2_with fail
      change bodyPost _ _ _ _ _ _
      go_end0
      exact ⟨rfl, by rw [Sh.puts_app]; exact HBz.out, (HWu.out.trans HWv.out).trans HWz.out⟩
  · have e1 : Sh.numW n = bytes [⟨(Lib.decDigits n.toNat).toArray⟩] := by unfold Sh.numW; rw [if_neg hn]; rfl
    rw [e1]
    have HD := Lib.hid (show (⟨(Lib.decDigits n.toNat).toArray⟩ : ByteArray).size ≤ 20 by
      have := Sh.decDigits_len n.toNat 19 (by have := H0.out; have := H1.out; omega)
      show (Lib.decDigits n.toNat).toArray.size ≤ 20
      simp; omega)
    have HBu := HB1
    have HBWu := HBW
    have HTu := HT
    have HXu := HX
    have HLL := HL
    clear e1
    go_enter Tryz.func98, Tryz.ntmps98
    go_upto_region 1 with fail
    rw [HW.out]
    go_upto_region 4 with fail
    have hD := below_drewN (Below.refl w1.heap.size w1) 1
    have C1 := Lib.hid (CE.out l (n) w1.drew (by have := H0.out; have := H1.out; omega) (by have := H0.out; have := H1.out; omega) (HBu.out.low hD) HBWu.out (HTu.out.below hD))
    obtain ⟨x0, _, hxl⟩ := own1 HXu.out
    clear hD
    go_region_law (first
      | (go_simp; go_at_call 31; (with_reducible refine C1.out.mono ?_); rintro e v ⟨rfl, hb, hw⟩; have HBv := Lib.hid hb; have HWv := Lib.hid (show Wrote B b w1 v from Wrote.undrew (n := 1) hw); have HBWv := Lib.hid (Nat.le_trans HBWu.out hw.below.size); have HXv := Lib.hid (hw.box (show w1.drew.heap[w.heap.size]? = _ from HXu.out) (by have := HLT.out; omega) (by decide)); clear hb hw; obtain ⟨x2, _, hxl2⟩ := own1 HXv.out; go_wp2_with fail)
      | (go_simp; go_at_call 25; (with_reducible refine (CP.out l _ _ HBv.out HBWv.out (by have := HLL.out; have := HD.out; omega)).mono ?_); rintro e z ⟨rfl, hb, hw⟩; have HBz := Lib.hid hb; have HWz := Lib.hid hw; clear hb hw; go_wp2_with fail))
    all_goals
      go_wp2_with fail
      change bodyPost _ _ _ _ _ _
      go_end0
      exact ⟨rfl, HBz.out, (HWR.out.trans HWv.out).trans HWz.out⟩
end Go.Proofs.YtocehfklacjgbaaGreatDoor
namespace Go.Proofs.YtocehfklacjgbaaGreatDoor
open Go.RowKit

/-- below B nothing has turned; above it the builder's block, rows of bytes, the block Z alone -/
structure WrZ (B b Z : Nat) (w w' : World) : Prop where
  below : Below B w w'
  others : ∀ g o, w.heap[g]? = some o → g ≠ b → g ≠ Z → (∀ c f, o ≠ .cells c 5 f) → w'.heap[g]? = some o
theorem Wrote.z {B b : Nat} {w w' : World} (h : Wrote B b w w') (Z : Nat) : WrZ B b Z w w' := ⟨h.below, fun g o h1 h2 _ h4 => h.others g o h1 (fun e => h2 (by injection e)) h4⟩
theorem WrZ.trans {B b Z : Nat} {a c d : World} (h : WrZ B b Z a c) (k : WrZ B b Z c d) : WrZ B b Z a d := ⟨h.below.trans k.below, fun g o h1 h2 h3 h4 => k.others g o (h.others g o h1 h2 h3 h4) h2 h3 h4⟩
theorem WrZ.wrote {B b Z : Nat} {w w' : World} (h : WrZ B b Z w w') (hZ : w.heap.size ≤ Z) : Wrote B b w w' := ⟨h.below, fun g o h1 h2 h4 => h.others g o h1 (fun e => h2 (by rw [e])) (by have := heap_lt h1; omega) h4⟩
theorem WrZ.box {B b Z g : Nat} {w w' : World} {cs : Array Value} {t : TypeId} {fz : Nat × Nat} (h : WrZ B b Z w w') (hg : w.heap[g]? = some (.cells cs t fz)) (hb : g ≠ b) (hz : g ≠ Z) (ht : t ≠ 5) : w'.heap[g]? = some (.cells cs t fz) :=
  h.others g _ hg hb hz (by intro c f e; injection e with _ e; exact ht e)
theorem WrZ.low {B b Z : Nat} {w w' : World} (hb : Below w.heap.size w w') (hB : B ≤ w.heap.size) : WrZ B b Z w w' := (Wrote.low (b := b) hb hB).z Z
theorem WrZ.set {B b Z : Nat} {w : World} (hZ : B ≤ Z) (v : Value) : WrZ B b Z w (w.setCell ⟨Z, 0, none⟩ v) :=
  ⟨(Below.refl B w).setCell (p := ⟨Z, 0, none⟩) hZ v, fun g o h1 _ h3 _ => by rw [Below.heap_setCell _ _ _ g h3]; exact h1⟩
theorem Bld.set {B b Z : Nat} {l : List UInt8} {w : World} {cs : Array Value} (h : Bld B b l w) (hz : w.heap[Z]? = some (.cells cs 3 (0, 0))) (hne : Z ≠ b) (v : Value) : Bld B b l (w.setCell ⟨Z, 0, none⟩ v) := by
  have key : ∀ p, Lib.BuilderAtF 70 5 B b p (Lib.byteCells l) w → Lib.BuilderAtF 70 5 B b p (Lib.byteCells l) (w.setCell ⟨Z, 0, none⟩ v) := by
    rintro p ⟨hB, u, hbk, hown, hne2⟩
    refine ⟨hB, u, by rw [Below.heap_setCell _ _ _ b (fun e => hne e.symm)]; exact hbk, hown.kept (row := some Z) ⟨rfl, rfl, rfl, by simp [World.setCell], fun k _ hk => Below.heap_setCell _ _ _ k (fun e => hk (by rw [e]))⟩ ?_, hne2⟩
    cases hv : u.ownBlock with
    | none => exact .inl rfl
    | some g =>
      refine .inr fun e => ?_
      injection e with e
      subst e
      rcases hown.2 with ⟨rfl, _⟩ | ⟨g', cap, cur, fz, rfl, _, hg, _⟩
      · cases hv
      · simp only [Value.ownBlock, Option.some.injEq] at hv
        subst hv
        rw [hg] at hz
        injection hz with hz
        injection hz with _ hz _
        exact absurd hz (by decide)
  rcases h with h | h
  · exact .inl (key _ h)
  · exact .inr (key _ h)

/-- a term is put at a strength -/
def StandOK (B b : Nat) (w0 : World) (h : Hd) (kids : Tm) (p : Pl) : Prop := ∀ (k : Int) (l : List UInt8) (W : World), Below B w0 W → B ≤ W.heap.size → Bld B b l W → l.length + Sh.tl (Sh.stand k h kids) ≤ 100000000 →
  Calls Tryz.prog 28 #[.agg #[(.func (Fn.func 25) #[] #[.pointer (some ⟨b, 0, none⟩)])], .agg #[.int .i8 h.kind, .string h.name, .string h.arg, .int .i64 h.num, .int .i8 h.tk, .slice p.TA p.tn p.tc, .int .i8 h.uk, .slice p.UA p.un p.uc, .int .i64 h.label, .int .i64 h.pos, .slice p.A p.n p.c], .int .i64 k] W (Puts B b l (Sh.stand k h kids) W)
/-- the i-th kid of a term, in memory below B -/
structure KidAt (B b : Nat) (w0 : World) (p : Pl) (i : Nat) (h : Hd) (kids : Tm) (q : Pl) : Prop where
  cells : ∃ bb oo, p.A = some ⟨bb, oo, none⟩ ∧ bb < B ∧ ∀ j v, (h.cells q)[j]? = some v → w0.cell? ⟨bb, oo + i * 11 + j, none⟩ = some v
  lt : i < p.n
  n_max : (p.n : Int) ≤ 9223372036854775807
  ok : StandOK B b w0 h kids q
/-- what the writing of a kid leaves -/
def KidPuts (B b Z i : Nat) (l : List UInt8) (ws : List (List UInt8)) (w : World) (e : Ending) (w' : World) : Prop := e = .returned (.tuple #[]) ∧ Bld B b (Sh.puts l ws) w' ∧ WrZ B b Z w w' ∧ w'.heap[Z]? = some (.cells #[.int .i64 i] 3 (0, 0))

set_option maxHeartbeats 4000000 in
set_option maxRecDepth 100000 in
theorem kid_any (B b X Y Z : Nat) (w0 W : World) (h0 : Hd) (p0 : Pl) (i : Nat) (h : Hd) (kids : Tm) (q : Pl) (k : Int) (l : List UInt8) (ws : List ByteArray) (A : Option Addr) (c : Nat) (hK : KidAt B b w0 p0 i h kids q) (hb0 : Below B w0 W) (hB : B ≤ W.heap.size) (hbl : Bld B b l W)
    (hX : W.heap[X]? = some (.cells #[(.func (Fn.func 25) #[] #[.pointer (some ⟨b, 0, none⟩)])] 77 (0, 0))) (hY : W.heap[Y]? = some (.cells #[.int .i8 h0.kind, .string h0.name, .string h0.arg, .int .i64 h0.num, .int .i8 h0.tk, .slice p0.TA p0.tn p0.tc, .int .i8 h0.uk, .slice p0.UA p0.un p0.uc, .int .i64 h0.label, .int .i64 h0.pos, .slice p0.A p0.n p0.c] 30 (0, 0))) (hZ : W.heap[Z]? = some (.cells #[.int .i64 i] 3 (0, 0))) (hBX : B ≤ X) (hBY : B ≤ Y) (hBZ : B ≤ Z) (hXb : X ≠ b) (hYb : Y ≠ b) (hZb : Z ≠ b)
    (hr : Row W b A ws) (hn : ws.length ≤ 1000) (hl : l.length + Sh.tl (Sh.stand k h kids ++ bytes ws) ≤ 100000000) :
    Calls Tryz.prog 138 #[.int .i64 k, .slice A ws.length c, .pointer (some ⟨X, 0, none⟩), .pointer (some ⟨Y, 0, none⟩), .pointer (some ⟨Z, 0, none⟩)] W (KidPuts B b Z (i + 1) l (Sh.stand k h kids ++ bytes ws) W) := by
  have hcf := cf_put
  rw [Sh.tl_app] at hl
  obtain ⟨⟨bb, oo, hA, hbb, hcs⟩, hlt, hmax, hok⟩ := hK
  have hD := below_drewN (Below.refl W.heap.size W) 1
  have CS := Lib.hid (hok k l (W.drewN 1) (hb0.trans (hD.mono hB)) hB (hbl.low hD) (by omega))
  have hq := Sh.puts_len (Sh.stand k h kids) l
  have HXX := Lib.hid hX
  have HZZ := Lib.hid hZ
  have HRR := Lib.hid hr
  have HQ := Lib.hid (And.intro hq hl)
  have HNE := Lib.hid (And.intro hXb (And.intro hYb hZb))
  have HBB := Lib.hid (And.intro hBX (And.intro hBY hBZ))
  have HBW := Lib.hid hB
  have HNN := Lib.hid hn
  have j1 : (i : Int) < p0.n := by omega
  have j2 : (0 : Int) ≤ i ∧ (i : Int) < p0.n := by omega
  have hcell : ∀ j v, (h.cells q)[j]? = some v → W.cell? ⟨bb, oo + i * 11 + j, none⟩ = some v := fun j v hv => by rw [hb0.cell (p := ⟨bb, _, none⟩) hbb]; exact hcs j v hv
  obtain ⟨c0, c1, c2, c3, c4, c5, c6, c7, c8, c9, c10⟩ := Tm.row hcell
  obtain ⟨x0, _, _⟩ := own1 hX
  obtain ⟨y0, y1, y2, y3, y4, y5, y6, y7, y8, y9, y10, yl⟩ := own11 hY
  obtain ⟨z0, _, zl⟩ := own1 hZ
  rw [hA] at y10
  have HL0 := Lib.hid (below_drewN (Below.refl W.heap.size W) 1)
  generalize hn2 : ws.length = N at *
  clear hX hY hZ hr hq hl hXb hYb hZb hBX hBY hBZ hB hb0 hbl hcs hcell hok hD hn hlt hbb
  go_enter Tryz.func138, Tryz.ntmps138
  go_wp2_with fail
  go_still_tail 7, (by kernel_rfl)
  change wpList _ _ _ _ _ (W.drewN 1)
  clear c0 c1 c2 c3 c4 c5 c6 c7 c8 c9 c10 x0 y0 y1 y2 y3 y4 y5 y6 y7 y8 y9 y10 yl z0 zl
  have hsz : (W.drewN 1).heap.size = W.heap.size := rfl
  generalize hw1 : W.drewN 1 = w1 at *
  have HW1 := Lib.hid hw1
  clear hw1
  go_wp2_with fail
  refine CS.out.mono ?_
  rintro e u ⟨rfl, hb, hw⟩
  have hw' := Lib.hid (show Wrote B b W u from by rw [← HW1.out] at hw; exact hw.undrew)
  have HU := Lib.hid hb
  have HXu := Lib.hid (hw'.out.box HXX.out HNE.out.1 (by decide))
  have HZu := Lib.hid (hw'.out.box HZZ.out HNE.out.2.2 (by decide))
  have CP := Lib.hid (put_any B b (Sh.puts l (Sh.stand k h kids)) ws A c u HU.out (Nat.le_trans HBW.out hw'.out.below.size) (HRR.out.wrote hw'.out) (by have := HNN.out; omega) (by have := HQ.out; omega))
  rw [hn2] at CP
  obtain ⟨x0, _, _⟩ := own1 HXu.out
  clear hb hw hsz
  go_wp2_with fail
  refine CP.out.mono ?_
  rintro e v ⟨rfl, hb, hw⟩
  have HV := Lib.hid hb
  have HWV := Lib.hid (hw'.out.trans hw)
  have HZv := Lib.hid (hw.box HZu.out HNE.out.2.2 (by decide))
  obtain ⟨z0, zf, zl⟩ := own1 HZv.out
  have j3 : IntKind.i64.wrap ((i : Int) + 1) = (i : Int) + 1 := IntWalk.i64_in _ (by omega)
  clear hb hw x0
  go_wp2_with fail
  change bodyPost _ _ _ _ _ _
  go_end0
  refine ⟨rfl, ?_, ?_, ?_⟩
  · rw [Sh.puts_app]; exact HV.out.set HZv.out HNE.out.2.2 _
  · exact (HWV.out.z Z).trans (WrZ.set HBB.out.2.2 _)
  · simp [World.setCell, Array.getElem?_modify, HZv.out]
end Go.Proofs.YtocehfklacjgbaaGreatDoor
namespace Go.Proofs.YtocehfklacjgbaaGreatDoor
open Go.RowKit

set_option maxHeartbeats 1000000 in
set_option maxRecDepth 100000 in
theorem styped_any (k : Int) (kids : Fo) (A : Option Addr) (n c : Nat) (w : World) (hIs : Ty.Is w k kids A n c) (hS : Shapes w) (hc : Ty.chk k kids = 0) :
    Calls Tryz.prog 99 #[.agg #[.int .i8 k, .slice A n c]] w fun e w' => e = .returned (.string ⟨(Sh.tyW k kids).toArray⟩) ∧ Below w.heap.size w w' := by
  have hB0 : Below w.heap.size w (w.alloc (.cells #[.int .i8 k, .slice A n c] 27)) := (Below.refl _ _).alloc (Nat.le_refl _) _
  have CT := Lib.hid (text_any k kids A n c _ (hIs.below hB0) (hS.below hB0))
  have e1 : Ty.textT k kids = ⟨(Sh.tyW k kids).toArray⟩ := by unfold Ty.textT; rw [if_pos hc]; rfl
  rw [hc, e1] at CT
  clear hIs hS hc e1
  generalize (⟨(Sh.tyW k kids).toArray⟩ : ByteArray) = s at *
  go_enter Tryz.func99, Tryz.ntmps99
  go_wp2_with fail
  refine CT.out.mono ?_
  rintro e w2 ⟨rfl, hb⟩
  go_wp2_with fail
  go_ret
  exact ⟨rfl, hB0.trans (hb.mono hB0.size)⟩

set_option maxHeartbeats 1000000 in
set_option maxRecDepth 100000 in
theorem skids_any (b : Nat) (h : Hd) (p : Pl) (w : World) :
    Calls Tryz.prog 97 #[.agg #[(.func (Fn.func 25) #[] #[.pointer (some ⟨b, 0, none⟩)])], .agg #[.int .i8 h.kind, .string h.name, .string h.arg, .int .i64 h.num, .int .i8 h.tk, .slice p.TA p.tn p.tc, .int .i8 h.uk, .slice p.UA p.un p.uc, .int .i64 h.label, .int .i64 h.pos, .slice p.A p.n p.c]] w fun e w' => e = .returned (.func (Fn.func 138) #[] #[.pointer (some ⟨w.heap.size, 0, none⟩), .pointer (some ⟨w.heap.size + 1, 0, none⟩), .pointer (some ⟨w.heap.size + 1 + 1, 0, none⟩)]) ∧
      w' = ((w.alloc (.cells #[(.func (Fn.func 25) #[] #[.pointer (some ⟨b, 0, none⟩)])] 77)).alloc (.cells #[.int .i8 h.kind, .string h.name, .string h.arg, .int .i64 h.num, .int .i8 h.tk, .slice p.TA p.tn p.tc, .int .i8 h.uk, .slice p.UA p.un p.uc, .int .i64 h.label, .int .i64 h.pos, .slice p.A p.n p.c] 30)).alloc (.cells #[.int .i64 0] 3) := by
  go_enter Tryz.func97, Tryz.ntmps97
  go_wp2_with fail
  go_ret
  exact ⟨rfl, rfl⟩

/-- the state of a term's own writing: w as it began -/
structure OS (B b : Nat) (w W : World) (h : Hd) (p : Pl) (i : Nat) (cur : List UInt8) : Prop where
  bld : Bld B b cur W
  wz : WrZ B b (w.heap.size + 4) w W
  x1 : W.heap[w.heap.size]? = some (.cells #[(.func (Fn.func 25) #[] #[.pointer (some ⟨b, 0, none⟩)])] 77 (0, 0))
  y1 : W.heap[w.heap.size + 1]? = some (.cells #[.int .i8 h.kind, .string h.name, .string h.arg, .int .i64 h.num, .int .i8 h.tk, .slice p.TA p.tn p.tc, .int .i8 h.uk, .slice p.UA p.un p.uc, .int .i64 h.label, .int .i64 h.pos, .slice p.A p.n p.c] 30 (0, 0))
  x : W.heap[w.heap.size + 2]? = some (.cells #[(.func (Fn.func 25) #[] #[.pointer (some ⟨b, 0, none⟩)])] 77 (0, 0))
  y : W.heap[w.heap.size + 3]? = some (.cells #[.int .i8 h.kind, .string h.name, .string h.arg, .int .i64 h.num, .int .i8 h.tk, .slice p.TA p.tn p.tc, .int .i8 h.uk, .slice p.UA p.un p.uc, .int .i64 h.label, .int .i64 h.pos, .slice p.A p.n p.c] 30 (0, 0))
  z : W.heap[w.heap.size + 4]? = some (.cells #[.int .i64 i] 3 (0, 0))
  lt : b < w.heap.size
  hB : B ≤ w.heap.size
theorem OS.size {B b : Nat} {w W : World} {h : Hd} {p : Pl} {i : Nat} {cur : List UInt8} (S : OS B b w W h p i cur) : B ≤ W.heap.size := Nat.le_trans S.hB S.wz.below.size
theorem OS.wrote {B b : Nat} {w W W' : World} {h : Hd} {p : Pl} {i : Nat} {cur cur' : List UInt8} (S : OS B b w W h p i cur) (hb : Bld B b cur' W') (hw : Wrote B b W W') : OS B b w W' h p i cur' := by
  have hl := S.lt
  exact ⟨hb, S.wz.trans (hw.z _), hw.box S.x1 (by omega) (by decide), hw.box S.y1 (by omega) (by decide), hw.box S.x (by omega) (by decide), hw.box S.y (by omega) (by decide), hw.box S.z (by omega) (by decide), S.lt, S.hB⟩
theorem OS.below {B b : Nat} {w W W' : World} {h : Hd} {p : Pl} {i : Nat} {cur : List UInt8} (S : OS B b w W h p i cur) (hb : Below W.heap.size W W') : OS B b w W' h p i cur := S.wrote (S.bld.low hb) (Wrote.low hb S.size)
theorem OS.start {B b : Nat} {w : World} (h : Hd) (p : Pl) {cur : List UInt8} (hB : B ≤ w.heap.size) (hb : Bld B b cur w) :
    OS B b w (((((w.alloc (.cells #[(.func (Fn.func 25) #[] #[.pointer (some ⟨b, 0, none⟩)])] 77)).alloc (.cells #[.int .i8 h.kind, .string h.name, .string h.arg, .int .i64 h.num, .int .i8 h.tk, .slice p.TA p.tn p.tc, .int .i8 h.uk, .slice p.UA p.un p.uc, .int .i64 h.label, .int .i64 h.pos, .slice p.A p.n p.c] 30)).alloc (.cells #[(.func (Fn.func 25) #[] #[.pointer (some ⟨b, 0, none⟩)])] 77)).alloc (.cells #[.int .i8 h.kind, .string h.name, .string h.arg, .int .i64 h.num, .int .i8 h.tk, .slice p.TA p.tn p.tc, .int .i8 h.uk, .slice p.UA p.un p.uc, .int .i64 h.label, .int .i64 h.pos, .slice p.A p.n p.c] 30)).alloc (.cells #[.int .i64 0] 3)) h p 0 cur := by
  have hbl : Below w.heap.size w (((((w.alloc (.cells #[(.func (Fn.func 25) #[] #[.pointer (some ⟨b, 0, none⟩)])] 77)).alloc (.cells #[.int .i8 h.kind, .string h.name, .string h.arg, .int .i64 h.num, .int .i8 h.tk, .slice p.TA p.tn p.tc, .int .i8 h.uk, .slice p.UA p.un p.uc, .int .i64 h.label, .int .i64 h.pos, .slice p.A p.n p.c] 30)).alloc (.cells #[(.func (Fn.func 25) #[] #[.pointer (some ⟨b, 0, none⟩)])] 77)).alloc (.cells #[.int .i8 h.kind, .string h.name, .string h.arg, .int .i64 h.num, .int .i8 h.tk, .slice p.TA p.tn p.tc, .int .i8 h.uk, .slice p.UA p.un p.uc, .int .i64 h.label, .int .i64 h.pos, .slice p.A p.n p.c] 30)).alloc (.cells #[.int .i64 0] 3)) :=
    (((((Below.refl _ _).alloc (Nat.le_refl _) _).alloc (by simp) _).alloc (by simp; omega) _).alloc (by simp; omega) _).alloc (by simp; omega) _
  obtain ⟨a0, a1, a2⟩ := two_new w (.cells #[(.func (Fn.func 25) #[] #[.pointer (some ⟨b, 0, none⟩)])] 77) (.cells #[.int .i8 h.kind, .string h.name, .string h.arg, .int .i64 h.num, .int .i8 h.tk, .slice p.TA p.tn p.tc, .int .i8 h.uk, .slice p.UA p.un p.uc, .int .i64 h.label, .int .i64 h.pos, .slice p.A p.n p.c] 30)
  obtain ⟨c0, c1, c2⟩ := two_new ((w.alloc (.cells #[(.func (Fn.func 25) #[] #[.pointer (some ⟨b, 0, none⟩)])] 77)).alloc (.cells #[.int .i8 h.kind, .string h.name, .string h.arg, .int .i64 h.num, .int .i8 h.tk, .slice p.TA p.tn p.tc, .int .i8 h.uk, .slice p.UA p.un p.uc, .int .i64 h.label, .int .i64 h.pos, .slice p.A p.n p.c] 30)) (.cells #[(.func (Fn.func 25) #[] #[.pointer (some ⟨b, 0, none⟩)])] 77) (.cells #[.int .i8 h.kind, .string h.name, .string h.arg, .int .i64 h.num, .int .i8 h.tk, .slice p.TA p.tn p.tc, .int .i8 h.uk, .slice p.UA p.un p.uc, .int .i64 h.label, .int .i64 h.pos, .slice p.A p.n p.c] 30)
  rw [a2] at c0 c1
  have e4 := heap_new ((((w.alloc (.cells #[(.func (Fn.func 25) #[] #[.pointer (some ⟨b, 0, none⟩)])] 77)).alloc (.cells #[.int .i8 h.kind, .string h.name, .string h.arg, .int .i64 h.num, .int .i8 h.tk, .slice p.TA p.tn p.tc, .int .i8 h.uk, .slice p.UA p.un p.uc, .int .i64 h.label, .int .i64 h.pos, .slice p.A p.n p.c] 30)).alloc (.cells #[(.func (Fn.func 25) #[] #[.pointer (some ⟨b, 0, none⟩)])] 77)).alloc (.cells #[.int .i8 h.kind, .string h.name, .string h.arg, .int .i64 h.num, .int .i8 h.tk, .slice p.TA p.tn p.tc, .int .i8 h.uk, .slice p.UA p.un p.uc, .int .i64 h.label, .int .i64 h.pos, .slice p.A p.n p.c] 30)) (.cells #[.int .i64 0] 3)
  rw [show ((((w.alloc (.cells #[(.func (Fn.func 25) #[] #[.pointer (some ⟨b, 0, none⟩)])] 77)).alloc (.cells #[.int .i8 h.kind, .string h.name, .string h.arg, .int .i64 h.num, .int .i8 h.tk, .slice p.TA p.tn p.tc, .int .i8 h.uk, .slice p.UA p.un p.uc, .int .i64 h.label, .int .i64 h.pos, .slice p.A p.n p.c] 30)).alloc (.cells #[(.func (Fn.func 25) #[] #[.pointer (some ⟨b, 0, none⟩)])] 77)).alloc (.cells #[.int .i8 h.kind, .string h.name, .string h.arg, .int .i64 h.num, .int .i8 h.tk, .slice p.TA p.tn p.tc, .int .i8 h.uk, .slice p.UA p.un p.uc, .int .i64 h.label, .int .i64 h.pos, .slice p.A p.n p.c] 30)).heap.size = w.heap.size + 4 by rw [c2, a2]] at e4
  exact ⟨hb.low hbl, WrZ.low hbl hB, heap_old (heap_old (heap_old a0 _) _) _, heap_old (heap_old (heap_old a1 _) _) _, heap_old c0 _, heap_old c1 _, e4, hb.lt.2, hB⟩
/-- words are put -/
theorem OS.put {B b : Nat} {w W : World} {h : Hd} {p : Pl} {i : Nat} {cur : List UInt8} (S : OS B b w W h p i cur) (ws : List ByteArray) (hn : ws.length ≤ 1000) (hl : cur.length + Sh.tl (bytes ws) ≤ 100000000) :
    Calls Tryz.prog 25 #[.slice (some ⟨W.heap.size, 0, none⟩) ws.length ws.length, .pointer (some ⟨b, 0, none⟩)] (W.alloc (.cells (ws.map Value.string).toArray 9)) fun e w' => e = .returned (.tuple #[]) ∧ OS B b w w' h p i (Sh.puts cur (bytes ws)) := by
  refine (put_new B b cur ws ws.length W S.bld S.size hn (by omega)).mono ?_
  rintro e w' ⟨h1, h2, h3⟩
  exact ⟨h1, S.wrote h2 h3⟩
/-- a kid, words behind it -/
theorem OS.kid {B b : Nat} {w w0 W : World} {h : Hd} {p : Pl} {i : Nat} {cur : List UInt8} (S : OS B b w W h p i cur) (hb0 : Below B w0 w) {h1 : Hd} {kd : Tm} {q : Pl} (K : KidAt B b w0 p i h1 kd q) (k : Int) (ws : List ByteArray) (A : Option Addr) (c : Nat) (hr : Row W b A ws) (hn : ws.length ≤ 1000) (hl : cur.length + Sh.tl (Sh.stand k h1 kd ++ bytes ws) ≤ 100000000) :
    Calls Tryz.prog 138 #[.int .i64 k, .slice A ws.length c, .pointer (some ⟨w.heap.size + 2, 0, none⟩), .pointer (some ⟨w.heap.size + 3, 0, none⟩), .pointer (some ⟨w.heap.size + 4, 0, none⟩)] W fun e w' => e = .returned (.tuple #[]) ∧ OS B b w w' h p (i + 1) (Sh.puts cur (Sh.stand k h1 kd ++ bytes ws)) := by
  have hl2 := S.lt
  have hB := S.hB
  refine (kid_any B b (w.heap.size + 2) (w.heap.size + 3) (w.heap.size + 4) w0 W h p i h1 kd q k cur ws A c K (hb0.trans S.wz.below) S.size S.bld S.x S.y S.z (by omega) (by omega) (by omega) (by omega) (by omega) (by omega) hr hn hl).mono ?_
  rintro e w' ⟨e1, e2, e3, e4⟩
  exact ⟨e1, e2, S.wz.trans e3, e3.box S.x1 (by omega) (by omega) (by decide), e3.box S.y1 (by omega) (by omega) (by decide), e3.box S.x (by omega) (by omega) (by decide), e3.box S.y (by omega) (by omega) (by decide), e4, S.lt, S.hB⟩
theorem OS.kidN {B b : Nat} {w w0 W : World} {h : Hd} {p : Pl} {i : Nat} {cur : List UInt8} (S : OS B b w W h p i cur) (hb0 : Below B w0 w) {h1 : Hd} {kd : Tm} {q : Pl} (K : KidAt B b w0 p i h1 kd q) (k : Int) (ws : List ByteArray) (hn : ws.length ≤ 1000) (hl : cur.length + Sh.tl (Sh.stand k h1 kd ++ bytes ws) ≤ 100000000) :
    Calls Tryz.prog 138 #[.int .i64 k, .slice (some ⟨W.heap.size, 0, none⟩) ws.length ws.length, .pointer (some ⟨w.heap.size + 2, 0, none⟩), .pointer (some ⟨w.heap.size + 3, 0, none⟩), .pointer (some ⟨w.heap.size + 4, 0, none⟩)] (W.alloc (.cells (ws.map Value.string).toArray 9)) fun e w' => e = .returned (.tuple #[]) ∧ OS B b w w' h p (i + 1) (Sh.puts cur (Sh.stand k h1 kd ++ bytes ws)) :=
  (S.below ((Below.refl _ _).alloc (Nat.le_refl _) _)).kid hb0 K k ws _ _ (row_new W b S.bld.lt.2 ws) hn hl
theorem OS.kid0 {B b : Nat} {w w0 W : World} {h : Hd} {p : Pl} {i : Nat} {cur : List UInt8} (S : OS B b w W h p i cur) (hb0 : Below B w0 w) {h1 : Hd} {kd : Tm} {q : Pl} (K : KidAt B b w0 p i h1 kd q) (k : Int) (hl : cur.length + Sh.tl (Sh.stand k h1 kd) ≤ 100000000) :
    Calls Tryz.prog 138 #[.int .i64 k, .slice none 0 0, .pointer (some ⟨w.heap.size + 2, 0, none⟩), .pointer (some ⟨w.heap.size + 3, 0, none⟩), .pointer (some ⟨w.heap.size + 4, 0, none⟩)] W fun e w' => e = .returned (.tuple #[]) ∧ OS B b w w' h p (i + 1) (Sh.puts cur (Sh.stand k h1 kd)) := by
  have := S.kid hb0 K k [] none 0 (.inl rfl) (by simp) (by simpa [bytes] using hl)
  simpa [bytes] using this
theorem len_step {cur : List UInt8} {s r : List (List UInt8)} {N : Nat} (h : cur.length + Sh.tl (s ++ r) ≤ N) : cur.length + Sh.tl s ≤ N ∧ (Sh.puts cur s).length + Sh.tl r ≤ N := by
  have := Sh.puts_len s cur
  rw [Sh.tl_app] at h
  omega
/-- the end -/
theorem OS.fin {B b : Nat} {w W : World} {h : Hd} {p : Pl} {i : Nat} {cur : List UInt8} (S : OS B b w W h p i cur) : Bld B b cur W ∧ Wrote B b w W := ⟨S.bld, S.wz.wrote (by omega)⟩
end Go.Proofs.YtocehfklacjgbaaGreatDoor
namespace Go.Proofs.YtocehfklacjgbaaGreatDoor
open Go.RowKit

theorem OS.row {B b : Nat} {w W : World} {h : Hd} {p : Pl} {i : Nat} {cur : List UInt8} (S : OS B b w W h p i cur) : W.cell? ⟨w.heap.size, 0, none⟩ = some (.func (Fn.func 25) #[] #[.pointer (some ⟨b, 0, none⟩)]) ∧ W.cell? ⟨w.heap.size + 1, 0, none⟩ = some (.int .i8 h.kind) ∧ W.cell? ⟨w.heap.size + 1, 1, none⟩ = some (.string h.name) ∧ W.cell? ⟨w.heap.size + 1, 2, none⟩ = some (.string h.arg) ∧ W.cell? ⟨w.heap.size + 1, 3, none⟩ = some (.int .i64 h.num) ∧ W.cell? ⟨w.heap.size + 1, 4, none⟩ = some (.int .i8 h.tk) ∧ W.cell? ⟨w.heap.size + 1, 5, none⟩ = some (.slice p.TA p.tn p.tc) ∧ W.cell? ⟨w.heap.size + 1, 6, none⟩ = some (.int .i8 h.uk) ∧ W.cell? ⟨w.heap.size + 1, 7, none⟩ = some (.slice p.UA p.un p.uc) ∧ W.cell? ⟨w.heap.size + 1, 8, none⟩ = some (.int .i64 h.label) ∧ W.cell? ⟨w.heap.size + 1, 9, none⟩ = some (.int .i64 h.pos) ∧ W.cell? ⟨w.heap.size + 1, 10, none⟩ = some (.slice p.A p.n p.c) := by
  obtain ⟨y0, y1, y2, y3, y4, y5, y6, y7, y8, y9, y10, yl⟩ := own11 S.y1
  exact ⟨(own1 S.x1).1, y0, y1, y2, y3, y4, y5, y6, y7, y8, y9, y10⟩
theorem skids_at (b : Nat) (h : Hd) (p : Pl) (w : World) (X Y Z : Nat) (hX : w.heap.size = X) (hY : X + 1 = Y) (hZ : Y + 1 = Z) :
    Calls Tryz.prog 97 #[.agg #[(.func (Fn.func 25) #[] #[.pointer (some ⟨b, 0, none⟩)])], .agg #[.int .i8 h.kind, .string h.name, .string h.arg, .int .i64 h.num, .int .i8 h.tk, .slice p.TA p.tn p.tc, .int .i8 h.uk, .slice p.UA p.un p.uc, .int .i64 h.label, .int .i64 h.pos, .slice p.A p.n p.c]] w fun e w' => e = .returned (.func (Fn.func 138) #[] #[.pointer (some ⟨X, 0, none⟩), .pointer (some ⟨Y, 0, none⟩), .pointer (some ⟨Z, 0, none⟩)]) ∧
      w' = ((w.alloc (.cells #[(.func (Fn.func 25) #[] #[.pointer (some ⟨b, 0, none⟩)])] 77)).alloc (.cells #[.int .i8 h.kind, .string h.name, .string h.arg, .int .i64 h.num, .int .i8 h.tk, .slice p.TA p.tn p.tc, .int .i8 h.uk, .slice p.UA p.un p.uc, .int .i64 h.label, .int .i64 h.pos, .slice p.A p.n p.c] 30)).alloc (.cells #[.int .i64 0] 3) := by
  subst hX; subst hY; subst hZ; exact skids_any b h p w
/-- what the writing of a term's own words goes by -/
structure OwnCtx (B b : Nat) (w0 w : World) (h : Hd) (p : Pl) : Prop where
  eq : B = w0.heap.size
  below : Below B w0 w
  ty : Ty.Is w0 h.tk h.tkids p.TA p.tn p.tc
  tu : Ty.Is w0 h.uk h.ukids p.UA p.un p.uc
  shapes : Shapes w0
  size : B ≤ w.heap.size
theorem OwnCtx.typed {B b : Nat} {w0 w W : World} {h : Hd} {p : Pl} (C : OwnCtx B b w0 w h p) (hW : Below B w W) (hc : Ty.chk h.tk h.tkids = 0) :
    Calls Tryz.prog 99 #[.agg #[.int .i8 h.tk, .slice p.TA p.tn p.tc]] W fun e w' => e = .returned (.string ⟨(Sh.tyW h.tk h.tkids).toArray⟩) ∧ Below W.heap.size W w' := by
  have hb := C.below.trans hW
  rw [C.eq] at hb
  exact styped_any _ _ _ _ _ W (C.ty.below hb) (C.shapes.below hb) hc
theorem OwnCtx.totyped {B b : Nat} {w0 w W : World} {h : Hd} {p : Pl} (C : OwnCtx B b w0 w h p) (hW : Below B w W) (hc : Ty.chk h.uk h.ukids = 0) :
    Calls Tryz.prog 99 #[.agg #[.int .i8 h.uk, .slice p.UA p.un p.uc]] W fun e w' => e = .returned (.string ⟨(Sh.tyW h.uk h.ukids).toArray⟩) ∧ Below W.heap.size W w' := by
  have hb := C.below.trans hW
  rw [C.eq] at hb
  exact styped_any _ _ _ _ _ W (C.tu.below hb) (C.shapes.below hb) hc

set_option maxHeartbeats 8000000 in
set_option maxRecDepth 100000 in
theorem own_0 (B b : Nat) (l : List UInt8) (w0 w : World) (h : Hd) (p : Pl) (hk : h.kind = 0) (C : OwnCtx B b w0 w h p) (hbl : Bld B b l w) (hl : l.length + Sh.tl (Sh.own h .nil) ≤ 100000000) :
    Calls Tryz.prog 49 #[.agg #[(.func (Fn.func 25) #[] #[.pointer (some ⟨b, 0, none⟩)])], .agg #[.int .i8 h.kind, .string h.name, .string h.arg, .int .i64 h.num, .int .i8 h.tk, .slice p.TA p.tn p.tc, .int .i8 h.uk, .slice p.UA p.un p.uc, .int .i64 h.label, .int .i64 h.pos, .slice p.A p.n p.c]] w (Puts B b l (Sh.own h .nil) w) := by
  have hcf := cf_put
  have hcf2 := cf_kid
  have hO : Sh.own h .nil = bytes [h.name] := by
    unfold Sh.own Sh.ownW
    simp only [hk]
    simp [bytes]
  rw [hO] at hl ⊢
  have HLL := Lib.hid hl
  have g0 : (h.kind == 0) = true := by rw [hk]; rfl
  have g1 : (h.kind == 1) = false := by rw [hk]; rfl
  have g2 : (h.kind == 2) = false := by rw [hk]; rfl
  have g3 : (h.kind == 3) = false := by rw [hk]; rfl
  have g6 : (h.kind == 6) = false := by rw [hk]; rfl
  have g9 : (h.kind == 9) = false := by rw [hk]; rfl
  have g10 : (h.kind == 10) = false := by rw [hk]; rfl
  have g11 : (h.kind == 11) = false := by rw [hk]; rfl
  have g12 : (h.kind == 12) = false := by rw [hk]; rfl
  have g13 : (h.kind == 13) = false := by rw [hk]; rfl
  have g15 : (h.kind == 15) = false := by rw [hk]; rfl
  have g16 : (h.kind == 16) = false := by rw [hk]; rfl
  have HC := Lib.hid C
  have S0 := Lib.hid (OS.start h p C.size hbl)
  have CK := Lib.hid (skids_at b h p ((w.alloc (.cells #[(.func (Fn.func 25) #[] #[.pointer (some ⟨b, 0, none⟩)])] 77)).alloc (.cells #[.int .i8 h.kind, .string h.name, .string h.arg, .int .i64 h.num, .int .i8 h.tk, .slice p.TA p.tn p.tc, .int .i8 h.uk, .slice p.UA p.un p.uc, .int .i64 h.label, .int .i64 h.pos, .slice p.A p.n p.c] 30)) (w.heap.size + 2) (w.heap.size + 3) (w.heap.size + 4) (by simp) rfl rfl)
  clear hk C hbl hl hO
  go_enter Tryz.func49, Tryz.ntmps49
  go_wp2_with fail
  refine CK.out.mono ?_
  rintro e w9 ⟨rfl, hw9⟩
  rw [← hw9] at S0
  clear hw9 CK
  obtain ⟨x0, _, _⟩ := own1 S0.out.x1
  obtain ⟨y0, y1, y2, y3, y4, y5, y6, y7, y8, y9, y10, yl⟩ := own11 S0.out.y1
  have C0 := Lib.hid (show Calls Tryz.prog 25 #[.slice (some ⟨w9.heap.size, 0, none⟩) 1 1, .pointer (some ⟨b, 0, none⟩)] (w9.alloc (.cells #[.string h.name] 9)) fun e w' => e = .returned (.tuple #[]) ∧ OS B b w w' h p 0 (Sh.puts l (bytes [h.name])) from S0.out.put [h.name] (by simp) HLL.out)
  go_wp2_with fail
  refine C0.out.mono ?_
  rintro e v1 ⟨rfl, hs⟩
  have S1 := Lib.hid hs
  clear hs x0 y0 y1 y2 y3 y4 y5 y6 y7 y8 y9 y10 yl
  obtain ⟨x0, _, _⟩ := own1 S1.out.x1
  obtain ⟨y0, y1, y2, y3, y4, y5, y6, y7, y8, y9, y10, yl⟩ := own11 S1.out.y1
  go_wp2_with fail
  change bodyPost _ _ _ _ _ _
  go_end0
  exact ⟨rfl, by first | exact S1.out.fin.1 | (simp only [Sh.puts_app]; simpa only [Sh.puts_app] using S1.out.fin.1), S1.out.fin.2⟩

set_option maxHeartbeats 8000000 in
set_option maxRecDepth 100000 in
theorem own_2 (B b : Nat) (l : List UInt8) (w0 w : World) (h : Hd) (p : Pl) (hk : h.kind = 2) (C : OwnCtx B b w0 w h p) (hbl : Bld B b l w) (hl : l.length + Sh.tl (Sh.own h .nil) ≤ 100000000) :
    Calls Tryz.prog 49 #[.agg #[(.func (Fn.func 25) #[] #[.pointer (some ⟨b, 0, none⟩)])], .agg #[.int .i8 h.kind, .string h.name, .string h.arg, .int .i64 h.num, .int .i8 h.tk, .slice p.TA p.tn p.tc, .int .i8 h.uk, .slice p.UA p.un p.uc, .int .i64 h.label, .int .i64 h.pos, .slice p.A p.n p.c]] w (Puts B b l (Sh.own h .nil) w) := by
  have hcf := cf_put
  have hcf2 := cf_kid
  have hO : Sh.own h .nil = bytes [⟨#[116, 114, 117, 101]⟩] := by
    unfold Sh.own Sh.ownW
    simp only [hk]
    simp [bytes]
  rw [hO] at hl ⊢
  have HLL := Lib.hid hl
  have g0 : (h.kind == 0) = false := by rw [hk]; rfl
  have g1 : (h.kind == 1) = false := by rw [hk]; rfl
  have g2 : (h.kind == 2) = true := by rw [hk]; rfl
  have g3 : (h.kind == 3) = false := by rw [hk]; rfl
  have g6 : (h.kind == 6) = false := by rw [hk]; rfl
  have g9 : (h.kind == 9) = false := by rw [hk]; rfl
  have g10 : (h.kind == 10) = false := by rw [hk]; rfl
  have g11 : (h.kind == 11) = false := by rw [hk]; rfl
  have g12 : (h.kind == 12) = false := by rw [hk]; rfl
  have g13 : (h.kind == 13) = false := by rw [hk]; rfl
  have g15 : (h.kind == 15) = false := by rw [hk]; rfl
  have g16 : (h.kind == 16) = false := by rw [hk]; rfl
  have HC := Lib.hid C
  have S0 := Lib.hid (OS.start h p C.size hbl)
  have CK := Lib.hid (skids_at b h p ((w.alloc (.cells #[(.func (Fn.func 25) #[] #[.pointer (some ⟨b, 0, none⟩)])] 77)).alloc (.cells #[.int .i8 h.kind, .string h.name, .string h.arg, .int .i64 h.num, .int .i8 h.tk, .slice p.TA p.tn p.tc, .int .i8 h.uk, .slice p.UA p.un p.uc, .int .i64 h.label, .int .i64 h.pos, .slice p.A p.n p.c] 30)) (w.heap.size + 2) (w.heap.size + 3) (w.heap.size + 4) (by simp) rfl rfl)
  clear hk C hbl hl hO
  go_enter Tryz.func49, Tryz.ntmps49
  go_wp2_with fail
  refine CK.out.mono ?_
  rintro e w9 ⟨rfl, hw9⟩
  rw [← hw9] at S0
  clear hw9 CK
  obtain ⟨x0, _, _⟩ := own1 S0.out.x1
  obtain ⟨y0, y1, y2, y3, y4, y5, y6, y7, y8, y9, y10, yl⟩ := own11 S0.out.y1
  have C0 := Lib.hid (show Calls Tryz.prog 25 #[.slice (some ⟨w9.heap.size, 0, none⟩) 1 1, .pointer (some ⟨b, 0, none⟩)] (w9.alloc (.cells #[.string ⟨#[116, 114, 117, 101]⟩] 9)) fun e w' => e = .returned (.tuple #[]) ∧ OS B b w w' h p 0 (Sh.puts l (bytes [⟨#[116, 114, 117, 101]⟩])) from S0.out.put [⟨#[116, 114, 117, 101]⟩] (by simp) HLL.out)
  go_wp2_with fail
  refine C0.out.mono ?_
  rintro e v1 ⟨rfl, hs⟩
  have S1 := Lib.hid hs
  clear hs x0 y0 y1 y2 y3 y4 y5 y6 y7 y8 y9 y10 yl
  obtain ⟨x0, _, _⟩ := own1 S1.out.x1
  obtain ⟨y0, y1, y2, y3, y4, y5, y6, y7, y8, y9, y10, yl⟩ := own11 S1.out.y1
  go_wp2_with fail
  change bodyPost _ _ _ _ _ _
  go_end0
  exact ⟨rfl, by first | exact S1.out.fin.1 | (simp only [Sh.puts_app]; simpa only [Sh.puts_app] using S1.out.fin.1), S1.out.fin.2⟩

set_option maxHeartbeats 8000000 in
set_option maxRecDepth 100000 in
theorem own_3 (B b : Nat) (l : List UInt8) (w0 w : World) (h : Hd) (p : Pl) (hk : h.kind = 3) (C : OwnCtx B b w0 w h p) (hbl : Bld B b l w) (hl : l.length + Sh.tl (Sh.own h .nil) ≤ 100000000) :
    Calls Tryz.prog 49 #[.agg #[(.func (Fn.func 25) #[] #[.pointer (some ⟨b, 0, none⟩)])], .agg #[.int .i8 h.kind, .string h.name, .string h.arg, .int .i64 h.num, .int .i8 h.tk, .slice p.TA p.tn p.tc, .int .i8 h.uk, .slice p.UA p.un p.uc, .int .i64 h.label, .int .i64 h.pos, .slice p.A p.n p.c]] w (Puts B b l (Sh.own h .nil) w) := by
  have hcf := cf_put
  have hcf2 := cf_kid
  have hO : Sh.own h .nil = bytes [⟨#[102, 97, 108, 115, 101]⟩] := by
    unfold Sh.own Sh.ownW
    simp only [hk]
    simp [bytes]
  rw [hO] at hl ⊢
  have HLL := Lib.hid hl
  have g0 : (h.kind == 0) = false := by rw [hk]; rfl
  have g1 : (h.kind == 1) = false := by rw [hk]; rfl
  have g2 : (h.kind == 2) = false := by rw [hk]; rfl
  have g3 : (h.kind == 3) = true := by rw [hk]; rfl
  have g6 : (h.kind == 6) = false := by rw [hk]; rfl
  have g9 : (h.kind == 9) = false := by rw [hk]; rfl
  have g10 : (h.kind == 10) = false := by rw [hk]; rfl
  have g11 : (h.kind == 11) = false := by rw [hk]; rfl
  have g12 : (h.kind == 12) = false := by rw [hk]; rfl
  have g13 : (h.kind == 13) = false := by rw [hk]; rfl
  have g15 : (h.kind == 15) = false := by rw [hk]; rfl
  have g16 : (h.kind == 16) = false := by rw [hk]; rfl
  have HC := Lib.hid C
  have S0 := Lib.hid (OS.start h p C.size hbl)
  have CK := Lib.hid (skids_at b h p ((w.alloc (.cells #[(.func (Fn.func 25) #[] #[.pointer (some ⟨b, 0, none⟩)])] 77)).alloc (.cells #[.int .i8 h.kind, .string h.name, .string h.arg, .int .i64 h.num, .int .i8 h.tk, .slice p.TA p.tn p.tc, .int .i8 h.uk, .slice p.UA p.un p.uc, .int .i64 h.label, .int .i64 h.pos, .slice p.A p.n p.c] 30)) (w.heap.size + 2) (w.heap.size + 3) (w.heap.size + 4) (by simp) rfl rfl)
  clear hk C hbl hl hO
  go_enter Tryz.func49, Tryz.ntmps49
  go_wp2_with fail
  refine CK.out.mono ?_
  rintro e w9 ⟨rfl, hw9⟩
  rw [← hw9] at S0
  clear hw9 CK
  obtain ⟨x0, _, _⟩ := own1 S0.out.x1
  obtain ⟨y0, y1, y2, y3, y4, y5, y6, y7, y8, y9, y10, yl⟩ := own11 S0.out.y1
  have C0 := Lib.hid (show Calls Tryz.prog 25 #[.slice (some ⟨w9.heap.size, 0, none⟩) 1 1, .pointer (some ⟨b, 0, none⟩)] (w9.alloc (.cells #[.string ⟨#[102, 97, 108, 115, 101]⟩] 9)) fun e w' => e = .returned (.tuple #[]) ∧ OS B b w w' h p 0 (Sh.puts l (bytes [⟨#[102, 97, 108, 115, 101]⟩])) from S0.out.put [⟨#[102, 97, 108, 115, 101]⟩] (by simp) HLL.out)
  go_wp2_with fail
  refine C0.out.mono ?_
  rintro e v1 ⟨rfl, hs⟩
  have S1 := Lib.hid hs
  clear hs x0 y0 y1 y2 y3 y4 y5 y6 y7 y8 y9 y10 yl
  obtain ⟨x0, _, _⟩ := own1 S1.out.x1
  obtain ⟨y0, y1, y2, y3, y4, y5, y6, y7, y8, y9, y10, yl⟩ := own11 S1.out.y1
  go_wp2_with fail
  change bodyPost _ _ _ _ _ _
  go_end0
  exact ⟨rfl, by first | exact S1.out.fin.1 | (simp only [Sh.puts_app]; simpa only [Sh.puts_app] using S1.out.fin.1), S1.out.fin.2⟩

set_option maxHeartbeats 8000000 in
set_option maxRecDepth 100000 in
theorem own_6 (B b : Nat) (l : List UInt8) (w0 w : World) (h : Hd) (p : Pl) (h1 : Hd) (k1 : Tm) (q1 : Pl) (h2 : Hd) (k2 : Tm) (q2 : Pl) (hk : h.kind = 6) (C : OwnCtx B b w0 w h p) (K0 : KidAt B b w0 p 0 h1 k1 q1) (K1 : KidAt B b w0 p 1 h2 k2 q2) (hbl : Bld B b l w) (hl : l.length + Sh.tl (Sh.own h (.node h1 k1 (.node h2 k2 .nil))) ≤ 100000000) :
    Calls Tryz.prog 49 #[.agg #[(.func (Fn.func 25) #[] #[.pointer (some ⟨b, 0, none⟩)])], .agg #[.int .i8 h.kind, .string h.name, .string h.arg, .int .i64 h.num, .int .i8 h.tk, .slice p.TA p.tn p.tc, .int .i8 h.uk, .slice p.UA p.un p.uc, .int .i64 h.label, .int .i64 h.pos, .slice p.A p.n p.c]] w (Puts B b l (Sh.own h (.node h1 k1 (.node h2 k2 .nil))) w) := by
  have hcf := cf_put
  have hcf2 := cf_kid
  have hO : Sh.own h (.node h1 k1 (.node h2 k2 .nil)) = (Sh.stand 5 h1 k1 ++ bytes [⟨#[40]⟩]) ++ ((Sh.stand (-1) h2 k2 ++ bytes [⟨#[41]⟩])) := by
    unfold Sh.own Sh.ownW
    simp only [hk]
    simp [bytes, Sh.kidsW, Sh.kid, Sh.stand, Sh.own]
  rw [hO] at hl ⊢
  have HLL := Lib.hid hl
  have g0 : (h.kind == 0) = false := by rw [hk]; rfl
  have g1 : (h.kind == 1) = false := by rw [hk]; rfl
  have g2 : (h.kind == 2) = false := by rw [hk]; rfl
  have g3 : (h.kind == 3) = false := by rw [hk]; rfl
  have g6 : (h.kind == 6) = true := by rw [hk]; rfl
  have g9 : (h.kind == 9) = false := by rw [hk]; rfl
  have g10 : (h.kind == 10) = false := by rw [hk]; rfl
  have g11 : (h.kind == 11) = false := by rw [hk]; rfl
  have g12 : (h.kind == 12) = false := by rw [hk]; rfl
  have g13 : (h.kind == 13) = false := by rw [hk]; rfl
  have g15 : (h.kind == 15) = false := by rw [hk]; rfl
  have g16 : (h.kind == 16) = false := by rw [hk]; rfl
  have HC := Lib.hid C
  have S0 := Lib.hid (OS.start h p C.size hbl)
  have CK := Lib.hid (skids_at b h p ((w.alloc (.cells #[(.func (Fn.func 25) #[] #[.pointer (some ⟨b, 0, none⟩)])] 77)).alloc (.cells #[.int .i8 h.kind, .string h.name, .string h.arg, .int .i64 h.num, .int .i8 h.tk, .slice p.TA p.tn p.tc, .int .i8 h.uk, .slice p.UA p.un p.uc, .int .i64 h.label, .int .i64 h.pos, .slice p.A p.n p.c] 30)) (w.heap.size + 2) (w.heap.size + 3) (w.heap.size + 4) (by simp) rfl rfl)
  clear hk C hbl hl hO
  go_enter Tryz.func49, Tryz.ntmps49
  go_wp2_with fail
  refine CK.out.mono ?_
  rintro e w9 ⟨rfl, hw9⟩
  rw [← hw9] at S0
  clear hw9 CK
  obtain ⟨x0, _, _⟩ := own1 S0.out.x1
  obtain ⟨y0, y1, y2, y3, y4, y5, y6, y7, y8, y9, y10, yl⟩ := own11 S0.out.y1
  have HL0 := Lib.hid (len_step HLL.out)
  have C0 := Lib.hid (show Calls Tryz.prog 138 #[.int .i64 5, .slice (some ⟨w9.heap.size, 0, none⟩) 1 1, .pointer (some ⟨w.heap.size + 2, 0, none⟩), .pointer (some ⟨w.heap.size + 3, 0, none⟩), .pointer (some ⟨w.heap.size + 4, 0, none⟩)] (w9.alloc (.cells #[.string ⟨#[40]⟩] 9)) fun e w' => e = .returned (.tuple #[]) ∧ OS B b w w' h p (0 + 1) (Sh.puts l ((Sh.stand 5 h1 k1 ++ bytes [⟨#[40]⟩]))) from S0.out.kidN HC.out.below K0 5 [⟨#[40]⟩] (by simp) HL0.out.1)
  go_wp2_with fail
  refine C0.out.mono ?_
  rintro e v1 ⟨rfl, hs⟩
  have S1 := Lib.hid hs
  clear hs x0 y0 y1 y2 y3 y4 y5 y6 y7 y8 y9 y10 yl
  obtain ⟨x0, _, _⟩ := own1 S1.out.x1
  obtain ⟨y0, y1, y2, y3, y4, y5, y6, y7, y8, y9, y10, yl⟩ := own11 S1.out.y1
  have C1 := Lib.hid (show Calls Tryz.prog 138 #[.int .i64 (-1), .slice (some ⟨v1.heap.size, 0, none⟩) 1 1, .pointer (some ⟨w.heap.size + 2, 0, none⟩), .pointer (some ⟨w.heap.size + 3, 0, none⟩), .pointer (some ⟨w.heap.size + 4, 0, none⟩)] (v1.alloc (.cells #[.string ⟨#[41]⟩] 9)) fun e w' => e = .returned (.tuple #[]) ∧ OS B b w w' h p (1 + 1) (Sh.puts (Sh.puts l ((Sh.stand 5 h1 k1 ++ bytes [⟨#[40]⟩]))) ((Sh.stand (-1) h2 k2 ++ bytes [⟨#[41]⟩]))) from S1.out.kidN HC.out.below K1 (-1) [⟨#[41]⟩] (by simp) HL0.out.2)
  go_wp2_with fail
  refine C1.out.mono ?_
  rintro e v2 ⟨rfl, hs⟩
  have S2 := Lib.hid hs
  clear hs x0 y0 y1 y2 y3 y4 y5 y6 y7 y8 y9 y10 yl
  obtain ⟨x0, _, _⟩ := own1 S2.out.x1
  obtain ⟨y0, y1, y2, y3, y4, y5, y6, y7, y8, y9, y10, yl⟩ := own11 S2.out.y1
  go_wp2_with fail
  change bodyPost _ _ _ _ _ _
  go_end0
  exact ⟨rfl, by first | exact S2.out.fin.1 | (simp only [Sh.puts_app]; simpa only [Sh.puts_app] using S2.out.fin.1), S2.out.fin.2⟩

set_option maxHeartbeats 8000000 in
set_option maxRecDepth 100000 in
theorem own_9 (B b : Nat) (l : List UInt8) (w0 w : World) (h : Hd) (p : Pl) (h1 : Hd) (k1 : Tm) (q1 : Pl) (h2 : Hd) (k2 : Tm) (q2 : Pl) (hk : h.kind = 9) (C : OwnCtx B b w0 w h p) (K0 : KidAt B b w0 p 0 h1 k1 q1) (K1 : KidAt B b w0 p 1 h2 k2 q2) (hbl : Bld B b l w) (hl : l.length + Sh.tl (Sh.own h (.node h1 k1 (.node h2 k2 .nil))) ≤ 100000000) :
    Calls Tryz.prog 49 #[.agg #[(.func (Fn.func 25) #[] #[.pointer (some ⟨b, 0, none⟩)])], .agg #[.int .i8 h.kind, .string h.name, .string h.arg, .int .i64 h.num, .int .i8 h.tk, .slice p.TA p.tn p.tc, .int .i8 h.uk, .slice p.UA p.un p.uc, .int .i64 h.label, .int .i64 h.pos, .slice p.A p.n p.c]] w (Puts B b l (Sh.own h (.node h1 k1 (.node h2 k2 .nil))) w) := by
  have hcf := cf_put
  have hcf2 := cf_kid
  have hO : Sh.own h (.node h1 k1 (.node h2 k2 .nil)) = bytes [⟨#[91]⟩] ++ ((Sh.stand (-1) h1 k1 ++ bytes [⟨#[44]⟩]) ++ ((Sh.stand (-1) h2 k2 ++ bytes [⟨#[93]⟩]))) := by
    unfold Sh.own Sh.ownW
    simp only [hk]
    simp [bytes, Sh.kidsW, Sh.kid, Sh.stand, Sh.own]
  rw [hO] at hl ⊢
  have HLL := Lib.hid hl
  have g0 : (h.kind == 0) = false := by rw [hk]; rfl
  have g1 : (h.kind == 1) = false := by rw [hk]; rfl
  have g2 : (h.kind == 2) = false := by rw [hk]; rfl
  have g3 : (h.kind == 3) = false := by rw [hk]; rfl
  have g6 : (h.kind == 6) = false := by rw [hk]; rfl
  have g9 : (h.kind == 9) = true := by rw [hk]; rfl
  have g10 : (h.kind == 10) = false := by rw [hk]; rfl
  have g11 : (h.kind == 11) = false := by rw [hk]; rfl
  have g12 : (h.kind == 12) = false := by rw [hk]; rfl
  have g13 : (h.kind == 13) = false := by rw [hk]; rfl
  have g15 : (h.kind == 15) = false := by rw [hk]; rfl
  have g16 : (h.kind == 16) = false := by rw [hk]; rfl
  have HC := Lib.hid C
  have S0 := Lib.hid (OS.start h p C.size hbl)
  have CK := Lib.hid (skids_at b h p ((w.alloc (.cells #[(.func (Fn.func 25) #[] #[.pointer (some ⟨b, 0, none⟩)])] 77)).alloc (.cells #[.int .i8 h.kind, .string h.name, .string h.arg, .int .i64 h.num, .int .i8 h.tk, .slice p.TA p.tn p.tc, .int .i8 h.uk, .slice p.UA p.un p.uc, .int .i64 h.label, .int .i64 h.pos, .slice p.A p.n p.c] 30)) (w.heap.size + 2) (w.heap.size + 3) (w.heap.size + 4) (by simp) rfl rfl)
  clear hk C hbl hl hO
  go_enter Tryz.func49, Tryz.ntmps49
  go_wp2_with fail
  refine CK.out.mono ?_
  rintro e w9 ⟨rfl, hw9⟩
  rw [← hw9] at S0
  clear hw9 CK
  obtain ⟨x0, _, _⟩ := own1 S0.out.x1
  obtain ⟨y0, y1, y2, y3, y4, y5, y6, y7, y8, y9, y10, yl⟩ := own11 S0.out.y1
  have HL0 := Lib.hid (len_step HLL.out)
  have C0 := Lib.hid (show Calls Tryz.prog 25 #[.slice (some ⟨w9.heap.size, 0, none⟩) 1 1, .pointer (some ⟨b, 0, none⟩)] (w9.alloc (.cells #[.string ⟨#[91]⟩] 9)) fun e w' => e = .returned (.tuple #[]) ∧ OS B b w w' h p 0 (Sh.puts l (bytes [⟨#[91]⟩])) from S0.out.put [⟨#[91]⟩] (by simp) HL0.out.1)
  go_wp2_with fail
  refine C0.out.mono ?_
  rintro e v1 ⟨rfl, hs⟩
  have S1 := Lib.hid hs
  clear hs x0 y0 y1 y2 y3 y4 y5 y6 y7 y8 y9 y10 yl
  obtain ⟨x0, _, _⟩ := own1 S1.out.x1
  obtain ⟨y0, y1, y2, y3, y4, y5, y6, y7, y8, y9, y10, yl⟩ := own11 S1.out.y1
  have HL1 := Lib.hid (len_step HL0.out.2)
  have C1 := Lib.hid (show Calls Tryz.prog 138 #[.int .i64 (-1), .slice (some ⟨v1.heap.size, 0, none⟩) 1 1, .pointer (some ⟨w.heap.size + 2, 0, none⟩), .pointer (some ⟨w.heap.size + 3, 0, none⟩), .pointer (some ⟨w.heap.size + 4, 0, none⟩)] (v1.alloc (.cells #[.string ⟨#[44]⟩] 9)) fun e w' => e = .returned (.tuple #[]) ∧ OS B b w w' h p (0 + 1) (Sh.puts (Sh.puts l (bytes [⟨#[91]⟩])) ((Sh.stand (-1) h1 k1 ++ bytes [⟨#[44]⟩]))) from S1.out.kidN HC.out.below K0 (-1) [⟨#[44]⟩] (by simp) HL1.out.1)
  go_wp2_with fail
  refine C1.out.mono ?_
  rintro e v2 ⟨rfl, hs⟩
  have S2 := Lib.hid hs
  clear hs x0 y0 y1 y2 y3 y4 y5 y6 y7 y8 y9 y10 yl
  obtain ⟨x0, _, _⟩ := own1 S2.out.x1
  obtain ⟨y0, y1, y2, y3, y4, y5, y6, y7, y8, y9, y10, yl⟩ := own11 S2.out.y1
  have C2 := Lib.hid (show Calls Tryz.prog 138 #[.int .i64 (-1), .slice (some ⟨v2.heap.size, 0, none⟩) 1 1, .pointer (some ⟨w.heap.size + 2, 0, none⟩), .pointer (some ⟨w.heap.size + 3, 0, none⟩), .pointer (some ⟨w.heap.size + 4, 0, none⟩)] (v2.alloc (.cells #[.string ⟨#[93]⟩] 9)) fun e w' => e = .returned (.tuple #[]) ∧ OS B b w w' h p (1 + 1) (Sh.puts (Sh.puts (Sh.puts l (bytes [⟨#[91]⟩])) ((Sh.stand (-1) h1 k1 ++ bytes [⟨#[44]⟩]))) ((Sh.stand (-1) h2 k2 ++ bytes [⟨#[93]⟩]))) from S2.out.kidN HC.out.below K1 (-1) [⟨#[93]⟩] (by simp) HL1.out.2)
  go_wp2_with fail
  refine C2.out.mono ?_
  rintro e v3 ⟨rfl, hs⟩
  have S3 := Lib.hid hs
  clear hs x0 y0 y1 y2 y3 y4 y5 y6 y7 y8 y9 y10 yl
  obtain ⟨x0, _, _⟩ := own1 S3.out.x1
  obtain ⟨y0, y1, y2, y3, y4, y5, y6, y7, y8, y9, y10, yl⟩ := own11 S3.out.y1
  go_wp2_with fail
  change bodyPost _ _ _ _ _ _
  go_end0
  exact ⟨rfl, by first | exact S3.out.fin.1 | (simp only [Sh.puts_app]; simpa only [Sh.puts_app] using S3.out.fin.1), S3.out.fin.2⟩

set_option maxHeartbeats 8000000 in
set_option maxRecDepth 100000 in
theorem own_10 (B b : Nat) (l : List UInt8) (w0 w : World) (h : Hd) (p : Pl) (h1 : Hd) (k1 : Tm) (q1 : Pl) (hk : h.kind = 10) (C : OwnCtx B b w0 w h p) (K0 : KidAt B b w0 p 0 h1 k1 q1) (hbl : Bld B b l w) (hl : l.length + Sh.tl (Sh.own h (.node h1 k1 .nil)) ≤ 100000000) :
    Calls Tryz.prog 49 #[.agg #[(.func (Fn.func 25) #[] #[.pointer (some ⟨b, 0, none⟩)])], .agg #[.int .i8 h.kind, .string h.name, .string h.arg, .int .i64 h.num, .int .i8 h.tk, .slice p.TA p.tn p.tc, .int .i8 h.uk, .slice p.UA p.un p.uc, .int .i64 h.label, .int .i64 h.pos, .slice p.A p.n p.c]] w (Puts B b l (Sh.own h (.node h1 k1 .nil)) w) := by
  have hcf := cf_put
  have hcf2 := cf_kid
  have hO : Sh.own h (.node h1 k1 .nil) = bytes [⟨#[102, 115, 116]⟩] ++ (Sh.stand 4 h1 k1) := by
    unfold Sh.own Sh.ownW
    simp only [hk]
    simp [bytes, Sh.kidsW, Sh.kid, Sh.stand, Sh.own]
  rw [hO] at hl ⊢
  have HLL := Lib.hid hl
  have g0 : (h.kind == 0) = false := by rw [hk]; rfl
  have g1 : (h.kind == 1) = false := by rw [hk]; rfl
  have g2 : (h.kind == 2) = false := by rw [hk]; rfl
  have g3 : (h.kind == 3) = false := by rw [hk]; rfl
  have g6 : (h.kind == 6) = false := by rw [hk]; rfl
  have g9 : (h.kind == 9) = false := by rw [hk]; rfl
  have g10 : (h.kind == 10) = true := by rw [hk]; rfl
  have g11 : (h.kind == 11) = false := by rw [hk]; rfl
  have g12 : (h.kind == 12) = false := by rw [hk]; rfl
  have g13 : (h.kind == 13) = false := by rw [hk]; rfl
  have g15 : (h.kind == 15) = false := by rw [hk]; rfl
  have g16 : (h.kind == 16) = false := by rw [hk]; rfl
  have HC := Lib.hid C
  have S0 := Lib.hid (OS.start h p C.size hbl)
  have CK := Lib.hid (skids_at b h p ((w.alloc (.cells #[(.func (Fn.func 25) #[] #[.pointer (some ⟨b, 0, none⟩)])] 77)).alloc (.cells #[.int .i8 h.kind, .string h.name, .string h.arg, .int .i64 h.num, .int .i8 h.tk, .slice p.TA p.tn p.tc, .int .i8 h.uk, .slice p.UA p.un p.uc, .int .i64 h.label, .int .i64 h.pos, .slice p.A p.n p.c] 30)) (w.heap.size + 2) (w.heap.size + 3) (w.heap.size + 4) (by simp) rfl rfl)
  clear hk C hbl hl hO
  go_enter Tryz.func49, Tryz.ntmps49
  go_wp2_with fail
  refine CK.out.mono ?_
  rintro e w9 ⟨rfl, hw9⟩
  rw [← hw9] at S0
  clear hw9 CK
  obtain ⟨x0, _, _⟩ := own1 S0.out.x1
  obtain ⟨y0, y1, y2, y3, y4, y5, y6, y7, y8, y9, y10, yl⟩ := own11 S0.out.y1
  have HL0 := Lib.hid (len_step HLL.out)
  have C0 := Lib.hid (show Calls Tryz.prog 25 #[.slice (some ⟨w9.heap.size, 0, none⟩) 1 1, .pointer (some ⟨b, 0, none⟩)] (w9.alloc (.cells #[.string ⟨#[102, 115, 116]⟩] 9)) fun e w' => e = .returned (.tuple #[]) ∧ OS B b w w' h p 0 (Sh.puts l (bytes [⟨#[102, 115, 116]⟩])) from S0.out.put [⟨#[102, 115, 116]⟩] (by simp) HL0.out.1)
  go_wp2_with fail
  refine C0.out.mono ?_
  rintro e v1 ⟨rfl, hs⟩
  have S1 := Lib.hid hs
  clear hs x0 y0 y1 y2 y3 y4 y5 y6 y7 y8 y9 y10 yl
  obtain ⟨x0, _, _⟩ := own1 S1.out.x1
  obtain ⟨y0, y1, y2, y3, y4, y5, y6, y7, y8, y9, y10, yl⟩ := own11 S1.out.y1
  have C1 := Lib.hid (S1.out.kid0 HC.out.below K0 4 HL0.out.2)
  go_wp2_with fail
  refine C1.out.mono ?_
  rintro e v2 ⟨rfl, hs⟩
  have S2 := Lib.hid hs
  clear hs x0 y0 y1 y2 y3 y4 y5 y6 y7 y8 y9 y10 yl
  obtain ⟨x0, _, _⟩ := own1 S2.out.x1
  obtain ⟨y0, y1, y2, y3, y4, y5, y6, y7, y8, y9, y10, yl⟩ := own11 S2.out.y1
  go_wp2_with fail
  change bodyPost _ _ _ _ _ _
  go_end0
  exact ⟨rfl, by first | exact S2.out.fin.1 | (simp only [Sh.puts_app]; simpa only [Sh.puts_app] using S2.out.fin.1), S2.out.fin.2⟩

set_option maxHeartbeats 8000000 in
set_option maxRecDepth 100000 in
theorem own_11 (B b : Nat) (l : List UInt8) (w0 w : World) (h : Hd) (p : Pl) (h1 : Hd) (k1 : Tm) (q1 : Pl) (hk : h.kind = 11) (C : OwnCtx B b w0 w h p) (K0 : KidAt B b w0 p 0 h1 k1 q1) (hbl : Bld B b l w) (hl : l.length + Sh.tl (Sh.own h (.node h1 k1 .nil)) ≤ 100000000) :
    Calls Tryz.prog 49 #[.agg #[(.func (Fn.func 25) #[] #[.pointer (some ⟨b, 0, none⟩)])], .agg #[.int .i8 h.kind, .string h.name, .string h.arg, .int .i64 h.num, .int .i8 h.tk, .slice p.TA p.tn p.tc, .int .i8 h.uk, .slice p.UA p.un p.uc, .int .i64 h.label, .int .i64 h.pos, .slice p.A p.n p.c]] w (Puts B b l (Sh.own h (.node h1 k1 .nil)) w) := by
  have hcf := cf_put
  have hcf2 := cf_kid
  have hO : Sh.own h (.node h1 k1 .nil) = bytes [⟨#[115, 110, 100]⟩] ++ (Sh.stand 4 h1 k1) := by
    unfold Sh.own Sh.ownW
    simp only [hk]
    simp [bytes, Sh.kidsW, Sh.kid, Sh.stand, Sh.own]
  rw [hO] at hl ⊢
  have HLL := Lib.hid hl
  have g0 : (h.kind == 0) = false := by rw [hk]; rfl
  have g1 : (h.kind == 1) = false := by rw [hk]; rfl
  have g2 : (h.kind == 2) = false := by rw [hk]; rfl
  have g3 : (h.kind == 3) = false := by rw [hk]; rfl
  have g6 : (h.kind == 6) = false := by rw [hk]; rfl
  have g9 : (h.kind == 9) = false := by rw [hk]; rfl
  have g10 : (h.kind == 10) = false := by rw [hk]; rfl
  have g11 : (h.kind == 11) = true := by rw [hk]; rfl
  have g12 : (h.kind == 12) = false := by rw [hk]; rfl
  have g13 : (h.kind == 13) = false := by rw [hk]; rfl
  have g15 : (h.kind == 15) = false := by rw [hk]; rfl
  have g16 : (h.kind == 16) = false := by rw [hk]; rfl
  have HC := Lib.hid C
  have S0 := Lib.hid (OS.start h p C.size hbl)
  have CK := Lib.hid (skids_at b h p ((w.alloc (.cells #[(.func (Fn.func 25) #[] #[.pointer (some ⟨b, 0, none⟩)])] 77)).alloc (.cells #[.int .i8 h.kind, .string h.name, .string h.arg, .int .i64 h.num, .int .i8 h.tk, .slice p.TA p.tn p.tc, .int .i8 h.uk, .slice p.UA p.un p.uc, .int .i64 h.label, .int .i64 h.pos, .slice p.A p.n p.c] 30)) (w.heap.size + 2) (w.heap.size + 3) (w.heap.size + 4) (by simp) rfl rfl)
  clear hk C hbl hl hO
  go_enter Tryz.func49, Tryz.ntmps49
  go_wp2_with fail
  refine CK.out.mono ?_
  rintro e w9 ⟨rfl, hw9⟩
  rw [← hw9] at S0
  clear hw9 CK
  obtain ⟨x0, _, _⟩ := own1 S0.out.x1
  obtain ⟨y0, y1, y2, y3, y4, y5, y6, y7, y8, y9, y10, yl⟩ := own11 S0.out.y1
  have HL0 := Lib.hid (len_step HLL.out)
  have C0 := Lib.hid (show Calls Tryz.prog 25 #[.slice (some ⟨w9.heap.size, 0, none⟩) 1 1, .pointer (some ⟨b, 0, none⟩)] (w9.alloc (.cells #[.string ⟨#[115, 110, 100]⟩] 9)) fun e w' => e = .returned (.tuple #[]) ∧ OS B b w w' h p 0 (Sh.puts l (bytes [⟨#[115, 110, 100]⟩])) from S0.out.put [⟨#[115, 110, 100]⟩] (by simp) HL0.out.1)
  go_wp2_with fail
  refine C0.out.mono ?_
  rintro e v1 ⟨rfl, hs⟩
  have S1 := Lib.hid hs
  clear hs x0 y0 y1 y2 y3 y4 y5 y6 y7 y8 y9 y10 yl
  obtain ⟨x0, _, _⟩ := own1 S1.out.x1
  obtain ⟨y0, y1, y2, y3, y4, y5, y6, y7, y8, y9, y10, yl⟩ := own11 S1.out.y1
  have C1 := Lib.hid (S1.out.kid0 HC.out.below K0 4 HL0.out.2)
  go_wp2_with fail
  refine C1.out.mono ?_
  rintro e v2 ⟨rfl, hs⟩
  have S2 := Lib.hid hs
  clear hs x0 y0 y1 y2 y3 y4 y5 y6 y7 y8 y9 y10 yl
  obtain ⟨x0, _, _⟩ := own1 S2.out.x1
  obtain ⟨y0, y1, y2, y3, y4, y5, y6, y7, y8, y9, y10, yl⟩ := own11 S2.out.y1
  go_wp2_with fail
  change bodyPost _ _ _ _ _ _
  go_end0
  exact ⟨rfl, by first | exact S2.out.fin.1 | (simp only [Sh.puts_app]; simpa only [Sh.puts_app] using S2.out.fin.1), S2.out.fin.2⟩
end Go.Proofs.YtocehfklacjgbaaGreatDoor
namespace Go.Proofs.YtocehfklacjgbaaGreatDoor
open Go.RowKit


set_option maxHeartbeats 8000000 in
set_option maxRecDepth 100000 in
theorem own_12 (B b : Nat) (l : List UInt8) (w0 w : World) (h : Hd) (p : Pl) (h1 : Hd) (k1 : Tm) (q1 : Pl) (hk : h.kind = 12) (C : OwnCtx B b w0 w h p) (hty : Ty.chk h.tk h.tkids = 0) (K0 : KidAt B b w0 p 0 h1 k1 q1) (hbl : Bld B b l w) (hl : l.length + Sh.tl (Sh.own h (.node h1 k1 .nil)) ≤ 100000000) :
    Calls Tryz.prog 49 #[.agg #[(.func (Fn.func 25) #[] #[.pointer (some ⟨b, 0, none⟩)])], .agg #[.int .i8 h.kind, .string h.name, .string h.arg, .int .i64 h.num, .int .i8 h.tk, .slice p.TA p.tn p.tc, .int .i8 h.uk, .slice p.UA p.un p.uc, .int .i64 h.label, .int .i64 h.pos, .slice p.A p.n p.c]] w (Puts B b l (Sh.own h (.node h1 k1 .nil)) w) := by
  have hcf := cf_put
  have hcf2 := cf_kid
  have hO : Sh.own h (.node h1 k1 .nil) = bytes [⟨#[105, 110, 108]⟩, ⟨#[123]⟩, ⟨(Sh.tyW h.tk h.tkids).toArray⟩, ⟨#[125]⟩] ++ (Sh.stand 4 h1 k1) := by
    unfold Sh.own Sh.ownW
    simp only [hk]
    simp [bytes, Sh.kidsW, Sh.kid, Sh.stand, Sh.own]
  rw [hO] at hl ⊢
  have HLL := Lib.hid hl
  have g0 : (h.kind == 0) = false := by rw [hk]; rfl
  have g1 : (h.kind == 1) = false := by rw [hk]; rfl
  have g2 : (h.kind == 2) = false := by rw [hk]; rfl
  have g3 : (h.kind == 3) = false := by rw [hk]; rfl
  have g6 : (h.kind == 6) = false := by rw [hk]; rfl
  have g9 : (h.kind == 9) = false := by rw [hk]; rfl
  have g10 : (h.kind == 10) = false := by rw [hk]; rfl
  have g11 : (h.kind == 11) = false := by rw [hk]; rfl
  have g12 : (h.kind == 12) = true := by rw [hk]; rfl
  have g13 : (h.kind == 13) = false := by rw [hk]; rfl
  have g15 : (h.kind == 15) = false := by rw [hk]; rfl
  have g16 : (h.kind == 16) = false := by rw [hk]; rfl
  have HC := Lib.hid C
  have S0 := Lib.hid (OS.start h p C.size hbl)
  have CK := Lib.hid (skids_at b h p ((w.alloc (.cells #[(.func (Fn.func 25) #[] #[.pointer (some ⟨b, 0, none⟩)])] 77)).alloc (.cells #[.int .i8 h.kind, .string h.name, .string h.arg, .int .i64 h.num, .int .i8 h.tk, .slice p.TA p.tn p.tc, .int .i8 h.uk, .slice p.UA p.un p.uc, .int .i64 h.label, .int .i64 h.pos, .slice p.A p.n p.c] 30)) (w.heap.size + 2) (w.heap.size + 3) (w.heap.size + 4) (by simp) rfl rfl)
  clear hk C hbl hl hO
  go_enter Tryz.func49, Tryz.ntmps49
  go_wp2_with fail
  refine CK.out.mono ?_
  rintro e w9 ⟨rfl, hw9⟩
  rw [← hw9] at S0
  clear hw9 CK
  obtain ⟨x0, _, _⟩ := own1 S0.out.x1
  obtain ⟨y0, y1, y2, y3, y4, y5, y6, y7, y8, y9, y10, yl⟩ := own11 S0.out.y1
  have HL0 := Lib.hid (len_step HLL.out)
  have SU := Lib.hid (fun (W : World) (hb : Below w9.heap.size w9 W) => S0.out.below hb)
  have D : Below w9.heap.size w9 w9.drew := (Below.refl _ _).drew
  go_wp2_with fail
  go_region_held3 (fun W => W.cell? ⟨w.heap.size, 0, none⟩ = some (.func (Fn.func 25) #[] #[.pointer (some ⟨b, 0, none⟩)]) ∧ W.cell? ⟨w.heap.size + 1, 0, none⟩ = some (.int .i8 h.kind) ∧ W.cell? ⟨w.heap.size + 1, 1, none⟩ = some (.string h.name) ∧ W.cell? ⟨w.heap.size + 1, 2, none⟩ = some (.string h.arg) ∧ W.cell? ⟨w.heap.size + 1, 3, none⟩ = some (.int .i64 h.num) ∧ W.cell? ⟨w.heap.size + 1, 4, none⟩ = some (.int .i8 h.tk) ∧ W.cell? ⟨w.heap.size + 1, 5, none⟩ = some (.slice p.TA p.tn p.tc) ∧ W.cell? ⟨w.heap.size + 1, 6, none⟩ = some (.int .i8 h.uk) ∧ W.cell? ⟨w.heap.size + 1, 7, none⟩ = some (.slice p.UA p.un p.uc) ∧ W.cell? ⟨w.heap.size + 1, 8, none⟩ = some (.int .i64 h.label) ∧ W.cell? ⟨w.heap.size + 1, 9, none⟩ = some (.int .i64 h.pos) ∧ W.cell? ⟨w.heap.size + 1, 10, none⟩ = some (.slice p.A p.n p.c))
    (first | exact S1.out.row | exact (SU.out _ D).row | exact ((SU.out _ D).below ((Below.refl _ _).alloc (Nat.le_refl _) _)).row)
    (first
    | (go_at_call 99; (with_reducible refine (HC.out.typed (S0.out.wz.below.trans (D.mono S0.out.size)) hty).mono ?_); rintro e u ⟨rfl, hb⟩; have D := D.trans (hb.mono D.size); have CF := Lib.hid (show Calls Tryz.prog 25 #[.slice (some ⟨u.heap.size, 0, none⟩) 4 4, .pointer (some ⟨b, 0, none⟩)] (u.alloc (.cells #[.string ⟨#[105, 110, 108]⟩, .string ⟨#[123]⟩, .string ⟨(Sh.tyW h.tk h.tkids).toArray⟩, .string ⟨#[125]⟩] 9)) (fun e w' => e = .returned (.tuple #[]) ∧ OS B b w w' h p 0 (Sh.puts l (bytes [⟨#[105, 110, 108]⟩, ⟨#[123]⟩, ⟨(Sh.tyW h.tk h.tkids).toArray⟩, ⟨#[125]⟩]))) from (SU.out u D).put [⟨#[105, 110, 108]⟩, ⟨#[123]⟩, ⟨(Sh.tyW h.tk h.tkids).toArray⟩, ⟨#[125]⟩] (by simp) HL0.out.1); clear hb)
    | (go_at_call 25; (with_reducible refine CF.out.mono ?_); rintro e v1 ⟨rfl, hs⟩; have S1 := Lib.hid hs; clear hs))
  all_goals
    obtain ⟨x0, _, _⟩ := own1 S1.out.x1
    obtain ⟨y0, y1, y2, y3, y4, y5, y6, y7, y8, y9, y10, yl⟩ := own11 S1.out.y1
    have C1 := Lib.hid (S1.out.kid0 HC.out.below K0 4 HL0.out.2)
    go_wp2_with fail
    refine C1.out.mono ?_
    rintro e v2 ⟨rfl, hs⟩
    have S2 := Lib.hid hs
    clear hs x0 y0 y1 y2 y3 y4 y5 y6 y7 y8 y9 y10 yl
    obtain ⟨x0, _, _⟩ := own1 S2.out.x1
    obtain ⟨y0, y1, y2, y3, y4, y5, y6, y7, y8, y9, y10, yl⟩ := own11 S2.out.y1
    go_wp2_with fail
    change bodyPost _ _ _ _ _ _
    go_end0
    exact ⟨rfl, by first | exact S2.out.fin.1 | (simp only [Sh.puts_app]; simpa only [Sh.puts_app] using S2.out.fin.1), S2.out.fin.2⟩

set_option maxHeartbeats 8000000 in
set_option maxRecDepth 100000 in
theorem own_13 (B b : Nat) (l : List UInt8) (w0 w : World) (h : Hd) (p : Pl) (h1 : Hd) (k1 : Tm) (q1 : Pl) (hk : h.kind = 13) (C : OwnCtx B b w0 w h p) (hty : Ty.chk h.tk h.tkids = 0) (K0 : KidAt B b w0 p 0 h1 k1 q1) (hbl : Bld B b l w) (hl : l.length + Sh.tl (Sh.own h (.node h1 k1 .nil)) ≤ 100000000) :
    Calls Tryz.prog 49 #[.agg #[(.func (Fn.func 25) #[] #[.pointer (some ⟨b, 0, none⟩)])], .agg #[.int .i8 h.kind, .string h.name, .string h.arg, .int .i64 h.num, .int .i8 h.tk, .slice p.TA p.tn p.tc, .int .i8 h.uk, .slice p.UA p.un p.uc, .int .i64 h.label, .int .i64 h.pos, .slice p.A p.n p.c]] w (Puts B b l (Sh.own h (.node h1 k1 .nil)) w) := by
  have hcf := cf_put
  have hcf2 := cf_kid
  have hO : Sh.own h (.node h1 k1 .nil) = bytes [⟨#[105, 110, 114]⟩, ⟨#[123]⟩, ⟨(Sh.tyW h.tk h.tkids).toArray⟩, ⟨#[125]⟩] ++ (Sh.stand 4 h1 k1) := by
    unfold Sh.own Sh.ownW
    simp only [hk]
    simp [bytes, Sh.kidsW, Sh.kid, Sh.stand, Sh.own]
  rw [hO] at hl ⊢
  have HLL := Lib.hid hl
  have g0 : (h.kind == 0) = false := by rw [hk]; rfl
  have g1 : (h.kind == 1) = false := by rw [hk]; rfl
  have g2 : (h.kind == 2) = false := by rw [hk]; rfl
  have g3 : (h.kind == 3) = false := by rw [hk]; rfl
  have g6 : (h.kind == 6) = false := by rw [hk]; rfl
  have g9 : (h.kind == 9) = false := by rw [hk]; rfl
  have g10 : (h.kind == 10) = false := by rw [hk]; rfl
  have g11 : (h.kind == 11) = false := by rw [hk]; rfl
  have g12 : (h.kind == 12) = false := by rw [hk]; rfl
  have g13 : (h.kind == 13) = true := by rw [hk]; rfl
  have g15 : (h.kind == 15) = false := by rw [hk]; rfl
  have g16 : (h.kind == 16) = false := by rw [hk]; rfl
  have HC := Lib.hid C
  have S0 := Lib.hid (OS.start h p C.size hbl)
  have CK := Lib.hid (skids_at b h p ((w.alloc (.cells #[(.func (Fn.func 25) #[] #[.pointer (some ⟨b, 0, none⟩)])] 77)).alloc (.cells #[.int .i8 h.kind, .string h.name, .string h.arg, .int .i64 h.num, .int .i8 h.tk, .slice p.TA p.tn p.tc, .int .i8 h.uk, .slice p.UA p.un p.uc, .int .i64 h.label, .int .i64 h.pos, .slice p.A p.n p.c] 30)) (w.heap.size + 2) (w.heap.size + 3) (w.heap.size + 4) (by simp) rfl rfl)
  clear hk C hbl hl hO
  go_enter Tryz.func49, Tryz.ntmps49
  go_wp2_with fail
  refine CK.out.mono ?_
  rintro e w9 ⟨rfl, hw9⟩
  rw [← hw9] at S0
  clear hw9 CK
  obtain ⟨x0, _, _⟩ := own1 S0.out.x1
  obtain ⟨y0, y1, y2, y3, y4, y5, y6, y7, y8, y9, y10, yl⟩ := own11 S0.out.y1
  have HL0 := Lib.hid (len_step HLL.out)
  have SU := Lib.hid (fun (W : World) (hb : Below w9.heap.size w9 W) => S0.out.below hb)
  have D : Below w9.heap.size w9 w9.drew := (Below.refl _ _).drew
  go_wp2_with fail
  go_region_held3 (fun W => W.cell? ⟨w.heap.size, 0, none⟩ = some (.func (Fn.func 25) #[] #[.pointer (some ⟨b, 0, none⟩)]) ∧ W.cell? ⟨w.heap.size + 1, 0, none⟩ = some (.int .i8 h.kind) ∧ W.cell? ⟨w.heap.size + 1, 1, none⟩ = some (.string h.name) ∧ W.cell? ⟨w.heap.size + 1, 2, none⟩ = some (.string h.arg) ∧ W.cell? ⟨w.heap.size + 1, 3, none⟩ = some (.int .i64 h.num) ∧ W.cell? ⟨w.heap.size + 1, 4, none⟩ = some (.int .i8 h.tk) ∧ W.cell? ⟨w.heap.size + 1, 5, none⟩ = some (.slice p.TA p.tn p.tc) ∧ W.cell? ⟨w.heap.size + 1, 6, none⟩ = some (.int .i8 h.uk) ∧ W.cell? ⟨w.heap.size + 1, 7, none⟩ = some (.slice p.UA p.un p.uc) ∧ W.cell? ⟨w.heap.size + 1, 8, none⟩ = some (.int .i64 h.label) ∧ W.cell? ⟨w.heap.size + 1, 9, none⟩ = some (.int .i64 h.pos) ∧ W.cell? ⟨w.heap.size + 1, 10, none⟩ = some (.slice p.A p.n p.c))
    (first | exact S1.out.row | exact (SU.out _ D).row | exact ((SU.out _ D).below ((Below.refl _ _).alloc (Nat.le_refl _) _)).row)
    (first
    | (go_at_call 99; (with_reducible refine (HC.out.typed (S0.out.wz.below.trans (D.mono S0.out.size)) hty).mono ?_); rintro e u ⟨rfl, hb⟩; have D := D.trans (hb.mono D.size); have CF := Lib.hid (show Calls Tryz.prog 25 #[.slice (some ⟨u.heap.size, 0, none⟩) 4 4, .pointer (some ⟨b, 0, none⟩)] (u.alloc (.cells #[.string ⟨#[105, 110, 114]⟩, .string ⟨#[123]⟩, .string ⟨(Sh.tyW h.tk h.tkids).toArray⟩, .string ⟨#[125]⟩] 9)) (fun e w' => e = .returned (.tuple #[]) ∧ OS B b w w' h p 0 (Sh.puts l (bytes [⟨#[105, 110, 114]⟩, ⟨#[123]⟩, ⟨(Sh.tyW h.tk h.tkids).toArray⟩, ⟨#[125]⟩]))) from (SU.out u D).put [⟨#[105, 110, 114]⟩, ⟨#[123]⟩, ⟨(Sh.tyW h.tk h.tkids).toArray⟩, ⟨#[125]⟩] (by simp) HL0.out.1); clear hb)
    | (go_at_call 25; (with_reducible refine CF.out.mono ?_); rintro e v1 ⟨rfl, hs⟩; have S1 := Lib.hid hs; clear hs))
  all_goals
    obtain ⟨x0, _, _⟩ := own1 S1.out.x1
    obtain ⟨y0, y1, y2, y3, y4, y5, y6, y7, y8, y9, y10, yl⟩ := own11 S1.out.y1
    have C1 := Lib.hid (S1.out.kid0 HC.out.below K0 4 HL0.out.2)
    go_wp2_with fail
    refine C1.out.mono ?_
    rintro e v2 ⟨rfl, hs⟩
    have S2 := Lib.hid hs
    clear hs x0 y0 y1 y2 y3 y4 y5 y6 y7 y8 y9 y10 yl
    obtain ⟨x0, _, _⟩ := own1 S2.out.x1
    obtain ⟨y0, y1, y2, y3, y4, y5, y6, y7, y8, y9, y10, yl⟩ := own11 S2.out.y1
    go_wp2_with fail
    change bodyPost _ _ _ _ _ _
    go_end0
    exact ⟨rfl, by first | exact S2.out.fin.1 | (simp only [Sh.puts_app]; simpa only [Sh.puts_app] using S2.out.fin.1), S2.out.fin.2⟩
end Go.Proofs.YtocehfklacjgbaaGreatDoor
namespace Go.Proofs.YtocehfklacjgbaaGreatDoor
open Go.RowKit


set_option maxHeartbeats 8000000 in
set_option maxRecDepth 100000 in
theorem own_15 (B b : Nat) (l : List UInt8) (w0 w : World) (h : Hd) (p : Pl) (h1 : Hd) (k1 : Tm) (q1 : Pl) (h2 : Hd) (k2 : Tm) (q2 : Pl) (hk : h.kind = 15) (C : OwnCtx B b w0 w h p) (K0 : KidAt B b w0 p 0 h1 k1 q1) (K1 : KidAt B b w0 p 1 h2 k2 q2) (hbl : Bld B b l w) (hl : l.length + Sh.tl (Sh.own h (.node h1 k1 (.node h2 k2 .nil))) ≤ 100000000) :
    Calls Tryz.prog 49 #[.agg #[(.func (Fn.func 25) #[] #[.pointer (some ⟨b, 0, none⟩)])], .agg #[.int .i8 h.kind, .string h.name, .string h.arg, .int .i64 h.num, .int .i8 h.tk, .slice p.TA p.tn p.tc, .int .i8 h.uk, .slice p.UA p.un p.uc, .int .i64 h.label, .int .i64 h.pos, .slice p.A p.n p.c]] w (Puts B b l (Sh.own h (.node h1 k1 (.node h2 k2 .nil))) w) := by
  have hcf := cf_put
  have hcf2 := cf_kid
  have hO : Sh.own h (.node h1 k1 (.node h2 k2 .nil)) = (Sh.stand (Sh.opS h.name).2.1 h1 k1 ++ bytes [h.name]) ++ (Sh.stand (Sh.opS h.name).2.2 h2 k2) := by
    unfold Sh.own Sh.ownW
    simp only [hk]
    simp [bytes, Sh.kidsW, Sh.kid, Sh.stand, Sh.own]
  rw [hO] at hl ⊢
  have CO := fun W => sop_any h.name W
  clear hO
  generalize (Sh.opS h.name).2.1 = so2 at *
  generalize (Sh.opS h.name).2.2 = so3 at *
  generalize (Sh.opS h.name).1 = so1 at *
  have CO := Lib.hid CO
  have HLL := Lib.hid hl
  have g0 : (h.kind == 0) = false := by rw [hk]; rfl
  have g1 : (h.kind == 1) = false := by rw [hk]; rfl
  have g2 : (h.kind == 2) = false := by rw [hk]; rfl
  have g3 : (h.kind == 3) = false := by rw [hk]; rfl
  have g6 : (h.kind == 6) = false := by rw [hk]; rfl
  have g9 : (h.kind == 9) = false := by rw [hk]; rfl
  have g10 : (h.kind == 10) = false := by rw [hk]; rfl
  have g11 : (h.kind == 11) = false := by rw [hk]; rfl
  have g12 : (h.kind == 12) = false := by rw [hk]; rfl
  have g13 : (h.kind == 13) = false := by rw [hk]; rfl
  have g15 : (h.kind == 15) = true := by rw [hk]; rfl
  have g16 : (h.kind == 16) = false := by rw [hk]; rfl
  have HC := Lib.hid C
  have S0 := Lib.hid (OS.start h p C.size hbl)
  have CK := Lib.hid (skids_at b h p ((w.alloc (.cells #[(.func (Fn.func 25) #[] #[.pointer (some ⟨b, 0, none⟩)])] 77)).alloc (.cells #[.int .i8 h.kind, .string h.name, .string h.arg, .int .i64 h.num, .int .i8 h.tk, .slice p.TA p.tn p.tc, .int .i8 h.uk, .slice p.UA p.un p.uc, .int .i64 h.label, .int .i64 h.pos, .slice p.A p.n p.c] 30)) (w.heap.size + 2) (w.heap.size + 3) (w.heap.size + 4) (by simp) rfl rfl)
  clear hk C hbl hl
  go_enter Tryz.func49, Tryz.ntmps49
  go_wp2_with fail
  refine CK.out.mono ?_
  rintro e w9 ⟨rfl, hw9⟩
  rw [← hw9] at S0
  clear hw9 CK
  obtain ⟨x0, _, _⟩ := own1 S0.out.x1
  obtain ⟨y0, y1, y2, y3, y4, y5, y6, y7, y8, y9, y10, yl⟩ := own11 S0.out.y1
  go_wp2_with fail
  refine (CO.out w9).mono ?_
  rintro e wo ⟨rfl, hwo⟩
  rw [hwo]
  clear hwo
  have HL0 := Lib.hid (len_step HLL.out)
  have C0 := Lib.hid (show Calls Tryz.prog 138 #[.int .i64 so2, .slice (some ⟨w9.heap.size, 0, none⟩) 1 1, .pointer (some ⟨w.heap.size + 2, 0, none⟩), .pointer (some ⟨w.heap.size + 3, 0, none⟩), .pointer (some ⟨w.heap.size + 4, 0, none⟩)] (w9.alloc (.cells #[.string h.name] 9)) fun e w' => e = .returned (.tuple #[]) ∧ OS B b w w' h p (0 + 1) (Sh.puts l ((Sh.stand so2 h1 k1 ++ bytes [h.name]))) from S0.out.kidN HC.out.below K0 so2 [h.name] (by simp) HL0.out.1)
  go_wp2_with fail
  refine C0.out.mono ?_
  rintro e v1 ⟨rfl, hs⟩
  have S1 := Lib.hid hs
  clear hs x0 y0 y1 y2 y3 y4 y5 y6 y7 y8 y9 y10 yl
  obtain ⟨x0, _, _⟩ := own1 S1.out.x1
  obtain ⟨y0, y1, y2, y3, y4, y5, y6, y7, y8, y9, y10, yl⟩ := own11 S1.out.y1
  have C1 := Lib.hid (S1.out.kid0 HC.out.below K1 so3 HL0.out.2)
  go_wp2_with fail
  refine C1.out.mono ?_
  rintro e v2 ⟨rfl, hs⟩
  have S2 := Lib.hid hs
  clear hs x0 y0 y1 y2 y3 y4 y5 y6 y7 y8 y9 y10 yl
  obtain ⟨x0, _, _⟩ := own1 S2.out.x1
  obtain ⟨y0, y1, y2, y3, y4, y5, y6, y7, y8, y9, y10, yl⟩ := own11 S2.out.y1
  go_wp2_with fail
  change bodyPost _ _ _ _ _ _
  go_end0
  exact ⟨rfl, by first | exact S2.out.fin.1 | (simp only [Sh.puts_app]; simpa only [Sh.puts_app] using S2.out.fin.1), S2.out.fin.2⟩
end Go.Proofs.YtocehfklacjgbaaGreatDoor
namespace Go.Proofs.YtocehfklacjgbaaGreatDoor
open Go.RowKit


set_option maxHeartbeats 8000000 in
set_option maxRecDepth 100000 in
theorem own_16 (B b : Nat) (l : List UInt8) (w0 w : World) (h : Hd) (p : Pl) (h1 : Hd) (k1 : Tm) (q1 : Pl) (hk : h.kind = 16) (C : OwnCtx B b w0 w h p) (hty : Ty.chk h.tk h.tkids = 0) (K0 : KidAt B b w0 p 0 h1 k1 q1) (hbl : Bld B b l w) (hl : l.length + Sh.tl (Sh.own h (.node h1 k1 .nil)) ≤ 100000000) :
    Calls Tryz.prog 49 #[.agg #[(.func (Fn.func 25) #[] #[.pointer (some ⟨b, 0, none⟩)])], .agg #[.int .i8 h.kind, .string h.name, .string h.arg, .int .i64 h.num, .int .i8 h.tk, .slice p.TA p.tn p.tc, .int .i8 h.uk, .slice p.UA p.un p.uc, .int .i64 h.label, .int .i64 h.pos, .slice p.A p.n p.c]] w (Puts B b l (Sh.own h (.node h1 k1 .nil)) w) := by
  have hcf := cf_put
  have hcf2 := cf_kid
  have hO : Sh.own h (.node h1 k1 .nil) = (Sh.stand 0 h1 k1 ++ bytes [⟨#[58]⟩, ⟨(Sh.tyW h.tk h.tkids).toArray⟩]) := by
    unfold Sh.own Sh.ownW
    simp only [hk]
    simp [bytes, Sh.kidsW, Sh.kid, Sh.stand, Sh.own]
  rw [hO] at hl ⊢
  have HLL := Lib.hid hl
  have g0 : (h.kind == 0) = false := by rw [hk]; rfl
  have g1 : (h.kind == 1) = false := by rw [hk]; rfl
  have g2 : (h.kind == 2) = false := by rw [hk]; rfl
  have g3 : (h.kind == 3) = false := by rw [hk]; rfl
  have g6 : (h.kind == 6) = false := by rw [hk]; rfl
  have g9 : (h.kind == 9) = false := by rw [hk]; rfl
  have g10 : (h.kind == 10) = false := by rw [hk]; rfl
  have g11 : (h.kind == 11) = false := by rw [hk]; rfl
  have g12 : (h.kind == 12) = false := by rw [hk]; rfl
  have g13 : (h.kind == 13) = false := by rw [hk]; rfl
  have g15 : (h.kind == 15) = false := by rw [hk]; rfl
  have g16 : (h.kind == 16) = true := by rw [hk]; rfl
  have HC := Lib.hid C
  have S0 := Lib.hid (OS.start h p C.size hbl)
  have CK := Lib.hid (skids_at b h p ((w.alloc (.cells #[(.func (Fn.func 25) #[] #[.pointer (some ⟨b, 0, none⟩)])] 77)).alloc (.cells #[.int .i8 h.kind, .string h.name, .string h.arg, .int .i64 h.num, .int .i8 h.tk, .slice p.TA p.tn p.tc, .int .i8 h.uk, .slice p.UA p.un p.uc, .int .i64 h.label, .int .i64 h.pos, .slice p.A p.n p.c] 30)) (w.heap.size + 2) (w.heap.size + 3) (w.heap.size + 4) (by simp) rfl rfl)
  clear hk C hbl hl hO
  go_enter Tryz.func49, Tryz.ntmps49
  go_wp2_with fail
  refine CK.out.mono ?_
  rintro e w9 ⟨rfl, hw9⟩
  rw [← hw9] at S0
  clear hw9 CK
  obtain ⟨x0, _, _⟩ := own1 S0.out.x1
  obtain ⟨y0, y1, y2, y3, y4, y5, y6, y7, y8, y9, y10, yl⟩ := own11 S0.out.y1
  have SU := Lib.hid (fun (W : World) (hb : Below w9.heap.size w9 W) => S0.out.below hb)
  go_wp2_with fail
  refine (HC.out.typed S0.out.wz.below hty).mono ?_
  rintro e u ⟨rfl, D⟩
  have CF := Lib.hid (show Calls Tryz.prog 138 #[.int .i64 0, .slice (some ⟨u.heap.size, 0, none⟩) 2 2, .pointer (some ⟨w.heap.size + 2, 0, none⟩), .pointer (some ⟨w.heap.size + 3, 0, none⟩), .pointer (some ⟨w.heap.size + 4, 0, none⟩)] (u.alloc (.cells #[.string ⟨#[58]⟩, .string ⟨(Sh.tyW h.tk h.tkids).toArray⟩] 9)) (fun e w' => e = .returned (.tuple #[]) ∧ OS B b w w' h p (0 + 1) (Sh.puts l ((Sh.stand 0 h1 k1 ++ bytes [⟨#[58]⟩, ⟨(Sh.tyW h.tk h.tkids).toArray⟩])))) from (SU.out u D).kidN HC.out.below K0 0 [⟨#[58]⟩, ⟨(Sh.tyW h.tk h.tkids).toArray⟩] (by simp) HLL.out)
  clear D x0 y0 y1 y2 y3 y4 y5 y6 y7 y8 y9 y10 yl
  go_wp2_with fail
  refine CF.out.mono ?_
  rintro e v1 ⟨rfl, hs⟩
  have S1 := Lib.hid hs
  clear hs
  go_wp2_with fail
  change bodyPost _ _ _ _ _ _
  go_end0
  exact ⟨rfl, by first | exact S1.out.fin.1 | (simp only [Sh.puts_app]; simpa only [Sh.puts_app] using S1.out.fin.1), S1.out.fin.2⟩
end Go.Proofs.YtocehfklacjgbaaGreatDoor
namespace Go.Proofs.YtocehfklacjgbaaGreatDoor
open Go.RowKit


set_option maxHeartbeats 8000000 in
set_option maxRecDepth 100000 in
theorem open_4 (B b : Nat) (l : List UInt8) (w0 w : World) (h : Hd) (p : Pl) (h1 : Hd) (k1 : Tm) (q1 : Pl) (hk : h.kind = 4) (C : OwnCtx B b w0 w h p) (hty : Ty.chk h.tk h.tkids = 0) (K0 : KidAt B b w0 p 0 h1 k1 q1) (hbl : Bld B b l w) (hl : l.length + Sh.tl (Sh.own h (.node h1 k1 .nil)) ≤ 100000000) :
    Calls Tryz.prog 100 #[.agg #[(.func (Fn.func 25) #[] #[.pointer (some ⟨b, 0, none⟩)])], .agg #[.int .i8 h.kind, .string h.name, .string h.arg, .int .i64 h.num, .int .i8 h.tk, .slice p.TA p.tn p.tc, .int .i8 h.uk, .slice p.UA p.un p.uc, .int .i64 h.label, .int .i64 h.pos, .slice p.A p.n p.c]] w (Puts B b l (Sh.own h (.node h1 k1 .nil)) w) := by
  have hcf := cf_put
  have hcf2 := cf_kid
  have hO : Sh.own h (.node h1 k1 .nil) = bytes [⟨#[92]⟩, h.name, ⟨#[58]⟩, ⟨(Sh.tyW h.tk h.tkids).toArray⟩, ⟨#[46]⟩] ++ (Sh.stand (-1) h1 k1) := by
    unfold Sh.own Sh.ownW
    simp only [hk]
    simp [bytes, Sh.kidsW, Sh.kid, Sh.stand, Sh.own]
  rw [hO] at hl ⊢
  have HLL := Lib.hid hl
  have g4 : (h.kind == 4) = true := by rw [hk]; rfl
  have g5 : (h.kind == 5) = false := by rw [hk]; rfl
  have g7 : (h.kind == 7) = false := by rw [hk]; rfl
  have g8 : (h.kind == 8) = false := by rw [hk]; rfl
  have g14 : (h.kind == 14) = false := by rw [hk]; rfl
  have HC := Lib.hid C
  have S0 := Lib.hid (OS.start h p C.size hbl)
  have CK := Lib.hid (skids_at b h p ((w.alloc (.cells #[(.func (Fn.func 25) #[] #[.pointer (some ⟨b, 0, none⟩)])] 77)).alloc (.cells #[.int .i8 h.kind, .string h.name, .string h.arg, .int .i64 h.num, .int .i8 h.tk, .slice p.TA p.tn p.tc, .int .i8 h.uk, .slice p.UA p.un p.uc, .int .i64 h.label, .int .i64 h.pos, .slice p.A p.n p.c] 30)) (w.heap.size + 2) (w.heap.size + 3) (w.heap.size + 4) (by simp) rfl rfl)
  clear hk C hbl hl hO
  go_enter Tryz.func100, Tryz.ntmps100
  go_wp2_with fail
  refine CK.out.mono ?_
  rintro e w9 ⟨rfl, hw9⟩
  rw [← hw9] at S0
  clear hw9 CK
  obtain ⟨x0, _, _⟩ := own1 S0.out.x1
  obtain ⟨y0, y1, y2, y3, y4, y5, y6, y7, y8, y9, y10, yl⟩ := own11 S0.out.y1
  have HL0 := Lib.hid (len_step HLL.out)
  have SU := Lib.hid (fun (W : World) (hb : Below w9.heap.size w9 W) => S0.out.below hb)
  have D : Below w9.heap.size w9 w9.drew := (Below.refl _ _).drew
  go_wp2_with fail
  go_region_held3 (fun W => W.cell? ⟨w.heap.size, 0, none⟩ = some (.func (Fn.func 25) #[] #[.pointer (some ⟨b, 0, none⟩)]) ∧ W.cell? ⟨w.heap.size + 1, 0, none⟩ = some (.int .i8 h.kind) ∧ W.cell? ⟨w.heap.size + 1, 1, none⟩ = some (.string h.name) ∧ W.cell? ⟨w.heap.size + 1, 2, none⟩ = some (.string h.arg) ∧ W.cell? ⟨w.heap.size + 1, 3, none⟩ = some (.int .i64 h.num) ∧ W.cell? ⟨w.heap.size + 1, 4, none⟩ = some (.int .i8 h.tk) ∧ W.cell? ⟨w.heap.size + 1, 5, none⟩ = some (.slice p.TA p.tn p.tc) ∧ W.cell? ⟨w.heap.size + 1, 6, none⟩ = some (.int .i8 h.uk) ∧ W.cell? ⟨w.heap.size + 1, 7, none⟩ = some (.slice p.UA p.un p.uc) ∧ W.cell? ⟨w.heap.size + 1, 8, none⟩ = some (.int .i64 h.label) ∧ W.cell? ⟨w.heap.size + 1, 9, none⟩ = some (.int .i64 h.pos) ∧ W.cell? ⟨w.heap.size + 1, 10, none⟩ = some (.slice p.A p.n p.c))
    (first | exact S1.out.row | exact (SU.out _ D).row | exact ((SU.out _ D).below ((Below.refl _ _).alloc (Nat.le_refl _) _)).row)
    (first
    | (go_at_call 99; (with_reducible refine (HC.out.typed (S0.out.wz.below.trans (D.mono S0.out.size)) hty).mono ?_); rintro e u ⟨rfl, hb⟩; have D := D.trans (hb.mono D.size); have CF := Lib.hid (show Calls Tryz.prog 25 #[.slice (some ⟨u.heap.size, 0, none⟩) 5 5, .pointer (some ⟨b, 0, none⟩)] (u.alloc (.cells #[.string ⟨#[92]⟩, .string h.name, .string ⟨#[58]⟩, .string ⟨(Sh.tyW h.tk h.tkids).toArray⟩, .string ⟨#[46]⟩] 9)) (fun e w' => e = .returned (.tuple #[]) ∧ OS B b w w' h p 0 (Sh.puts l (bytes [⟨#[92]⟩, h.name, ⟨#[58]⟩, ⟨(Sh.tyW h.tk h.tkids).toArray⟩, ⟨#[46]⟩]))) from (SU.out u D).put [⟨#[92]⟩, h.name, ⟨#[58]⟩, ⟨(Sh.tyW h.tk h.tkids).toArray⟩, ⟨#[46]⟩] (by simp) HL0.out.1); clear hb)
    | (go_at_call 25; (with_reducible refine CF.out.mono ?_); rintro e v1 ⟨rfl, hs⟩; have S1 := Lib.hid hs; clear hs))
  all_goals
    obtain ⟨x0, _, _⟩ := own1 S1.out.x1
    obtain ⟨y0, y1, y2, y3, y4, y5, y6, y7, y8, y9, y10, yl⟩ := own11 S1.out.y1
    have C1 := Lib.hid (S1.out.kid0 HC.out.below K0 (-1) HL0.out.2)
    go_wp2_with fail
    refine C1.out.mono ?_
    rintro e v2 ⟨rfl, hs⟩
    have S2 := Lib.hid hs
    clear hs x0 y0 y1 y2 y3 y4 y5 y6 y7 y8 y9 y10 yl
    obtain ⟨x0, _, _⟩ := own1 S2.out.x1
    obtain ⟨y0, y1, y2, y3, y4, y5, y6, y7, y8, y9, y10, yl⟩ := own11 S2.out.y1
    go_wp2_with fail
    change bodyPost _ _ _ _ _ _
    go_end0
    exact ⟨rfl, by first | exact S2.out.fin.1 | (simp only [Sh.puts_app]; simpa only [Sh.puts_app] using S2.out.fin.1), S2.out.fin.2⟩

set_option maxHeartbeats 8000000 in
set_option maxRecDepth 100000 in
theorem open_5 (B b : Nat) (l : List UInt8) (w0 w : World) (h : Hd) (p : Pl) (h1 : Hd) (k1 : Tm) (q1 : Pl) (hk : h.kind = 5) (C : OwnCtx B b w0 w h p) (hty : Ty.chk h.tk h.tkids = 0) (hto : Ty.chk h.uk h.ukids = 0) (K0 : KidAt B b w0 p 0 h1 k1 q1) (hbl : Bld B b l w) (hl : l.length + Sh.tl (Sh.own h (.node h1 k1 .nil)) ≤ 100000000) :
    Calls Tryz.prog 100 #[.agg #[(.func (Fn.func 25) #[] #[.pointer (some ⟨b, 0, none⟩)])], .agg #[.int .i8 h.kind, .string h.name, .string h.arg, .int .i64 h.num, .int .i8 h.tk, .slice p.TA p.tn p.tc, .int .i8 h.uk, .slice p.UA p.un p.uc, .int .i64 h.label, .int .i64 h.pos, .slice p.A p.n p.c]] w (Puts B b l (Sh.own h (.node h1 k1 .nil)) w) := by
  have hcf := cf_put
  have hcf2 := cf_kid
  have hO : Sh.own h (.node h1 k1 .nil) = bytes [⟨#[114, 101, 99]⟩, h.name, ⟨#[40]⟩, h.arg, ⟨#[58]⟩, ⟨(Sh.tyW h.tk h.tkids).toArray⟩, ⟨#[41]⟩, ⟨#[58]⟩, ⟨(Sh.tyW h.uk h.ukids).toArray⟩, ⟨#[46]⟩] ++ (Sh.stand (-1) h1 k1) := by
    unfold Sh.own Sh.ownW
    simp only [hk]
    simp [bytes, Sh.kidsW, Sh.kid, Sh.stand, Sh.own]
  rw [hO] at hl ⊢
  have HLL := Lib.hid hl
  have g4 : (h.kind == 4) = false := by rw [hk]; rfl
  have g5 : (h.kind == 5) = true := by rw [hk]; rfl
  have g7 : (h.kind == 7) = false := by rw [hk]; rfl
  have g8 : (h.kind == 8) = false := by rw [hk]; rfl
  have g14 : (h.kind == 14) = false := by rw [hk]; rfl
  have HC := Lib.hid C
  have S0 := Lib.hid (OS.start h p C.size hbl)
  have CK := Lib.hid (skids_at b h p ((w.alloc (.cells #[(.func (Fn.func 25) #[] #[.pointer (some ⟨b, 0, none⟩)])] 77)).alloc (.cells #[.int .i8 h.kind, .string h.name, .string h.arg, .int .i64 h.num, .int .i8 h.tk, .slice p.TA p.tn p.tc, .int .i8 h.uk, .slice p.UA p.un p.uc, .int .i64 h.label, .int .i64 h.pos, .slice p.A p.n p.c] 30)) (w.heap.size + 2) (w.heap.size + 3) (w.heap.size + 4) (by simp) rfl rfl)
  clear hk C hbl hl hO
  go_enter Tryz.func100, Tryz.ntmps100
  go_wp2_with fail
  refine CK.out.mono ?_
  rintro e w9 ⟨rfl, hw9⟩
  rw [← hw9] at S0
  clear hw9 CK
  obtain ⟨x0, _, _⟩ := own1 S0.out.x1
  obtain ⟨y0, y1, y2, y3, y4, y5, y6, y7, y8, y9, y10, yl⟩ := own11 S0.out.y1
  have HL0 := Lib.hid (len_step HLL.out)
  have SU := Lib.hid (fun (W : World) (hb : Below w9.heap.size w9 W) => S0.out.below hb)
  have D : Below w9.heap.size w9 w9.drew := (Below.refl _ _).drew
  go_wp2_with fail
  go_region_held3 (fun W => W.cell? ⟨w.heap.size, 0, none⟩ = some (.func (Fn.func 25) #[] #[.pointer (some ⟨b, 0, none⟩)]) ∧ W.cell? ⟨w.heap.size + 1, 0, none⟩ = some (.int .i8 h.kind) ∧ W.cell? ⟨w.heap.size + 1, 1, none⟩ = some (.string h.name) ∧ W.cell? ⟨w.heap.size + 1, 2, none⟩ = some (.string h.arg) ∧ W.cell? ⟨w.heap.size + 1, 3, none⟩ = some (.int .i64 h.num) ∧ W.cell? ⟨w.heap.size + 1, 4, none⟩ = some (.int .i8 h.tk) ∧ W.cell? ⟨w.heap.size + 1, 5, none⟩ = some (.slice p.TA p.tn p.tc) ∧ W.cell? ⟨w.heap.size + 1, 6, none⟩ = some (.int .i8 h.uk) ∧ W.cell? ⟨w.heap.size + 1, 7, none⟩ = some (.slice p.UA p.un p.uc) ∧ W.cell? ⟨w.heap.size + 1, 8, none⟩ = some (.int .i64 h.label) ∧ W.cell? ⟨w.heap.size + 1, 9, none⟩ = some (.int .i64 h.pos) ∧ W.cell? ⟨w.heap.size + 1, 10, none⟩ = some (.slice p.A p.n p.c))
    (first | exact S1.out.row | exact (SU.out _ D).row | exact ((SU.out _ D).below ((Below.refl _ _).alloc (Nat.le_refl _) _)).row)
    (first
    | (go_at_call 99; (with_reducible refine (HC.out.typed (S0.out.wz.below.trans (D.mono S0.out.size)) hty).mono ?_); rintro e u ⟨rfl, hb⟩; have D := D.trans (hb.mono D.size); have CF := Lib.hid (show Calls Tryz.prog 25 #[.slice (some ⟨u.heap.size, 0, none⟩) 10 10, .pointer (some ⟨b, 0, none⟩)] (u.alloc (.cells #[.string ⟨#[114, 101, 99]⟩, .string h.name, .string ⟨#[40]⟩, .string h.arg, .string ⟨#[58]⟩, .string ⟨(Sh.tyW h.tk h.tkids).toArray⟩, .string ⟨#[41]⟩, .string ⟨#[58]⟩, .string ⟨(Sh.tyW h.uk h.ukids).toArray⟩, .string ⟨#[46]⟩] 9)) (fun e w' => e = .returned (.tuple #[]) ∧ OS B b w w' h p 0 (Sh.puts l (bytes [⟨#[114, 101, 99]⟩, h.name, ⟨#[40]⟩, h.arg, ⟨#[58]⟩, ⟨(Sh.tyW h.tk h.tkids).toArray⟩, ⟨#[41]⟩, ⟨#[58]⟩, ⟨(Sh.tyW h.uk h.ukids).toArray⟩, ⟨#[46]⟩]))) from (SU.out u D).put [⟨#[114, 101, 99]⟩, h.name, ⟨#[40]⟩, h.arg, ⟨#[58]⟩, ⟨(Sh.tyW h.tk h.tkids).toArray⟩, ⟨#[41]⟩, ⟨#[58]⟩, ⟨(Sh.tyW h.uk h.ukids).toArray⟩, ⟨#[46]⟩] (by simp) HL0.out.1); clear hb)
    | (go_at_call 99; (with_reducible refine (HC.out.totyped (S0.out.wz.below.trans (D.mono S0.out.size)) hto).mono ?_); rintro e u ⟨rfl, hb⟩; have D := D.trans (hb.mono D.size); have CF := Lib.hid (show Calls Tryz.prog 25 #[.slice (some ⟨u.heap.size, 0, none⟩) 10 10, .pointer (some ⟨b, 0, none⟩)] (u.alloc (.cells #[.string ⟨#[114, 101, 99]⟩, .string h.name, .string ⟨#[40]⟩, .string h.arg, .string ⟨#[58]⟩, .string ⟨(Sh.tyW h.tk h.tkids).toArray⟩, .string ⟨#[41]⟩, .string ⟨#[58]⟩, .string ⟨(Sh.tyW h.uk h.ukids).toArray⟩, .string ⟨#[46]⟩] 9)) (fun e w' => e = .returned (.tuple #[]) ∧ OS B b w w' h p 0 (Sh.puts l (bytes [⟨#[114, 101, 99]⟩, h.name, ⟨#[40]⟩, h.arg, ⟨#[58]⟩, ⟨(Sh.tyW h.tk h.tkids).toArray⟩, ⟨#[41]⟩, ⟨#[58]⟩, ⟨(Sh.tyW h.uk h.ukids).toArray⟩, ⟨#[46]⟩]))) from (SU.out u D).put [⟨#[114, 101, 99]⟩, h.name, ⟨#[40]⟩, h.arg, ⟨#[58]⟩, ⟨(Sh.tyW h.tk h.tkids).toArray⟩, ⟨#[41]⟩, ⟨#[58]⟩, ⟨(Sh.tyW h.uk h.ukids).toArray⟩, ⟨#[46]⟩] (by simp) HL0.out.1); clear hb)
    | (go_at_call 25; (with_reducible refine CF.out.mono ?_); rintro e v1 ⟨rfl, hs⟩; have S1 := Lib.hid hs; clear hs))
  all_goals
    obtain ⟨x0, _, _⟩ := own1 S1.out.x1
    obtain ⟨y0, y1, y2, y3, y4, y5, y6, y7, y8, y9, y10, yl⟩ := own11 S1.out.y1
    have C1 := Lib.hid (S1.out.kid0 HC.out.below K0 (-1) HL0.out.2)
    go_wp2_with fail
    refine C1.out.mono ?_
    rintro e v2 ⟨rfl, hs⟩
    have S2 := Lib.hid hs
    clear hs x0 y0 y1 y2 y3 y4 y5 y6 y7 y8 y9 y10 yl
    obtain ⟨x0, _, _⟩ := own1 S2.out.x1
    obtain ⟨y0, y1, y2, y3, y4, y5, y6, y7, y8, y9, y10, yl⟩ := own11 S2.out.y1
    go_wp2_with fail
    change bodyPost _ _ _ _ _ _
    go_end0
    exact ⟨rfl, by first | exact S2.out.fin.1 | (simp only [Sh.puts_app]; simpa only [Sh.puts_app] using S2.out.fin.1), S2.out.fin.2⟩
end Go.Proofs.YtocehfklacjgbaaGreatDoor
namespace Go.Proofs.YtocehfklacjgbaaGreatDoor
open Go.RowKit


set_option maxHeartbeats 8000000 in
set_option maxRecDepth 100000 in
theorem open_7 (B b : Nat) (l : List UInt8) (w0 w : World) (h : Hd) (p : Pl) (h1 : Hd) (k1 : Tm) (q1 : Pl) (h2 : Hd) (k2 : Tm) (q2 : Pl) (hk : h.kind = 7) (C : OwnCtx B b w0 w h p) (hty : Ty.chk h.tk h.tkids = 0) (K0 : KidAt B b w0 p 0 h1 k1 q1) (K1 : KidAt B b w0 p 1 h2 k2 q2) (hbl : Bld B b l w) (hl : l.length + Sh.tl (Sh.own h (.node h1 k1 (.node h2 k2 .nil))) ≤ 100000000) :
    Calls Tryz.prog 100 #[.agg #[(.func (Fn.func 25) #[] #[.pointer (some ⟨b, 0, none⟩)])], .agg #[.int .i8 h.kind, .string h.name, .string h.arg, .int .i64 h.num, .int .i8 h.tk, .slice p.TA p.tn p.tc, .int .i8 h.uk, .slice p.UA p.un p.uc, .int .i64 h.label, .int .i64 h.pos, .slice p.A p.n p.c]] w (Puts B b l (Sh.own h (.node h1 k1 (.node h2 k2 .nil))) w) := by
  have hcf := cf_put
  have hcf2 := cf_kid
  have hO : Sh.own h (.node h1 k1 (.node h2 k2 .nil)) = bytes [⟨#[108, 101, 116]⟩, h.name, ⟨#[58]⟩, ⟨(Sh.tyW h.tk h.tkids).toArray⟩, ⟨#[61]⟩] ++ ((Sh.stand (-1) h1 k1 ++ bytes [⟨#[105, 110]⟩]) ++ (Sh.stand (-1) h2 k2)) := by
    unfold Sh.own Sh.ownW
    simp only [hk]
    simp [bytes, Sh.kidsW, Sh.kid, Sh.stand, Sh.own]
  rw [hO] at hl ⊢
  have HLL := Lib.hid hl
  have g4 : (h.kind == 4) = false := by rw [hk]; rfl
  have g5 : (h.kind == 5) = false := by rw [hk]; rfl
  have g7 : (h.kind == 7) = true := by rw [hk]; rfl
  have g8 : (h.kind == 8) = false := by rw [hk]; rfl
  have g14 : (h.kind == 14) = false := by rw [hk]; rfl
  have HC := Lib.hid C
  have S0 := Lib.hid (OS.start h p C.size hbl)
  have CK := Lib.hid (skids_at b h p ((w.alloc (.cells #[(.func (Fn.func 25) #[] #[.pointer (some ⟨b, 0, none⟩)])] 77)).alloc (.cells #[.int .i8 h.kind, .string h.name, .string h.arg, .int .i64 h.num, .int .i8 h.tk, .slice p.TA p.tn p.tc, .int .i8 h.uk, .slice p.UA p.un p.uc, .int .i64 h.label, .int .i64 h.pos, .slice p.A p.n p.c] 30)) (w.heap.size + 2) (w.heap.size + 3) (w.heap.size + 4) (by simp) rfl rfl)
  clear hk C hbl hl hO
  go_enter Tryz.func100, Tryz.ntmps100
  go_wp2_with fail
  refine CK.out.mono ?_
  rintro e w9 ⟨rfl, hw9⟩
  rw [← hw9] at S0
  clear hw9 CK
  obtain ⟨x0, _, _⟩ := own1 S0.out.x1
  obtain ⟨y0, y1, y2, y3, y4, y5, y6, y7, y8, y9, y10, yl⟩ := own11 S0.out.y1
  have HL0 := Lib.hid (len_step HLL.out)
  have SU := Lib.hid (fun (W : World) (hb : Below w9.heap.size w9 W) => S0.out.below hb)
  have D : Below w9.heap.size w9 w9.drew := (Below.refl _ _).drew
  go_wp2_with fail
  go_region_held3 (fun W => W.cell? ⟨w.heap.size, 0, none⟩ = some (.func (Fn.func 25) #[] #[.pointer (some ⟨b, 0, none⟩)]) ∧ W.cell? ⟨w.heap.size + 1, 0, none⟩ = some (.int .i8 h.kind) ∧ W.cell? ⟨w.heap.size + 1, 1, none⟩ = some (.string h.name) ∧ W.cell? ⟨w.heap.size + 1, 2, none⟩ = some (.string h.arg) ∧ W.cell? ⟨w.heap.size + 1, 3, none⟩ = some (.int .i64 h.num) ∧ W.cell? ⟨w.heap.size + 1, 4, none⟩ = some (.int .i8 h.tk) ∧ W.cell? ⟨w.heap.size + 1, 5, none⟩ = some (.slice p.TA p.tn p.tc) ∧ W.cell? ⟨w.heap.size + 1, 6, none⟩ = some (.int .i8 h.uk) ∧ W.cell? ⟨w.heap.size + 1, 7, none⟩ = some (.slice p.UA p.un p.uc) ∧ W.cell? ⟨w.heap.size + 1, 8, none⟩ = some (.int .i64 h.label) ∧ W.cell? ⟨w.heap.size + 1, 9, none⟩ = some (.int .i64 h.pos) ∧ W.cell? ⟨w.heap.size + 1, 10, none⟩ = some (.slice p.A p.n p.c))
    (first | exact S1.out.row | exact (SU.out _ D).row | exact ((SU.out _ D).below ((Below.refl _ _).alloc (Nat.le_refl _) _)).row)
    (first
    | (go_at_call 99; (with_reducible refine (HC.out.typed (S0.out.wz.below.trans (D.mono S0.out.size)) hty).mono ?_); rintro e u ⟨rfl, hb⟩; have D := D.trans (hb.mono D.size); have CF := Lib.hid (show Calls Tryz.prog 25 #[.slice (some ⟨u.heap.size, 0, none⟩) 5 5, .pointer (some ⟨b, 0, none⟩)] (u.alloc (.cells #[.string ⟨#[108, 101, 116]⟩, .string h.name, .string ⟨#[58]⟩, .string ⟨(Sh.tyW h.tk h.tkids).toArray⟩, .string ⟨#[61]⟩] 9)) (fun e w' => e = .returned (.tuple #[]) ∧ OS B b w w' h p 0 (Sh.puts l (bytes [⟨#[108, 101, 116]⟩, h.name, ⟨#[58]⟩, ⟨(Sh.tyW h.tk h.tkids).toArray⟩, ⟨#[61]⟩]))) from (SU.out u D).put [⟨#[108, 101, 116]⟩, h.name, ⟨#[58]⟩, ⟨(Sh.tyW h.tk h.tkids).toArray⟩, ⟨#[61]⟩] (by simp) HL0.out.1); clear hb)
    | (go_at_call 25; (with_reducible refine CF.out.mono ?_); rintro e v1 ⟨rfl, hs⟩; have S1 := Lib.hid hs; clear hs))
  all_goals
    obtain ⟨x0, _, _⟩ := own1 S1.out.x1
    obtain ⟨y0, y1, y2, y3, y4, y5, y6, y7, y8, y9, y10, yl⟩ := own11 S1.out.y1
    have HL1 := Lib.hid (len_step HL0.out.2)
    have C1 := Lib.hid (show Calls Tryz.prog 138 #[.int .i64 (-1), .slice (some ⟨v1.heap.size, 0, none⟩) 1 1, .pointer (some ⟨w.heap.size + 2, 0, none⟩), .pointer (some ⟨w.heap.size + 3, 0, none⟩), .pointer (some ⟨w.heap.size + 4, 0, none⟩)] (v1.alloc (.cells #[.string ⟨#[105, 110]⟩] 9)) fun e w' => e = .returned (.tuple #[]) ∧ OS B b w w' h p (0 + 1) (Sh.puts (Sh.puts l (bytes [⟨#[108, 101, 116]⟩, h.name, ⟨#[58]⟩, ⟨(Sh.tyW h.tk h.tkids).toArray⟩, ⟨#[61]⟩])) ((Sh.stand (-1) h1 k1 ++ bytes [⟨#[105, 110]⟩]))) from S1.out.kidN HC.out.below K0 (-1) [⟨#[105, 110]⟩] (by simp) HL1.out.1)
    go_wp2_with fail
    refine C1.out.mono ?_
    rintro e v2 ⟨rfl, hs⟩
    have S2 := Lib.hid hs
    clear hs x0 y0 y1 y2 y3 y4 y5 y6 y7 y8 y9 y10 yl
    obtain ⟨x0, _, _⟩ := own1 S2.out.x1
    obtain ⟨y0, y1, y2, y3, y4, y5, y6, y7, y8, y9, y10, yl⟩ := own11 S2.out.y1
    have C2 := Lib.hid (S2.out.kid0 HC.out.below K1 (-1) HL1.out.2)
    go_wp2_with fail
    refine C2.out.mono ?_
    rintro e v3 ⟨rfl, hs⟩
    have S3 := Lib.hid hs
    clear hs x0 y0 y1 y2 y3 y4 y5 y6 y7 y8 y9 y10 yl
    obtain ⟨x0, _, _⟩ := own1 S3.out.x1
    obtain ⟨y0, y1, y2, y3, y4, y5, y6, y7, y8, y9, y10, yl⟩ := own11 S3.out.y1
    go_wp2_with fail
    change bodyPost _ _ _ _ _ _
    go_end0
    exact ⟨rfl, by first | exact S3.out.fin.1 | (simp only [Sh.puts_app]; simpa only [Sh.puts_app] using S3.out.fin.1), S3.out.fin.2⟩

set_option maxHeartbeats 8000000 in
set_option maxRecDepth 100000 in
theorem open_8 (B b : Nat) (l : List UInt8) (w0 w : World) (h : Hd) (p : Pl) (h1 : Hd) (k1 : Tm) (q1 : Pl) (h2 : Hd) (k2 : Tm) (q2 : Pl) (h3 : Hd) (k3 : Tm) (q3 : Pl) (hk : h.kind = 8) (C : OwnCtx B b w0 w h p) (K0 : KidAt B b w0 p 0 h1 k1 q1) (K1 : KidAt B b w0 p 1 h2 k2 q2) (K2 : KidAt B b w0 p 2 h3 k3 q3) (hbl : Bld B b l w) (hl : l.length + Sh.tl (Sh.own h (.node h1 k1 (.node h2 k2 (.node h3 k3 .nil)))) ≤ 100000000) :
    Calls Tryz.prog 100 #[.agg #[(.func (Fn.func 25) #[] #[.pointer (some ⟨b, 0, none⟩)])], .agg #[.int .i8 h.kind, .string h.name, .string h.arg, .int .i64 h.num, .int .i8 h.tk, .slice p.TA p.tn p.tc, .int .i8 h.uk, .slice p.UA p.un p.uc, .int .i64 h.label, .int .i64 h.pos, .slice p.A p.n p.c]] w (Puts B b l (Sh.own h (.node h1 k1 (.node h2 k2 (.node h3 k3 .nil)))) w) := by
  have hcf := cf_put
  have hcf2 := cf_kid
  have hO : Sh.own h (.node h1 k1 (.node h2 k2 (.node h3 k3 .nil))) = bytes [⟨#[105, 102]⟩] ++ ((Sh.stand (-1) h1 k1 ++ bytes [⟨#[116, 104, 101, 110]⟩]) ++ ((Sh.stand (-1) h2 k2 ++ bytes [⟨#[101, 108, 115, 101]⟩]) ++ (Sh.stand (-1) h3 k3))) := by
    unfold Sh.own Sh.ownW
    simp only [hk]
    simp [bytes, Sh.kidsW, Sh.kid, Sh.stand, Sh.own]
  rw [hO] at hl ⊢
  have HLL := Lib.hid hl
  have g4 : (h.kind == 4) = false := by rw [hk]; rfl
  have g5 : (h.kind == 5) = false := by rw [hk]; rfl
  have g7 : (h.kind == 7) = false := by rw [hk]; rfl
  have g8 : (h.kind == 8) = true := by rw [hk]; rfl
  have g14 : (h.kind == 14) = false := by rw [hk]; rfl
  have HC := Lib.hid C
  have S0 := Lib.hid (OS.start h p C.size hbl)
  have CK := Lib.hid (skids_at b h p ((w.alloc (.cells #[(.func (Fn.func 25) #[] #[.pointer (some ⟨b, 0, none⟩)])] 77)).alloc (.cells #[.int .i8 h.kind, .string h.name, .string h.arg, .int .i64 h.num, .int .i8 h.tk, .slice p.TA p.tn p.tc, .int .i8 h.uk, .slice p.UA p.un p.uc, .int .i64 h.label, .int .i64 h.pos, .slice p.A p.n p.c] 30)) (w.heap.size + 2) (w.heap.size + 3) (w.heap.size + 4) (by simp) rfl rfl)
  clear hk C hbl hl hO
  go_enter Tryz.func100, Tryz.ntmps100
  go_wp2_with fail
  refine CK.out.mono ?_
  rintro e w9 ⟨rfl, hw9⟩
  rw [← hw9] at S0
  clear hw9 CK
  obtain ⟨x0, _, _⟩ := own1 S0.out.x1
  obtain ⟨y0, y1, y2, y3, y4, y5, y6, y7, y8, y9, y10, yl⟩ := own11 S0.out.y1
  have HL0 := Lib.hid (len_step HLL.out)
  have C0 := Lib.hid (show Calls Tryz.prog 25 #[.slice (some ⟨w9.heap.size, 0, none⟩) 1 1, .pointer (some ⟨b, 0, none⟩)] (w9.alloc (.cells #[.string ⟨#[105, 102]⟩] 9)) fun e w' => e = .returned (.tuple #[]) ∧ OS B b w w' h p 0 (Sh.puts l (bytes [⟨#[105, 102]⟩])) from S0.out.put [⟨#[105, 102]⟩] (by simp) HL0.out.1)
  go_wp2_with fail
  refine C0.out.mono ?_
  rintro e v1 ⟨rfl, hs⟩
  have S1 := Lib.hid hs
  clear hs x0 y0 y1 y2 y3 y4 y5 y6 y7 y8 y9 y10 yl
  obtain ⟨x0, _, _⟩ := own1 S1.out.x1
  obtain ⟨y0, y1, y2, y3, y4, y5, y6, y7, y8, y9, y10, yl⟩ := own11 S1.out.y1
  have HL1 := Lib.hid (len_step HL0.out.2)
  have C1 := Lib.hid (show Calls Tryz.prog 138 #[.int .i64 (-1), .slice (some ⟨v1.heap.size, 0, none⟩) 1 1, .pointer (some ⟨w.heap.size + 2, 0, none⟩), .pointer (some ⟨w.heap.size + 3, 0, none⟩), .pointer (some ⟨w.heap.size + 4, 0, none⟩)] (v1.alloc (.cells #[.string ⟨#[116, 104, 101, 110]⟩] 9)) fun e w' => e = .returned (.tuple #[]) ∧ OS B b w w' h p (0 + 1) (Sh.puts (Sh.puts l (bytes [⟨#[105, 102]⟩])) ((Sh.stand (-1) h1 k1 ++ bytes [⟨#[116, 104, 101, 110]⟩]))) from S1.out.kidN HC.out.below K0 (-1) [⟨#[116, 104, 101, 110]⟩] (by simp) HL1.out.1)
  go_wp2_with fail
  refine C1.out.mono ?_
  rintro e v2 ⟨rfl, hs⟩
  have S2 := Lib.hid hs
  clear hs x0 y0 y1 y2 y3 y4 y5 y6 y7 y8 y9 y10 yl
  obtain ⟨x0, _, _⟩ := own1 S2.out.x1
  obtain ⟨y0, y1, y2, y3, y4, y5, y6, y7, y8, y9, y10, yl⟩ := own11 S2.out.y1
  have HL2 := Lib.hid (len_step HL1.out.2)
  have C2 := Lib.hid (show Calls Tryz.prog 138 #[.int .i64 (-1), .slice (some ⟨v2.heap.size, 0, none⟩) 1 1, .pointer (some ⟨w.heap.size + 2, 0, none⟩), .pointer (some ⟨w.heap.size + 3, 0, none⟩), .pointer (some ⟨w.heap.size + 4, 0, none⟩)] (v2.alloc (.cells #[.string ⟨#[101, 108, 115, 101]⟩] 9)) fun e w' => e = .returned (.tuple #[]) ∧ OS B b w w' h p (1 + 1) (Sh.puts (Sh.puts (Sh.puts l (bytes [⟨#[105, 102]⟩])) ((Sh.stand (-1) h1 k1 ++ bytes [⟨#[116, 104, 101, 110]⟩]))) ((Sh.stand (-1) h2 k2 ++ bytes [⟨#[101, 108, 115, 101]⟩]))) from S2.out.kidN HC.out.below K1 (-1) [⟨#[101, 108, 115, 101]⟩] (by simp) HL2.out.1)
  go_wp2_with fail
  refine C2.out.mono ?_
  rintro e v3 ⟨rfl, hs⟩
  have S3 := Lib.hid hs
  clear hs x0 y0 y1 y2 y3 y4 y5 y6 y7 y8 y9 y10 yl
  obtain ⟨x0, _, _⟩ := own1 S3.out.x1
  obtain ⟨y0, y1, y2, y3, y4, y5, y6, y7, y8, y9, y10, yl⟩ := own11 S3.out.y1
  have C3 := Lib.hid (S3.out.kid0 HC.out.below K2 (-1) HL2.out.2)
  go_wp2_with fail
  refine C3.out.mono ?_
  rintro e v4 ⟨rfl, hs⟩
  have S4 := Lib.hid hs
  clear hs x0 y0 y1 y2 y3 y4 y5 y6 y7 y8 y9 y10 yl
  obtain ⟨x0, _, _⟩ := own1 S4.out.x1
  obtain ⟨y0, y1, y2, y3, y4, y5, y6, y7, y8, y9, y10, yl⟩ := own11 S4.out.y1
  go_wp2_with fail
  change bodyPost _ _ _ _ _ _
  go_end0
  exact ⟨rfl, by first | exact S4.out.fin.1 | (simp only [Sh.puts_app]; simpa only [Sh.puts_app] using S4.out.fin.1), S4.out.fin.2⟩

set_option maxHeartbeats 8000000 in
set_option maxRecDepth 100000 in
theorem open_14 (B b : Nat) (l : List UInt8) (w0 w : World) (h : Hd) (p : Pl) (h1 : Hd) (k1 : Tm) (q1 : Pl) (h2 : Hd) (k2 : Tm) (q2 : Pl) (h3 : Hd) (k3 : Tm) (q3 : Pl) (hk : h.kind = 14) (C : OwnCtx B b w0 w h p) (K0 : KidAt B b w0 p 0 h1 k1 q1) (K1 : KidAt B b w0 p 1 h2 k2 q2) (K2 : KidAt B b w0 p 2 h3 k3 q3) (hbl : Bld B b l w) (hl : l.length + Sh.tl (Sh.own h (.node h1 k1 (.node h2 k2 (.node h3 k3 .nil)))) ≤ 100000000) :
    Calls Tryz.prog 100 #[.agg #[(.func (Fn.func 25) #[] #[.pointer (some ⟨b, 0, none⟩)])], .agg #[.int .i8 h.kind, .string h.name, .string h.arg, .int .i64 h.num, .int .i8 h.tk, .slice p.TA p.tn p.tc, .int .i8 h.uk, .slice p.UA p.un p.uc, .int .i64 h.label, .int .i64 h.pos, .slice p.A p.n p.c]] w (Puts B b l (Sh.own h (.node h1 k1 (.node h2 k2 (.node h3 k3 .nil)))) w) := by
  have hcf := cf_put
  have hcf2 := cf_kid
  have hO : Sh.own h (.node h1 k1 (.node h2 k2 (.node h3 k3 .nil))) = bytes [⟨#[99, 97, 115, 101]⟩] ++ ((Sh.stand (-1) h1 k1 ++ bytes [⟨#[111, 102]⟩, h.name, ⟨#[46]⟩]) ++ ((Sh.stand (-1) h2 k2 ++ bytes [⟨#[124]⟩, h.arg, ⟨#[46]⟩]) ++ (Sh.stand (-1) h3 k3))) := by
    unfold Sh.own Sh.ownW
    simp only [hk]
    simp [bytes, Sh.kidsW, Sh.kid, Sh.stand, Sh.own]
  rw [hO] at hl ⊢
  have HLL := Lib.hid hl
  have g4 : (h.kind == 4) = false := by rw [hk]; rfl
  have g5 : (h.kind == 5) = false := by rw [hk]; rfl
  have g7 : (h.kind == 7) = false := by rw [hk]; rfl
  have g8 : (h.kind == 8) = false := by rw [hk]; rfl
  have g14 : (h.kind == 14) = true := by rw [hk]; rfl
  have HC := Lib.hid C
  have S0 := Lib.hid (OS.start h p C.size hbl)
  have CK := Lib.hid (skids_at b h p ((w.alloc (.cells #[(.func (Fn.func 25) #[] #[.pointer (some ⟨b, 0, none⟩)])] 77)).alloc (.cells #[.int .i8 h.kind, .string h.name, .string h.arg, .int .i64 h.num, .int .i8 h.tk, .slice p.TA p.tn p.tc, .int .i8 h.uk, .slice p.UA p.un p.uc, .int .i64 h.label, .int .i64 h.pos, .slice p.A p.n p.c] 30)) (w.heap.size + 2) (w.heap.size + 3) (w.heap.size + 4) (by simp) rfl rfl)
  clear hk C hbl hl hO
  go_enter Tryz.func100, Tryz.ntmps100
  go_wp2_with fail
  refine CK.out.mono ?_
  rintro e w9 ⟨rfl, hw9⟩
  rw [← hw9] at S0
  clear hw9 CK
  obtain ⟨x0, _, _⟩ := own1 S0.out.x1
  obtain ⟨y0, y1, y2, y3, y4, y5, y6, y7, y8, y9, y10, yl⟩ := own11 S0.out.y1
  have HL0 := Lib.hid (len_step HLL.out)
  have C0 := Lib.hid (show Calls Tryz.prog 25 #[.slice (some ⟨w9.heap.size, 0, none⟩) 1 1, .pointer (some ⟨b, 0, none⟩)] (w9.alloc (.cells #[.string ⟨#[99, 97, 115, 101]⟩] 9)) fun e w' => e = .returned (.tuple #[]) ∧ OS B b w w' h p 0 (Sh.puts l (bytes [⟨#[99, 97, 115, 101]⟩])) from S0.out.put [⟨#[99, 97, 115, 101]⟩] (by simp) HL0.out.1)
  go_wp2_with fail
  refine C0.out.mono ?_
  rintro e v1 ⟨rfl, hs⟩
  have S1 := Lib.hid hs
  clear hs x0 y0 y1 y2 y3 y4 y5 y6 y7 y8 y9 y10 yl
  obtain ⟨x0, _, _⟩ := own1 S1.out.x1
  obtain ⟨y0, y1, y2, y3, y4, y5, y6, y7, y8, y9, y10, yl⟩ := own11 S1.out.y1
  have HL1 := Lib.hid (len_step HL0.out.2)
  have C1 := Lib.hid (show Calls Tryz.prog 138 #[.int .i64 (-1), .slice (some ⟨v1.heap.size, 0, none⟩) 3 3, .pointer (some ⟨w.heap.size + 2, 0, none⟩), .pointer (some ⟨w.heap.size + 3, 0, none⟩), .pointer (some ⟨w.heap.size + 4, 0, none⟩)] (v1.alloc (.cells #[.string ⟨#[111, 102]⟩, .string h.name, .string ⟨#[46]⟩] 9)) fun e w' => e = .returned (.tuple #[]) ∧ OS B b w w' h p (0 + 1) (Sh.puts (Sh.puts l (bytes [⟨#[99, 97, 115, 101]⟩])) ((Sh.stand (-1) h1 k1 ++ bytes [⟨#[111, 102]⟩, h.name, ⟨#[46]⟩]))) from S1.out.kidN HC.out.below K0 (-1) [⟨#[111, 102]⟩, h.name, ⟨#[46]⟩] (by simp) HL1.out.1)
  go_wp2_with fail
  refine C1.out.mono ?_
  rintro e v2 ⟨rfl, hs⟩
  have S2 := Lib.hid hs
  clear hs x0 y0 y1 y2 y3 y4 y5 y6 y7 y8 y9 y10 yl
  obtain ⟨x0, _, _⟩ := own1 S2.out.x1
  obtain ⟨y0, y1, y2, y3, y4, y5, y6, y7, y8, y9, y10, yl⟩ := own11 S2.out.y1
  have HL2 := Lib.hid (len_step HL1.out.2)
  have C2 := Lib.hid (show Calls Tryz.prog 138 #[.int .i64 (-1), .slice (some ⟨v2.heap.size, 0, none⟩) 3 3, .pointer (some ⟨w.heap.size + 2, 0, none⟩), .pointer (some ⟨w.heap.size + 3, 0, none⟩), .pointer (some ⟨w.heap.size + 4, 0, none⟩)] (v2.alloc (.cells #[.string ⟨#[124]⟩, .string h.arg, .string ⟨#[46]⟩] 9)) fun e w' => e = .returned (.tuple #[]) ∧ OS B b w w' h p (1 + 1) (Sh.puts (Sh.puts (Sh.puts l (bytes [⟨#[99, 97, 115, 101]⟩])) ((Sh.stand (-1) h1 k1 ++ bytes [⟨#[111, 102]⟩, h.name, ⟨#[46]⟩]))) ((Sh.stand (-1) h2 k2 ++ bytes [⟨#[124]⟩, h.arg, ⟨#[46]⟩]))) from S2.out.kidN HC.out.below K1 (-1) [⟨#[124]⟩, h.arg, ⟨#[46]⟩] (by simp) HL2.out.1)
  go_wp2_with fail
  refine C2.out.mono ?_
  rintro e v3 ⟨rfl, hs⟩
  have S3 := Lib.hid hs
  clear hs x0 y0 y1 y2 y3 y4 y5 y6 y7 y8 y9 y10 yl
  obtain ⟨x0, _, _⟩ := own1 S3.out.x1
  obtain ⟨y0, y1, y2, y3, y4, y5, y6, y7, y8, y9, y10, yl⟩ := own11 S3.out.y1
  have C3 := Lib.hid (S3.out.kid0 HC.out.below K2 (-1) HL2.out.2)
  go_wp2_with fail
  refine C3.out.mono ?_
  rintro e v4 ⟨rfl, hs⟩
  have S4 := Lib.hid hs
  clear hs x0 y0 y1 y2 y3 y4 y5 y6 y7 y8 y9 y10 yl
  obtain ⟨x0, _, _⟩ := own1 S4.out.x1
  obtain ⟨y0, y1, y2, y3, y4, y5, y6, y7, y8, y9, y10, yl⟩ := own11 S4.out.y1
  go_wp2_with fail
  change bodyPost _ _ _ _ _ _
  go_end0
  exact ⟨rfl, by first | exact S4.out.fin.1 | (simp only [Sh.puts_app]; simpa only [Sh.puts_app] using S4.out.fin.1), S4.out.fin.2⟩
end Go.Proofs.YtocehfklacjgbaaGreatDoor
namespace Go.Proofs.YtocehfklacjgbaaGreatDoor
open Go.RowKit

set_option maxHeartbeats 8000000 in
set_option maxRecDepth 100000 in
theorem own_1 (B b : Nat) (l : List UInt8) (w0 w : World) (h : Hd) (p : Pl) (hk : h.kind = 1) (C : OwnCtx B b w0 w h p) (h0 : -9223372036854775808 < h.num) (h1 : h.num ≤ 9223372036854775807) (ht : Tens w0) (hbl : Bld B b l w) (hl : l.length + Sh.tl (Sh.own h .nil) ≤ 100000000) :
    Calls Tryz.prog 49 #[.agg #[(.func (Fn.func 25) #[] #[.pointer (some ⟨b, 0, none⟩)])], .agg #[.int .i8 h.kind, .string h.name, .string h.arg, .int .i64 h.num, .int .i8 h.tk, .slice p.TA p.tn p.tc, .int .i8 h.uk, .slice p.UA p.un p.uc, .int .i64 h.label, .int .i64 h.pos, .slice p.A p.n p.c]] w (Puts B b l (Sh.own h .nil) w) := by
  have hcf := cf_put
  have hO : Sh.own h .nil = Sh.numW h.num := by unfold Sh.own Sh.ownW; simp [hk]
  rw [hO] at hl ⊢
  have g0 : (h.kind == 0) = false := by rw [hk]; rfl
  have g1 : (h.kind == 1) = true := by rw [hk]; rfl
  have g2 : (h.kind == 2) = false := by rw [hk]; rfl
  have g3 : (h.kind == 3) = false := by rw [hk]; rfl
  have g6 : (h.kind == 6) = false := by rw [hk]; rfl
  have g9 : (h.kind == 9) = false := by rw [hk]; rfl
  have g10 : (h.kind == 10) = false := by rw [hk]; rfl
  have g11 : (h.kind == 11) = false := by rw [hk]; rfl
  have g12 : (h.kind == 12) = false := by rw [hk]; rfl
  have g13 : (h.kind == 13) = false := by rw [hk]; rfl
  have g15 : (h.kind == 15) = false := by rw [hk]; rfl
  have g16 : (h.kind == 16) = false := by rw [hk]; rfl
  have HT := Lib.hid (fun (W : World) (hb : Below B w W) => show Tens W by have h2 := C.below.trans hb; rw [C.eq] at h2; exact ht.below h2)
  have S0 := Lib.hid (OS.start h p C.size hbl)
  have CK := Lib.hid (skids_at b h p ((w.alloc (.cells #[(.func (Fn.func 25) #[] #[.pointer (some ⟨b, 0, none⟩)])] 77)).alloc (.cells #[.int .i8 h.kind, .string h.name, .string h.arg, .int .i64 h.num, .int .i8 h.tk, .slice p.TA p.tn p.tc, .int .i8 h.uk, .slice p.UA p.un p.uc, .int .i64 h.label, .int .i64 h.pos, .slice p.A p.n p.c] 30)) (w.heap.size + 2) (w.heap.size + 3) (w.heap.size + 4) (by simp) rfl rfl)
  have HL := Lib.hid hl
  clear hk C hbl hl hO
  go_enter Tryz.func49, Tryz.ntmps49
  go_wp2_with fail
  refine CK.out.mono ?_
  rintro e w9 ⟨rfl, hw9⟩
  rw [← hw9] at S0
  clear hw9 CK
  have CN := Lib.hid (snum_any B b l h.num h0 h1 w9 S0.out.bld S0.out.size (fun W hb => HT.out W (S0.out.wz.below.trans hb)) (by have := HL.out; omega))
  obtain ⟨x0, _, _⟩ := own1 S0.out.x1
  obtain ⟨y0, y1, y2, y3, y4, y5, y6, y7, y8, y9, y10, yl⟩ := own11 S0.out.y1
  clear h0 h1
  go_wp2_with fail
  refine CN.out.mono ?_
  rintro e v ⟨rfl, hb, hw⟩
  have HF := Lib.hid (S0.out.wrote hb hw).fin
  go_wp2_with fail
  change bodyPost _ _ _ _ _ _
  go_end0
  exact ⟨rfl, HF.out.1, HF.out.2⟩

set_option maxHeartbeats 8000000 in
set_option maxRecDepth 100000 in
theorem own_open (B b : Nat) (l : List UInt8) (w0 w : World) (h : Hd) (p : Pl) (ws : List (List UInt8)) (hk : h.kind = 4 ∨ h.kind = 5 ∨ h.kind = 7 ∨ h.kind = 8 ∨ h.kind = 14) (C : OwnCtx B b w0 w h p) (hbl : Bld B b l w)
    (hop : ∀ W : World, OwnCtx B b w0 W h p → Below B w W → Bld B b l W → Calls Tryz.prog 100 #[.agg #[(.func (Fn.func 25) #[] #[.pointer (some ⟨b, 0, none⟩)])], .agg #[.int .i8 h.kind, .string h.name, .string h.arg, .int .i64 h.num, .int .i8 h.tk, .slice p.TA p.tn p.tc, .int .i8 h.uk, .slice p.UA p.un p.uc, .int .i64 h.label, .int .i64 h.pos, .slice p.A p.n p.c]] W (Puts B b l ws W)) :
    Calls Tryz.prog 49 #[.agg #[(.func (Fn.func 25) #[] #[.pointer (some ⟨b, 0, none⟩)])], .agg #[.int .i8 h.kind, .string h.name, .string h.arg, .int .i64 h.num, .int .i8 h.tk, .slice p.TA p.tn p.tc, .int .i8 h.uk, .slice p.UA p.un p.uc, .int .i64 h.label, .int .i64 h.pos, .slice p.A p.n p.c]] w (Puts B b l ws w) := by
  have hcf := cf_put
  have g0 : (h.kind == 0) = false := by rcases hk with hk | hk | hk | hk | hk <;> rw [hk] <;> rfl
  have g1 : (h.kind == 1) = false := by rcases hk with hk | hk | hk | hk | hk <;> rw [hk] <;> rfl
  have g2 : (h.kind == 2) = false := by rcases hk with hk | hk | hk | hk | hk <;> rw [hk] <;> rfl
  have g3 : (h.kind == 3) = false := by rcases hk with hk | hk | hk | hk | hk <;> rw [hk] <;> rfl
  have g6 : (h.kind == 6) = false := by rcases hk with hk | hk | hk | hk | hk <;> rw [hk] <;> rfl
  have g9 : (h.kind == 9) = false := by rcases hk with hk | hk | hk | hk | hk <;> rw [hk] <;> rfl
  have g10 : (h.kind == 10) = false := by rcases hk with hk | hk | hk | hk | hk <;> rw [hk] <;> rfl
  have g11 : (h.kind == 11) = false := by rcases hk with hk | hk | hk | hk | hk <;> rw [hk] <;> rfl
  have g12 : (h.kind == 12) = false := by rcases hk with hk | hk | hk | hk | hk <;> rw [hk] <;> rfl
  have g13 : (h.kind == 13) = false := by rcases hk with hk | hk | hk | hk | hk <;> rw [hk] <;> rfl
  have g15 : (h.kind == 15) = false := by rcases hk with hk | hk | hk | hk | hk <;> rw [hk] <;> rfl
  have g16 : (h.kind == 16) = false := by rcases hk with hk | hk | hk | hk | hk <;> rw [hk] <;> rfl
  have S0 := Lib.hid (OS.start h p C.size hbl)
  have CK := Lib.hid (skids_at b h p ((w.alloc (.cells #[(.func (Fn.func 25) #[] #[.pointer (some ⟨b, 0, none⟩)])] 77)).alloc (.cells #[.int .i8 h.kind, .string h.name, .string h.arg, .int .i64 h.num, .int .i8 h.tk, .slice p.TA p.tn p.tc, .int .i8 h.uk, .slice p.UA p.un p.uc, .int .i64 h.label, .int .i64 h.pos, .slice p.A p.n p.c] 30)) (w.heap.size + 2) (w.heap.size + 3) (w.heap.size + 4) (by simp) rfl rfl)
  have HC := Lib.hid C
  have HP := Lib.hid hop
  clear hk C hbl hop
  go_enter Tryz.func49, Tryz.ntmps49
  go_wp2_with fail
  refine CK.out.mono ?_
  rintro e w9 ⟨rfl, hw9⟩
  rw [← hw9] at S0
  clear hw9 CK
  have CN := Lib.hid (HP.out w9 ⟨HC.out.eq, HC.out.below.trans S0.out.wz.below, HC.out.ty, HC.out.tu, HC.out.shapes, S0.out.size⟩ S0.out.wz.below S0.out.bld)
  obtain ⟨x0, _, _⟩ := own1 S0.out.x1
  obtain ⟨y0, y1, y2, y3, y4, y5, y6, y7, y8, y9, y10, yl⟩ := own11 S0.out.y1
  go_wp2_with fail
  refine CN.out.mono ?_
  rintro e v ⟨rfl, hb, hw⟩
  have HF := Lib.hid (S0.out.wrote hb hw).fin
  go_wp2_with fail
  change bodyPost _ _ _ _ _ _
  go_end0
  exact ⟨rfl, HF.out.1, HF.out.2⟩

set_option maxHeartbeats 8000000 in
set_option maxRecDepth 100000 in
theorem stand_of (B b : Nat) (w0 : World) (h : Hd) (kids : Tm) (p : Pl) (hk : 0 ≤ h.kind ∧ h.kind ≤ 16)
    (ho : ∀ (l : List UInt8) (W : World), Below B w0 W → B ≤ W.heap.size → Bld B b l W → l.length + Sh.tl (Sh.own h kids) ≤ 100000000 → Calls Tryz.prog 49 #[.agg #[(.func (Fn.func 25) #[] #[.pointer (some ⟨b, 0, none⟩)])], .agg #[.int .i8 h.kind, .string h.name, .string h.arg, .int .i64 h.num, .int .i8 h.tk, .slice p.TA p.tn p.tc, .int .i8 h.uk, .slice p.UA p.un p.uc, .int .i64 h.label, .int .i64 h.pos, .slice p.A p.n p.c]] W (Puts B b l (Sh.own h kids) W)) : StandOK B b w0 h kids p := by
  intro k l W hb0 hB hbl hl
  have hcf := cf_put
  obtain ⟨r0, r1, r2⟩ := two_new W (.cells #[(.func (Fn.func 25) #[] #[.pointer (some ⟨b, 0, none⟩)])] 77) (.cells #[.int .i8 h.kind, .string h.name, .string h.arg, .int .i64 h.num, .int .i8 h.tk, .slice p.TA p.tn p.tc, .int .i8 h.uk, .slice p.UA p.un p.uc, .int .i64 h.label, .int .i64 h.pos, .slice p.A p.n p.c] 30)
  have hb1 : Below W.heap.size W ((W.alloc (.cells #[(.func (Fn.func 25) #[] #[.pointer (some ⟨b, 0, none⟩)])] 77)).alloc (.cells #[.int .i8 h.kind, .string h.name, .string h.arg, .int .i64 h.num, .int .i8 h.tk, .slice p.TA p.tn p.tc, .int .i8 h.uk, .slice p.UA p.un p.uc, .int .i64 h.label, .int .i64 h.pos, .slice p.A p.n p.c] 30)) := ((Below.refl _ _).alloc (Nat.le_refl _) _).alloc (by simp) _
  have hlt := hbl.lt.2
  generalize hw1 : (W.alloc (.cells #[(.func (Fn.func 25) #[] #[.pointer (some ⟨b, 0, none⟩)])] 77)).alloc (.cells #[.int .i8 h.kind, .string h.name, .string h.arg, .int .i64 h.num, .int .i8 h.tk, .slice p.TA p.tn p.tc, .int .i8 h.uk, .slice p.UA p.un p.uc, .int .i64 h.label, .int .i64 h.pos, .slice p.A p.n p.c] 30) = w1 at *
  have HW := Lib.hid hw1
  have HX := Lib.hid r0
  have HY := Lib.hid r1
  have HB1 := Lib.hid hb1
  have HBL := Lib.hid (hbl.low hb1)
  have HLT := Lib.hid hlt
  have HO := Lib.hid ho
  have HBB := Lib.hid hB
  have HB0 := Lib.hid hb0
  have CS := Lib.hid (sst_any h p w1 hk)
  obtain ⟨x0, _, _⟩ := own1 r0
  obtain ⟨y0, y1, y2, y3, y4, y5, y6, y7, y8, y9, y10, yl⟩ := own11 r1
  by_cases hge : k ≤ Sh.st h
  · have e1 : Sh.stand k h kids = Sh.own h kids := by unfold Sh.stand Sh.atW; rw [if_pos hge]
    rw [e1] at hl ⊢
    have hd : decide (k ≤ Sh.st h) = true := by simpa using hge
    have HL := Lib.hid hl
    generalize Sh.st h = s at *
    clear r0 r1 r2 hb1 hlt hw1 ho hB hb0 hbl hl e1 hk hge
    go_enter Tryz.func28, Tryz.ntmps28
    go_upto_region 1 with fail
    rw [HW.out]
    go_wp2_with fail
    refine CS.out.mono ?_
    rintro e u ⟨rfl, hb⟩
    have HBU := Lib.hid (HB1.out.trans (hb.mono HB1.out.size))
    have CO := Lib.hid (HO.out l u (HB0.out.trans (HBU.out.mono HBB.out)) (Nat.le_trans HBB.out HBU.out.size) (HBL.out.low hb) HL.out)
    have HXu := Lib.hid (heap_below hb (heap_lt HX.out) HX.out)
    have HYu := Lib.hid (heap_below hb (heap_lt HY.out) HY.out)
    clear hb x0 y0 y1 y2 y3 y4 y5 y6 y7 y8 y9 y10 yl
    obtain ⟨x0, _, _⟩ := own1 HXu.out
    obtain ⟨y0, y1, y2, y3, y4, y5, y6, y7, y8, y9, y10, yl⟩ := own11 HYu.out
    go_wp2_with fail
    refine CO.out.mono ?_
    rintro e v ⟨rfl, hb, hw⟩
    have HF := Lib.hid (And.intro hb ((Wrote.low HBU.out HBB.out).trans hw))
    clear hb hw
    go_wp2_with fail
    change bodyPost _ _ _ _ _ _
    go_end0
    exact ⟨rfl, HF.out.1, HF.out.2⟩
  · have e1 : Sh.stand k h kids = bytes [⟨#[40]⟩] ++ (Sh.own h kids ++ bytes [⟨#[41]⟩]) := by unfold Sh.stand Sh.atW; rw [if_neg hge]; rfl
    rw [e1] at hl ⊢
    have hd : decide (k ≤ Sh.st h) = false := by simpa using hge
    have hl1 := len_step hl
    have hl2 := len_step hl1.2
    have HL := Lib.hid (And.intro hl1.1 hl2)
    generalize Sh.st h = s at *
    clear r0 r1 r2 hb1 hlt hw1 ho hB hb0 hbl hl e1 hk hge hl1 hl2
    go_enter Tryz.func28, Tryz.ntmps28
    go_upto_region 1 with fail
    rw [HW.out]
    go_wp2_with fail
    refine CS.out.mono ?_
    rintro e u ⟨rfl, hb⟩
    have HBU := Lib.hid (HB1.out.trans (hb.mono HB1.out.size))
    have HWU := Lib.hid (Wrote.low (b := b) HBU.out HBB.out)
    have C1 := Lib.hid (show Calls Tryz.prog 25 #[.slice (some ⟨u.heap.size, 0, none⟩) 1 1, .pointer (some ⟨b, 0, none⟩)] (u.alloc (.cells #[.string ⟨#[40]⟩] 9)) (Puts B b l (bytes [⟨#[40]⟩]) u) from put_new B b l [⟨#[40]⟩] 1 u (HBL.out.low hb) (Nat.le_trans HBB.out HBU.out.size) (by simp) (by have := HL.out.1; omega))
    have HXu := Lib.hid (heap_below hb (heap_lt HX.out) HX.out)
    have HYu := Lib.hid (heap_below hb (heap_lt HY.out) HY.out)
    clear hb x0 y0 y1 y2 y3 y4 y5 y6 y7 y8 y9 y10 yl
    obtain ⟨x0, _, _⟩ := own1 HXu.out
    go_wp2_with fail
    refine C1.out.mono ?_
    rintro e v ⟨rfl, hb, hw⟩
    have HWV := Lib.hid (HWU.out.trans hw)
    have CO := Lib.hid (HO.out _ v (HB0.out.trans HWV.out.below) (Nat.le_trans HBB.out HWV.out.below.size) hb HL.out.2.1)
    have HXv := Lib.hid (hw.box HXu.out (by have := HLT.out; omega) (by decide))
    have HYv := Lib.hid (hw.box HYu.out (by have := HLT.out; omega) (by decide))
    clear hb hw x0
    obtain ⟨x0, _, _⟩ := own1 HXv.out
    obtain ⟨y0, y1, y2, y3, y4, y5, y6, y7, y8, y9, y10, yl⟩ := own11 HYv.out
    go_wp2_with fail
    refine CO.out.mono ?_
    rintro e z ⟨rfl, hb, hw⟩
    have HWZ := Lib.hid (HWV.out.trans hw)
    have C2 := Lib.hid (show Calls Tryz.prog 25 #[.slice (some ⟨z.heap.size, 0, none⟩) 1 1, .pointer (some ⟨b, 0, none⟩)] (z.alloc (.cells #[.string ⟨#[41]⟩] 9)) (Puts B b (Sh.puts (Sh.puts l (bytes [⟨#[40]⟩])) (Sh.own h kids)) (bytes [⟨#[41]⟩]) z) from put_new B b _ [⟨#[41]⟩] 1 z hb (Nat.le_trans HBB.out HWZ.out.below.size) (by simp) (by have := HL.out.2.2; omega))
    have HXz := Lib.hid (hw.box HXv.out (by have := HLT.out; omega) (by decide))
    clear hb hw x0 y0 y1 y2 y3 y4 y5 y6 y7 y8 y9 y10 yl
    obtain ⟨x0, _, _⟩ := own1 HXz.out
    go_wp2_with fail
    refine C2.out.mono ?_
    rintro e z2 ⟨rfl, hb, hw⟩
    have HF := Lib.hid (And.intro hb (HWZ.out.trans hw))
    clear hb hw
    go_wp2_with fail
    change bodyPost _ _ _ _ _ _
    go_end0
    exact ⟨rfl, by simp only [Sh.puts_app]; exact HF.out.1, HF.out.2⟩
end Go.Proofs.YtocehfklacjgbaaGreatDoor
namespace Go.Proofs.YtocehfklacjgbaaGreatDoor
open Go.RowKit

namespace Sh
/-- what no words make -/
def badH (h : Hd) : Bool := (h.kind == 17) || ((h.kind == 1) && (h.num == -9223372036854775808))
def badF : Tm → Bool
  | .nil => false
  | .node h kids r => (badH h || badF kids) || badF r
def badT (h : Hd) (kids : Tm) : Bool := badH h || badF kids
/-- numbers are int64s -/
def nuH (h : Hd) : Bool := decide (-9223372036854775808 ≤ h.num ∧ h.num ≤ 9223372036854775807)
def nuF : Tm → Bool
  | .nil => true
  | .node h kids r => (nuH h && nuF kids) && nuF r
def nuT (h : Hd) (kids : Tm) : Bool := nuH h && nuF kids
structure Good (h : Hd) (kids : Tm) : Prop where
  ok : Tm.okT h kids = true
  nb : badT h kids = false
  nu : nuT h kids = true
structure GoodF (f : Tm) : Prop where
  ok : Tm.okF f = true
  nb : badF f = false
  nu : nuF f = true
theorem Good.kids {h : Hd} {kids : Tm} (g : Good h kids) : GoodF kids := by
  obtain ⟨h1, h2, h3⟩ := g
  unfold Tm.okT at h1; unfold badT at h2; unfold nuT at h3
  rw [Bool.and_eq_true] at h1 h3
  rw [Bool.or_eq_false_iff] at h2
  exact ⟨h1.2, h2.2, h3.2⟩
theorem GoodF.node {h : Hd} {kids r : Tm} (g : GoodF (.node h kids r)) : Good h kids ∧ GoodF r := by
  obtain ⟨h1, h2, h3⟩ := g
  simp only [Tm.okF, badF, nuF, Bool.and_eq_true, Bool.or_eq_false_iff] at h1 h2 h3
  exact ⟨⟨by unfold Tm.okT; rw [Bool.and_eq_true]; exact h1.1, by unfold badT; rw [Bool.or_eq_false_iff]; exact h2.1, by unfold nuT; rw [Bool.and_eq_true]; exact h3.1⟩, h1.2, h2.2, h3.2⟩
theorem Good.head {h : Hd} {kids : Tm} (g : Good h kids) : (0 ≤ h.kind ∧ h.kind ≤ 16) ∧ Tm.len kids = Tm.kidsN h.kind ∧ (Tm.hasType h.kind = true → Ty.chk h.tk h.tkids = 0) ∧ (Tm.hasTo h.kind = true → Ty.chk h.uk h.ukids = 0) ∧ (h.kind = 1 → -9223372036854775808 < h.num ∧ h.num ≤ 9223372036854775807) := by
  obtain ⟨h1, h2, h3⟩ := g
  unfold Tm.okT Tm.headOk Tm.tysOk Tm.isKind at h1; unfold badT badH at h2; unfold nuT nuH at h3
  simp only [Bool.and_eq_true, Bool.or_eq_false_iff, decide_eq_true_eq, Bool.or_eq_true, Bool.not_eq_true', beq_iff_eq, beq_eq_false_iff_ne] at h1 h2 h3
  refine ⟨by have := h2.1.1; omega, h1.1.1.1.1.2, fun hq => ?_, fun hq => ?_, fun hq => ?_⟩
  · rcases h1.1.2.1 with e | e
    · rw [hq] at e; cases e
    · exact e
  · rcases h1.1.2.2 with e | e
    · rw [hq] at e; cases e
    · exact e
  · have h4 := h2.1.2
    rw [hq] at h4
    simp at h4
    omega
theorem len0 {f : Tm} (h : Tm.len f = 0) : f = .nil := by cases f with
  | nil => rfl
  | node _ _ _ => simp [Tm.len] at h
theorem len1 {f : Tm} {n : Nat} (h : Tm.len f = n + 1) : ∃ h1 k1 r, f = .node h1 k1 r ∧ Tm.len r = n := by cases f with
  | nil => simp [Tm.len] at h
  | node h1 k1 r => exact ⟨h1, k1, r, rfl, by simpa [Tm.len] using h⟩
end Sh
/-- a kid, and what is behind it -/
theorem kid_at {b : Nat} {w0 : World} {p : Pl} {i : Nat} {h1 : Hd} {k1 r : Tm} (hl : Tm.Lies w0 (.node h1 k1 r) p.A i) (hlt : i < p.n) (hmx : (p.n : Int) ≤ 9223372036854775807)
    (ih : ∀ q, Tm.Is w0 h1 k1 q → StandOK w0.heap.size b w0 h1 k1 q) : (∃ q, KidAt w0.heap.size b w0 p i h1 k1 q) ∧ Tm.Lies w0 r p.A (i + 1) := by
  obtain ⟨bb, oo, q, hA, hc, hf, hk, hr⟩ := hl
  refine ⟨⟨q, ⟨bb, oo, hA, ?_, hc⟩, hlt, hmx, ih q ⟨hf, hk⟩⟩, hr⟩
  exact Ty.cell_lt (hc 0 _ rfl)

theorem sstand_any (b : Nat) (w0 : World) (hS : Shapes w0) (ht : Tens w0) (K : Nat) : ∀ (h : Hd) (kids : Tm) (p : Pl), Tm.nodes kids < K → Tm.Is w0 h kids p → Sh.Good h kids → StandOK w0.heap.size b w0 h kids p := by
  induction K with
  | zero => intro _ _ _ hK; omega
  | succ K ih =>
    intro h kids p hK hIs hg
    obtain ⟨hk, hlen, hty, hto, hnum⟩ := hg.head
    have hmx : (p.n : Int) ≤ 9223372036854775807 := by have h1 := hIs.fit.n_le; have h2 := hIs.fit.c_le; unfold maxLen at h2; omega
    have hn := hIs.fit.n_eq
    have hli := hIs.lies
    have hgk := hg.kids
    refine stand_of _ b w0 h kids p hk fun l W hb0 hB hbl hl => ?_
    have C : OwnCtx w0.heap.size b w0 W h p := ⟨rfl, hb0, hIs.fit.ty, hIs.fit.to, hS, hB⟩
    have hcase : h.kind = 0 ∨ h.kind = 1 ∨ h.kind = 2 ∨ h.kind = 3 ∨ h.kind = 4 ∨ h.kind = 5 ∨ h.kind = 6 ∨ h.kind = 7 ∨ h.kind = 8 ∨ h.kind = 9 ∨ h.kind = 10 ∨ h.kind = 11 ∨ h.kind = 12 ∨ h.kind = 13 ∨ h.kind = 14 ∨ h.kind = 15 ∨ h.kind = 16 := by omega
    rcases hcase with hq | hq | hq | hq | hq | hq | hq | hq | hq | hq | hq | hq | hq | hq | hq | hq | hq
    · have hl0 : Tm.len kids = 0 := by rw [hlen, hq]; rfl
      obtain rfl := Sh.len0 hl0
      exact own_0 _ b l w0 W h p hq C hbl hl
    · have hl0 : Tm.len kids = 0 := by rw [hlen, hq]; rfl
      obtain rfl := Sh.len0 hl0
      exact own_1 _ b l w0 W h p hq C (hnum hq).1 (hnum hq).2 ht hbl hl
    · have hl0 : Tm.len kids = 0 := by rw [hlen, hq]; rfl
      obtain rfl := Sh.len0 hl0
      exact own_2 _ b l w0 W h p hq C hbl hl
    · have hl0 : Tm.len kids = 0 := by rw [hlen, hq]; rfl
      obtain rfl := Sh.len0 hl0
      exact own_3 _ b l w0 W h p hq C hbl hl
    · have hl0 : Tm.len kids = 1 := by rw [hlen, hq]; rfl
      obtain ⟨h1, k1, r1, rfl, hl1⟩ := Sh.len1 hl0
      obtain rfl := Sh.len0 hl1
      simp only [Tm.nodes] at hK
      simp only [Tm.len] at hn
      obtain ⟨g1, hgk1⟩ := hgk.node
      obtain ⟨⟨q1, K0⟩, hli1⟩ := kid_at (b := b) hli (by omega) hmx (fun q hI => ih h1 k1 q (by omega) hI g1)
      exact own_open _ b l w0 W h p _ (by omega) C hbl (fun W2 C2 _ hbl2 => open_4 _ b l w0 W2 h p h1 k1 q1 hq C2 (hty (by rw [hq]; rfl)) K0 hbl2 hl)
    · have hl0 : Tm.len kids = 1 := by rw [hlen, hq]; rfl
      obtain ⟨h1, k1, r1, rfl, hl1⟩ := Sh.len1 hl0
      obtain rfl := Sh.len0 hl1
      simp only [Tm.nodes] at hK
      simp only [Tm.len] at hn
      obtain ⟨g1, hgk1⟩ := hgk.node
      obtain ⟨⟨q1, K0⟩, hli1⟩ := kid_at (b := b) hli (by omega) hmx (fun q hI => ih h1 k1 q (by omega) hI g1)
      exact own_open _ b l w0 W h p _ (by omega) C hbl (fun W2 C2 _ hbl2 => open_5 _ b l w0 W2 h p h1 k1 q1 hq C2 (hty (by rw [hq]; rfl)) (hto (by rw [hq]; rfl)) K0 hbl2 hl)
    · have hl0 : Tm.len kids = 2 := by rw [hlen, hq]; rfl
      obtain ⟨h1, k1, r1, rfl, hl1⟩ := Sh.len1 hl0
      obtain ⟨h2, k2, r2, rfl, hl2⟩ := Sh.len1 hl1
      obtain rfl := Sh.len0 hl2
      simp only [Tm.nodes] at hK
      simp only [Tm.len] at hn
      obtain ⟨g1, hgk1⟩ := hgk.node
      obtain ⟨⟨q1, K0⟩, hli1⟩ := kid_at (b := b) hli (by omega) hmx (fun q hI => ih h1 k1 q (by omega) hI g1)
      obtain ⟨g2, hgk2⟩ := hgk1.node
      obtain ⟨⟨q2, K1⟩, hli2⟩ := kid_at (b := b) hli1 (by omega) hmx (fun q hI => ih h2 k2 q (by omega) hI g2)
      exact own_6 _ b l w0 W h p h1 k1 q1 h2 k2 q2 hq C K0 K1 hbl hl
    · have hl0 : Tm.len kids = 2 := by rw [hlen, hq]; rfl
      obtain ⟨h1, k1, r1, rfl, hl1⟩ := Sh.len1 hl0
      obtain ⟨h2, k2, r2, rfl, hl2⟩ := Sh.len1 hl1
      obtain rfl := Sh.len0 hl2
      simp only [Tm.nodes] at hK
      simp only [Tm.len] at hn
      obtain ⟨g1, hgk1⟩ := hgk.node
      obtain ⟨⟨q1, K0⟩, hli1⟩ := kid_at (b := b) hli (by omega) hmx (fun q hI => ih h1 k1 q (by omega) hI g1)
      obtain ⟨g2, hgk2⟩ := hgk1.node
      obtain ⟨⟨q2, K1⟩, hli2⟩ := kid_at (b := b) hli1 (by omega) hmx (fun q hI => ih h2 k2 q (by omega) hI g2)
      exact own_open _ b l w0 W h p _ (by omega) C hbl (fun W2 C2 _ hbl2 => open_7 _ b l w0 W2 h p h1 k1 q1 h2 k2 q2 hq C2 (hty (by rw [hq]; rfl)) K0 K1 hbl2 hl)
    · have hl0 : Tm.len kids = 3 := by rw [hlen, hq]; rfl
      obtain ⟨h1, k1, r1, rfl, hl1⟩ := Sh.len1 hl0
      obtain ⟨h2, k2, r2, rfl, hl2⟩ := Sh.len1 hl1
      obtain ⟨h3, k3, r3, rfl, hl3⟩ := Sh.len1 hl2
      obtain rfl := Sh.len0 hl3
      simp only [Tm.nodes] at hK
      simp only [Tm.len] at hn
      obtain ⟨g1, hgk1⟩ := hgk.node
      obtain ⟨⟨q1, K0⟩, hli1⟩ := kid_at (b := b) hli (by omega) hmx (fun q hI => ih h1 k1 q (by omega) hI g1)
      obtain ⟨g2, hgk2⟩ := hgk1.node
      obtain ⟨⟨q2, K1⟩, hli2⟩ := kid_at (b := b) hli1 (by omega) hmx (fun q hI => ih h2 k2 q (by omega) hI g2)
      obtain ⟨g3, hgk3⟩ := hgk2.node
      obtain ⟨⟨q3, K2⟩, hli3⟩ := kid_at (b := b) hli2 (by omega) hmx (fun q hI => ih h3 k3 q (by omega) hI g3)
      exact own_open _ b l w0 W h p _ (by omega) C hbl (fun W2 C2 _ hbl2 => open_8 _ b l w0 W2 h p h1 k1 q1 h2 k2 q2 h3 k3 q3 hq C2 K0 K1 K2 hbl2 hl)
    · have hl0 : Tm.len kids = 2 := by rw [hlen, hq]; rfl
      obtain ⟨h1, k1, r1, rfl, hl1⟩ := Sh.len1 hl0
      obtain ⟨h2, k2, r2, rfl, hl2⟩ := Sh.len1 hl1
      obtain rfl := Sh.len0 hl2
      simp only [Tm.nodes] at hK
      simp only [Tm.len] at hn
      obtain ⟨g1, hgk1⟩ := hgk.node
      obtain ⟨⟨q1, K0⟩, hli1⟩ := kid_at (b := b) hli (by omega) hmx (fun q hI => ih h1 k1 q (by omega) hI g1)
      obtain ⟨g2, hgk2⟩ := hgk1.node
      obtain ⟨⟨q2, K1⟩, hli2⟩ := kid_at (b := b) hli1 (by omega) hmx (fun q hI => ih h2 k2 q (by omega) hI g2)
      exact own_9 _ b l w0 W h p h1 k1 q1 h2 k2 q2 hq C K0 K1 hbl hl
    · have hl0 : Tm.len kids = 1 := by rw [hlen, hq]; rfl
      obtain ⟨h1, k1, r1, rfl, hl1⟩ := Sh.len1 hl0
      obtain rfl := Sh.len0 hl1
      simp only [Tm.nodes] at hK
      simp only [Tm.len] at hn
      obtain ⟨g1, hgk1⟩ := hgk.node
      obtain ⟨⟨q1, K0⟩, hli1⟩ := kid_at (b := b) hli (by omega) hmx (fun q hI => ih h1 k1 q (by omega) hI g1)
      exact own_10 _ b l w0 W h p h1 k1 q1 hq C K0 hbl hl
    · have hl0 : Tm.len kids = 1 := by rw [hlen, hq]; rfl
      obtain ⟨h1, k1, r1, rfl, hl1⟩ := Sh.len1 hl0
      obtain rfl := Sh.len0 hl1
      simp only [Tm.nodes] at hK
      simp only [Tm.len] at hn
      obtain ⟨g1, hgk1⟩ := hgk.node
      obtain ⟨⟨q1, K0⟩, hli1⟩ := kid_at (b := b) hli (by omega) hmx (fun q hI => ih h1 k1 q (by omega) hI g1)
      exact own_11 _ b l w0 W h p h1 k1 q1 hq C K0 hbl hl
    · have hl0 : Tm.len kids = 1 := by rw [hlen, hq]; rfl
      obtain ⟨h1, k1, r1, rfl, hl1⟩ := Sh.len1 hl0
      obtain rfl := Sh.len0 hl1
      simp only [Tm.nodes] at hK
      simp only [Tm.len] at hn
      obtain ⟨g1, hgk1⟩ := hgk.node
      obtain ⟨⟨q1, K0⟩, hli1⟩ := kid_at (b := b) hli (by omega) hmx (fun q hI => ih h1 k1 q (by omega) hI g1)
      exact own_12 _ b l w0 W h p h1 k1 q1 hq C (hty (by rw [hq]; rfl)) K0 hbl hl
    · have hl0 : Tm.len kids = 1 := by rw [hlen, hq]; rfl
      obtain ⟨h1, k1, r1, rfl, hl1⟩ := Sh.len1 hl0
      obtain rfl := Sh.len0 hl1
      simp only [Tm.nodes] at hK
      simp only [Tm.len] at hn
      obtain ⟨g1, hgk1⟩ := hgk.node
      obtain ⟨⟨q1, K0⟩, hli1⟩ := kid_at (b := b) hli (by omega) hmx (fun q hI => ih h1 k1 q (by omega) hI g1)
      exact own_13 _ b l w0 W h p h1 k1 q1 hq C (hty (by rw [hq]; rfl)) K0 hbl hl
    · have hl0 : Tm.len kids = 3 := by rw [hlen, hq]; rfl
      obtain ⟨h1, k1, r1, rfl, hl1⟩ := Sh.len1 hl0
      obtain ⟨h2, k2, r2, rfl, hl2⟩ := Sh.len1 hl1
      obtain ⟨h3, k3, r3, rfl, hl3⟩ := Sh.len1 hl2
      obtain rfl := Sh.len0 hl3
      simp only [Tm.nodes] at hK
      simp only [Tm.len] at hn
      obtain ⟨g1, hgk1⟩ := hgk.node
      obtain ⟨⟨q1, K0⟩, hli1⟩ := kid_at (b := b) hli (by omega) hmx (fun q hI => ih h1 k1 q (by omega) hI g1)
      obtain ⟨g2, hgk2⟩ := hgk1.node
      obtain ⟨⟨q2, K1⟩, hli2⟩ := kid_at (b := b) hli1 (by omega) hmx (fun q hI => ih h2 k2 q (by omega) hI g2)
      obtain ⟨g3, hgk3⟩ := hgk2.node
      obtain ⟨⟨q3, K2⟩, hli3⟩ := kid_at (b := b) hli2 (by omega) hmx (fun q hI => ih h3 k3 q (by omega) hI g3)
      exact own_open _ b l w0 W h p _ (by omega) C hbl (fun W2 C2 _ hbl2 => open_14 _ b l w0 W2 h p h1 k1 q1 h2 k2 q2 h3 k3 q3 hq C2 K0 K1 K2 hbl2 hl)
    · have hl0 : Tm.len kids = 2 := by rw [hlen, hq]; rfl
      obtain ⟨h1, k1, r1, rfl, hl1⟩ := Sh.len1 hl0
      obtain ⟨h2, k2, r2, rfl, hl2⟩ := Sh.len1 hl1
      obtain rfl := Sh.len0 hl2
      simp only [Tm.nodes] at hK
      simp only [Tm.len] at hn
      obtain ⟨g1, hgk1⟩ := hgk.node
      obtain ⟨⟨q1, K0⟩, hli1⟩ := kid_at (b := b) hli (by omega) hmx (fun q hI => ih h1 k1 q (by omega) hI g1)
      obtain ⟨g2, hgk2⟩ := hgk1.node
      obtain ⟨⟨q2, K1⟩, hli2⟩ := kid_at (b := b) hli1 (by omega) hmx (fun q hI => ih h2 k2 q (by omega) hI g2)
      exact own_15 _ b l w0 W h p h1 k1 q1 h2 k2 q2 hq C K0 K1 hbl hl
    · have hl0 : Tm.len kids = 1 := by rw [hlen, hq]; rfl
      obtain ⟨h1, k1, r1, rfl, hl1⟩ := Sh.len1 hl0
      obtain rfl := Sh.len0 hl1
      simp only [Tm.nodes] at hK
      simp only [Tm.len] at hn
      obtain ⟨g1, hgk1⟩ := hgk.node
      obtain ⟨⟨q1, K0⟩, hli1⟩ := kid_at (b := b) hli (by omega) hmx (fun q hI => ih h1 k1 q (by omega) hI g1)
      exact own_16 _ b l w0 W h p h1 k1 q1 hq C (hty (by rw [hq]; rfl)) K0 hbl hl
end Go.Proofs.YtocehfklacjgbaaGreatDoor
namespace Go.Proofs.YtocehfklacjgbaaGreatDoor
namespace Sh
open Rd Tt
abbrev Wk := Int × List UInt8
def numK (n : Int) : List Wk := if n < 0 then [(4, [45]), (2, Lib.decDigits n.natAbs)] else [(2, Lib.decDigits n.toNat)]
def atK (k : Int) (x : Int × List Wk) : List Wk := if k ≤ x.1 then x.2 else (4, [40]) :: (x.2 ++ [(4, [41])])
def kidK (ks : List (Int × List Wk)) (i : Nat) (k : Int) : List Wk := atK k (ks.getD i (0, []))
/-- a term's own words, with their kinds, by its kids' -/
def ownK (h : Hd) (ks : List (Int × List Wk)) : List Wk :=
  if h.kind = 0 then [(1, h.name.data.toList)] else if h.kind = 1 then numK h.num else if h.kind = 2 then [(3, kTrue)] else if h.kind = 3 then [(3, kFalse)]
  else if h.kind = 4 then [(4, [92]), (1, h.name.data.toList), (4, [58])] ++ (wds 1 h.tk h.tkids ++ ([(4, [46])] ++ kidK ks 0 (-1)))
  else if h.kind = 5 then [(3, kRec), (1, h.name.data.toList), (4, [40]), (1, h.arg.data.toList), (4, [58])] ++ (wds 1 h.tk h.tkids ++ ([(4, [41]), (4, [58])] ++ (wds 1 h.uk h.ukids ++ ([(4, [46])] ++ kidK ks 0 (-1)))))
  else if h.kind = 6 then kidK ks 0 5 ++ ([(4, [40])] ++ (kidK ks 1 (-1) ++ [(4, [41])]))
  else if h.kind = 7 then [(3, kLet), (1, h.name.data.toList), (4, [58])] ++ (wds 1 h.tk h.tkids ++ ([(4, [61])] ++ (kidK ks 0 (-1) ++ ([(3, kIn)] ++ kidK ks 1 (-1)))))
  else if h.kind = 8 then [(3, kIf)] ++ (kidK ks 0 (-1) ++ ([(3, kThen)] ++ (kidK ks 1 (-1) ++ ([(3, kElse)] ++ kidK ks 2 (-1)))))
  else if h.kind = 9 then [(4, [91])] ++ (kidK ks 0 (-1) ++ ([(4, [44])] ++ (kidK ks 1 (-1) ++ [(4, [93])])))
  else if h.kind = 10 then [(3, kFst)] ++ kidK ks 0 4 else if h.kind = 11 then [(3, kSnd)] ++ kidK ks 0 4
  else if h.kind = 12 then [(3, kInl), (4, [123])] ++ (wds 1 h.tk h.tkids ++ ([(4, [125])] ++ kidK ks 0 4))
  else if h.kind = 13 then [(3, kInr), (4, [123])] ++ (wds 1 h.tk h.tkids ++ ([(4, [125])] ++ kidK ks 0 4))
  else if h.kind = 14 then [(3, kCase)] ++ (kidK ks 0 (-1) ++ ([(3, kOf), (1, h.name.data.toList), (4, [46])] ++ (kidK ks 1 (-1) ++ ([(4, [124]), (1, h.arg.data.toList), (4, [46])] ++ kidK ks 2 (-1)))))
  else if h.kind = 15 then kidK ks 0 (opS h.name).2.1 ++ ([(4, h.name.data.toList)] ++ kidK ks 1 (opS h.name).2.2)
  else kidK ks 0 0 ++ ([(4, [58])] ++ wds 1 h.tk h.tkids)
def kidsK : Tm → List (Int × List Wk)
  | .nil => []
  | .node h kids r => (st h, ownK h (kidsK kids)) :: kidsK r
def wkT (h : Hd) (kids : Tm) : List Wk := ownK h (kidsK kids)
def wkS (k : Int) (h : Hd) (kids : Tm) : List Wk := atK k (st h, wkT h kids)
/-- numbers' words say their numbers -/
def NumOk (l : List W4) : Prop := ∀ (i : Nat) (x : W4) (n : Nat), l[i]? = some x → x.kind = 2 → x.text.toList = Lib.decDigits n → n ≤ 9223372036854775807 → x.num = n
theorem sees_is {l : List W4} {i : Nat} {k : Int} {t : List UInt8} (h : sees l i k t = true) (k' : Int) (t' : List UInt8) : sees l i k' t' = ((k == k') && (t == t')) := by
  unfold sees at h ⊢
  split at h
  · simp only [Bool.and_eq_true, beq_iff_eq] at h
    obtain ⟨rfl, rfl⟩ := h
    rfl
  · cases h
theorem sees_word {l : List W4} {i : Nat} {k : Int} {t : List UInt8} (h : sees l i k t = true) : ∃ x, l[i]? = some x ∧ x.kind = k ∧ x.text.toList = t := by
  unfold sees at h
  split at h
  · rename_i x hx
    simp only [Bool.and_eq_true, beq_iff_eq] at h
    exact ⟨x, hx, h.1, h.2⟩
  · cases h
theorem stand_cons {l : List W4} {i : Nat} {x : Wk} {ws : List Wk} (h : Stand l i (x :: ws)) : sees l i x.1 x.2 = true ∧ Stand l (i + 1) ws :=
  ⟨h 0 x rfl, fun j y hy => by have := h (j + 1) y hy; rwa [show i + (j + 1) = i + 1 + j by omega] at this⟩
/-- what follows a term that is so strong -/
def Fol (l : List W4) (j c : Nat) : Prop := (∀ k s lf its, opr l j = some (k, s, lf, its) → lf ≤ c) ∧ sees l j 4 sArrow = false
theorem Fol.mono {l : List W4} {j c d : Nat} (h : Fol l j c) (hd : c ≤ d) : Fol l j d := ⟨fun k s lf its e => Nat.le_trans (h.1 k s lf its e) hd, h.2⟩
theorem Fol.stop {l : List W4} {j c q st : Nat} (h : Fol l j c) (hq : c < q ∨ (q = 4 ∧ c ≤ 4)) : Stop l q st j := fun k s lf its e => by
  have h1 := h.1 k s lf its e
  have h2 := opr_st e
  omega
theorem opr_sig {l : List W4} {j : Nat} {t : List UInt8} (h : sees l j 4 t = true) : opr l j = if t = [40] then some (6, 5, 5, [.tm, sg 41]) else if t = [42] then some (15, 3, 3, [.pt 4]) else if t = [47] then some (15, 3, 3, [.pt 4]) else if t = [43] then some (15, 2, 2, [.pt 3]) else if t = [45] then some (15, 2, 2, [.pt 3]) else if t = [60] then some (15, 1, 2, [.pt 2]) else if t = [61] then some (15, 1, 2, [.pt 2]) else if t = [58] then some (16, 0, 0, [.ty]) else none := by
  unfold opr
  simp only [sees_is h, beq_self_eq_true, Bool.true_and, beq_iff_eq]
theorem opr_oth {l : List W4} {j : Nat} {k : Int} {t : List UInt8} (h : sees l j k t = true) (hk : k ≠ 4) : opr l j = none := by
  unfold opr
  simp [sees_is h, hk]
theorem fol_none {l : List W4} {j c : Nat} (h : opr l j = none) (ha : sees l j 4 sArrow = false) : Fol l j c := ⟨fun k s lf its e => (by rw [h] at e; cases e), ha⟩
/-- a word that closes what is ahead of it -/
structure Shut (l : List W4) (j : Nat) : Prop where
  op : opr l j = none
  ar : sees l j 4 sArrow = false
theorem Shut.fol {l : List W4} {j c : Nat} (h : Shut l j) : Fol l j c := fol_none h.op h.ar
theorem Shut.sig {l : List W4} {j : Nat} {t : List UInt8} (h : sees l j 4 t = true) (ht : t = [41] ∨ t = [44] ∨ t = [93] ∨ t = [124] ∨ t = [46] ∨ t = [125]) : Shut l j := by
  refine ⟨?_, ?_⟩
  · rw [opr_sig h]
    rcases ht with rfl | rfl | rfl | rfl | rfl | rfl <;> rfl
  · rw [sees_is h]
    rcases ht with rfl | rfl | rfl | rfl | rfl | rfl <;> rfl
theorem Shut.oth {l : List W4} {j : Nat} {k : Int} {t : List UInt8} (h : sees l j k t = true) (hk : k ≠ 4) : Shut l j :=
  ⟨opr_oth h hk, by rw [sees_is h]; simp [hk]⟩
theorem eqF_three : ∀ f g : Fo, Ty.eqF f g = true → Ty.nodes f = Ty.nodes g ∧ Ty.dep f = Ty.dep g ∧ Ty.okF f = Ty.okF g ∧ Ty.len f = Ty.len g
  | .nil, .nil, _ => ⟨rfl, rfl, rfl, rfl⟩
  | .nil, .node _ _ _ _ _, h => by simp [Ty.eqF] at h
  | .node _ _ _ _ _, .nil, h => by simp [Ty.eqF] at h
  | .node _ _ k kk r, .node _ _ k' kk' r', h => by
    simp only [Ty.eqF, Bool.and_eq_true, beq_iff_eq] at h
    obtain ⟨⟨hk, h1⟩, h2⟩ := h
    subst hk
    obtain ⟨a1, a2, a3, a4⟩ := eqF_three kk kk' h1
    obtain ⟨b1, b2, b3, b4⟩ := eqF_three r r' h2
    exact ⟨by simp only [Ty.nodes]; omega, by simp only [Ty.dep]; rw [a2, b2], by simp only [Ty.okF]; rw [a3, a4, b3], by simp only [Ty.len]; omega⟩
/-- a type among a term's words -/
theorem ty_at {l : List W4} {i : Nat} {k : Int} {f : Fo} (hc : Ty.chk k f = 0) (hs : Stand l i (wds 1 k f)) (hop : opK l (i + (wds 1 k f).length) = 0) :
    ∃ g, Ty.sameT k f k g = true ∧ Out l i k g (i + (wds 1 k f).length) 0 0 ⟨#[]⟩ := by
  obtain ⟨g, he, hr⟩ := reads l (Ty.nodes f + 1) 1 k f i (Nat.lt_succ_self _) (Ty.chk_ok hc).1 (by decide) hs (.inr (.inr (.inl hop)))
  have hg : Ty.chk k g = 0 := by
    have he' := he
    unfold Ty.eqT at he'
    rw [Bool.and_eq_true] at he'
    obtain ⟨a1, a2, a3, a4⟩ := eqF_three f g he'.2
    rw [← hc]
    unfold Ty.chk
    rw [a1, a2, a3, a4]
  exact ⟨g, by unfold Ty.sameT; rw [hc, hg, he]; rfl, .inl ⟨hr 1 _ (Nat.le_refl _) (.stop (.inl hop)), hg, rfl, rfl, rfl⟩⟩
theorem opK_sig {l : List W4} {j : Nat} {t : List UInt8} (h : sees l j 4 t = true) (ht : t = [46] ∨ t = [41] ∨ t = [61] ∨ t = [125]) : opK l j = 0 := by
  refine opK_not h (.inr ?_) (.inr ?_) (.inr ?_) <;> (rcases ht with rfl | rfl | rfl | rfl <;> decide)
theorem opK_fol {l : List W4} {j : Nat} (h : Fol l j 0) : opK l j = 0 := by
  unfold opK
  rw [h.2]
  have h1 : sees l j 4 [42] = false := by
    cases hs : sees l j 4 [42] with
    | false => rfl
    | true => have e := opr_sig hs; rw [if_neg (by decide), if_pos rfl] at e; have := h.1 _ _ _ _ e; omega
  have h2 : sees l j 4 [43] = false := by
    cases hs : sees l j 4 [43] with
    | false => rfl
    | true => have e := opr_sig hs; rw [if_neg (by decide), if_neg (by decide), if_neg (by decide), if_pos rfl] at e; have := h.1 _ _ _ _ e; omega
  rw [h1, h2]; rfl
/-- what counts is the same -/
theorem eqc {h g : Hd} (hk : g.kind = h.kind) (hn : Tm.hasName h.kind = true → h.name.toList = g.name.toList) (ha : Tm.hasArg h.kind = true → h.arg.toList = g.arg.toList) (hu : Tm.hasNum h.kind = true → h.num = g.num)
    (ht : Tm.hasType h.kind = true → Ty.sameT h.tk h.tkids g.tk g.tkids = true) (hv : Tm.hasTo h.kind = true → Ty.sameT h.uk h.ukids g.uk g.ukids = true) (hl : Tm.hasLabel h.kind = false) : Tm.eqH (Tm.cnt h) (Tm.cnt g) = true := by
  have z : Ty.sameT 0 .nil 0 .nil = true := by decide
  unfold Tm.eqH Tm.cnt
  rw [hk, hl]
  cases h1 : Tm.hasName h.kind <;> cases h2 : Tm.hasArg h.kind <;> cases h3 : Tm.hasNum h.kind <;> cases h4 : Tm.hasType h.kind <;> cases h5 : Tm.hasTo h.kind <;> simp [h1, h2, h3, h4, h5, z] at hn ha hu ht hv ⊢ <;> simp [hn, ha, hu, ht, hv]
/-- a term's reading, where one stands; where so strong a one stands; what is read there as so strong a one -/
def RTm (l : List W4) (h : Hd) (kids : Tm) (i j : Nat) : Prop := ∃ g u, Tm.alT h kids g u = true ∧ T l (.term i) (.ok [.tm g u] j)
def RQm (l : List W4) (h : Hd) (kids : Tm) (i j c : Nat) : Prop := ∃ g u, Tm.alT h kids g u = true ∧ formT l i = none ∧ ∀ q r, q ≤ c → T l (.lp q g u c j) r → T l (.part q i) r
def RPm (l : List W4) (h : Hd) (kids : Tm) (q i j : Nat) : Prop := ∃ g u, Tm.alT h kids g u = true ∧ T l (.part q i) (.ok [.tm g u] j)
theorem RQm.part {l : List W4} {h : Hd} {kids : Tm} {i j c q : Nat} (a : RQm l h kids i j c) (hq : q ≤ c) (hs : Stop l q c j) : RPm l h kids q i j := by
  obtain ⟨g, u, h1, -, h3⟩ := a
  exact ⟨g, u, h1, h3 q _ hq (.stop hs)⟩
theorem RQm.term {l : List W4} {h : Hd} {kids : Tm} {i j c : Nat} (a : RQm l h kids i j c) (hs : Shut l j) : RTm l h kids i j := by
  obtain ⟨g, u, h1, h2, h3⟩ := a
  exact ⟨g, u, h1, .term h2 (h3 0 _ (Nat.zero_le _) (.stop fun k s lf its e => by rw [hs.op] at e; cases e))⟩
/-- a term's own words are read as it -/
def Own (l : List W4) (h : Hd) (kids : Tm) : Prop := ∀ i, Stand l i (wkT h kids) →
  (st h = -1 → Shut l (i + (wkT h kids).length) → RTm l h kids i (i + (wkT h kids).length)) ∧ (0 ≤ st h → Fol l (i + (wkT h kids).length) (st h).toNat → RQm l h kids i (i + (wkT h kids).length) (st h).toNat)
theorem st_range (h : Hd) : -1 ≤ st h ∧ st h ≤ 5 := by
  unfold st
  have : -1 ≤ (opS h.name).1 ∧ (opS h.name).1 ≤ 5 := by unfold opS; split; · decide
                                                        split <;> decide
  repeat' split
  all_goals omega
theorem Own.tm {l : List W4} {h : Hd} {kids : Tm} (o : Own l h kids) {i : Nat} (hs : Stand l i (wkS (-1) h kids)) (hn : Shut l (i + (wkS (-1) h kids).length)) : RTm l h kids i (i + (wkS (-1) h kids).length) := by
  have hr := st_range h
  have e : wkS (-1) h kids = wkT h kids := by unfold wkS atK; rw [if_pos (by omega)]
  rw [e] at hs hn ⊢
  by_cases h1 : st h = -1
  · exact (o i hs).1 h1 hn
  · exact RQm.term ((o i hs).2 (by omega) hn.fol) hn
/-- how strong what stands there is -/
def cs (k : Int) (h : Hd) : Nat := if k ≤ st h then (st h).toNat else 5
theorem cs_le (k : Int) (h : Hd) (hk : 0 ≤ k ∧ k ≤ 5) : k.toNat ≤ cs k h := by
  unfold cs; split <;> omega
theorem opnd_part {l : List W4} {i j c : Nat} {g : Hd} {u : Tm} (f : T l (.opnd i) (.ok [.tm g u] j)) (hc : (formO l i).2.2.2 = c) : ∀ q r, q ≤ c → T l (.lp q g u c j) r → T l (.part q i) r :=
  fun _ _ _ h => .part f (by rw [hc]; exact h)
theorem formT_is {l : List W4} {i : Nat} {k : Int} {t : List UInt8} (s : sees l i k t = true) (h1 : k ≠ 4 ∨ t ≠ [92]) (h2 : k ≠ 3 ∨ (t ≠ kLet ∧ t ≠ kIf ∧ t ≠ kRec ∧ t ≠ kCase)) : formT l i = none := by
  unfold formT
  rw [if_neg (by rw [sees_not s h1]; decide), if_neg (by rw [sees_not s (h2.imp id (·.1))]; decide), if_neg (by rw [sees_not s (h2.imp id (·.2.1))]; decide), if_neg (by rw [sees_not s (h2.imp id (·.2.2.1))]; decide), if_neg (by rw [sees_not s (h2.imp id (·.2.2.2))]; decide)]
theorem Own.at {l : List W4} {h : Hd} {kids : Tm} (o : Own l h kids) (k : Int) (hk : 0 ≤ k ∧ k ≤ 5) {i : Nat} (hs : Stand l i (wkS k h kids)) (hf : Fol l (i + (wkS k h kids).length) (cs k h)) : RQm l h kids i (i + (wkS k h kids).length) (cs k h) := by
  by_cases h1 : k ≤ st h
  · have e : wkS k h kids = wkT h kids := by unfold wkS atK; rw [if_pos h1]
    have ec : cs k h = (st h).toNat := by unfold cs; rw [if_pos h1]
    rw [e] at hs hf ⊢
    rw [ec] at hf ⊢
    exact (o i hs).2 (by omega) hf
  · have e : wkS k h kids = (4, [40]) :: (wkT h kids ++ [(4, [41])]) := by unfold wkS atK; rw [if_neg h1]
    have ec : cs k h = 5 := by unfold cs; rw [if_neg h1]
    rw [e] at hs hf ⊢
    rw [ec] at hf ⊢
    obtain ⟨s0, hs⟩ := stand_cons hs
    have hr := hs.right
    have hs := hs.left
    obtain ⟨s1, -⟩ := stand_cons hr
    have e2 : wkS (-1) h kids = wkT h kids := by unfold wkS atK; rw [if_pos (st_range h).1]
    have o1 := o.tm (i := i + 1) (by rw [e2]; exact hs) (by rw [e2]; exact Shut.sig s1 (.inl rfl))
    rw [e2] at o1
    obtain ⟨g, u, a1, a2⟩ := o1
    have hF : formO l i = (100, [.tm, sg 41], i + 1, 5) := by unfold formO; simp only [sees_is s0]; rfl
    have f : T l (.opnd i) (.ok [.tm g u] (i + 1 + (wkT h kids).length + 1)) := by
      have q := T.opnd (l := l) (i := i) (r := .ok [.tm g u] (i + 1 + (wkT h kids).length + 1)) (by rw [hF]; exact T.tm a2 (T.word s1 .nil))
      rw [hF] at q
      exact q
    refine ⟨g, u, a1, formT_is s0 (.inr (by decide)) (.inl (by decide)), ?_⟩
    have hj : i + ((4, [40]) :: (wkT h kids ++ [(4, [41])]) : List Wk).length = i + 1 + (wkT h kids).length + 1 := by simp; omega
    rw [hj]
    exact opnd_part f (by rw [hF])
end Sh
end Go.Proofs.YtocehfklacjgbaaGreatDoor
namespace Go.Proofs.YtocehfklacjgbaaGreatDoor
namespace Sh
open Rd Tt
theorem own_4r {l : List W4} (h : Hd) (h0 : Hd) (k0 : Tm) (hq : h.kind = 4) (hT : Ty.chk h.tk h.tkids = 0) (o0 : Own l h0 k0) : Own l h (.node h0 k0 .nil) := by
  intro i hs
  have hst : st h = -1 := by unfold st; rw [hq]; rfl
  have hw : wkT h (.node h0 k0 .nil) = ([(4, [92]), (1, h.name.data.toList), (4, [58])] ++ (wds 1 h.tk h.tkids ++ ([(4, [46])] ++ (wkS (-1) h0 k0))) : List Wk) := by unfold wkT ownK; rw [hq]; simp [kidsK, kidK, wkS, wkT]
  rw [hw] at hs ⊢
  simp only [List.cons_append, List.nil_append] at hs
  have hj : i + ([(4, [92]), (1, h.name.data.toList), (4, [58])] ++ (wds 1 h.tk h.tkids ++ ([(4, [46])] ++ (wkS (-1) h0 k0))) : List Wk).length = i + 1 + 1 + 1 + (wds 1 h.tk h.tkids).length + 1 + (wkS (-1) h0 k0).length := by simp only [List.length_append, List.length_cons, List.length_nil]; omega
  rw [hj]
  refine ⟨fun _ hn => ?_, fun e => absurd e (by rw [hst]; decide)⟩
  obtain ⟨s0, hs⟩ := stand_cons hs
  obtain ⟨s1, hs⟩ := stand_cons hs
  obtain ⟨s2, hs⟩ := stand_cons hs
  have ht3 := hs.left
  have hs := hs.right
  obtain ⟨s4, hs⟩ := stand_cons hs
  have hk5 := hs
  obtain ⟨x1, hx1, xk1, xt1⟩ := sees_word s1
  obtain ⟨y3, ys3, yo3⟩ := ty_at hT ht3 (opK_sig s4 (by simp))
  obtain ⟨g5, u5, al5, T5⟩ := o0.tm hk5 hn
  have hF : formT l i = some (4, [.nm, .w 4 [58], .ty, .w 4 [46], .tm]) := by unfold formT; simp only [sees_is s0]; rfl
  refine ⟨(mk 4 (posAt l i) [.nm x1.text, .ty h.tk y3, .tm g5 u5]).1, (mk 4 (posAt l i) [.nm x1.text, .ty h.tk y3, .tm g5 u5]).2, by
    show (Tm.eqH _ _ && (Tm.alT h0 k0 g5 u5 && true)) = true
    rw [eqc (by rw [hq]; rfl) (fun _ => by rw [Lib.toList_data]; exact xt1.symm) (fun e => absurd e (by rw [hq]; decide)) (fun e => absurd e (by rw [hq]; decide)) (fun _ => ys3) (fun e => absurd e (by rw [hq]; decide)) (by rw [hq]; rfl), al5]
    rfl, ?_⟩
  exact T.opn hF (T.nm hx1 xk1 (T.word s2 (T.ty yo3 (T.word s4 (T.tm T5 T.nil)))))
theorem own_5r {l : List W4} (h : Hd) (h0 : Hd) (k0 : Tm) (hq : h.kind = 5) (hT : Ty.chk h.tk h.tkids = 0) (hU : Ty.chk h.uk h.ukids = 0) (o0 : Own l h0 k0) : Own l h (.node h0 k0 .nil) := by
  intro i hs
  have hst : st h = -1 := by unfold st; rw [hq]; rfl
  have hw : wkT h (.node h0 k0 .nil) = ([(3, kRec), (1, h.name.data.toList), (4, [40]), (1, h.arg.data.toList), (4, [58])] ++ (wds 1 h.tk h.tkids ++ ([(4, [41]), (4, [58])] ++ (wds 1 h.uk h.ukids ++ ([(4, [46])] ++ (wkS (-1) h0 k0))))) : List Wk) := by unfold wkT ownK; rw [hq]; simp [kidsK, kidK, wkS, wkT]
  rw [hw] at hs ⊢
  simp only [List.cons_append, List.nil_append] at hs
  have hj : i + ([(3, kRec), (1, h.name.data.toList), (4, [40]), (1, h.arg.data.toList), (4, [58])] ++ (wds 1 h.tk h.tkids ++ ([(4, [41]), (4, [58])] ++ (wds 1 h.uk h.ukids ++ ([(4, [46])] ++ (wkS (-1) h0 k0))))) : List Wk).length = i + 1 + 1 + 1 + 1 + 1 + (wds 1 h.tk h.tkids).length + 1 + 1 + (wds 1 h.uk h.ukids).length + 1 + (wkS (-1) h0 k0).length := by simp only [List.length_append, List.length_cons, List.length_nil]; omega
  rw [hj]
  refine ⟨fun _ hn => ?_, fun e => absurd e (by rw [hst]; decide)⟩
  obtain ⟨s0, hs⟩ := stand_cons hs
  obtain ⟨s1, hs⟩ := stand_cons hs
  obtain ⟨s2, hs⟩ := stand_cons hs
  obtain ⟨s3, hs⟩ := stand_cons hs
  obtain ⟨s4, hs⟩ := stand_cons hs
  have ht5 := hs.left
  have hs := hs.right
  obtain ⟨s6, hs⟩ := stand_cons hs
  obtain ⟨s7, hs⟩ := stand_cons hs
  have ht8 := hs.left
  have hs := hs.right
  obtain ⟨s9, hs⟩ := stand_cons hs
  have hk10 := hs
  obtain ⟨x1, hx1, xk1, xt1⟩ := sees_word s1
  obtain ⟨x3, hx3, xk3, xt3⟩ := sees_word s3
  obtain ⟨y5, ys5, yo5⟩ := ty_at hT ht5 (opK_sig s6 (by simp))
  obtain ⟨y8, ys8, yo8⟩ := ty_at hU ht8 (opK_sig s9 (by simp))
  obtain ⟨g10, u10, al10, T10⟩ := o0.tm hk10 hn
  have hF : formT l i = some (5, [.nm, .w 4 [40], .nm, .w 4 [58], .ty, .w 4 [41], .w 4 [58], .ty, .w 4 [46], .tm]) := by unfold formT; simp only [sees_is s0]; rfl
  refine ⟨(mk 5 (posAt l i) [.nm x1.text, .nm x3.text, .ty h.tk y5, .ty h.uk y8, .tm g10 u10]).1, (mk 5 (posAt l i) [.nm x1.text, .nm x3.text, .ty h.tk y5, .ty h.uk y8, .tm g10 u10]).2, by
    show (Tm.eqH _ _ && (Tm.alT h0 k0 g10 u10 && true)) = true
    rw [eqc (by rw [hq]; rfl) (fun _ => by rw [Lib.toList_data]; exact xt1.symm) (fun _ => by rw [Lib.toList_data]; exact xt3.symm) (fun e => absurd e (by rw [hq]; decide)) (fun _ => ys5) (fun _ => ys8) (by rw [hq]; rfl), al10]
    rfl, ?_⟩
  exact T.opn hF (T.nm hx1 xk1 (T.word s2 (T.nm hx3 xk3 (T.word s4 (T.ty yo5 (T.word s6 (T.word s7 (T.ty yo8 (T.word s9 (T.tm T10 T.nil))))))))))
theorem own_7r {l : List W4} (h : Hd) (h0 : Hd) (k0 : Tm) (h1 : Hd) (k1 : Tm) (hq : h.kind = 7) (hT : Ty.chk h.tk h.tkids = 0) (o0 : Own l h0 k0) (o1 : Own l h1 k1) : Own l h (.node h0 k0 (.node h1 k1 .nil)) := by
  intro i hs
  have hst : st h = -1 := by unfold st; rw [hq]; rfl
  have hw : wkT h (.node h0 k0 (.node h1 k1 .nil)) = ([(3, kLet), (1, h.name.data.toList), (4, [58])] ++ (wds 1 h.tk h.tkids ++ ([(4, [61])] ++ (wkS (-1) h0 k0 ++ ([(3, kIn)] ++ (wkS (-1) h1 k1))))) : List Wk) := by unfold wkT ownK; rw [hq]; simp [kidsK, kidK, wkS, wkT]
  rw [hw] at hs ⊢
  simp only [List.cons_append, List.nil_append] at hs
  have hj : i + ([(3, kLet), (1, h.name.data.toList), (4, [58])] ++ (wds 1 h.tk h.tkids ++ ([(4, [61])] ++ (wkS (-1) h0 k0 ++ ([(3, kIn)] ++ (wkS (-1) h1 k1))))) : List Wk).length = i + 1 + 1 + 1 + (wds 1 h.tk h.tkids).length + 1 + (wkS (-1) h0 k0).length + 1 + (wkS (-1) h1 k1).length := by simp only [List.length_append, List.length_cons, List.length_nil]; omega
  rw [hj]
  refine ⟨fun _ hn => ?_, fun e => absurd e (by rw [hst]; decide)⟩
  obtain ⟨s0, hs⟩ := stand_cons hs
  obtain ⟨s1, hs⟩ := stand_cons hs
  obtain ⟨s2, hs⟩ := stand_cons hs
  have ht3 := hs.left
  have hs := hs.right
  obtain ⟨s4, hs⟩ := stand_cons hs
  have hk5 := hs.left
  have hs := hs.right
  obtain ⟨s6, hs⟩ := stand_cons hs
  have hk7 := hs
  obtain ⟨x1, hx1, xk1, xt1⟩ := sees_word s1
  obtain ⟨y3, ys3, yo3⟩ := ty_at hT ht3 (opK_sig s4 (by simp))
  obtain ⟨g5, u5, al5, T5⟩ := o0.tm hk5 (Shut.oth s6 (by decide))
  obtain ⟨g7, u7, al7, T7⟩ := o1.tm hk7 hn
  have hF : formT l i = some (7, [.nm, .w 4 [58], .ty, .w 4 [61], .tm, .w 3 kIn, .tm]) := by unfold formT; simp only [sees_is s0]; rfl
  refine ⟨(mk 7 (posAt l i) [.nm x1.text, .ty h.tk y3, .tm g5 u5, .tm g7 u7]).1, (mk 7 (posAt l i) [.nm x1.text, .ty h.tk y3, .tm g5 u5, .tm g7 u7]).2, by
    show (Tm.eqH _ _ && (Tm.alT h0 k0 g5 u5 && (Tm.alT h1 k1 g7 u7 && true))) = true
    rw [eqc (by rw [hq]; rfl) (fun _ => by rw [Lib.toList_data]; exact xt1.symm) (fun e => absurd e (by rw [hq]; decide)) (fun e => absurd e (by rw [hq]; decide)) (fun _ => ys3) (fun e => absurd e (by rw [hq]; decide)) (by rw [hq]; rfl), al5, al7]
    rfl, ?_⟩
  exact T.opn hF (T.nm hx1 xk1 (T.word s2 (T.ty yo3 (T.word s4 (T.tm T5 (T.word s6 (T.tm T7 T.nil)))))))
theorem own_8r {l : List W4} (h : Hd) (h0 : Hd) (k0 : Tm) (h1 : Hd) (k1 : Tm) (h2 : Hd) (k2 : Tm) (hq : h.kind = 8) (o0 : Own l h0 k0) (o1 : Own l h1 k1) (o2 : Own l h2 k2) : Own l h (.node h0 k0 (.node h1 k1 (.node h2 k2 .nil))) := by
  intro i hs
  have hst : st h = -1 := by unfold st; rw [hq]; rfl
  have hw : wkT h (.node h0 k0 (.node h1 k1 (.node h2 k2 .nil))) = ([(3, kIf)] ++ (wkS (-1) h0 k0 ++ ([(3, kThen)] ++ (wkS (-1) h1 k1 ++ ([(3, kElse)] ++ (wkS (-1) h2 k2))))) : List Wk) := by unfold wkT ownK; rw [hq]; simp [kidsK, kidK, wkS, wkT]
  rw [hw] at hs ⊢
  simp only [List.cons_append, List.nil_append] at hs
  have hj : i + ([(3, kIf)] ++ (wkS (-1) h0 k0 ++ ([(3, kThen)] ++ (wkS (-1) h1 k1 ++ ([(3, kElse)] ++ (wkS (-1) h2 k2))))) : List Wk).length = i + 1 + (wkS (-1) h0 k0).length + 1 + (wkS (-1) h1 k1).length + 1 + (wkS (-1) h2 k2).length := by simp only [List.length_append, List.length_cons, List.length_nil]; omega
  rw [hj]
  refine ⟨fun _ hn => ?_, fun e => absurd e (by rw [hst]; decide)⟩
  obtain ⟨s0, hs⟩ := stand_cons hs
  have hk1 := hs.left
  have hs := hs.right
  obtain ⟨s2, hs⟩ := stand_cons hs
  have hk3 := hs.left
  have hs := hs.right
  obtain ⟨s4, hs⟩ := stand_cons hs
  have hk5 := hs
  obtain ⟨g1, u1, al1, T1⟩ := o0.tm hk1 (Shut.oth s2 (by decide))
  obtain ⟨g3, u3, al3, T3⟩ := o1.tm hk3 (Shut.oth s4 (by decide))
  obtain ⟨g5, u5, al5, T5⟩ := o2.tm hk5 hn
  have hF : formT l i = some (8, [.tm, .w 3 kThen, .tm, .w 3 kElse, .tm]) := by unfold formT; simp only [sees_is s0]; rfl
  refine ⟨(mk 8 (posAt l i) [.tm g1 u1, .tm g3 u3, .tm g5 u5]).1, (mk 8 (posAt l i) [.tm g1 u1, .tm g3 u3, .tm g5 u5]).2, by
    show (Tm.eqH _ _ && (Tm.alT h0 k0 g1 u1 && (Tm.alT h1 k1 g3 u3 && (Tm.alT h2 k2 g5 u5 && true)))) = true
    rw [eqc (by rw [hq]; rfl) (fun e => absurd e (by rw [hq]; decide)) (fun e => absurd e (by rw [hq]; decide)) (fun e => absurd e (by rw [hq]; decide)) (fun e => absurd e (by rw [hq]; decide)) (fun e => absurd e (by rw [hq]; decide)) (by rw [hq]; rfl), al1, al3, al5]
    rfl, ?_⟩
  exact T.opn hF (T.tm T1 (T.word s2 (T.tm T3 (T.word s4 (T.tm T5 T.nil)))))
theorem own_14r {l : List W4} (h : Hd) (h0 : Hd) (k0 : Tm) (h1 : Hd) (k1 : Tm) (h2 : Hd) (k2 : Tm) (hq : h.kind = 14) (o0 : Own l h0 k0) (o1 : Own l h1 k1) (o2 : Own l h2 k2) : Own l h (.node h0 k0 (.node h1 k1 (.node h2 k2 .nil))) := by
  intro i hs
  have hst : st h = -1 := by unfold st; rw [hq]; rfl
  have hw : wkT h (.node h0 k0 (.node h1 k1 (.node h2 k2 .nil))) = ([(3, kCase)] ++ (wkS (-1) h0 k0 ++ ([(3, kOf), (1, h.name.data.toList), (4, [46])] ++ (wkS (-1) h1 k1 ++ ([(4, [124]), (1, h.arg.data.toList), (4, [46])] ++ (wkS (-1) h2 k2))))) : List Wk) := by unfold wkT ownK; rw [hq]; simp [kidsK, kidK, wkS, wkT]
  rw [hw] at hs ⊢
  simp only [List.cons_append, List.nil_append] at hs
  have hj : i + ([(3, kCase)] ++ (wkS (-1) h0 k0 ++ ([(3, kOf), (1, h.name.data.toList), (4, [46])] ++ (wkS (-1) h1 k1 ++ ([(4, [124]), (1, h.arg.data.toList), (4, [46])] ++ (wkS (-1) h2 k2))))) : List Wk).length = i + 1 + (wkS (-1) h0 k0).length + 1 + 1 + 1 + (wkS (-1) h1 k1).length + 1 + 1 + 1 + (wkS (-1) h2 k2).length := by simp only [List.length_append, List.length_cons, List.length_nil]; omega
  rw [hj]
  refine ⟨fun _ hn => ?_, fun e => absurd e (by rw [hst]; decide)⟩
  obtain ⟨s0, hs⟩ := stand_cons hs
  have hk1 := hs.left
  have hs := hs.right
  obtain ⟨s2, hs⟩ := stand_cons hs
  obtain ⟨s3, hs⟩ := stand_cons hs
  obtain ⟨s4, hs⟩ := stand_cons hs
  have hk5 := hs.left
  have hs := hs.right
  obtain ⟨s6, hs⟩ := stand_cons hs
  obtain ⟨s7, hs⟩ := stand_cons hs
  obtain ⟨s8, hs⟩ := stand_cons hs
  have hk9 := hs
  obtain ⟨g1, u1, al1, T1⟩ := o0.tm hk1 (Shut.oth s2 (by decide))
  obtain ⟨x3, hx3, xk3, xt3⟩ := sees_word s3
  obtain ⟨g5, u5, al5, T5⟩ := o1.tm hk5 (Shut.sig s6 (by simp))
  obtain ⟨x7, hx7, xk7, xt7⟩ := sees_word s7
  obtain ⟨g9, u9, al9, T9⟩ := o2.tm hk9 hn
  have hF : formT l i = some (14, [.tm, .w 3 kOf, .nm, .w 4 [46], .tm, .w 4 [124], .nm, .w 4 [46], .tm]) := by unfold formT; simp only [sees_is s0]; rfl
  refine ⟨(mk 14 (posAt l i) [.tm g1 u1, .nm x3.text, .tm g5 u5, .nm x7.text, .tm g9 u9]).1, (mk 14 (posAt l i) [.tm g1 u1, .nm x3.text, .tm g5 u5, .nm x7.text, .tm g9 u9]).2, by
    show (Tm.eqH _ _ && (Tm.alT h0 k0 g1 u1 && (Tm.alT h1 k1 g5 u5 && (Tm.alT h2 k2 g9 u9 && true)))) = true
    rw [eqc (by rw [hq]; rfl) (fun _ => by rw [Lib.toList_data]; exact xt3.symm) (fun _ => by rw [Lib.toList_data]; exact xt7.symm) (fun e => absurd e (by rw [hq]; decide)) (fun e => absurd e (by rw [hq]; decide)) (fun e => absurd e (by rw [hq]; decide)) (by rw [hq]; rfl), al1, al5, al9]
    rfl, ?_⟩
  exact T.opn hF (T.tm T1 (T.word s2 (T.nm hx3 xk3 (T.word s4 (T.tm T5 (T.word s6 (T.nm hx7 xk7 (T.word s8 (T.tm T9 T.nil)))))))))
end Sh
end Go.Proofs.YtocehfklacjgbaaGreatDoor
namespace Go.Proofs.YtocehfklacjgbaaGreatDoor
namespace Sh
open Rd Tt
theorem own_0r {l : List W4} (h : Hd)  (hq : h.kind = 0) : Own l h .nil := by
  intro i hs
  have hst : st h = 5 := by unfold st; rw [hq]; rfl
  have hw : wkT h .nil = ([(1, h.name.data.toList)] : List Wk) := by unfold wkT ownK; rw [hq]; simp
  rw [hw] at hs ⊢
  have hj : i + ([(1, h.name.data.toList)] : List Wk).length = i + 1 := rfl
  rw [hj]
  refine ⟨fun e => absurd (hst.symm.trans e) (by decide), fun _ hf => ?_⟩
  rw [hst] at hf ⊢
  clear hf
  obtain ⟨s0, hs⟩ := stand_cons hs
  obtain ⟨x0, hx0, xk0, xt0⟩ := sees_word s0
  have hF : formO l i = (0, [.nm], i, 5) := by unfold formO; simp [sees_is s0, hx0, xk0]
  have f : T l (.opnd i) (.ok [.tm (mk 0 (posAt l i) [.nm x0.text]).1 (mk 0 (posAt l i) [.nm x0.text]).2] (i + 1)) := by
    have q := T.opnd (l := l) (i := i) (r := .ok [.nm x0.text] (i + 1)) (by rw [hF]; exact (T.nm hx0 xk0 T.nil))
    rw [hF] at q
    exact q
  refine ⟨(mk 0 (posAt l i) [.nm x0.text]).1, (mk 0 (posAt l i) [.nm x0.text]).2, by
    show (Tm.eqH _ _ && true) = true
    rw [eqc (by rw [hq]; rfl) (fun _ => by rw [Lib.toList_data]; exact xt0.symm) (fun e => absurd e (by rw [hq]; decide)) (fun e => absurd e (by rw [hq]; decide)) (fun e => absurd e (by rw [hq]; decide)) (fun e => absurd e (by rw [hq]; decide)) (by rw [hq]; rfl)]
    rfl, formT_is s0 (.inl (by show (1 : Int) ≠ 4; decide)) (.inl (by show (1 : Int) ≠ 3; decide)), ?_⟩
  exact opnd_part f (by rw [hF]; rfl)
theorem own_2r {l : List W4} (h : Hd)  (hq : h.kind = 2) : Own l h .nil := by
  intro i hs
  have hst : st h = 5 := by unfold st; rw [hq]; rfl
  have hw : wkT h .nil = ([(3, kTrue)] : List Wk) := by unfold wkT ownK; rw [hq]; simp
  rw [hw] at hs ⊢
  have hj : i + ([(3, kTrue)] : List Wk).length = i + 1 := rfl
  rw [hj]
  refine ⟨fun e => absurd (hst.symm.trans e) (by decide), fun _ hf => ?_⟩
  rw [hst] at hf ⊢
  clear hf
  obtain ⟨s0, hs⟩ := stand_cons hs
  have hF : formO l i = (2, [], i + 1, 5) := by unfold formO; simp only [sees_is s0]; rfl
  have f : T l (.opnd i) (.ok [.tm (mk 2 (posAt l i) []).1 (mk 2 (posAt l i) []).2] (i + 1)) := by
    have q := T.opnd (l := l) (i := i) (r := .ok [] (i + 1)) (by rw [hF]; exact T.nil)
    rw [hF] at q
    exact q
  refine ⟨(mk 2 (posAt l i) []).1, (mk 2 (posAt l i) []).2, by
    show (Tm.eqH _ _ && true) = true
    rw [eqc (by rw [hq]; rfl) (fun e => absurd e (by rw [hq]; decide)) (fun e => absurd e (by rw [hq]; decide)) (fun e => absurd e (by rw [hq]; decide)) (fun e => absurd e (by rw [hq]; decide)) (fun e => absurd e (by rw [hq]; decide)) (by rw [hq]; rfl)]
    rfl, formT_is s0 (.inl (by decide)) (.inr (by decide)), ?_⟩
  exact opnd_part f (by rw [hF]; rfl)
theorem own_3r {l : List W4} (h : Hd)  (hq : h.kind = 3) : Own l h .nil := by
  intro i hs
  have hst : st h = 5 := by unfold st; rw [hq]; rfl
  have hw : wkT h .nil = ([(3, kFalse)] : List Wk) := by unfold wkT ownK; rw [hq]; simp
  rw [hw] at hs ⊢
  have hj : i + ([(3, kFalse)] : List Wk).length = i + 1 := rfl
  rw [hj]
  refine ⟨fun e => absurd (hst.symm.trans e) (by decide), fun _ hf => ?_⟩
  rw [hst] at hf ⊢
  clear hf
  obtain ⟨s0, hs⟩ := stand_cons hs
  have hF : formO l i = (3, [], i + 1, 5) := by unfold formO; simp only [sees_is s0]; rfl
  have f : T l (.opnd i) (.ok [.tm (mk 3 (posAt l i) []).1 (mk 3 (posAt l i) []).2] (i + 1)) := by
    have q := T.opnd (l := l) (i := i) (r := .ok [] (i + 1)) (by rw [hF]; exact T.nil)
    rw [hF] at q
    exact q
  refine ⟨(mk 3 (posAt l i) []).1, (mk 3 (posAt l i) []).2, by
    show (Tm.eqH _ _ && true) = true
    rw [eqc (by rw [hq]; rfl) (fun e => absurd e (by rw [hq]; decide)) (fun e => absurd e (by rw [hq]; decide)) (fun e => absurd e (by rw [hq]; decide)) (fun e => absurd e (by rw [hq]; decide)) (fun e => absurd e (by rw [hq]; decide)) (by rw [hq]; rfl)]
    rfl, formT_is s0 (.inl (by decide)) (.inr (by decide)), ?_⟩
  exact opnd_part f (by rw [hF]; rfl)
theorem own_9r {l : List W4} (h : Hd) (h0 : Hd) (k0 : Tm) (h1 : Hd) (k1 : Tm) (hq : h.kind = 9) (o0 : Own l h0 k0) (o1 : Own l h1 k1) : Own l h (.node h0 k0 (.node h1 k1 .nil)) := by
  intro i hs
  have hst : st h = 5 := by unfold st; rw [hq]; rfl
  have hw : wkT h (.node h0 k0 (.node h1 k1 .nil)) = ([(4, [91])] ++ (wkS (-1) h0 k0 ++ ([(4, [44])] ++ (wkS (-1) h1 k1 ++ ([(4, [93])])))) : List Wk) := by unfold wkT ownK; rw [hq]; simp [kidsK, kidK, wkS, wkT]
  rw [hw] at hs ⊢
  simp only [List.cons_append, List.nil_append] at hs
  have hj : i + ([(4, [91])] ++ (wkS (-1) h0 k0 ++ ([(4, [44])] ++ (wkS (-1) h1 k1 ++ ([(4, [93])])))) : List Wk).length = i + 1 + (wkS (-1) h0 k0).length + 1 + (wkS (-1) h1 k1).length + 1 := by simp only [List.length_append, List.length_cons, List.length_nil]; omega
  rw [hj]
  refine ⟨fun e => absurd (hst.symm.trans e) (by decide), fun _ hf => ?_⟩
  rw [hst] at hf ⊢
  clear hf
  obtain ⟨s0, hs⟩ := stand_cons hs
  have hk1 := hs.left
  have hs := hs.right
  obtain ⟨s2, hs⟩ := stand_cons hs
  have hk3 := hs.left
  have hs := hs.right
  obtain ⟨s4, hs⟩ := stand_cons hs
  obtain ⟨g1, u1, al1, T1⟩ := o0.tm hk1 (Shut.sig s2 (by simp))
  obtain ⟨g3, u3, al3, T3⟩ := o1.tm hk3 (Shut.sig s4 (by simp))
  have hF : formO l i = (9, [.tm, .w 4 [44], .tm, .w 4 [93]], i + 1, 5) := by unfold formO; simp only [sees_is s0]; rfl
  have f : T l (.opnd i) (.ok [.tm (mk 9 (posAt l i) [.tm g1 u1, .tm g3 u3]).1 (mk 9 (posAt l i) [.tm g1 u1, .tm g3 u3]).2] (i + 1 + (wkS (-1) h0 k0).length + 1 + (wkS (-1) h1 k1).length + 1)) := by
    have q := T.opnd (l := l) (i := i) (r := .ok [.tm g1 u1, .tm g3 u3] (i + 1 + (wkS (-1) h0 k0).length + 1 + (wkS (-1) h1 k1).length + 1)) (by rw [hF]; exact (T.tm T1 (T.word s2 (T.tm T3 (T.word s4 T.nil)))))
    rw [hF] at q
    exact q
  refine ⟨(mk 9 (posAt l i) [.tm g1 u1, .tm g3 u3]).1, (mk 9 (posAt l i) [.tm g1 u1, .tm g3 u3]).2, by
    show (Tm.eqH _ _ && (Tm.alT h0 k0 g1 u1 && (Tm.alT h1 k1 g3 u3 && true))) = true
    rw [eqc (by rw [hq]; rfl) (fun e => absurd e (by rw [hq]; decide)) (fun e => absurd e (by rw [hq]; decide)) (fun e => absurd e (by rw [hq]; decide)) (fun e => absurd e (by rw [hq]; decide)) (fun e => absurd e (by rw [hq]; decide)) (by rw [hq]; rfl), al1, al3]
    rfl, formT_is s0 (.inr (by decide)) (.inl (by decide)), ?_⟩
  exact opnd_part f (by rw [hF]; rfl)
theorem own_10r {l : List W4} (h : Hd) (h0 : Hd) (k0 : Tm) (hq : h.kind = 10) (o0 : Own l h0 k0) : Own l h (.node h0 k0 .nil) := by
  intro i hs
  have hst : st h = 4 := by unfold st; rw [hq]; rfl
  have hw : wkT h (.node h0 k0 .nil) = ([(3, kFst)] ++ (wkS 4 h0 k0) : List Wk) := by unfold wkT ownK; rw [hq]; simp [kidsK, kidK, wkS, wkT]
  rw [hw] at hs ⊢
  simp only [List.cons_append, List.nil_append] at hs
  have hj : i + ([(3, kFst)] ++ (wkS 4 h0 k0) : List Wk).length = i + 1 + (wkS 4 h0 k0).length := by simp only [List.length_append, List.length_cons, List.length_nil]; omega
  rw [hj]
  refine ⟨fun e => absurd (hst.symm.trans e) (by decide), fun _ hf => ?_⟩
  rw [hst] at hf ⊢
  obtain ⟨s0, hs⟩ := stand_cons hs
  have hk1 := hs
  obtain ⟨g1, u1, al1, T1⟩ := (o0.at 4 (by decide) hk1 (Fol.mono hf (cs_le 4 h0 (by decide)))).part (q := 4) (cs_le 4 h0 (by decide)) (Fol.stop hf (.inr ⟨rfl, Nat.le_refl _⟩))
  have hF : formO l i = (10, [.pt 4], i + 1, 4) := by unfold formO; simp only [sees_is s0]; rfl
  have f : T l (.opnd i) (.ok [.tm (mk 10 (posAt l i) [.tm g1 u1]).1 (mk 10 (posAt l i) [.tm g1 u1]).2] (i + 1 + (wkS 4 h0 k0).length)) := by
    have q := T.opnd (l := l) (i := i) (r := .ok [.tm g1 u1] (i + 1 + (wkS 4 h0 k0).length)) (by rw [hF]; exact (T.pt T1 T.nil))
    rw [hF] at q
    exact q
  refine ⟨(mk 10 (posAt l i) [.tm g1 u1]).1, (mk 10 (posAt l i) [.tm g1 u1]).2, by
    show (Tm.eqH _ _ && (Tm.alT h0 k0 g1 u1 && true)) = true
    rw [eqc (by rw [hq]; rfl) (fun e => absurd e (by rw [hq]; decide)) (fun e => absurd e (by rw [hq]; decide)) (fun e => absurd e (by rw [hq]; decide)) (fun e => absurd e (by rw [hq]; decide)) (fun e => absurd e (by rw [hq]; decide)) (by rw [hq]; rfl), al1]
    rfl, formT_is s0 (.inl (by decide)) (.inr (by decide)), ?_⟩
  exact opnd_part f (by rw [hF]; rfl)
theorem own_11r {l : List W4} (h : Hd) (h0 : Hd) (k0 : Tm) (hq : h.kind = 11) (o0 : Own l h0 k0) : Own l h (.node h0 k0 .nil) := by
  intro i hs
  have hst : st h = 4 := by unfold st; rw [hq]; rfl
  have hw : wkT h (.node h0 k0 .nil) = ([(3, kSnd)] ++ (wkS 4 h0 k0) : List Wk) := by unfold wkT ownK; rw [hq]; simp [kidsK, kidK, wkS, wkT]
  rw [hw] at hs ⊢
  simp only [List.cons_append, List.nil_append] at hs
  have hj : i + ([(3, kSnd)] ++ (wkS 4 h0 k0) : List Wk).length = i + 1 + (wkS 4 h0 k0).length := by simp only [List.length_append, List.length_cons, List.length_nil]; omega
  rw [hj]
  refine ⟨fun e => absurd (hst.symm.trans e) (by decide), fun _ hf => ?_⟩
  rw [hst] at hf ⊢
  obtain ⟨s0, hs⟩ := stand_cons hs
  have hk1 := hs
  obtain ⟨g1, u1, al1, T1⟩ := (o0.at 4 (by decide) hk1 (Fol.mono hf (cs_le 4 h0 (by decide)))).part (q := 4) (cs_le 4 h0 (by decide)) (Fol.stop hf (.inr ⟨rfl, Nat.le_refl _⟩))
  have hF : formO l i = (11, [.pt 4], i + 1, 4) := by unfold formO; simp only [sees_is s0]; rfl
  have f : T l (.opnd i) (.ok [.tm (mk 11 (posAt l i) [.tm g1 u1]).1 (mk 11 (posAt l i) [.tm g1 u1]).2] (i + 1 + (wkS 4 h0 k0).length)) := by
    have q := T.opnd (l := l) (i := i) (r := .ok [.tm g1 u1] (i + 1 + (wkS 4 h0 k0).length)) (by rw [hF]; exact (T.pt T1 T.nil))
    rw [hF] at q
    exact q
  refine ⟨(mk 11 (posAt l i) [.tm g1 u1]).1, (mk 11 (posAt l i) [.tm g1 u1]).2, by
    show (Tm.eqH _ _ && (Tm.alT h0 k0 g1 u1 && true)) = true
    rw [eqc (by rw [hq]; rfl) (fun e => absurd e (by rw [hq]; decide)) (fun e => absurd e (by rw [hq]; decide)) (fun e => absurd e (by rw [hq]; decide)) (fun e => absurd e (by rw [hq]; decide)) (fun e => absurd e (by rw [hq]; decide)) (by rw [hq]; rfl), al1]
    rfl, formT_is s0 (.inl (by decide)) (.inr (by decide)), ?_⟩
  exact opnd_part f (by rw [hF]; rfl)
theorem own_12r {l : List W4} (h : Hd) (h0 : Hd) (k0 : Tm) (hq : h.kind = 12) (hT : Ty.chk h.tk h.tkids = 0) (o0 : Own l h0 k0) : Own l h (.node h0 k0 .nil) := by
  intro i hs
  have hst : st h = 4 := by unfold st; rw [hq]; rfl
  have hw : wkT h (.node h0 k0 .nil) = ([(3, kInl), (4, [123])] ++ (wds 1 h.tk h.tkids ++ ([(4, [125])] ++ (wkS 4 h0 k0))) : List Wk) := by unfold wkT ownK; rw [hq]; simp [kidsK, kidK, wkS, wkT]
  rw [hw] at hs ⊢
  simp only [List.cons_append, List.nil_append] at hs
  have hj : i + ([(3, kInl), (4, [123])] ++ (wds 1 h.tk h.tkids ++ ([(4, [125])] ++ (wkS 4 h0 k0))) : List Wk).length = i + 1 + 1 + (wds 1 h.tk h.tkids).length + 1 + (wkS 4 h0 k0).length := by simp only [List.length_append, List.length_cons, List.length_nil]; omega
  rw [hj]
  refine ⟨fun e => absurd (hst.symm.trans e) (by decide), fun _ hf => ?_⟩
  rw [hst] at hf ⊢
  obtain ⟨s0, hs⟩ := stand_cons hs
  obtain ⟨s1, hs⟩ := stand_cons hs
  have ht2 := hs.left
  have hs := hs.right
  obtain ⟨s3, hs⟩ := stand_cons hs
  have hk4 := hs
  obtain ⟨y2, ys2, yo2⟩ := ty_at hT ht2 (opK_sig s3 (by simp))
  obtain ⟨g4, u4, al4, T4⟩ := (o0.at 4 (by decide) hk4 (Fol.mono hf (cs_le 4 h0 (by decide)))).part (q := 4) (cs_le 4 h0 (by decide)) (Fol.stop hf (.inr ⟨rfl, Nat.le_refl _⟩))
  have hF : formO l i = (12, [.w 4 [123], .ty, .w 4 [125], .pt 4], i + 1, 4) := by unfold formO; simp only [sees_is s0]; rfl
  have f : T l (.opnd i) (.ok [.tm (mk 12 (posAt l i) [.ty h.tk y2, .tm g4 u4]).1 (mk 12 (posAt l i) [.ty h.tk y2, .tm g4 u4]).2] (i + 1 + 1 + (wds 1 h.tk h.tkids).length + 1 + (wkS 4 h0 k0).length)) := by
    have q := T.opnd (l := l) (i := i) (r := .ok [.ty h.tk y2, .tm g4 u4] (i + 1 + 1 + (wds 1 h.tk h.tkids).length + 1 + (wkS 4 h0 k0).length)) (by rw [hF]; exact (T.word s1 (T.ty yo2 (T.word s3 (T.pt T4 T.nil)))))
    rw [hF] at q
    exact q
  refine ⟨(mk 12 (posAt l i) [.ty h.tk y2, .tm g4 u4]).1, (mk 12 (posAt l i) [.ty h.tk y2, .tm g4 u4]).2, by
    show (Tm.eqH _ _ && (Tm.alT h0 k0 g4 u4 && true)) = true
    rw [eqc (by rw [hq]; rfl) (fun e => absurd e (by rw [hq]; decide)) (fun e => absurd e (by rw [hq]; decide)) (fun e => absurd e (by rw [hq]; decide)) (fun _ => ys2) (fun e => absurd e (by rw [hq]; decide)) (by rw [hq]; rfl), al4]
    rfl, formT_is s0 (.inl (by decide)) (.inr (by decide)), ?_⟩
  exact opnd_part f (by rw [hF]; rfl)
theorem own_13r {l : List W4} (h : Hd) (h0 : Hd) (k0 : Tm) (hq : h.kind = 13) (hT : Ty.chk h.tk h.tkids = 0) (o0 : Own l h0 k0) : Own l h (.node h0 k0 .nil) := by
  intro i hs
  have hst : st h = 4 := by unfold st; rw [hq]; rfl
  have hw : wkT h (.node h0 k0 .nil) = ([(3, kInr), (4, [123])] ++ (wds 1 h.tk h.tkids ++ ([(4, [125])] ++ (wkS 4 h0 k0))) : List Wk) := by unfold wkT ownK; rw [hq]; simp [kidsK, kidK, wkS, wkT]
  rw [hw] at hs ⊢
  simp only [List.cons_append, List.nil_append] at hs
  have hj : i + ([(3, kInr), (4, [123])] ++ (wds 1 h.tk h.tkids ++ ([(4, [125])] ++ (wkS 4 h0 k0))) : List Wk).length = i + 1 + 1 + (wds 1 h.tk h.tkids).length + 1 + (wkS 4 h0 k0).length := by simp only [List.length_append, List.length_cons, List.length_nil]; omega
  rw [hj]
  refine ⟨fun e => absurd (hst.symm.trans e) (by decide), fun _ hf => ?_⟩
  rw [hst] at hf ⊢
  obtain ⟨s0, hs⟩ := stand_cons hs
  obtain ⟨s1, hs⟩ := stand_cons hs
  have ht2 := hs.left
  have hs := hs.right
  obtain ⟨s3, hs⟩ := stand_cons hs
  have hk4 := hs
  obtain ⟨y2, ys2, yo2⟩ := ty_at hT ht2 (opK_sig s3 (by simp))
  obtain ⟨g4, u4, al4, T4⟩ := (o0.at 4 (by decide) hk4 (Fol.mono hf (cs_le 4 h0 (by decide)))).part (q := 4) (cs_le 4 h0 (by decide)) (Fol.stop hf (.inr ⟨rfl, Nat.le_refl _⟩))
  have hF : formO l i = (13, [.w 4 [123], .ty, .w 4 [125], .pt 4], i + 1, 4) := by unfold formO; simp only [sees_is s0]; rfl
  have f : T l (.opnd i) (.ok [.tm (mk 13 (posAt l i) [.ty h.tk y2, .tm g4 u4]).1 (mk 13 (posAt l i) [.ty h.tk y2, .tm g4 u4]).2] (i + 1 + 1 + (wds 1 h.tk h.tkids).length + 1 + (wkS 4 h0 k0).length)) := by
    have q := T.opnd (l := l) (i := i) (r := .ok [.ty h.tk y2, .tm g4 u4] (i + 1 + 1 + (wds 1 h.tk h.tkids).length + 1 + (wkS 4 h0 k0).length)) (by rw [hF]; exact (T.word s1 (T.ty yo2 (T.word s3 (T.pt T4 T.nil)))))
    rw [hF] at q
    exact q
  refine ⟨(mk 13 (posAt l i) [.ty h.tk y2, .tm g4 u4]).1, (mk 13 (posAt l i) [.ty h.tk y2, .tm g4 u4]).2, by
    show (Tm.eqH _ _ && (Tm.alT h0 k0 g4 u4 && true)) = true
    rw [eqc (by rw [hq]; rfl) (fun e => absurd e (by rw [hq]; decide)) (fun e => absurd e (by rw [hq]; decide)) (fun e => absurd e (by rw [hq]; decide)) (fun _ => ys2) (fun e => absurd e (by rw [hq]; decide)) (by rw [hq]; rfl), al4]
    rfl, formT_is s0 (.inl (by decide)) (.inr (by decide)), ?_⟩
  exact opnd_part f (by rw [hF]; rfl)
theorem own_1r {l : List W4} (hN : NumOk l) (h : Hd) (hq : h.kind = 1) (hb : -9223372036854775808 < h.num ∧ h.num ≤ 9223372036854775807) : Own l h .nil := by
  intro i hs
  by_cases h0 : h.num < 0
  · have hst : st h = 4 := by unfold st; rw [hq, if_neg (by decide), if_neg (by decide), if_neg (by decide), if_neg (by decide), if_pos ⟨rfl, h0⟩]
    have hw : wkT h .nil = ([(4, [45]), (2, Lib.decDigits h.num.natAbs)] : List Wk) := by unfold wkT ownK numK; rw [hq]; simp [h0]
    rw [hw] at hs ⊢
    have hj : i + ([(4, [45]), (2, Lib.decDigits h.num.natAbs)] : List Wk).length = i + 1 + 1 := rfl
    rw [hj]
    refine ⟨fun e => absurd (hst.symm.trans e) (by decide), fun _ _ => ?_⟩
    rw [hst]
    obtain ⟨s0, hs⟩ := stand_cons hs
    obtain ⟨s1, -⟩ := stand_cons hs
    obtain ⟨x, hx, xk, xt⟩ := sees_word s1
    have xn := hN _ x h.num.natAbs hx xk xt (by omega)
    have hF : formO l i = (101, [.nu], i + 1, 4) := by unfold formO; simp only [sees_is s0]; rfl
    have f : T l (.opnd i) (.ok [.tm (mk 101 (posAt l i) [.nu x.num]).1 (mk 101 (posAt l i) [.nu x.num]).2] (i + 1 + 1)) := by
      have q := T.opnd (l := l) (i := i) (r := .ok [.nu x.num] (i + 1 + 1)) (by rw [hF]; exact T.nu hx xk .nil)
      rw [hF] at q
      exact q
    refine ⟨(mk 101 (posAt l i) [.nu x.num]).1, (mk 101 (posAt l i) [.nu x.num]).2, ?_, formT_is s0 (.inr (by decide)) (.inl (by decide)), opnd_part f (by rw [hF]; rfl)⟩
    show (Tm.eqH _ _ && true) = true
    rw [eqc (by rw [hq]; rfl) (fun e => absurd e (by rw [hq]; decide)) (fun e => absurd e (by rw [hq]; decide)) (fun _ => by show h.num = -x.num; rw [xn]; omega) (fun e => absurd e (by rw [hq]; decide)) (fun e => absurd e (by rw [hq]; decide)) (by rw [hq]; rfl)]
    rfl
  · have hst : st h = 5 := by unfold st; rw [hq, if_neg (by decide), if_neg (by decide), if_neg (by decide), if_neg (by decide), if_neg (fun e => h0 e.2)]
    have hw : wkT h .nil = ([(2, Lib.decDigits h.num.toNat)] : List Wk) := by unfold wkT ownK numK; rw [hq]; simp [h0]
    rw [hw] at hs ⊢
    have hj : i + ([(2, Lib.decDigits h.num.toNat)] : List Wk).length = i + 1 := rfl
    rw [hj]
    refine ⟨fun e => absurd (hst.symm.trans e) (by decide), fun _ _ => ?_⟩
    rw [hst]
    obtain ⟨s0, -⟩ := stand_cons hs
    obtain ⟨x, hx, xk, xt⟩ := sees_word s0
    have xn := hN _ x h.num.toNat hx xk xt (by omega)
    have hF : formO l i = (1, [.nu], i, 5) := by unfold formO; simp [sees_is s0, hx, xk]
    have f : T l (.opnd i) (.ok [.tm (mk 1 (posAt l i) [.nu x.num]).1 (mk 1 (posAt l i) [.nu x.num]).2] (i + 1)) := by
      have q := T.opnd (l := l) (i := i) (r := .ok [.nu x.num] (i + 1)) (by rw [hF]; exact T.nu hx xk .nil)
      rw [hF] at q
      exact q
    refine ⟨(mk 1 (posAt l i) [.nu x.num]).1, (mk 1 (posAt l i) [.nu x.num]).2, ?_, formT_is s0 (.inl (by show (2 : Int) ≠ 4; decide)) (.inl (by show (2 : Int) ≠ 3; decide)), opnd_part f (by rw [hF]; rfl)⟩
    show (Tm.eqH _ _ && true) = true
    rw [eqc (by rw [hq]; rfl) (fun e => absurd e (by rw [hq]; decide)) (fun e => absurd e (by rw [hq]; decide)) (fun _ => by show h.num = x.num; rw [xn]; omega) (fun e => absurd e (by rw [hq]; decide)) (fun e => absurd e (by rw [hq]; decide)) (by rw [hq]; rfl)]
    rfl
end Sh
end Go.Proofs.YtocehfklacjgbaaGreatDoor
namespace Go.Proofs.YtocehfklacjgbaaGreatDoor
namespace Sh
open Rd Tt
theorem fol_at {l : List W4} {j c s lf : Nat} {k : Int} {its : List It} {t : List UInt8} (h : sees l j 4 t = true) (e : opr l j = some (k, s, lf, its)) (hc : lf ≤ c) (ht : t ≠ sArrow) : Fol l j c :=
  ⟨fun k' s' lf' its' e' => by rw [e] at e'; injection e' with e'; injection e' with _ e'; injection e' with _ e'; injection e' with e' _; omega, by rw [sees_is h]; simp [ht]⟩
theorem text_at {l : List W4} {j : Nat} {k : Int} {t : List UInt8} (h : sees l j k t = true) : (textAt l j).toList = t := by
  obtain ⟨x, hx, -, xt⟩ := sees_word h
  unfold textAt
  rw [hx]
  exact xt
theorem own_6r {l : List W4} (h : Hd) (h0 : Hd) (k0 : Tm) (h1 : Hd) (k1 : Tm) (hq : h.kind = 6) (o0 : Own l h0 k0) (o1 : Own l h1 k1) : Own l h (.node h0 k0 (.node h1 k1 .nil)) := by
  intro i hs
  have hst : st h = 5 := by unfold st; rw [hq]; rfl
  have hw : wkT h (.node h0 k0 (.node h1 k1 .nil)) = (wkS 5 h0 k0 ++ ([(4, [40])] ++ (wkS (-1) h1 k1 ++ [(4, [41])])) : List Wk) := by unfold wkT ownK; rw [hq]; simp [kidsK, kidK, wkS, wkT]
  rw [hw] at hs ⊢
  have hj : i + (wkS 5 h0 k0 ++ ([(4, [40])] ++ (wkS (-1) h1 k1 ++ [(4, [41])])) : List Wk).length = i + (wkS 5 h0 k0).length + 1 + (wkS (-1) h1 k1).length + 1 := by simp only [List.length_append, List.length_cons, List.length_nil]; omega
  rw [hj]
  refine ⟨fun e => absurd (hst.symm.trans e) (by decide), fun _ _ => ?_⟩
  rw [hst]
  have hk0 := hs.left
  have hs := hs.right
  simp only [List.cons_append, List.nil_append] at hs
  obtain ⟨s1, hs⟩ := stand_cons hs
  have hk2 := hs.left
  have hs := hs.right
  obtain ⟨s3, -⟩ := stand_cons hs
  have e : opr l (i + (wkS 5 h0 k0).length) = some (6, 5, 5, [.tm, sg 41]) := by rw [opr_sig s1]; rfl
  obtain ⟨g0, u0, al0, A2, A3⟩ := o0.at 5 (by decide) hk0 (fol_at s1 e (cs_le 5 h0 (by decide)) (by decide))
  obtain ⟨g2, u2, al2, T2⟩ := o1.tm hk2 (Shut.sig s3 (by simp))
  refine ⟨(mkO 6 (posAt l (i + (wkS 5 h0 k0).length)) (textAt l (i + (wkS 5 h0 k0).length)) g0 u0 [.tm g2 u2]).1, (mkO 6 (posAt l (i + (wkS 5 h0 k0).length)) (textAt l (i + (wkS 5 h0 k0).length)) g0 u0 [.tm g2 u2]).2, ?_, A2, fun q r hq2 hr => ?_⟩
  · show (Tm.eqH _ _ && (Tm.alT h0 k0 g0 u0 && (Tm.alT h1 k1 g2 u2 && true))) = true
    rw [eqc (by rw [hq]; rfl) (fun e => absurd e (by rw [hq]; decide)) (fun e => absurd e (by rw [hq]; decide)) (fun e => absurd e (by rw [hq]; decide)) (fun e => absurd e (by rw [hq]; decide)) (fun e => absurd e (by rw [hq]; decide)) (by rw [hq]; rfl), al0, al2]
    rfl
  · exact A3 q r (Nat.le_trans hq2 (cs_le 5 h0 (by decide))) (T.go e hq2 (cs_le 5 h0 (by decide)) (T.tm T2 (T.word s3 .nil)) hr)
theorem own_15r {l : List W4} (h : Hd) (h0 : Hd) (k0 : Tm) (h1 : Hd) (k1 : Tm) (hq : h.kind = 15) (t : List UInt8) (s lf rq : Nat) (hnm : h.name.toList = t) (hop : opS h.name = ((s : Int), (lf : Int), (rq : Int))) (hta : t ≠ sArrow)
    (hopr : ∀ j, sees l j 4 t = true → opr l j = some (15, s, lf, [.pt rq])) (hn1 : s < rq) (hn2 : s ≤ lf) (hn3 : lf ≤ 5) (hn4 : rq ≤ 5) (o0 : Own l h0 k0) (o1 : Own l h1 k1) : Own l h (.node h0 k0 (.node h1 k1 .nil)) := by
  intro i hs
  have hst : st h = s := by unfold st; rw [hq, if_neg (by decide), if_neg (by decide), if_pos rfl, hop]
  have hw : wkT h (.node h0 k0 (.node h1 k1 .nil)) = (wkS lf h0 k0 ++ ([(4, t)] ++ wkS rq h1 k1) : List Wk) := by unfold wkT ownK; rw [hq, hop, ← hnm]; simp [kidsK, kidK, wkS, wkT, Lib.toList_data]
  rw [hw] at hs ⊢
  have hj : i + (wkS lf h0 k0 ++ ([(4, t)] ++ wkS rq h1 k1) : List Wk).length = i + (wkS lf h0 k0).length + 1 + (wkS rq h1 k1).length := by simp only [List.length_append, List.length_cons, List.length_nil]; omega
  rw [hj]
  refine ⟨fun e => absurd (hst.symm.trans e) (by omega), fun _ hf => ?_⟩
  rw [hst] at hf ⊢
  simp only [Int.toNat_natCast] at hf ⊢
  have hk0 := hs.left
  have hs := hs.right
  simp only [List.cons_append, List.nil_append] at hs
  obtain ⟨s1, hs⟩ := stand_cons hs
  have e := hopr _ s1
  have c0 := cs_le lf h0 (by omega)
  have c1 := cs_le rq h1 (by omega)
  simp only [Int.toNat_natCast] at c0 c1
  obtain ⟨g0, u0, al0, A2, A3⟩ := o0.at lf (by omega) hk0 (fol_at s1 e c0 hta)
  obtain ⟨g2, u2, al2, T2⟩ := (o1.at rq (by omega) hs (Fol.mono hf (by omega))).part (q := rq) c1 (Fol.stop hf (.inl hn1))
  refine ⟨(mkO 15 (posAt l (i + (wkS lf h0 k0).length)) (textAt l (i + (wkS lf h0 k0).length)) g0 u0 [.tm g2 u2]).1, (mkO 15 (posAt l (i + (wkS lf h0 k0).length)) (textAt l (i + (wkS lf h0 k0).length)) g0 u0 [.tm g2 u2]).2, ?_, A2, fun q r hq2 hr => ?_⟩
  · show (Tm.eqH _ _ && (Tm.alT h0 k0 g0 u0 && (Tm.alT h1 k1 g2 u2 && true))) = true
    rw [eqc (by rw [hq]; rfl) (fun _ => hnm.trans (text_at s1).symm) (fun e => absurd e (by rw [hq]; decide)) (fun e => absurd e (by rw [hq]; decide)) (fun e => absurd e (by rw [hq]; decide)) (fun e => absurd e (by rw [hq]; decide)) (by rw [hq]; rfl), al0, al2]
    rfl
  · exact A3 q r (by omega) (T.go e hq2 c0 (T.pt T2 .nil) hr)
theorem own_16r {l : List W4} (h : Hd) (h0 : Hd) (k0 : Tm) (hq : h.kind = 16) (hT : Ty.chk h.tk h.tkids = 0) (o0 : Own l h0 k0) : Own l h (.node h0 k0 .nil) := by
  intro i hs
  have hst : st h = 0 := by unfold st; rw [hq]; rfl
  have hw : wkT h (.node h0 k0 .nil) = (wkS 0 h0 k0 ++ ([(4, [58])] ++ wds 1 h.tk h.tkids) : List Wk) := by unfold wkT ownK; rw [hq]; simp [kidsK, kidK, wkS, wkT]
  rw [hw] at hs ⊢
  have hj : i + (wkS 0 h0 k0 ++ ([(4, [58])] ++ wds 1 h.tk h.tkids) : List Wk).length = i + (wkS 0 h0 k0).length + 1 + (wds 1 h.tk h.tkids).length := by simp only [List.length_append, List.length_cons, List.length_nil]; omega
  rw [hj]
  refine ⟨fun e => absurd (hst.symm.trans e) (by decide), fun _ hf => ?_⟩
  rw [hst] at hf ⊢
  have hk0 := hs.left
  have hs := hs.right
  simp only [List.cons_append, List.nil_append] at hs
  obtain ⟨s1, hs⟩ := stand_cons hs
  have e : opr l (i + (wkS 0 h0 k0).length) = some (16, 0, 0, [.ty]) := by rw [opr_sig s1]; rfl
  obtain ⟨g0, u0, al0, A2, A3⟩ := o0.at 0 (by decide) hk0 (fol_at s1 e (Nat.zero_le _) (by decide))
  obtain ⟨y, ys, yo⟩ := ty_at hT hs (opK_fol hf)
  refine ⟨(mkO 16 (posAt l (i + (wkS 0 h0 k0).length)) (textAt l (i + (wkS 0 h0 k0).length)) g0 u0 [.ty h.tk y]).1, (mkO 16 (posAt l (i + (wkS 0 h0 k0).length)) (textAt l (i + (wkS 0 h0 k0).length)) g0 u0 [.ty h.tk y]).2, ?_, A2, fun q r hq2 hr => ?_⟩
  · show (Tm.eqH _ _ && (Tm.alT h0 k0 g0 u0 && true)) = true
    rw [eqc (by rw [hq]; rfl) (fun e => absurd e (by rw [hq]; decide)) (fun e => absurd e (by rw [hq]; decide)) (fun e => absurd e (by rw [hq]; decide)) (fun _ => ys) (fun e => absurd e (by rw [hq]; decide)) (by rw [hq]; rfl), al0]
    rfl
  · exact A3 q r (Nat.le_trans hq2 (Nat.zero_le _)) (T.go e hq2 (Nat.zero_le _) (T.ty yo .nil) hr)
theorem kids_shape {kids : Tm} {n : Nat} (h : Tm.len kids = n) : (n = 0 → kids = .nil) ∧ (n = 1 → ∃ h0 k0, kids = .node h0 k0 .nil) ∧ (n = 2 → ∃ h0 k0 h1 k1, kids = .node h0 k0 (.node h1 k1 .nil)) ∧ (n = 3 → ∃ h0 k0 h1 k1 h2 k2, kids = .node h0 k0 (.node h1 k1 (.node h2 k2 .nil))) := by
  match kids, h with
  | .nil, h => simp only [Tm.len] at h; exact ⟨fun _ => rfl, fun e => by omega, fun e => by omega, fun e => by omega⟩
  | .node h0 k0 .nil, h => simp only [Tm.len] at h; exact ⟨fun e => by omega, fun _ => ⟨_, _, rfl⟩, fun e => by omega, fun e => by omega⟩
  | .node h0 k0 (.node h1 k1 .nil), h => simp only [Tm.len] at h; exact ⟨fun e => by omega, fun e => by omega, fun _ => ⟨_, _, _, _, rfl⟩, fun e => by omega⟩
  | .node h0 k0 (.node h1 k1 (.node h2 k2 .nil)), h => simp only [Tm.len] at h; exact ⟨fun e => by omega, fun e => by omega, fun e => by omega, fun _ => ⟨_, _, _, _, _, _, rfl⟩⟩
  | .node _ _ (.node _ _ (.node _ _ (.node _ _ _))), h => simp only [Tm.len] at h; exact ⟨fun e => by omega, fun e => by omega, fun e => by omega, fun e => by omega⟩
/-- any right term's own words are read as it -/
theorem own_all {l : List W4} (hN : NumOk l) : ∀ (K : Nat) (h : Hd) (kids : Tm), Tm.nodes kids < K → Good h kids → Own l h kids
  | 0, _, _, h, _ => absurd h (by omega)
  | K + 1, h, kids, hK, g => by
    obtain ⟨hk, hl, hT, hU, hB⟩ := g.head
    have gk := g.kids
    obtain ⟨z0, z1, z2, z3⟩ := kids_shape hl
    have hcase : h.kind = 0 ∨ h.kind = 1 ∨ h.kind = 2 ∨ h.kind = 3 ∨ h.kind = 4 ∨ h.kind = 5 ∨ h.kind = 6 ∨ h.kind = 7 ∨ h.kind = 8 ∨ h.kind = 9 ∨ h.kind = 10 ∨ h.kind = 11 ∨ h.kind = 12 ∨ h.kind = 13 ∨ h.kind = 14 ∨ h.kind = 15 ∨ h.kind = 16 := by omega
    rcases hcase with hq | hq | hq | hq | hq | hq | hq | hq | hq | hq | hq | hq | hq | hq | hq | hq | hq
    · rw [hq] at z0
      obtain rfl := z0 (by decide)
      exact own_0r h hq
    · rw [hq] at z0
      obtain rfl := z0 (by decide)
      exact own_1r hN h hq (hB hq)
    · rw [hq] at z0
      obtain rfl := z0 (by decide)
      exact own_2r h hq
    · rw [hq] at z0
      obtain rfl := z0 (by decide)
      exact own_3r h hq
    · rw [hq] at z1
      obtain ⟨h0, k0, rfl⟩ := z1 (by decide)
      simp only [Tm.nodes] at hK
      have o0 := own_all hN K h0 k0 (by omega) gk.node.1
      exact own_4r h h0 k0 hq (hT (by rw [hq]; decide)) o0
    · rw [hq] at z1
      obtain ⟨h0, k0, rfl⟩ := z1 (by decide)
      simp only [Tm.nodes] at hK
      have o0 := own_all hN K h0 k0 (by omega) gk.node.1
      exact own_5r h h0 k0 hq (hT (by rw [hq]; decide)) (hU (by rw [hq]; decide)) o0
    · rw [hq] at z2
      obtain ⟨h0, k0, h1, k1, rfl⟩ := z2 (by decide)
      simp only [Tm.nodes] at hK
      have o0 := own_all hN K h0 k0 (by omega) gk.node.1
      have o1 := own_all hN K h1 k1 (by omega) gk.node.2.node.1
      exact own_6r h h0 k0 h1 k1 hq o0 o1
    · rw [hq] at z2
      obtain ⟨h0, k0, h1, k1, rfl⟩ := z2 (by decide)
      simp only [Tm.nodes] at hK
      have o0 := own_all hN K h0 k0 (by omega) gk.node.1
      have o1 := own_all hN K h1 k1 (by omega) gk.node.2.node.1
      exact own_7r h h0 k0 h1 k1 hq (hT (by rw [hq]; decide)) o0 o1
    · rw [hq] at z3
      obtain ⟨h0, k0, h1, k1, h2, k2, rfl⟩ := z3 (by decide)
      simp only [Tm.nodes] at hK
      have o0 := own_all hN K h0 k0 (by omega) gk.node.1
      have o1 := own_all hN K h1 k1 (by omega) gk.node.2.node.1
      have o2 := own_all hN K h2 k2 (by omega) gk.node.2.node.2.node.1
      exact own_8r h h0 k0 h1 k1 h2 k2 hq o0 o1 o2
    · rw [hq] at z2
      obtain ⟨h0, k0, h1, k1, rfl⟩ := z2 (by decide)
      simp only [Tm.nodes] at hK
      have o0 := own_all hN K h0 k0 (by omega) gk.node.1
      have o1 := own_all hN K h1 k1 (by omega) gk.node.2.node.1
      exact own_9r h h0 k0 h1 k1 hq o0 o1
    · rw [hq] at z1
      obtain ⟨h0, k0, rfl⟩ := z1 (by decide)
      simp only [Tm.nodes] at hK
      have o0 := own_all hN K h0 k0 (by omega) gk.node.1
      exact own_10r h h0 k0 hq o0
    · rw [hq] at z1
      obtain ⟨h0, k0, rfl⟩ := z1 (by decide)
      simp only [Tm.nodes] at hK
      have o0 := own_all hN K h0 k0 (by omega) gk.node.1
      exact own_11r h h0 k0 hq o0
    · rw [hq] at z1
      obtain ⟨h0, k0, rfl⟩ := z1 (by decide)
      simp only [Tm.nodes] at hK
      have o0 := own_all hN K h0 k0 (by omega) gk.node.1
      exact own_12r h h0 k0 hq (hT (by rw [hq]; decide)) o0
    · rw [hq] at z1
      obtain ⟨h0, k0, rfl⟩ := z1 (by decide)
      simp only [Tm.nodes] at hK
      have o0 := own_all hN K h0 k0 (by omega) gk.node.1
      exact own_13r h h0 k0 hq (hT (by rw [hq]; decide)) o0
    · rw [hq] at z3
      obtain ⟨h0, k0, h1, k1, h2, k2, rfl⟩ := z3 (by decide)
      simp only [Tm.nodes] at hK
      have o0 := own_all hN K h0 k0 (by omega) gk.node.1
      have o1 := own_all hN K h1 k1 (by omega) gk.node.2.node.1
      have o2 := own_all hN K h2 k2 (by omega) gk.node.2.node.2.node.1
      exact own_14r h h0 k0 h1 k1 h2 k2 hq o0 o1 o2
    · rw [hq] at z2
      obtain ⟨h0, k0, h1, k1, rfl⟩ := z2 (by decide)
      simp only [Tm.nodes] at hK
      have o0 := own_all hN K h0 k0 (by omega) gk.node.1
      have o1 := own_all hN K h1 k1 (by omega) gk.node.2.node.1
      have hnm : Tm.nameOk h = true := by
        have h1 := g.ok
        unfold Tm.okT Tm.headOk at h1
        simp only [Bool.and_eq_true] at h1
        exact h1.1.1.1.2
      unfold Tm.nameOk at hnm
      rw [if_pos hq] at hnm
      unfold Tm.isOp at hnm
      simp only [decide_eq_true_eq, List.mem_cons, List.not_mem_nil, or_false] at hnm
      rcases hnm with e | e | e | e | e | e
      · exact own_15r h h0 k0 h1 k1 hq [43] 2 2 3 e (by unfold opS; rw [e]; rfl) (by decide) (fun j hj => by rw [opr_sig hj]; rfl) (by decide) (by decide) (by decide) (by decide) o0 o1
      · exact own_15r h h0 k0 h1 k1 hq [45] 2 2 3 e (by unfold opS; rw [e]; rfl) (by decide) (fun j hj => by rw [opr_sig hj]; rfl) (by decide) (by decide) (by decide) (by decide) o0 o1
      · exact own_15r h h0 k0 h1 k1 hq [42] 3 3 4 e (by unfold opS; rw [e]; rfl) (by decide) (fun j hj => by rw [opr_sig hj]; rfl) (by decide) (by decide) (by decide) (by decide) o0 o1
      · exact own_15r h h0 k0 h1 k1 hq [47] 3 3 4 e (by unfold opS; rw [e]; rfl) (by decide) (fun j hj => by rw [opr_sig hj]; rfl) (by decide) (by decide) (by decide) (by decide) o0 o1
      · exact own_15r h h0 k0 h1 k1 hq [60] 1 2 2 e (by unfold opS; rw [e]; rfl) (by decide) (fun j hj => by rw [opr_sig hj]; rfl) (by decide) (by decide) (by decide) (by decide) o0 o1
      · exact own_15r h h0 k0 h1 k1 hq [61] 1 2 2 e (by unfold opS; rw [e]; rfl) (by decide) (fun j hj => by rw [opr_sig hj]; rfl) (by decide) (by decide) (by decide) (by decide) o0 o1
    · rw [hq] at z1
      obtain ⟨h0, k0, rfl⟩ := z1 (by decide)
      simp only [Tm.nodes] at hK
      have o0 := own_all hN K h0 k0 (by omega) gk.node.1
      exact own_16r h h0 k0 hq (hT (by rw [hq]; decide)) o0
end Sh
end Go.Proofs.YtocehfklacjgbaaGreatDoor
namespace Go.Proofs.YtocehfklacjgbaaGreatDoor
open Go.RowKit

theorem Sc.isName_small {s : ByteArray} (h : Sc.isName s = true) : s.data.toList.length ≤ 64 := by
  unfold Sc.isName at h
  split at h
  · cases h
  · simp only [Bool.and_eq_true, decide_eq_true_eq] at h
    obtain ⟨⟨h1, h2⟩, h3⟩ := h
    have e : s.data.toList.length = s.size := rfl
    unfold Sc.fE at h1
    unfold Sc.fK at h2
    by_cases hl : Sc.lett (Sc.hd s) = true
    · rw [if_pos hl] at h1
      unfold Sc.nameErr at h1
      split at h1 <;> omega
    · rw [if_neg hl] at h2
      split at h2
      · omega
      · split at h2 <;> omega
theorem Tm.isOp_small {s : ByteArray} (h : Tm.isOp s = true) : s.data.toList.length ≤ 64 := by
  rw [Tm.isOp_iff] at h
  rw [Lib.toList_data] at h
  simp only [Bool.or_eq_true, beq_iff_eq] at h
  rcases h with ((((h | h) | h) | h) | h) | h <;> rw [h] <;> decide
namespace Sh
def sumW : List (Int × List Bs) → Nat
  | [] => 0
  | x :: r => tl x.2 + sumW r
theorem atW_tl (k : Int) (x : Int × List Bs) : tl (atW k x) ≤ tl x.2 + 4 := by
  unfold atW
  split
  · omega
  · simp only [tl, tl_app, List.length_cons, List.length_nil]; omega
theorem kid_tl (ks : List (Int × List Bs)) (i : Nat) (k : Int) : tl (kid ks i k) ≤ tl (ks.getD i (0, [])).2 + 4 := atW_tl k _
theorem sum3 : ∀ ks : List (Int × List Bs), tl (ks.getD 0 (0, [])).2 + tl (ks.getD 1 (0, [])).2 + tl (ks.getD 2 (0, [])).2 ≤ sumW ks
  | [] => by simp [tl]
  | [x] => by simp [tl, sumW]
  | [x, y] => by simp [tl, sumW]
  | x :: y :: z :: r => by simp [sumW]; omega
theorem own_tl (h : Hd) (ks : List (Int × List Bs)) (hk : 0 ≤ h.kind ∧ h.kind ≤ 16) (hN : Tm.hasName h.kind = true → h.name.data.toList.length ≤ 64) (hA : Tm.hasArg h.kind = true → h.arg.data.toList.length ≤ 64)
    (hT : Tm.hasType h.kind = true → (tyW h.tk h.tkids).length ≤ 10 * Ty.nod h.tkids) (hU : Tm.hasTo h.kind = true → (tyW h.uk h.ukids).length ≤ 10 * Ty.nod h.ukids) (hM : h.kind = 1 → tl (numW h.num) ≤ 23) : tl (ownW h ks) ≤ 250 + 10 * Tm.tyN h + sumW ks := by
  have k0 := fun k => kid_tl ks 0 k
  have k1 := fun k => kid_tl ks 1 k
  have k2 := fun k => kid_tl ks 2 k
  have s3 := sum3 ks
  have hcase : h.kind = 0 ∨ h.kind = 1 ∨ h.kind = 2 ∨ h.kind = 3 ∨ h.kind = 4 ∨ h.kind = 5 ∨ h.kind = 6 ∨ h.kind = 7 ∨ h.kind = 8 ∨ h.kind = 9 ∨ h.kind = 10 ∨ h.kind = 11 ∨ h.kind = 12 ∨ h.kind = 13 ∨ h.kind = 14 ∨ h.kind = 15 ∨ h.kind = 16 := by omega
  have a0 := k0 (-1); have a1 := k1 (-1); have a2 := k2 (-1)
  have b0 := k0 5; have c0 := k0 4; have d0 := k0 0; have e0 := k0 (opS h.name).2.1; have e1 := k1 (opS h.name).2.2
  clear k0 k1 k2
  unfold ownW Tm.tyN
  rcases hcase with hq | hq | hq | hq | hq | hq | hq | hq | hq | hq | hq | hq | hq | hq | hq | hq | hq
  all_goals
    simp only [hq] at hN hA hT hU hM ⊢
    simp only [show Tm.hasName 0 = true from rfl, show Tm.hasName 1 = false from rfl, show Tm.hasName 2 = false from rfl, show Tm.hasName 3 = false from rfl, show Tm.hasName 4 = true from rfl, show Tm.hasName 5 = true from rfl, show Tm.hasName 6 = false from rfl, show Tm.hasName 7 = true from rfl, show Tm.hasName 8 = false from rfl, show Tm.hasName 9 = false from rfl, show Tm.hasName 10 = false from rfl, show Tm.hasName 11 = false from rfl, show Tm.hasName 12 = false from rfl, show Tm.hasName 13 = false from rfl, show Tm.hasName 14 = true from rfl, show Tm.hasName 15 = true from rfl, show Tm.hasName 16 = false from rfl,
      show Tm.hasArg 0 = false from rfl, show Tm.hasArg 1 = false from rfl, show Tm.hasArg 2 = false from rfl, show Tm.hasArg 3 = false from rfl, show Tm.hasArg 4 = false from rfl, show Tm.hasArg 5 = true from rfl, show Tm.hasArg 6 = false from rfl, show Tm.hasArg 7 = false from rfl, show Tm.hasArg 8 = false from rfl, show Tm.hasArg 9 = false from rfl, show Tm.hasArg 10 = false from rfl, show Tm.hasArg 11 = false from rfl, show Tm.hasArg 12 = false from rfl, show Tm.hasArg 13 = false from rfl, show Tm.hasArg 14 = true from rfl, show Tm.hasArg 15 = false from rfl, show Tm.hasArg 16 = false from rfl,
      show Tm.hasType 4 = true from rfl, show Tm.hasType 5 = true from rfl, show Tm.hasType 7 = true from rfl, show Tm.hasType 12 = true from rfl, show Tm.hasType 13 = true from rfl, show Tm.hasType 16 = true from rfl, show Tm.hasTo 5 = true from rfl, forall_const] at hN hA hT hU ⊢
    simp [tl, tl_app] at *
    omega
theorem own_good {h : Hd} {kids : Tm} (g : Good h kids) (ks : List (Int × List Bs)) : tl (ownW h ks) ≤ 250 + 10 * Tm.tyN h + sumW ks := by
  obtain ⟨hk, hlen, hty, hto, hnum⟩ := g.head
  have hnm : Tm.nameOk h = true := by
    have h1 := g.ok
    unfold Tm.okT Tm.headOk at h1
    simp only [Bool.and_eq_true] at h1
    exact h1.1.1.1.2
  have hty2 : ∀ (k : Int) (f : Fo), Ty.chk k f = 0 → (tyW k f).length ≤ 10 * Ty.nod f := fun k f hc => by
    have h1 := (Ty.chk_ok hc)
    have h2 := Ty.txt_len k f 1
    unfold tyW Ty.nod
    omega
  refine own_tl h ks hk (fun q => ?_) (fun q => ?_) (fun q => hty2 _ _ (hty q)) (fun q => hty2 _ _ (hto q)) (fun q => by have := hnum q; exact numW_tl (by omega) (by omega))
  · unfold Tm.nameOk at hnm
    split at hnm
    · exact Tm.isOp_small hnm
    · simp only [q, Bool.not_true, Bool.false_or, Bool.and_eq_true] at hnm
      exact Sc.isName_small hnm.1
  · unfold Tm.nameOk at hnm
    split at hnm
    · rename_i h15
      rw [h15] at q
      exact absurd q (by decide)
    · simp only [q, Bool.not_true, Bool.false_or, Bool.and_eq_true] at hnm
      exact Sc.isName_small hnm.2
theorem sum_tl : ∀ f : Tm, GoodF f → sumW (kidsW f) ≤ 300 * Tm.nodes f
  | .nil, _ => by simp [kidsW, sumW]
  | .node h kids r, g => by
    have h1 := sum_tl kids g.node.1.kids
    have h2 := sum_tl r g.node.2
    have h3 := own_good g.node.1 (kidsW kids)
    simp only [kidsW, sumW, Tm.nodes]
    omega
theorem own_bound {h : Hd} {kids : Tm} (g : Good h kids) (hc : Tm.nd h kids ≤ 8192) : tl (own h kids) ≤ 3000000 := by
  have h1 := sum_tl kids g.kids
  have h3 := own_good g (kidsW kids)
  have e : Tm.nd h kids = 1 + Tm.tyN h + Tm.nodes kids := rfl
  unfold own
  omega
theorem stand_bound {h : Hd} {kids : Tm} (g : Good h kids) (hc : Tm.nd h kids ≤ 8192) (k : Int) : tl (stand k h kids) ≤ 100000000 := by
  have h1 := own_bound g hc
  have h2 := atW_tl k (st h, own h kids)
  unfold stand
  simp only at h2
  omega
theorem bad_any : ∀ f : Tm, badF f = Tm.anyF badT f
  | .nil => rfl
  | .node h kids r => by simp only [badF, Tm.anyF]; rw [bad_any r]; rfl
end Sh
end Go.Proofs.YtocehfklacjgbaaGreatDoor
namespace Go.Proofs.YtocehfklacjgbaaGreatDoor
open Go.RowKit
namespace Sh
end Sh

end Go.Proofs.YtocehfklacjgbaaGreatDoor
namespace Go.Proofs.YtocehfklacjgbaaGreatDoor
open Go.RowKit

namespace Sh
theorem ite_ne {α : Type} {c : Prop} [Decidable c] {a b : List α} (ha : a ≠ []) (hb : b ≠ []) : (if c then a else b) ≠ [] := by split <;> assumption
theorem ownW_ne (h : Hd) (ks : List (Int × List Bs)) : ownW h ks ≠ [] := by
  unfold ownW numW
  repeat' apply ite_ne
  all_goals simp
theorem own_ne (h : Hd) (kids : Tm) : own h kids ≠ [] := ownW_ne _ _
theorem stand_ne (k : Int) (h : Hd) (kids : Tm) : stand k h kids ≠ [] := by
  unfold stand atW
  split
  · exact own_ne h kids
  · simp
/-- what the document's words say -/
def jn (ws : List Bs) : ByteArray := ⟨(join ws).toArray⟩
theorem jn_app {a b : List Bs} (ha : a ≠ []) (hb : b ≠ []) : jn (a ++ b) = jn a ++ ⟨#[32]⟩ ++ jn b := by
  unfold jn
  rw [join_app a b ha hb]
  apply ByteArray.ext
  simp
theorem jn_one (a : Bs) : jn [a] = ⟨a.toArray⟩ := rfl
theorem jn_cons {a : Bs} {b : List Bs} (hb : b ≠ []) : jn (a :: b) = ⟨a.toArray⟩ ++ ⟨#[32]⟩ ++ jn b := jn_app (a := [a]) (by simp) hb
end Sh

end Go.Proofs.YtocehfklacjgbaaGreatDoor
namespace Go.Proofs.YtocehfklacjgbaaGreatDoor
open Go.RowKit

end Go.Proofs.YtocehfklacjgbaaGreatDoor
namespace Go.Proofs.YtocehfklacjgbaaGreatDoor
open Go.RowKit

end Go.Proofs.YtocehfklacjgbaaGreatDoor
namespace Go.Proofs.YtocehfklacjgbaaGreatDoor
open Go.RowKit

end Go.Proofs.YtocehfklacjgbaaGreatDoor
namespace Go.Proofs.YtocehfklacjgbaaGreatDoor
open Go.RowKit

end Go.Proofs.YtocehfklacjgbaaGreatDoor
namespace Go.Proofs.YtocehfklacjgbaaGreatDoor
open Go.RowKit

end Go.Proofs.YtocehfklacjgbaaGreatDoor
namespace Go.Proofs.YtocehfklacjgbaaGreatDoor
open Go.RowKit

namespace Sh
attribute [local simp] jn_cons jn_app jn_one stand_ne
end Sh
end Go.Proofs.YtocehfklacjgbaaGreatDoor
namespace Go.Proofs.YtocehfklacjgbaaGreatDoor
open Go.RowKit Go.ChangeShapes Go.WideShapes

namespace Tm
theorem forestN {w : World} {b o n : Nat} (hh : ∀ i, i < n → ∃ h kids p, (∀ j v, (h.cells p)[j]? = some v → w.cell? ⟨b, o + i * 11 + j, none⟩ = some v) ∧ Is w h kids p ∧ Sh.nuT h kids = true) :
    ∀ j, j ≤ n → ∃ f : Tm, len f = j ∧ Lies w f (some ⟨b, o, none⟩) (n - j) ∧ Sh.nuF f = true := by
  intro j
  induction j with
  | zero => exact fun _ => ⟨.nil, rfl, trivial, rfl⟩
  | succ j ih =>
    intro hj
    obtain ⟨f, hf, hL, hN⟩ := ih (by omega)
    obtain ⟨h, kids, p, h1, h2, h3⟩ := hh (n - (j + 1)) (by omega)
    refine ⟨.node h kids f, by simp only [len]; omega, ⟨b, o, p, rfl, h1, h2.fit, h2.lies, ?_⟩, ?_⟩
    · rw [show n - (j + 1) + 1 = n - j by omega]
      exact hL
    · show (Sh.nuT h kids && Sh.nuF f) = true
      rw [h3, hN]; rfl
end Tm
set_option maxRecDepth 100000 in
set_option maxHeartbeats 1000000 in
theorem open_termN {H : Type} {enc : TypeId × Value → H} {w : World} {base : Nat} {sp : Nat → Bool} {hd : Bool} : ∀ (fuel : Nat) (cs : List Value) (x : DataW H × List MemPlace), DataW.trod enc Tryz.prog w base sp hd fuel 30 cs = some x →
    (∀ n ∈ x.1.weights Tryz.prog 30, n ≤ reachBytes) → ∃ h kids p, cs = h.cells p ∧ Tm.Is w h kids p ∧ Sh.nuT h kids = true := by
  intro fuel
  induction fuel using Nat.strongRecOn with
  | _ fuel ih =>
    intro cs x hx hsz
    obtain ⟨f0, f1, f2, f3, f4, f5, f6, f7, f8, hu, ⟨t0, o0⟩, ⟨t1, o1⟩, ⟨t2, o2⟩, ⟨t3, o3⟩, ⟨t4, o4⟩, ⟨t5, o5⟩, ⟨t6, o6⟩, ⟨t7, o7⟩, ⟨t8, o8⟩⟩ := u_Term
    obtain ⟨xs, m, rfl, rfl, hl, hxl, hf⟩ := DataW.trod_struct hu hx
    rw [c_Term] at hl
    match cs, hl with
    | [v0, v1, v2, v3, v4, v5, v6, v7, v8, v9, v10], _ =>
    have hw : ∀ (i : Nat) (f : Field) (hi : i < 9), (#[f0, f1, f2, f3, f4, f5, f6, f7, f8] : Array Field)[i]? = some f → ∀ n ∈ (xs[i]'(by rw [hxl]; exact hi)).1.weights Tryz.prog f.type, n ≤ reachBytes := by
      intro i f hi hfi n hn
      refine hsz n ?_
      simp only [DataW.weights, hu]
      refine DataW.weights_mem_each (j := i) (t := f.type) (d := (xs[i]'(by rw [hxl]; exact hi)).1) ?_ ?_ n hn
      · rw [List.getElem?_map, Array.getElem?_toList, hfi]; rfl
      · rw [List.getElem?_map, List.getElem?_eq_getElem (by rw [hxl]; exact hi)]; rfl
    have h0 := hf 0 f0 rfl
    rw [t0, o0, c_int8] at h0
    have hx0 : xs[0]? = some (xs[0]'(by rw [hxl]; simp)) := List.getElem?_eq_getElem _
    rw [hx0] at h0
    simp only [List.drop_zero, List.take_succ_cons, List.take_zero] at h0
    have h1 := hf 1 f1 rfl
    rw [t1, o1, ct_string] at h1
    have hx1 : xs[1]? = some (xs[1]'(by rw [hxl]; simp)) := List.getElem?_eq_getElem _
    rw [hx1] at h1
    simp only [List.drop_zero, List.take_succ_cons, List.take_zero, List.drop_succ_cons] at h1
    have h2 := hf 2 f2 rfl
    rw [t2, o2, ct_string] at h2
    have hx2 : xs[2]? = some (xs[2]'(by rw [hxl]; simp)) := List.getElem?_eq_getElem _
    rw [hx2] at h2
    simp only [List.drop_zero, List.take_succ_cons, List.take_zero, List.drop_succ_cons] at h2
    have h3 := hf 3 f3 rfl
    rw [t3, o3, ct_int64] at h3
    have hx3 : xs[3]? = some (xs[3]'(by rw [hxl]; simp)) := List.getElem?_eq_getElem _
    rw [hx3] at h3
    simp only [List.drop_zero, List.take_succ_cons, List.take_zero, List.drop_succ_cons] at h3
    have h4 := hf 4 f4 rfl
    rw [t4, o4, c_Type] at h4
    have hx4 : xs[4]? = some (xs[4]'(by rw [hxl]; simp)) := List.getElem?_eq_getElem _
    rw [hx4] at h4
    simp only [List.drop_zero, List.take_succ_cons, List.take_zero, List.drop_succ_cons] at h4
    have h5 := hf 5 f5 rfl
    rw [t5, o5, c_Type] at h5
    have hx5 : xs[5]? = some (xs[5]'(by rw [hxl]; simp)) := List.getElem?_eq_getElem _
    rw [hx5] at h5
    simp only [List.drop_zero, List.take_succ_cons, List.take_zero, List.drop_succ_cons] at h5
    have h6 := hf 6 f6 rfl
    rw [t6, o6, ct_int] at h6
    have hx6 : xs[6]? = some (xs[6]'(by rw [hxl]; simp)) := List.getElem?_eq_getElem _
    rw [hx6] at h6
    simp only [List.drop_zero, List.take_succ_cons, List.take_zero, List.drop_succ_cons] at h6
    have h7 := hf 7 f7 rfl
    rw [t7, o7, ct_int] at h7
    have hx7 : xs[7]? = some (xs[7]'(by rw [hxl]; simp)) := List.getElem?_eq_getElem _
    rw [hx7] at h7
    simp only [List.drop_zero, List.take_succ_cons, List.take_zero, List.drop_succ_cons] at h7
    have h8 := hf 8 f8 rfl
    rw [t8, o8, ct_kids] at h8
    have hx8 : xs[8]? = some (xs[8]'(by rw [hxl]; simp)) := List.getElem?_eq_getElem _
    rw [hx8] at h8
    simp only [List.drop_zero, List.take_succ_cons, List.take_zero, List.drop_succ_cons] at h8
    obtain ⟨k, hk, -, hwf0⟩ := DataW.trod_int Tryz.underlying24 h0
    have hlo : -128 ≤ k ∧ k ≤ 127 := by
      have hmin : IntKind.i8.min = -128 := rfl
      have hmax : IntKind.i8.max = 127 := rfl
      simp only [Lit.wf, Bool.and_eq_true, decide_eq_true_eq, hmin, hmax] at hwf0
      omega
    obtain ⟨nm, hnm, hxn, -⟩ := DataW.trod_string Tryz.underlying9 h1
    obtain ⟨ar, har, hxa, -⟩ := DataW.trod_string Tryz.underlying9 h2
    obtain ⟨nu, hnu, -, hwf3⟩ := DataW.trod_int Tryz.underlying2 h3
    have hnn : -9223372036854775808 ≤ nu ∧ nu ≤ 9223372036854775807 := by
      have hmin : IntKind.i64.min = -9223372036854775808 := rfl
      have hmax : IntKind.i64.max = 9223372036854775807 := rfl
      simp only [Lit.wf, Bool.and_eq_true, decide_eq_true_eq, hmin, hmax] at hwf3
      omega
    obtain ⟨tk, tks, TA, tn, tc, htc, hIt⟩ := open_type m _ _ h4
    obtain ⟨uk, uks, UA, un, uc, huc, hIu⟩ := open_type m _ _ h5
    obtain ⟨lb, hlb, -, hwf6⟩ := DataW.trod_int Tryz.underlying3 h6
    have hll : -9223372036854775808 ≤ lb ∧ lb ≤ 9223372036854775807 := by
      have hmin : IntKind.i64.min = -9223372036854775808 := rfl
      have hmax : IntKind.i64.max = 9223372036854775807 := rfl
      simp only [Lit.wf, Bool.and_eq_true, decide_eq_true_eq, hmin, hmax] at hwf6
      omega
    obtain ⟨ps, hps, -, -⟩ := DataW.trod_int Tryz.underlying3 h7
    injection hk with hk
    injection hnm with hnm
    injection har with har
    injection hnu with hnu
    injection htc with htc1 htc
    injection htc with htc2
    injection huc with huc1 huc
    injection huc with huc2
    injection hlb with hlb
    injection hps with hps
    subst hk hnm har hnu htc1 htc2 huc1 huc2 hlb hps
    have hrb := reachBytes_lt
    have z1 : nm.size ≤ 281474976710656 := by
      have := hw 1 f1 (by decide) rfl nm.data.toList.length (by rw [hxn]; simp [DataW.weights])
      rw [Sc.data_len] at this
      omega
    have z2 : ar.size ≤ 281474976710656 := by
      have := hw 2 f2 (by decide) rfl ar.data.toList.length (by rw [hxa]; simp [DataW.weights])
      rw [Sc.data_len] at this
      omega
    rcases DataW.trod_slice Tryz.underlying28 h8 with ⟨hcs, -⟩ | ⟨a, len, cap, elems, rest, m', hm, hcs, hx8', hb, hle, hcap, hel, hat, -, -⟩
    · injection hcs with hcs
      subst hcs
      exact ⟨⟨k, nm, ar, nu, tk, tks, uk, uks, lb, ps⟩, .nil, ⟨TA, tn, tc, UA, un, uc, none, 0, 0⟩, rfl, ⟨⟨hIt, hIu, rfl, Nat.le_refl _, Nat.zero_le _, hlo.1, hlo.2, hll.1, hll.2, z1, z2⟩, trivial⟩, by simp [Sh.nuT, Sh.nuH, Sh.nuF, hnn]⟩
    · injection hcs with hcs
      subst hcs
      rw [c_Term] at hat
      obtain ⟨b, o, s⟩ := a
      by_cases hz : len = 0
      · subst hz
        exact ⟨⟨k, nm, ar, nu, tk, tks, uk, uks, lb, ps⟩, .nil, ⟨TA, tn, tc, UA, un, uc, some ⟨b, o, s⟩, 0, cap⟩, rfl, ⟨⟨hIt, hIu, rfl, hle, hcap, hlo.1, hlo.2, hll.1, hll.2, z1, z2⟩, trivial⟩, by simp [Sh.nuT, Sh.nuH, Sh.nuF, hnn]⟩
      · have hsp : s = none := by
          have h2 := hat 0 (by omega)
          rw [List.getElem?_eq_getElem (by omega : 0 < elems.length)] at h2
          obtain ⟨cs', hc, -⟩ := Option.bind_eq_some_iff.1 h2
          obtain ⟨-, hcl, hcell⟩ := World.cells?_some hc
          have h3 := hcell 0 (by omega)
          rw [List.getElem?_eq_getElem (by omega : 0 < cs'.length)] at h3
          simpa [Addr.add] using World.cell?_spot h3
        subst hsp
        have hfor : ∀ i, i < len → ∃ h kids p, (∀ j v, (Hd.cells h p)[j]? = some v → w.cell? ⟨b, o + i * 11 + j, none⟩ = some v) ∧ Tm.Is w h kids p ∧ Sh.nuT h kids = true := by
          intro i hi
          have h2 := hat i hi
          rw [List.getElem?_eq_getElem (by omega : i < elems.length)] at h2
          obtain ⟨cs', hc, htr⟩ := Option.bind_eq_some_iff.1 h2
          have hwi : ∀ n ∈ (elems[i]'(by omega)).1.weights Tryz.prog 30, n ≤ reachBytes := by
            intro n hn
            refine hw 8 f8 (by decide) rfl n ?_
            rw [hx8', t8]
            simp only [DataW.weights, Tryz.underlying28]
            refine List.mem_cons_of_mem _ (List.mem_append_left _ (weights_elems ?_ n hn))
            exact List.mem_map.2 ⟨_, List.getElem_mem _, rfl⟩
          obtain ⟨h', kids', p', rfl, hIs, hNu⟩ := ih m' (by omega) cs' _ htr hwi
          obtain ⟨-, hcl, hcell⟩ := World.cells?_some hc
          refine ⟨h', kids', p', fun j v hv => ?_, hIs, hNu⟩
          have hj : j < 11 := by
            rcases Nat.lt_or_ge j 11 with h | h
            · exact h
            · rw [List.getElem?_eq_none (by simpa using h)] at hv; cases hv
          have h3 := hcell j hj
          rw [add_at, add_at, hv] at h3
          exact h3
        obtain ⟨f, hf1, hf2, hf3⟩ := Tm.forestN hfor len (Nat.le_refl _)
        rw [Nat.sub_self] at hf2
        exact ⟨⟨k, nm, ar, nu, tk, tks, uk, uks, lb, ps⟩, f, ⟨TA, tn, tc, UA, un, uc, some ⟨b, o, none⟩, len, cap⟩, rfl, ⟨⟨hIt, hIu, hf1.symm, hle, hcap, hlo.1, hlo.2, hll.1, hll.2, z1, z2⟩, hf2⟩, by show (Sh.nuH _ && Sh.nuF f) = true; rw [hf3]; simp [Sh.nuH, hnn]⟩
end Go.Proofs.YtocehfklacjgbaaGreatDoor
