/-
  show: a number's words, a type's text; what a step of writing leaves. show: a number. show: the writer's kids, one behind the other.
-/
import Derived.Test.YtdeomggkhbdkaaaGreatDoorM10
import Derived.Test.YtdeomggkhbdkaaaGreatDoorM11
import Derived.Test.YtdeomggkhbdkaaaGreatDoorM9
import Derived.Deep.RegionLaw
import Derived.Deep.RegionHeld3
import Derived.StillTailTactics
namespace Go.Proofs.YtdeomggkhbdkaaaGreatDoor
open Go.RowKit

theorem cf_put (args : Array Value) (W : World) : (callFunc 8 args).run Tryz.prog W = .ok (.enter 8 args) W := by simp [go_sem]
theorem cf_kid (args : Array Value) (W : World) : (callFunc 63 args).run Tryz.prog W = .ok (.enter 63 args) W := by simp [go_sem]
theorem wrote_grow {B b : Nat} {w : World} (hB : B ≤ w.heap.size) (k : Nat) (os : Array Obj) : Wrote B b w (Sort.grow (w.drewN k) os) := by
  have hb : ∀ i, i < w.heap.size → (Sort.grow (w.drewN k) os).heap[i]? = w.heap[i]? := fun i hi => by
    show ((w.drewN k).heap ++ os)[i]? = _
    rw [Array.getElem?_append_left (by exact hi)]; rfl
  refine ⟨⟨rfl, rfl, rfl, by simp [World.drewN], fun i hi => hb i (by omega)⟩, fun i o h _ _ => ?_⟩
  rw [hb i (heap_lt h)]; exact h
theorem Wrote.undrew {B b n : Nat} {w v : World} (h : Wrote B b (w.drewN n) v) : Wrote B b w v := ⟨⟨h.below.os, h.below.tape, h.below.output, h.below.size, h.below.block⟩, fun k o h1 => h.others k o h1⟩
theorem Wrote.low {B b : Nat} {w w' : World} (hb : Below w.heap.size w w') (hB : B ≤ w.heap.size) : Wrote B b w w' :=
  ⟨hb.mono hB, fun k o h _ _ => by rw [hb.block k (heap_lt h)]; exact h⟩
theorem Bld.low {B b : Nat} {l : List UInt8} {w w' : World} (h : Bld B b l w) (hb : Below w.heap.size w w') : Bld B b l w' := by
  have key : ∀ p, Lib.BuilderAtF 37 5 B b p (Lib.byteCells l) w → Lib.BuilderAtF 37 5 B b p (Lib.byteCells l) w' := by
    rintro p ⟨hB, v, hbk, hown, hne⟩
    refine ⟨hB, v, heap_below hb (heap_lt hbk) hbk, hown.kept (row := none) ⟨hb.os, hb.tape, hb.output, hb.size, fun k hk _ => hb.block k hk⟩ ?_, hne⟩
    cases hv : v.ownBlock <;> simp
  rcases h with h | h
  · exact .inl (key _ h)
  · exact .inr (key _ h)
theorem Bld.grow {B b : Nat} {l : List UInt8} {w : World} (h : Bld B b l w) (k : Nat) (os : Array Obj) : Bld B b l (Sort.grow (w.drewN k) os) :=
  h.low (wrote_grow (B := w.heap.size) (b := 0) (Nat.le_refl _) k os).below
/-- the table of tens -/
def Tens (w : World) : Prop := Lib.TabIs Tryz.prog w "internal/strconv.uint64pow10" .u64 Lib.pow10Tab
/-- the table stands below B -/
theorem Tens.below {w w' : World} (h : Tens w) (hb : Below w.heap.size w w') : Tens w' := var_at hb h

set_option maxHeartbeats 1000000 in
set_option maxRecDepth 100000 in
theorem fint_any (B b : Nat) (l : List UInt8) (n : Int) (h0 : 0 ≤ n) (h1 : n ≤ 9223372036854775807) (w : World) (h : Bld B b l w) (hB : B ≤ w.heap.size) (ht : Tens w) :
    Calls Tryz.prog 64 #[.int .i64 n, .int .i64 10] w fun e w' => e = .returned (.string ⟨(Lib.decDigits n.toNat).toArray⟩) ∧ Bld B b l w' ∧ Wrote B b w w' := by
  have CF := Lib.hid (Tryz.internal_strconv_FormatInt_10 n (by omega) h1 w ht)
  have hi : Lib.itoa n = Lib.decDigits n.toNat := by unfold Lib.itoa; rw [if_neg (by omega)]
  rw [hi] at CF
  have H := Lib.hid h
  clear h ht hi
  go_enter Tryz.func64, Tryz.ntmps64
  go_wp2_with fail
  refine CF.out.mono ?_
  rintro e w2 ⟨rfl, k, os, rfl⟩
  have HF := Lib.hid (And.intro (H.out.grow k os) (wrote_grow (b := b) hB k os))
  go_wp2_with fail
  go_ret
  exact ⟨rfl, HF.out.1, HF.out.2⟩

/-- a new row of words behind what is there -/
theorem row_new (w : World) (b : Nat) (hb : b < w.heap.size) (ws : List ByteArray) : Row (w.alloc (.cells (ws.map Value.string).toArray 9)) b (some ⟨w.heap.size, 0, none⟩) ws :=
  .inr ⟨w.heap.size, 9, rfl, heap_new w _, by omega, by decide⟩
/-- words put out of a new row -/
theorem put_new (B b : Nat) (l : List UInt8) (ws : List ByteArray) (c : Nat) (w : World) (h : Bld B b l w) (hB : B ≤ w.heap.size) (hn : ws.length ≤ 1000) (hl : l.length + Sh.tl (bytes ws) ≤ 140737488355328) :
    Calls Tryz.prog 8 #[.slice (some ⟨w.heap.size, 0, none⟩) ws.length c, .pointer (some ⟨b, 0, none⟩)] (w.alloc (.cells (ws.map Value.string).toArray 9)) (Puts B b l (bytes ws) w) := by
  have hb0 : Below w.heap.size w (w.alloc (.cells (ws.map Value.string).toArray 9)) := (Below.refl _ _).alloc (Nat.le_refl _) _
  refine (put_any B b l ws _ c _ (h.low hb0) (Nat.le_trans hB hb0.size) (row_new w b h.lt.2 ws) hn hl).mono ?_
  rintro e w' ⟨h1, h2, h3⟩
  exact ⟨h1, h2, (Wrote.low hb0 hB).trans h3⟩

end Go.Proofs.YtdeomggkhbdkaaaGreatDoor
namespace Go.Proofs.YtdeomggkhbdkaaaGreatDoor
open Go.RowKit

set_option maxHeartbeats 4000000 in
set_option maxRecDepth 100000 in
theorem snum_any (B b : Nat) (l : List UInt8) (n : Int) (h0 : -9223372036854775808 < n) (h1 : n ≤ 9223372036854775807) (w : World) (h : Bld B b l w) (hB : B ≤ w.heap.size) (ht : ∀ W : World, Below B w W → Tens W) (hl : l.length ≤ 100000000) :
    Calls Tryz.prog 40 #[.agg #[(.func (Fn.func 8) #[] #[.pointer (some ⟨b, 0, none⟩)])], .int .i64 n] w (Puts B b l (Sh.numW n) w) := by
  have hcf := cf_put
  have hb1 : Below w.heap.size w (w.alloc (.cells #[(.func (Fn.func 8) #[] #[.pointer (some ⟨b, 0, none⟩)])] 46)) := (Below.refl _ _).alloc (Nat.le_refl _) _
  have HX := Lib.hid (heap_new w (.cells #[(.func (Fn.func 8) #[] #[.pointer (some ⟨b, 0, none⟩)])] 46))
  have hblt := h.lt.2
  generalize hw1 : w.alloc (.cells #[(.func (Fn.func 8) #[] #[.pointer (some ⟨b, 0, none⟩)])] 46) = w1 at *
  have HW := Lib.hid hw1
  have HB1 := Lib.hid (h.low hb1)
  have HBW := Lib.hid (Nat.le_trans hB hb1.size)
  have HT := Lib.hid (ht w1 (hb1.mono hB))
  have HTT := Lib.hid ht
  have HWR := Lib.hid (Wrote.low (B := B) (b := b) hb1 hB)
  have HLT := Lib.hid hblt
  have HL := Lib.hid hl
  have H1 := Lib.hid h1
  have H0 := Lib.hid h0
  clear hw1 h hB ht hb1 hblt hl h1 h0
  have CE := Lib.hid (fun (l2 : List UInt8) (m : Int) (u : World) (hm : 0 ≤ m) (hm2 : m ≤ 9223372036854775807) (hb : Bld B b l2 u) (hB : B ≤ u.heap.size) (ht : Tens u) => fint_any B b l2 m hm hm2 u hb hB ht)
  have CP := Lib.hid (fun (l2 : List UInt8) (s : ByteArray) (u : World) (hb : Bld B b l2 u) (hB : B ≤ u.heap.size) (hl : l2.length + s.size ≤ 110000000) => show Calls Tryz.prog 8 #[.slice (some ⟨u.heap.size, 0, none⟩) 1 1, .pointer (some ⟨b, 0, none⟩)] (u.alloc (.cells #[.string s] 9)) (Puts B b l2 (bytes [s]) u) from
    put_new B b l2 [s] 1 u hb hB (by simp) (by simp only [bytes, List.map, Sh.tl]; have : s.data.toList.length = s.size := rfl; omega))
  obtain ⟨x0, _, hxl⟩ := own1 HX.out
  by_cases hn : n < 0
  · have e1 : Sh.numW n = bytes [⟨#[45]⟩] ++ bytes [⟨(Lib.decDigits (-n).toNat).toArray⟩] := by unfold Sh.numW; rw [if_pos hn, show (-n).toNat = n.natAbs by omega]; rfl
    rw [e1]
    have HD := Lib.hid (show (⟨(Lib.decDigits (-n).toNat).toArray⟩ : ByteArray).size ≤ 20 by
      have := Sh.decDigits_len (-n).toNat 19 (by have := H0.out; have := H1.out; omega)
      show (Lib.decDigits (-n).toNat).toArray.size ≤ 20
      simp; omega)
    have j1 : IntKind.i64.wrap (-n) = -n := by have := H0.out; have := H1.out; exact IntWalk.i64_in _ (by omega)
    clear e1
    go_enter Tryz.func40, Tryz.ntmps40
    go_upto_region 1 with fail
    rw [HW.out]
    go_wp2_with fail
    refine (CP.out l ⟨#[45]⟩ w1 HB1.out HBW.out (by have := HL.out; have e : (⟨#[45]⟩ : ByteArray).size = 1 := rfl; omega)).mono ?_
    rintro e u ⟨rfl, hb, hw⟩
    have HBu := Lib.hid hb
    have HWu := Lib.hid (HWR.out.trans hw)
    have HBWu := Lib.hid (Nat.le_trans HBW.out hw.below.size)
    have HTu := Lib.hid (HTT.out u HWu.out.below)
    have HXu := Lib.hid (hw.box HX.out (by have := HLT.out; omega) (by decide))
    have HLL := Lib.hid (show (Sh.puts l (bytes [⟨#[45]⟩])).length ≤ 100000003 by have h1 := Sh.puts_len (bytes [⟨#[45]⟩]) l; have h2 := HL.out; have h3 : Sh.tl (bytes [⟨#[45]⟩]) = 2 := rfl; omega)
    clear hb hw x0 hxl
    go_upto_region 4 with fail
    have hD := below_drewN (Below.refl u.heap.size u) 1
    have C1 := Lib.hid (CE.out (Sh.puts l (bytes [⟨#[45]⟩])) (-n) u.drew (by have := H0.out; have := H1.out; omega) (by have := H0.out; have := H1.out; omega) (HBu.out.low hD) HBWu.out (HTu.out.below hD))
    obtain ⟨x0, _, hxl⟩ := own1 HXu.out
    clear hD
    go_region_law (first
      | (go_simp; go_at_call 64; (with_reducible refine C1.out.mono ?_); rintro e v ⟨rfl, hb, hw⟩; have HBv := Lib.hid hb; have HWv := Lib.hid (show Wrote B b u v from Wrote.undrew (n := 1) hw); have HBWv := Lib.hid (Nat.le_trans HBWu.out hw.below.size); have HXv := Lib.hid (hw.box (show u.drew.heap[w.heap.size]? = _ from HXu.out) (by have := HLT.out; omega) (by decide)); clear hb hw; obtain ⟨x2, _, hxl2⟩ := own1 HXv.out; go_wp2_with fail)
      | (go_simp; go_at_call 8; (with_reducible refine (CP.out (Sh.puts l (bytes [⟨#[45]⟩])) _ _ HBv.out HBWv.out (by have := HLL.out; have := HD.out; omega)).mono ?_); rintro e z ⟨rfl, hb, hw⟩; have HBz := Lib.hid hb; have HWz := Lib.hid hw; clear hb hw; go_wp2_with fail))
    all_goals
      go_wp2_with fail
      change bodyPost _ _ _ _ _ _
      go_end0
      exact ⟨rfl, by rw [Sh.puts_app]; exact HBz.out, (HWu.out.trans HWv.out).trans HWz.out⟩
  · have e1 : Sh.numW n = bytes [⟨(Lib.decDigits n.toNat).toArray⟩] := by unfold Sh.numW; rw [if_neg hn]; rfl
    rw [e1]
    have HD := Lib.hid (show (⟨(Lib.decDigits n.toNat).toArray⟩ : ByteArray).size ≤ 20 by
      have := Sh.decDigits_len n.toNat 19 (by have := H0.out; have := H1.out; omega)
      show (Lib.decDigits n.toNat).toArray.size ≤ 20
      simp; omega)
    have HBu := HB1
    have HBWu := HBW
    have HTu := HT
    have HXu := HX
    have HLL := HL
    clear e1
    go_enter Tryz.func40, Tryz.ntmps40
    go_upto_region 1 with fail
    rw [HW.out]
    go_upto_region 4 with fail
    have hD := below_drewN (Below.refl w1.heap.size w1) 1
    have C1 := Lib.hid (CE.out l (n) w1.drew (by have := H0.out; have := H1.out; omega) (by have := H0.out; have := H1.out; omega) (HBu.out.low hD) HBWu.out (HTu.out.below hD))
    obtain ⟨x0, _, hxl⟩ := own1 HXu.out
    clear hD
    go_region_law (first
      | (go_simp; go_at_call 64; (with_reducible refine C1.out.mono ?_); rintro e v ⟨rfl, hb, hw⟩; have HBv := Lib.hid hb; have HWv := Lib.hid (show Wrote B b w1 v from Wrote.undrew (n := 1) hw); have HBWv := Lib.hid (Nat.le_trans HBWu.out hw.below.size); have HXv := Lib.hid (hw.box (show w1.drew.heap[w.heap.size]? = _ from HXu.out) (by have := HLT.out; omega) (by decide)); clear hb hw; obtain ⟨x2, _, hxl2⟩ := own1 HXv.out; go_wp2_with fail)
      | (go_simp; go_at_call 8; (with_reducible refine (CP.out l _ _ HBv.out HBWv.out (by have := HLL.out; have := HD.out; omega)).mono ?_); rintro e z ⟨rfl, hb, hw⟩; have HBz := Lib.hid hb; have HWz := Lib.hid hw; clear hb hw; go_wp2_with fail))
    all_goals
      go_wp2_with fail
      change bodyPost _ _ _ _ _ _
      go_end0
      exact ⟨rfl, HBz.out, (HWR.out.trans HWv.out).trans HWz.out⟩
end Go.Proofs.YtdeomggkhbdkaaaGreatDoor
namespace Go.Proofs.YtdeomggkhbdkaaaGreatDoor
open Go.RowKit

/-- below B nothing has turned; above it the builder's block, rows of bytes, the block Z alone -/
structure WrZ (B b Z : Nat) (w w' : World) : Prop where
  below : Below B w w'
  others : ∀ g o, w.heap[g]? = some o → g ≠ b → g ≠ Z → (∀ c f, o ≠ .cells c 5 f) → w'.heap[g]? = some o
theorem Wrote.z {B b : Nat} {w w' : World} (h : Wrote B b w w') (Z : Nat) : WrZ B b Z w w' := ⟨h.below, fun g o h1 h2 _ h4 => h.others g o h1 (fun e => h2 (by injection e)) h4⟩
theorem WrZ.trans {B b Z : Nat} {a c d : World} (h : WrZ B b Z a c) (k : WrZ B b Z c d) : WrZ B b Z a d := ⟨h.below.trans k.below, fun g o h1 h2 h3 h4 => k.others g o (h.others g o h1 h2 h3 h4) h2 h3 h4⟩
theorem WrZ.wrote {B b Z : Nat} {w w' : World} (h : WrZ B b Z w w') (hZ : w.heap.size ≤ Z) : Wrote B b w w' := ⟨h.below, fun g o h1 h2 h4 => h.others g o h1 (fun e => h2 (by rw [e])) (by have := heap_lt h1; omega) h4⟩
theorem WrZ.box {B b Z g : Nat} {w w' : World} {cs : Array Value} {t : TypeId} {fz : Nat × Nat} (h : WrZ B b Z w w') (hg : w.heap[g]? = some (.cells cs t fz)) (hb : g ≠ b) (hz : g ≠ Z) (ht : t ≠ 5) : w'.heap[g]? = some (.cells cs t fz) :=
  h.others g _ hg hb hz (by intro c f e; injection e with _ e; exact ht e)
theorem WrZ.low {B b Z : Nat} {w w' : World} (hb : Below w.heap.size w w') (hB : B ≤ w.heap.size) : WrZ B b Z w w' := (Wrote.low (b := b) hb hB).z Z
theorem WrZ.set {B b Z : Nat} {w : World} (hZ : B ≤ Z) (v : Value) : WrZ B b Z w (w.setCell ⟨Z, 0, none⟩ v) :=
  ⟨(Below.refl B w).setCell (p := ⟨Z, 0, none⟩) hZ v, fun g o h1 _ h3 _ => by rw [Below.heap_setCell _ _ _ g h3]; exact h1⟩
theorem Bld.set {B b Z : Nat} {l : List UInt8} {w : World} {cs : Array Value} (h : Bld B b l w) (hz : w.heap[Z]? = some (.cells cs 3 (0, 0))) (hne : Z ≠ b) (v : Value) : Bld B b l (w.setCell ⟨Z, 0, none⟩ v) := by
  have key : ∀ p, Lib.BuilderAtF 37 5 B b p (Lib.byteCells l) w → Lib.BuilderAtF 37 5 B b p (Lib.byteCells l) (w.setCell ⟨Z, 0, none⟩ v) := by
    rintro p ⟨hB, u, hbk, hown, hne2⟩
    refine ⟨hB, u, by rw [Below.heap_setCell _ _ _ b (fun e => hne e.symm)]; exact hbk, hown.kept (row := some Z) ⟨rfl, rfl, rfl, by simp [World.setCell], fun k _ hk => Below.heap_setCell _ _ _ k (fun e => hk (by rw [e]))⟩ ?_, hne2⟩
    cases hv : u.ownBlock with
    | none => exact .inl rfl
    | some g =>
      refine .inr fun e => ?_
      injection e with e
      subst e
      rcases hown.2 with ⟨rfl, _⟩ | ⟨g', cap, cur, fz, rfl, _, hg, _⟩
      · cases hv
      · simp only [Value.ownBlock, Option.some.injEq] at hv
        subst hv
        rw [hg] at hz
        injection hz with hz
        injection hz with _ hz _
        exact absurd hz (by decide)
  rcases h with h | h
  · exact .inl (key _ h)
  · exact .inr (key _ h)

/-- a term is put at a strength -/
def StandOK (B b : Nat) (w0 : World) (h : Hd) (kids : Tm) (p : Pl) : Prop := ∀ (k : Int) (l : List UInt8) (W : World), Below B w0 W → B ≤ W.heap.size → Bld B b l W → l.length + Sh.tl (Sh.stand k h kids) ≤ 100000000 →
  Calls Tryz.prog 11 #[.agg #[(.func (Fn.func 8) #[] #[.pointer (some ⟨b, 0, none⟩)])], .agg #[.int .i8 h.kind, .string h.name, .string h.arg, .int .i64 h.num, .int .i8 h.tk, .slice p.TA p.tn p.tc, .int .i8 h.uk, .slice p.UA p.un p.uc, .int .i64 h.label, .int .i64 h.pos, .slice p.A p.n p.c], .int .i64 k] W (Puts B b l (Sh.stand k h kids) W)
/-- the i-th kid of a term, in memory below B -/
structure KidAt (B b : Nat) (w0 : World) (p : Pl) (i : Nat) (h : Hd) (kids : Tm) (q : Pl) : Prop where
  cells : ∃ bb oo, p.A = some ⟨bb, oo, none⟩ ∧ bb < B ∧ ∀ j v, (h.cells q)[j]? = some v → w0.cell? ⟨bb, oo + i * 11 + j, none⟩ = some v
  lt : i < p.n
  n_max : (p.n : Int) ≤ 9223372036854775807
  ok : StandOK B b w0 h kids q
/-- what the writing of a kid leaves -/
def KidPuts (B b Z i : Nat) (l : List UInt8) (ws : List (List UInt8)) (w : World) (e : Ending) (w' : World) : Prop := e = .returned (.tuple #[]) ∧ Bld B b (Sh.puts l ws) w' ∧ WrZ B b Z w w' ∧ w'.heap[Z]? = some (.cells #[.int .i64 i] 3 (0, 0))

set_option maxHeartbeats 4000000 in
set_option maxRecDepth 100000 in
theorem kid_any (B b X Y Z : Nat) (w0 W : World) (h0 : Hd) (p0 : Pl) (i : Nat) (h : Hd) (kids : Tm) (q : Pl) (k : Int) (l : List UInt8) (ws : List ByteArray) (A : Option Addr) (c : Nat) (hK : KidAt B b w0 p0 i h kids q) (hb0 : Below B w0 W) (hB : B ≤ W.heap.size) (hbl : Bld B b l W)
    (hX : W.heap[X]? = some (.cells #[(.func (Fn.func 8) #[] #[.pointer (some ⟨b, 0, none⟩)])] 46 (0, 0))) (hY : W.heap[Y]? = some (.cells #[.int .i8 h0.kind, .string h0.name, .string h0.arg, .int .i64 h0.num, .int .i8 h0.tk, .slice p0.TA p0.tn p0.tc, .int .i8 h0.uk, .slice p0.UA p0.un p0.uc, .int .i64 h0.label, .int .i64 h0.pos, .slice p0.A p0.n p0.c] 28 (0, 0))) (hZ : W.heap[Z]? = some (.cells #[.int .i64 i] 3 (0, 0))) (hBX : B ≤ X) (hBY : B ≤ Y) (hBZ : B ≤ Z) (hXb : X ≠ b) (hYb : Y ≠ b) (hZb : Z ≠ b)
    (hr : Row W b A ws) (hn : ws.length ≤ 1000) (hl : l.length + Sh.tl (Sh.stand k h kids ++ bytes ws) ≤ 100000000) :
    Calls Tryz.prog 63 #[.int .i64 k, .slice A ws.length c, .pointer (some ⟨X, 0, none⟩), .pointer (some ⟨Y, 0, none⟩), .pointer (some ⟨Z, 0, none⟩)] W (KidPuts B b Z (i + 1) l (Sh.stand k h kids ++ bytes ws) W) := by
  have hcf := cf_put
  rw [Sh.tl_app] at hl
  obtain ⟨⟨bb, oo, hA, hbb, hcs⟩, hlt, hmax, hok⟩ := hK
  have hD := below_drewN (Below.refl W.heap.size W) 1
  have CS := Lib.hid (hok k l (W.drewN 1) (hb0.trans (hD.mono hB)) hB (hbl.low hD) (by omega))
  have hq := Sh.puts_len (Sh.stand k h kids) l
  have HXX := Lib.hid hX
  have HZZ := Lib.hid hZ
  have HRR := Lib.hid hr
  have HQ := Lib.hid (And.intro hq hl)
  have HNE := Lib.hid (And.intro hXb (And.intro hYb hZb))
  have HBB := Lib.hid (And.intro hBX (And.intro hBY hBZ))
  have HBW := Lib.hid hB
  have HNN := Lib.hid hn
  have j1 : (i : Int) < p0.n := by omega
  have j2 : (0 : Int) ≤ i ∧ (i : Int) < p0.n := by omega
  have hcell : ∀ j v, (h.cells q)[j]? = some v → W.cell? ⟨bb, oo + i * 11 + j, none⟩ = some v := fun j v hv => by rw [hb0.cell (p := ⟨bb, _, none⟩) hbb]; exact hcs j v hv
  obtain ⟨c0, c1, c2, c3, c4, c5, c6, c7, c8, c9, c10⟩ := Tm.row hcell
  obtain ⟨x0, _, _⟩ := own1 hX
  obtain ⟨y0, y1, y2, y3, y4, y5, y6, y7, y8, y9, y10, yl⟩ := own11 hY
  obtain ⟨z0, _, zl⟩ := own1 hZ
  rw [hA] at y10
  have HL0 := Lib.hid (below_drewN (Below.refl W.heap.size W) 1)
  generalize hn2 : ws.length = N at *
  clear hX hY hZ hr hq hl hXb hYb hZb hBX hBY hBZ hB hb0 hbl hcs hcell hok hD hn hlt hbb
  go_enter Tryz.func63, Tryz.ntmps63
  go_wp2_with fail
  go_still_tail 7, (by kernel_rfl)
  change wpList _ _ _ _ _ (W.drewN 1)
  clear c0 c1 c2 c3 c4 c5 c6 c7 c8 c9 c10 x0 y0 y1 y2 y3 y4 y5 y6 y7 y8 y9 y10 yl z0 zl
  have hsz : (W.drewN 1).heap.size = W.heap.size := rfl
  generalize hw1 : W.drewN 1 = w1 at *
  have HW1 := Lib.hid hw1
  clear hw1
  go_wp2_with fail
  refine CS.out.mono ?_
  rintro e u ⟨rfl, hb, hw⟩
  have hw' := Lib.hid (show Wrote B b W u from by rw [← HW1.out] at hw; exact hw.undrew)
  have HU := Lib.hid hb
  have HXu := Lib.hid (hw'.out.box HXX.out HNE.out.1 (by decide))
  have HZu := Lib.hid (hw'.out.box HZZ.out HNE.out.2.2 (by decide))
  have CP := Lib.hid (put_any B b (Sh.puts l (Sh.stand k h kids)) ws A c u HU.out (Nat.le_trans HBW.out hw'.out.below.size) (HRR.out.wrote hw'.out) (by have := HNN.out; omega) (by have := HQ.out; omega))
  rw [hn2] at CP
  obtain ⟨x0, _, _⟩ := own1 HXu.out
  clear hb hw hsz
  go_wp2_with fail
  refine CP.out.mono ?_
  rintro e v ⟨rfl, hb, hw⟩
  have HV := Lib.hid hb
  have HWV := Lib.hid (hw'.out.trans hw)
  have HZv := Lib.hid (hw.box HZu.out HNE.out.2.2 (by decide))
  obtain ⟨z0, zf, zl⟩ := own1 HZv.out
  have j3 : IntKind.i64.wrap ((i : Int) + 1) = (i : Int) + 1 := IntWalk.i64_in _ (by omega)
  clear hb hw x0
  go_wp2_with fail
  change bodyPost _ _ _ _ _ _
  go_end0
  refine ⟨rfl, ?_, ?_, ?_⟩
  · rw [Sh.puts_app]; exact HV.out.set HZv.out HNE.out.2.2 _
  · exact (HWV.out.z Z).trans (WrZ.set HBB.out.2.2 _)
  · simp [World.setCell, Array.getElem?_modify, HZv.out]
end Go.Proofs.YtdeomggkhbdkaaaGreatDoor
