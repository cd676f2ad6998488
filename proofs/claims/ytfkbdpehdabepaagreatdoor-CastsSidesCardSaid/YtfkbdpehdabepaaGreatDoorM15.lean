/-
  terms.Bare, parts.Copy, casts.Erase: terms that lie apart, written over in their own memory. Layer 14: All.
-/
import Derived.Test.YtfkbdpehdabepaaGreatDoorCa2
import Derived.Test.YtfkbdpehdabepaaGreatDoorCa0
import Derived.Test.YtfkbdpehdabepaaGreatDoorM12
import Derived.Test.YtfkbdpehdabepaaGreatDoorM14
import Derived.Test.YtfkbdpehdabepaaGreatDoorM2
import Derived.Test.YtfkbdpehdabepaaGreatDoorCa3
namespace Go.Proofs.YtfkbdpehdabepaaGreatDoor
open Go.RowKit
theorem far11h {wr : World} {R b : Nat} {v0 v1 v2 v3 v4 v5 v6 v7 v8 v9 v10 : Value} (h1 : b ≠ R) : (((((((((((wr.setCell ⟨R, 0, none⟩ v0).setCell ⟨R, 1, none⟩ v1).setCell ⟨R, 2, none⟩ v2).setCell ⟨R, 3, none⟩ v3).setCell ⟨R, 4, none⟩ v4).setCell ⟨R, 5, none⟩ v5).setCell ⟨R, 6, none⟩ v6).setCell ⟨R, 7, none⟩ v7).setCell ⟨R, 8, none⟩ v8).setCell ⟨R, 9, none⟩ v9).setCell ⟨R, 10, none⟩ v10).heap[b]? = wr.heap[b]? := by
  rw [Below.heap_setCell _ _ _ b h1, Below.heap_setCell _ _ _ b h1, Below.heap_setCell _ _ _ b h1, Below.heap_setCell _ _ _ b h1, Below.heap_setCell _ _ _ b h1, Below.heap_setCell _ _ _ b h1, Below.heap_setCell _ _ _ b h1, Below.heap_setCell _ _ _ b h1, Below.heap_setCell _ _ _ b h1, Below.heap_setCell _ _ _ b h1, Below.heap_setCell _ _ _ b h1]
/-- what Bare leaves -/
def BareSp (w : World) (h : Hd) (kids : Tm) (e : Ending) (w' : World) : Prop :=
  (Tm.chk h kids = 0 → ∃ p, e = .returned (.agg #[.int .i8 (Tm.cnt h).kind, .string (Tm.cnt h).name, .string (Tm.cnt h).arg, .int .i64 (Tm.cnt h).num, .int .i8 (Tm.cnt h).tk, .slice p.TA p.tn p.tc, .int .i8 (Tm.cnt h).uk, .slice p.UA p.un p.uc, .int .i64 (Tm.cnt h).label, .int .i64 (Tm.cnt h).pos, .slice p.A p.n p.c]) ∧ Tm.SepK w' (Tm.cnt h) (Tm.bF kids) p w.heap.size w'.heap.size) ∧ (Tm.chk h kids ≠ 0 → e = .returned (.agg #[.int .i8 0, .string ⟨#[]⟩, .string ⟨#[]⟩, .int .i64 0, .int .i8 0, .slice none 0 0, .int .i8 0, .slice none 0 0, .int .i64 0, .int .i64 0, .slice none 0 0])) ∧ Below w.heap.size w w'
set_option maxHeartbeats 4000000 in
set_option maxRecDepth 100000 in
theorem tbare_sp (h : Hd) (kids : Tm) (p : Pl) (w : World) (hIs : Tm.Is w h kids p) (hG : TGlob w) :
    Calls Tryz.prog 10 #[.agg #[.int .i8 h.kind, .string h.name, .string h.arg, .int .i64 h.num, .int .i8 h.tk, .slice p.TA p.tn p.tc, .int .i8 h.uk, .slice p.UA p.un p.uc, .int .i64 h.label, .int .i64 h.pos, .slice p.A p.n p.c]] w (BareSp w h kids) := by
  have hB0 : Below w.heap.size w ((w.alloc (.cells #[.int .i8 h.kind, .string h.name, .string h.arg, .int .i64 h.num, .int .i8 h.tk, .slice p.TA p.tn p.tc, .int .i8 h.uk, .slice p.UA p.un p.uc, .int .i64 h.label, .int .i64 h.pos, .slice p.A p.n p.c] 28)).alloc (.cells #[.int .i8 0, .string ⟨#[]⟩, .string ⟨#[]⟩, .int .i64 0, .int .i8 0, .slice none 0 0, .int .i8 0, .slice none 0 0, .int .i64 0, .int .i64 0, .slice none 0 0] 28)) := ((Below.refl _ _).alloc (Nat.le_refl _) _).alloc (by simp) _
  obtain ⟨r0, r1, r2⟩ := two_new w (.cells #[.int .i8 h.kind, .string h.name, .string h.arg, .int .i64 h.num, .int .i8 h.tk, .slice p.TA p.tn p.tc, .int .i8 h.uk, .slice p.UA p.un p.uc, .int .i64 h.label, .int .i64 h.pos, .slice p.A p.n p.c] 28) (.cells #[.int .i8 0, .string ⟨#[]⟩, .string ⟨#[]⟩, .int .i64 0, .int .i8 0, .slice none 0 0, .int .i8 0, .slice none 0 0, .int .i64 0, .int .i64 0, .slice none 0 0] 28)
  have HM := Lib.hid (fun (W : World) (hb : Below w.heap.size w W) => tcheck_any h kids p W (hIs.below hb) (hG.below hb))
  have HBR := Lib.hid (fun (W : World) (hb : Below w.heap.size w W) (hs : Tm.chk h kids = 0) => bare_cp h kids p W hs (hIs.below hb) (hG.below hb))
  have R0 := Lib.hid r0
  have R1 := Lib.hid r1
  clear hIs r0 r1 r2 hG
  unfold BareSp
  by_cases hc : Tm.chk h kids = 0
  · have hsm := Tm.small_of hc
    have hne : (((Tm.chk h kids : Nat) : Int) != 0) = false := by rw [hc]; rfl
    have HB2 := Lib.hid (fun (W : World) (hb : Below w.heap.size w W) => show Calls Tryz.prog 38 #[.agg #[.int .i8 h.kind, .string h.name, .string h.arg, .int .i64 h.num, .int .i8 h.tk, .slice p.TA p.tn p.tc, .int .i8 h.uk, .slice p.UA p.un p.uc, .int .i64 h.label, .int .i64 h.pos, .slice p.A p.n p.c]] W (fun e w' => ∃ p', e = .returned (.agg #[.int .i8 (Tm.cnt h).kind, .string (Tm.cnt h).name, .string (Tm.cnt h).arg, .int .i64 (Tm.cnt h).num, .int .i8 (Tm.cnt h).tk, .slice p'.TA p'.tn p'.tc, .int .i8 (Tm.cnt h).uk, .slice p'.UA p'.un p'.uc, .int .i64 (Tm.cnt h).label, .int .i64 (Tm.cnt h).pos, .slice p'.A p'.n p'.c]) ∧ Tm.SepK w' (Tm.cnt h) (Tm.bF kids) p' W.heap.size w'.heap.size ∧ Below W.heap.size W w') from HBR.out W hb hc)
    have HCC := Lib.hid hc
    generalize ((Tm.chk h kids : Nat) : Int) = x0 at *
    clear hc HBR hsm
    generalize Tm.cnt h = a at *
    generalize Tm.bF kids = bk at *
    go_enter Tryz.func10, Tryz.ntmps10
    go_wp2_with fail
    refine (HM.out _ hB0).mono ?_
    rintro e w3 ⟨rfl, hb⟩
    have hB1 := hB0.trans (hb.mono hB0.size)
    have hz3 : w.heap.size + 2 ≤ w3.heap.size := by have := hb.size; simp at this; omega
    have S0 := Lib.hid (heap_below hb (heap_lt R0.out) R0.out)
    have S1 := Lib.hid (heap_below hb (heap_lt R1.out) R1.out)
    obtain ⟨q0, q1, q2, q3, q4, q5, q6, q7, q8, q9, q10, ql⟩ := own11 S0.out
    clear hb
    go_wp2_with fail
    refine (HB2.out _ hB1).mono ?_
    rintro e w4 ⟨p', rfl, hI, hb⟩
    have hB2 := hB1.trans (hb.mono hB1.size)
    have Q1 := Lib.hid (heap_below hb (heap_lt S1.out) S1.out)
    have hl1 := heap_lt S1.out
    have HI := Lib.hid hI
    obtain ⟨y0, y1, y2, y3, y4, y5, y6, y7, y8, y9, y10, yl⟩ := own11 Q1.out
    have f0 := free11 Q1.out 0
    have f1 := free11 Q1.out 1
    have f2 := free11 Q1.out 2
    have f3 := free11 Q1.out 3
    have f4 := free11 Q1.out 4
    have f5 := free11 Q1.out 5
    have f6 := free11 Q1.out 6
    have f7 := free11 Q1.out 7
    have f8 := free11 Q1.out 8
    have f9 := free11 Q1.out 9
    have f10 := free11 Q1.out 10
    clear hb hI q0 q1 q2 q3 q4 q5 q6 q7 q8 q9 q10 ql
    go_wp2_with fail
    refine bodyPost_ret (v := .agg #[.int .i8 a.kind, .string a.name, .string a.arg, .int .i64 a.num, .int .i8 a.tk, .slice p'.TA p'.tn p'.tc, .int .i8 a.uk, .slice p'.UA p'.un p'.uc, .int .i64 a.label, .int .i64 a.pos, .slice p'.A p'.n p'.c]) (by simp [results, Tryz.results10, go_sem, *]) rfl ⟨fun _ => ⟨p', rfl, ?_⟩, fun hn => (hn HCC.out).elim, below_only11 hB2 (by omega) _ _ _ _ _ _ _ _ _ _ _⟩
    rw [show ∀ v0 v1 v2 v3 v4 v5 v6 v7 v8 v9 v10, (((((((((((w4.setCell ⟨w.heap.size + 1, 0, none⟩ v0).setCell ⟨w.heap.size + 1, 1, none⟩ v1).setCell ⟨w.heap.size + 1, 2, none⟩ v2).setCell ⟨w.heap.size + 1, 3, none⟩ v3).setCell ⟨w.heap.size + 1, 4, none⟩ v4).setCell ⟨w.heap.size + 1, 5, none⟩ v5).setCell ⟨w.heap.size + 1, 6, none⟩ v6).setCell ⟨w.heap.size + 1, 7, none⟩ v7).setCell ⟨w.heap.size + 1, 8, none⟩ v8).setCell ⟨w.heap.size + 1, 9, none⟩ v9).setCell ⟨w.heap.size + 1, 10, none⟩ v10).heap.size = w4.heap.size from fun _ _ _ _ _ _ _ _ _ _ _ => by simp [World.setCell]]
    exact (HI.out.keep fun b q1 q2 => far11h (by omega)).mono (by omega) (Nat.le_refl _)
  · have hne : (((Tm.chk h kids : Nat) : Int) != 0) = true := by simp; omega
    have HCC := Lib.hid hc
    generalize ((Tm.chk h kids : Nat) : Int) = x0 at *
    clear hc HBR
    go_enter Tryz.func10, Tryz.ntmps10
    go_wp2_with fail
    refine (HM.out _ hB0).mono ?_
    rintro e w3 ⟨rfl, hb⟩
    have hB1 := hB0.trans (hb.mono hB0.size)
    have S1 := Lib.hid (heap_below hb (heap_lt R1.out) R1.out)
    obtain ⟨y0, y1, y2, y3, y4, y5, y6, y7, y8, y9, y10, yl⟩ := own11 S1.out
    have f0 := free11 S1.out 0
    have f1 := free11 S1.out 1
    have f2 := free11 S1.out 2
    have f3 := free11 S1.out 3
    have f4 := free11 S1.out 4
    have f5 := free11 S1.out 5
    have f6 := free11 S1.out 6
    have f7 := free11 S1.out 7
    have f8 := free11 S1.out 8
    have f9 := free11 S1.out 9
    have f10 := free11 S1.out 10
    clear hb
    go_wp2_with fail
    refine bodyPost_ret (v := .agg #[.int .i8 0, .string ⟨#[]⟩, .string ⟨#[]⟩, .int .i64 0, .int .i8 0, .slice none 0 0, .int .i8 0, .slice none 0 0, .int .i64 0, .int .i64 0, .slice none 0 0]) (by simp [results, Tryz.results10, go_sem, *]) rfl ⟨fun hn => (HCC.out hn).elim, fun _ => rfl, below_only11 hB1 (by omega) _ _ _ _ _ _ _ _ _ _ _⟩
end Go.Proofs.YtfkbdpehdabepaaGreatDoor
namespace Go.Proofs.YtfkbdpehdabepaaGreatDoor
open Go.RowKit
theorem info_CastAt : (Tryz.prog.info? 41).map (fun i => (i.zero, i.size, i.bytes)) = some (some (.agg #[.int .i8 0, .slice none 0 0, .int .i8 0, .slice none 0 0, .int .i64 0]), 5, 72) := by kernel_rfl
namespace Ca
/-- what a cast's row element is -/
def czv (c : Cz) (T : Option Addr) (tn tc : Nat) (U : Option Addr) (un uc : Nat) : List Value := [.int .i8 c.1, .slice T tn tc, .int .i8 c.2.2.1, .slice U un uc, .int .i64 c.2.2.2.2]
/-- a row of casts -/
def RowC (w : World) : List Cz → List Value → Prop
  | [], xs => xs = []
  | c :: l, xs => ∃ T tn tc U un uc ys, xs = czv c T tn tc U un uc ++ ys ∧ Ty.Is w c.1 c.2.1 T tn tc ∧ Ty.Is w c.2.2.1 c.2.2.2.1 U un uc ∧ RowC w l ys
theorem RowC.snoc {w : World} {c : Cz} {T U : Option Addr} {tn tc un uc : Nat} (h1 : Ty.Is w c.1 c.2.1 T tn tc) (h2 : Ty.Is w c.2.2.1 c.2.2.2.1 U un uc) : ∀ (l : List Cz) (xs : List Value), RowC w l xs → RowC w (l ++ [c]) (xs ++ czv c T tn tc U un uc)
  | [], xs, e => by cases e; exact ⟨T, tn, tc, U, un, uc, [], by simp, h1, h2, rfl⟩
  | _ :: l, xs, e => by
    obtain ⟨T', tn', tc', U', un', uc', ys, rfl, e1, e2, e3⟩ := e
    exact ⟨T', tn', tc', U', un', uc', _, by rw [List.append_assoc], e1, e2, RowC.snoc h1 h2 l ys e3⟩
theorem RowC.kept {w w' : World} (hk : Tm.Kept w w') : ∀ (l : List Cz) (xs : List Value), RowC w l xs → RowC w' l xs
  | [], _, e => e
  | _ :: l, _, e => by
    obtain ⟨T', tn', tc', U', un', uc', ys, rfl, e1, e2, e3⟩ := e
    exact ⟨T', tn', tc', U', un', uc', ys, rfl, e1.kept hk, e2.kept hk, RowC.kept hk l ys e3⟩
/-- the state behind All's own function: w0 the bare term's blocks, hi the first block behind it -/
structure IA (n0 : Nat) (w : World) (w0 wb : World) (lo hi g : Nat) (vs : List Hd) (M : Nat → Prop) (W : World) : Prop where
  st : ∃ v xs, W.heap[g]? = some (.cells #[v] 38 (0, 0)) ∧ W.ownsRow hi 41 5 v vs.length xs ∧ RowC w0 (vs.map cz) xs ∧ ∀ b, M b ↔ (b = g ∨ v.ownBlock = some b)
  keep : ∀ b, lo ≤ b → b < hi → W.heap[b]? = wb.heap[b]?
  below : Below n0 w W
  len : vs.length ≤ 8192
  g0 : n0 ≤ g
  gl : g < lo
  lh : lo ≤ hi
  hs : hi ≤ wb.heap.size
  hW : hi ≤ W.heap.size
theorem IA.use {n0 lo hi g : Nat} {w wb : World} : Use 51 (mask (rng lo hi) wb) (IA n0 w (mask (rng lo hi) wb) wb lo hi g) :=
  ⟨fun args W => by simp [go_sem], fun vs M W h b o v hv => by
      obtain ⟨q1, q2⟩ := mask_at hv
      obtain ⟨q3, q4⟩ := rng_at q1
      rw [World.cell?_of_block (h.keep b q3 q4)]; exact q2,
   fun vs M W h b hb => by
      obtain ⟨v, xs, s1, s2, s3, s4⟩ := h.st
      rcases (s4 b).mp hb with rfl | q
      · exact heap_lt s1
      · exact (s2.lt b q).2,
   fun vs M W W' h hb => by
      obtain ⟨v, xs, s1, s2, s3, s4⟩ := h.st
      have hl := heap_lt s1
      have hg := h.g0
      refine ⟨⟨v, xs, heap_below hb hl s1, ownsRow_below s2 hb, s3, s4⟩, fun b q1 q2 => ?_, h.below.trans (hb.mono (by omega)), h.len, h.g0, h.gl, h.lh, h.hs, Nat.le_trans h.hW hb.size⟩
      have e := h.keep b q1 q2
      by_cases hx : b < W.heap.size
      · rw [hb.block b hx]; exact e
      · exfalso
        have h1 := h.hs
        rw [Array.getElem?_eq_none (by omega), Array.getElem?_eq_getElem (by omega)] at e
        cases e⟩
theorem set_one' {w : World} {g : Nat} {v0 : Value} {t : TypeId} (h : w.heap[g]? = some (.cells #[v0] t (0, 0))) (v : Value) : (w.setCell ⟨g, 0, none⟩ v).heap[g]? = some (.cells #[v] t (0, 0)) := by
  simp [World.setCell, Array.getElem?_modify, h]
theorem IA.step {n0 lo hi g : Nat} {w wb W w1 w2 w3 : World} {h : Hd} {vs : List Hd} {M : Nat → Prop} {v v' : Value} {xs : List Value} {p : Pl} (e : IA n0 w (mask (rng lo hi) wb) wb lo hi g vs M w2) (es : w1.heap[g]? = some (.cells #[v] 38 (0, 0)) ∧ w1.ownsRow hi 41 5 v vs.length xs ∧ RowC (mask (rng lo hi) wb) (vs.map cz) xs ∧ ∀ b, M b ↔ (b = g ∨ v.ownBlock = some b)) (hlen : vs.length < 8192)
    (hT : Ty.Is (mask (rng lo hi) wb) h.tk h.tkids p.TA p.tn p.tc) (hU : Ty.Is (mask (rng lo hi) wb) h.uk h.ukids p.UA p.un p.uc) (hB : Below W.heap.size W w2) (hb12 : Below w1.heap.size w1 w2)
    (ho : w3.ownsRow hi 41 5 v' (vs.length + 1) (xs ++ czv (cz h) p.TA p.tn p.tc p.UA p.un p.uc)) (hg : w2.grownBy w3 v.ownBlock) (hat : v'.ownBlock = v.ownBlock ∨ v'.ownBlock = some w2.heap.size) :
    ∃ M', IA n0 w (mask (rng lo hi) wb) wb lo hi g (vs ++ [h]) M' (w3.setCell ⟨g, 0, none⟩ v') ∧ Go M M' W (w3.setCell ⟨g, 0, none⟩ v') := by
  obtain ⟨s1, s2, s3, s4⟩ := es
  have hgl := e.gl
  have hlh := e.lh
  have hg0 := e.g0
  have hgs : g < w2.heap.size := Nat.lt_of_lt_of_le (heap_lt s1) hb12.size
  have hnb : ∀ b, v.ownBlock = some b → hi ≤ b ∧ b < w1.heap.size := s2.lt
  have hng : some g ≠ v.ownBlock := fun q => by have := (hnb g q.symm).1; omega
  have h3 : w3.heap[g]? = some (.cells #[v] 38 (0, 0)) := by rw [hg.block g hgs hng, hb12.block g (heap_lt s1)]; exact s1
  have hset : ∀ b, b ≠ g → (w3.setCell ⟨g, 0, none⟩ v').heap[b]? = w3.heap[b]? := fun b hb => Below.heap_setCell _ _ _ b hb
  have hz3 : (w3.setCell ⟨g, 0, none⟩ v').heap.size = w3.heap.size := by simp [World.setCell]
  have hgz := hg.size
  refine ⟨fun b => b = g ∨ v'.ownBlock = some b, ⟨⟨v', xs ++ czv (cz h) p.TA p.tn p.tc p.UA p.un p.uc, set_one' h3 v', ?_, ?_, fun b => Iff.rfl⟩, fun b q1 q2 => ?_, ?_, by rw [List.length_append]; simp; omega, e.g0, e.gl, e.lh, e.hs, by have := e.hW; omega⟩, ⟨fun b q1 q2 => ?_, fun b q => ?_, ?_⟩⟩
  · rw [List.length_append]
    refine ho.kept (row := some g) ⟨rfl, rfl, rfl, by rw [hz3]; exact Nat.le_refl _, fun k hk hne => hset k (fun q => hne (by rw [q]))⟩ ?_
    cases hv : v'.ownBlock with
    | none => exact .inl rfl
    | some b => exact .inr fun q => by injection q with q; have := (ho.lt b hv).1; omega
  · rw [List.map_append]
    exact RowC.snoc hT hU _ _ s3
  · have hne : some b ≠ v.ownBlock := fun q => by have := (hnb b q.symm).1; omega
    have hk := e.keep b q1 q2
    have hbl : b < w2.heap.size := by
      rw [Array.getElem?_eq_getElem (show b < wb.heap.size by have := e.hs; omega)] at hk
      exact heap_lt hk
    rw [hset b (by omega), hg.block b hbl hne]; exact hk
  · refine (e.below.grown hg (by omega) fun q hq => ?_).setCell hg0 _
    have := (hnb q hq).1; omega
  · have hng' : ¬ b = g := fun q => q2 ((s4 b).mpr (.inl q))
    have hnv : some b ≠ v.ownBlock := fun q => q2 ((s4 b).mpr (.inr q.symm))
    rw [hset b hng', hg.block b (Nat.lt_of_lt_of_le q1 hB.size) hnv, hB.block b q1]
  · rcases q with q | q
    · exact .inl ((s4 b).mpr (.inl q))
    · rcases hat with a | a
      · exact .inl ((s4 b).mpr (.inr (a ▸ q)))
      · rw [a] at q; injection q with q; exact .inr (by have := hB.size; omega)
  · have := hB.size; omega
end Ca
set_option maxHeartbeats 2000000 in
set_option maxRecDepth 100000 in
theorem all_use (n0 lo hi g : Nat) (w wb : World) (h : Hd) (k : Tm) (p : Pl) (hIs : Tm.Is (mask (rng lo hi) wb) h k p) :
    Ca.UseAt 8192 51 #[.pointer (some ⟨g, 0, none⟩)] (Ca.IA n0 w (mask (rng lo hi) wb) wb lo hi g) h p := by
  intro vs M W hlen hI
  rw [show (#[.agg #[.int .i8 h.kind, .string h.name, .string h.arg, .int .i64 h.num, .int .i8 h.tk, .slice p.TA p.tn p.tc, .int .i8 h.uk, .slice p.UA p.un p.uc, .int .i64 h.label, .int .i64 h.pos, .slice p.A p.n p.c]] ++ #[.pointer (some ⟨g, 0, none⟩)] : Array Value) = #[.agg #[.int .i8 h.kind, .string h.name, .string h.arg, .int .i64 h.num, .int .i8 h.tk, .slice p.TA p.tn p.tc, .int .i8 h.uk, .slice p.UA p.un p.uc, .int .i64 h.label, .int .i64 h.pos, .slice p.A p.n p.c], .pointer (some ⟨g, 0, none⟩)] from rfl]
  have hB1 : Below W.heap.size W (W.alloc (.cells #[.int .i8 h.kind, .string h.name, .string h.arg, .int .i64 h.num, .int .i8 h.tk, .slice p.TA p.tn p.tc, .int .i8 h.uk, .slice p.UA p.un p.uc, .int .i64 h.label, .int .i64 h.pos, .slice p.A p.n p.c] 28)) := (Below.refl _ _).alloc (Nat.le_refl _) _
  have h0 := heap_new W (.cells #[.int .i8 h.kind, .string h.name, .string h.arg, .int .i64 h.num, .int .i8 h.tk, .slice p.TA p.tn p.tc, .int .i8 h.uk, .slice p.UA p.un p.uc, .int .i64 h.label, .int .i64 h.pos, .slice p.A p.n p.c] 28)
  have hI1 := Ca.IA.use.new _ _ _ _ hI hB1
  obtain ⟨w1, hw1⟩ : ∃ w1, w1 = W.alloc (.cells #[.int .i8 h.kind, .string h.name, .string h.arg, .int .i64 h.num, .int .i8 h.tk, .slice p.TA p.tn p.tc, .int .i8 h.uk, .slice p.UA p.un p.uc, .int .i64 h.label, .int .i64 h.pos, .slice p.A p.n p.c] 28) := ⟨_, rfl⟩
  rw [← hw1] at hB1 h0 hI1
  obtain ⟨v, xs, s1, s2, s3, s4⟩ := hI1.st
  obtain ⟨w2, hw2⟩ : ∃ w2, w2 = w1.alloc (.cells #[.int .i8 h.tk, .slice p.TA p.tn p.tc, .int .i8 h.uk, .slice p.UA p.un p.uc, .int .i64 h.label] 41) := ⟨_, rfl⟩
  have hB2 : Below W.heap.size W w2 := by rw [hw2]; exact hB1.alloc hB1.size _
  have hb12 : Below w1.heap.size w1 w2 := by rw [hw2]; exact (Below.refl _ _).alloc (Nat.le_refl _) _
  have hI2 := Ca.IA.use.new _ _ _ _ hI1 hb12
  have hfl := hIs.fit
  have HST := Lib.hid (fun (v' : Value) (w3 : World) (ho : w3.ownsRow hi 41 5 v' (vs.length + 1) (xs ++ Ca.czv (Ca.cz h) p.TA p.tn p.tc p.UA p.un p.uc)) (hg : w2.grownBy w3 v.ownBlock) (hat : v'.ownBlock = v.ownBlock ∨ v'.ownBlock = some w2.heap.size) => Ca.IA.step hI2 ⟨s1, s2, s3, s4⟩ hlen hfl.ty hfl.to hB2 hb12 ho hg hat)
  have HG3 := Lib.hid (fun (w3 : World) (hg : w2.grownBy w3 v.ownBlock) => show w3.heap[g]? = some (.cells #[v] 38 (0, 0)) from by
    have hl := heap_lt s1
    rw [hg.block g (by have := hb12.size; omega) (fun e => by have := (s2.lt g e.symm).1; have := hI1.gl; have := hI1.lh; omega), hb12.block g hl]; exact s1)
  have HW := Lib.hid hw1
  have HW2 := Lib.hid hw2
  obtain ⟨y0, y1, y2⟩ := own1 s1
  obtain ⟨q0, q1, q2, q3, q4, q5, q6, q7, q8, q9, q10, ql⟩ := own11 h0
  obtain ⟨i0, hii, hz0, hz1, hz2⟩ := info_parts info_CastAt
  have hO2 := s2.alloc (.cells #[.int .i8 h.tk, .slice p.TA p.tn p.tc, .int .i8 h.uk, .slice p.UA p.un p.uc, .int .i64 h.label] 41)
  have hhi : hi ≤ w1.heap.size := hI1.hW
  clear hI hI1 hB1 h0 hw1 s1 s2 s3 s4 hI2 hB2 hb12 hfl hIs hw2
  go_enter Tryz.func51, Tryz.ntmps51
  go_upto_region 1 with fail
  rw [← HW.out]
  clear HW
  go_wp2_with (first | (at_builtin; refine wpList_append_own_at _ rfl (.tmp 3) (.tmp 11) 38 rfl hi 41 i0 (.agg #[.int .i8 0, .slice none 0 0, .int .i8 0, .slice none 0 0, .int .i64 0]) 5 72 Tryz.underlying38 hii hz0 hz1 hz2 rfl (by decide) v _ _ rfl hO2 ⟨w1.heap.size, 0, none⟩ 1 1 (Ca.czv (Ca.cz h) p.TA p.tn p.tc p.UA p.un p.uc) rfl rfl ?c1 ?c2 ?c3 ?c4 ?c5 ?_))
  case c1 => exact cells_of_heap (heap_new w1 _)
  case c2 => intro x hx; simp [Ca.czv] at hx; rcases hx with rfl | rfl | rfl | rfl | rfl <;> rfl
  case c3 => unfold maxLen; omega
  case c4 => omega
  case c5 => simp; omega
  intro v' w3 hown3 hg3 _ hat
  rw [← HW2.out] at hg3
  have hst := Lib.hid (HST.out v' w3 hown3 hg3 (by rw [HW2.out]; simpa using hat))
  have hg3' := HG3.out w3 hg3
  obtain ⟨A', m', c', rfl⟩ : ∃ A' m' c', v' = .slice A' m' c' := by
    rcases hown3.2 with ⟨hv, -⟩ | ⟨g', cap, cur, hv, -⟩
    · exact ⟨_, _, _, hv⟩
    · exact ⟨_, _, _, hv⟩
  obtain ⟨x0, x1, x2⟩ := own1 hg3'
  clear hown3 hg3 hat hO2 HST HG3 hg3'
  go_wp2_with fail
  go_end0
  exact ⟨rfl, hst.out⟩
end Go.Proofs.YtfkbdpehdabepaaGreatDoor
