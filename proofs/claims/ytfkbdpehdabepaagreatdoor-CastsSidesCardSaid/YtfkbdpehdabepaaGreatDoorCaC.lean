/-
  casts.Safe, casts.All, whole.
-/
import Derived.Test.YtfkbdpehdabepaaGreatDoorM15
import Derived.Test.YtfkbdpehdabepaaGreatDoorCaB
import Derived.Test.YtfkbdpehdabepaaGreatDoorM17
namespace Go.Proofs.YtfkbdpehdabepaaGreatDoor
open Go.RowKit
/-- what Safe tells -/
def Ca.sfP (n : Int) (h : Hd) (kids : Tm) : Bool := if Tm.chk h kids = 0 then Ca.sP n (Ca.cs (.node h kids .nil)) else false
def Ca.sfN (n : Int) (h : Hd) (kids : Tm) : Bool := if Tm.chk h kids = 0 then Ca.sN n (Ca.cs (.node h kids .nil)) else false
theorem heap_n4' (w : World) (a b c d : Obj) : ∃ w1, w1 = (((w.alloc a).alloc b).alloc c).alloc d ∧ Below w.heap.size w w1 ∧ w1.heap[w.heap.size]? = some a ∧ w1.heap[w.heap.size + 1]? = some b ∧ w1.heap[w.heap.size + 1 + 1]? = some c ∧ w1.heap[w.heap.size + 1 + 1 + 1]? = some d ∧ w1.heap.size = w.heap.size + 4 := by
  obtain ⟨h1, h2, h3, h4⟩ := heap_n4 w a b c d
  exact ⟨_, rfl, below_n4 w a b c d, h1, h2, h3, h4, by simp⟩
set_option maxHeartbeats 4000000 in
set_option maxRecDepth 100000 in
theorem csafe_any (h : Hd) (kids : Tm) (p : Pl) (n : Int) (w : World) (hIs : Tm.Is w h kids p) (hG : TGlob w) (hn : -9223372036854775808 < n ∧ n ≤ 9223372036854775807) :
    Calls Tryz.prog 23 #[.agg #[.int .i8 h.kind, .string h.name, .string h.arg, .int .i64 h.num, .int .i8 h.tk, .slice p.TA p.tn p.tc, .int .i8 h.uk, .slice p.UA p.un p.uc, .int .i64 h.label, .int .i64 h.pos, .slice p.A p.n p.c], .int .i64 n] w fun e w' => e = .returned (.tuple #[.bool (Ca.sfP n h kids), .bool (Ca.sfN n h kids)]) ∧ Below w.heap.size w w' := by
  obtain ⟨w1, hw1, hB1, h0, h1, h2, h3, hz⟩ := heap_n4' w (.cells #[.int .i8 h.kind, .string h.name, .string h.arg, .int .i64 h.num, .int .i8 h.tk, .slice p.TA p.tn p.tc, .int .i8 h.uk, .slice p.UA p.un p.uc, .int .i64 h.label, .int .i64 h.pos, .slice p.A p.n p.c] 28) (.cells #[.int .i64 n] 3) (.cells #[.bool false] 4) (.cells #[.bool false] 4)
  have CK := Lib.hid (tcheck_any h kids p w1 (hIs.below hB1) (hG.below hB1))
  have HW := Lib.hid hw1
  have HIS := Lib.hid hIs
  have HS := Lib.hid hG.types
  have HN := Lib.hid hn
  have HZ := Lib.hid hz
  have hS1 : Ca.SBx w w.heap.size (w.heap.size + 1) (w.heap.size + 1 + 1) (w.heap.size + 1 + 1 + 1) h p n false false w1 := ⟨h0, h1, h2, h3, hB1, by omega, by omega, by omega, by omega, by omega, by omega, by omega⟩
  have HS1 := Lib.hid hS1
  obtain ⟨q0, q1, q2, q3, q4, q5, q6, q7, q8, q9, q10, ql⟩ := own11 h0
  clear hw1 hB1 h0 h1 h2 h3 hIs hG hn hS1 hz
  unfold Ca.sfP Ca.sfN
  by_cases hc : Tm.chk h kids = 0
  · have hne : (((Tm.chk h kids : Nat) : Int) != 0) = false := by rw [hc]; rfl
    rw [if_pos hc, if_pos hc]
    generalize ((Tm.chk h kids : Nat) : Int) = x0 at *
    clear hc
    go_enter Tryz.func23, Tryz.ntmps23
    go_upto_region 1 with fail
    rw [← HW.out]
    clear HW
    go_wp2_with fail
    refine CK.out.mono ?_
    rintro e w2 ⟨rfl, hb⟩
    have HS2 := Lib.hid (HS1.out.below hb)
    clear hb q0 q1 q2 q3 q4 q5 q6 q7 q8 q9 q10 ql CK
    obtain ⟨p0, p1, p2⟩ := own1 HS2.out.p
    obtain ⟨n0, n1, n2⟩ := own1 HS2.out.n
    go_upto_region 4 with fail
    clear p0 p1 p2 n0 n1 n2
    have HS3 := Lib.hid ((HS2.out.setp true).setn true)
    generalize (w2.setCell ⟨w.heap.size + 1 + 1, 0, none⟩ (.bool true)).setCell ⟨w.heap.size + 1 + 1 + 1, 0, none⟩ (.bool true) = w3 at *
    have hIS : Ca.IS w n (w.heap.size + 1) (w.heap.size + 1 + 1) (w.heap.size + 1 + 1 + 1) [] (fun b => b = w.heap.size + 1 + 1 ∨ b = w.heap.size + 1 + 1 + 1) w3 := ⟨HS3.out.l, HS3.out.p, HS3.out.n, fun _ => Iff.rfl, HS3.out.b, HS3.out.g1, HS3.out.g2, HS3.out.n3, HS3.out.n4, HS3.out.n5⟩
    have CT := Lib.hid (thruC_any (Ca.pre (.node h kids .nil)).length 53 #[.pointer (some ⟨w.heap.size + 1, 0, none⟩), .pointer (some ⟨w.heap.size + 1 + 1, 0, none⟩), .pointer (some ⟨w.heap.size + 1 + 1 + 1, 0, none⟩)] w _ Ca.IS.use h kids p [] _ w3 HIS.out hIS (fun h' k' q' _ hI' => safe_use _ _ _ _ n w h' k' q' hI' HS.out HN.out) (by simp))
    clear hIS HIS HS
    obtain ⟨q0, q1, q2, q3, q4, q5, q6, q7, q8, q9, q10, ql⟩ := own11 HS3.out.x
    go_wp2_with fail
    refine CT.out.mono ?_
    rintro e u ⟨rfl, M', hI', hG'⟩
    obtain ⟨i1, i2, i3, i4, i5, i6, i7, i8, i9, i10⟩ := hI'
    have hx : u.heap[w.heap.size]? = some (.cells #[.int .i8 h.kind, .string h.name, .string h.arg, .int .i64 h.num, .int .i8 h.tk, .slice p.TA p.tn p.tc, .int .i8 h.uk, .slice p.UA p.un p.uc, .int .i64 h.label, .int .i64 h.pos, .slice p.A p.n p.c] 28 (0, 0)) := by
      rw [hG'.block _ (heap_lt HS3.out.x) (fun q => by rcases q with q | q <;> omega)]; exact HS3.out.x
    rw [List.nil_append] at i2 i3
    have HS4 := Lib.hid (show Ca.SBx w w.heap.size (w.heap.size + 1) (w.heap.size + 1 + 1) (w.heap.size + 1 + 1 + 1) h p n (Ca.sP n (Ca.cs (.node h kids .nil))) (Ca.sN n (Ca.cs (.node h kids .nil))) u from ⟨hx, i1, i2, i3, i5, by omega, by omega, by omega, by omega, by omega, i6, i7⟩)
    obtain ⟨B1, hb1⟩ : ∃ b, b = Ca.sP n (Ca.cs (.node h kids .nil)) := ⟨_, rfl⟩
    obtain ⟨B2, hb2⟩ : ∃ b, b = Ca.sN n (Ca.cs (.node h kids .nil)) := ⟨_, rfl⟩
    rw [← hb1, ← hb2] at HS4
    have HQ1 := Lib.hid hb1
    have HQ2 := Lib.hid hb2
    clear hb1 hb2
    clear i1 i2 i3 i4 i5 i6 i7 i8 i9 i10 hx hG' q0 q1 q2 q3 q4 q5 q6 q7 q8 q9 q10 ql CT
    obtain ⟨p0, p1, p2⟩ := own1 HS4.out.p
    obtain ⟨n0, n1, n2⟩ := own1 HS4.out.n
    go_upto_region 5 with fail
    go_region
    simp only [Exit.then]
    have HS5 := Lib.hid ((((HS4.out.setp B1).setn B2)).below (Below.refl _ _).drew)
    generalize ((u.setCell ⟨w.heap.size + 1 + 1, 0, none⟩ (.bool B1)).setCell ⟨w.heap.size + 1 + 1 + 1, 0, none⟩ (.bool B2)).drew = w5 at *
    clear p0 p1 p2 n0 n1 n2
    obtain ⟨p0, p1, p2⟩ := own1 HS5.out.p
    obtain ⟨n0, n1, n2⟩ := own1 HS5.out.n
    go_at_K
    go_wp2_with fail
    refine bodyPost_ret (v := .tuple #[.bool B1, .bool B2]) (by simp [results, Tryz.results23, go_sem, *]) rfl ⟨by rw [HQ1.out, HQ2.out], HS5.out.b⟩
  · have hne : (((Tm.chk h kids : Nat) : Int) != 0) = true := by simp; omega
    rw [if_neg hc, if_neg hc]
    generalize ((Tm.chk h kids : Nat) : Int) = x0 at *
    clear hc
    go_enter Tryz.func23, Tryz.ntmps23
    go_upto_region 1 with fail
    rw [← HW.out]
    clear HW
    go_wp2_with fail
    refine CK.out.mono ?_
    rintro e w2 ⟨rfl, hb⟩
    have HS2 := Lib.hid (HS1.out.below hb)
    clear hb q0 q1 q2 q3 q4 q5 q6 q7 q8 q9 q10 ql CK
    obtain ⟨p0, p1, p2⟩ := own1 HS2.out.p
    obtain ⟨n0, n1, n2⟩ := own1 HS2.out.n
    have HS3 := Lib.hid ((HS2.out.setp false).setn false)
    go_wp2_with fail
    generalize (w2.setCell ⟨w.heap.size + 1 + 1, 0, none⟩ (.bool false)).setCell ⟨w.heap.size + 1 + 1 + 1, 0, none⟩ (.bool false) = w3 at *
    clear p0 p1 p2 n0 n1 n2
    obtain ⟨p0, p1, p2⟩ := own1 HS3.out.p
    obtain ⟨n0, n1, n2⟩ := own1 HS3.out.n
    refine bodyPost_ret (v := .tuple #[.bool false, .bool false]) (by simp [results, Tryz.results23, go_sem, *]) rfl ⟨rfl, HS3.out.b⟩
namespace Ca
theorem pre_len : ∀ f : Tm, (pre f).length ≤ Tm.nodes f
  | .nil => Nat.le_refl _
  | .node h k r => by have := pre_len k; have := pre_len r; simp only [pre, List.length_cons, List.length_append, Tm.nodes]; omega
theorem tyN_cnt (h : Hd) : Tm.tyN (Tm.cnt h) = Tm.tyN h := tyN_pl h
theorem nodes_bF : ∀ f : Tm, Tm.nodes (Tm.bF f) = Tm.nodes f
  | .nil => rfl
  | .node h kids r => by simp only [Tm.bF, Tm.nodes]; rw [nodes_bF r, nodes_bF kids, tyN_cnt]
/-- what All tells -/
def allL (h : Hd) (kids : Tm) : List Cz := if Tm.chk h kids = 0 then (cs (.node h kids .nil)).map cz else []
theorem nodes1 {h : Hd} {kids : Tm} (hc : Tm.chk h kids = 0) : Tm.nodes (.node h kids .nil) ≤ 8192 := by
  have e : Tm.nd h kids = 1 + Tm.tyN h + Tm.nodes kids := rfl
  have : ¬ 8192 < Tm.nd h kids := fun q => by unfold Tm.chk at hc; rw [if_pos q] at hc; omega
  simp only [Tm.nodes]; omega
/-- a row of casts, as it lies -/
def RowAt (w : World) (L : List Cz) (G : Option Addr) (m c : Nat) : Prop :=
  m = L.length ∧ m ≤ c ∧ c ≤ maxLen ∧ m ≤ 8192 ∧ (L = [] ∨ ∃ g xs, G = some ⟨g, 0, none⟩ ∧ RowC w L xs ∧ ∀ j u, xs[j]? = some u → w.cell? ⟨g, j, none⟩ = some u)
/-- what All leaves -/
def AllP (w : World) (h : Hd) (kids : Tm) (e : Ending) (w' : World) : Prop :=
  ∃ G m c, e = .returned (.slice G m c) ∧ RowAt w' (allL h kids) G m c ∧ Below w.heap.size w w'
theorem IA.row {n0 lo hi g : Nat} {w wb W : World} {vs : List Hd} {M : Nat → Prop} (e : IA n0 w (mask (rng lo hi) wb) wb lo hi g vs M W) : ∃ G m c, W.heap[g]? = some (.cells #[.slice G m c] 38 (0, 0)) ∧ RowAt W (vs.map cz) G m c := by
  obtain ⟨v, xs, s1, s2, s3, s4⟩ := e.st
  have hk : Tm.Kept (mask (rng lo hi) wb) W := fun b _ o v hv => IA.use.base _ _ _ e b o v hv
  rcases s2.2 with ⟨hv, h0⟩ | ⟨g', cap, cur, hv, hb0, hg, h1, h2, h3⟩
  · have : vs = [] := List.eq_nil_of_length_eq_zero h0
    subst this
    exact ⟨none, 0, 0, by rw [← hv]; exact s1, rfl, Nat.le_refl _, Nat.zero_le _, Nat.zero_le _, .inl rfl⟩
  · refine ⟨some ⟨g', 0, none⟩, vs.length, cap, by rw [← hv]; exact s1, by rw [List.length_map], h1, h2, e.len, .inr ⟨g', xs, rfl, RowC.kept hk _ _ s3, fun j u hu => ?_⟩⟩
    have := s2.cells (g := g') (by rw [hv]; rfl) j u hu
    rwa [show (⟨g', 0, none⟩ : Addr).add j = ⟨g', j, none⟩ by unfold Addr.add; by_cases h : j = 0 <;> simp [h]] at this
/-- what Bare gives, handed on -/
theorem bare_in {w w' : World} {h : Hd} {kids : Tm} {e : Ending} (hc : BareSp w h kids e w') : ∃ (a : Hd) (ak : Tm) (p : Pl), e = .returned (.agg #[.int .i8 a.kind, .string a.name, .string a.arg, .int .i64 a.num, .int .i8 a.tk, .slice p.TA p.tn p.tc, .int .i8 a.uk, .slice p.UA p.un p.uc, .int .i64 a.label, .int .i64 a.pos, .slice p.A p.n p.c]) ∧ Tm.SepK w' a ak p w.heap.size w'.heap.size ∧ (cs (.node a ak .nil)).map cz = allL h kids ∧ (pre (.node a ak .nil)).length ≤ 8192 ∧ Below w.heap.size w w' := by
  obtain ⟨h1, h2, h3⟩ := hc
  by_cases q : Tm.chk h kids = 0
  · obtain ⟨p, e1, e2⟩ := h1 q
    refine ⟨_, _, p, e1, e2, ?_, ?_, h3⟩
    · rw [allL, if_pos q]
      exact cz_bF (.node h kids .nil)
    · have := pre_len (Tm.bF (.node h kids .nil))
      rw [nodes_bF] at this
      exact Nat.le_trans this (nodes1 q)
  · refine ⟨Tm.zero, .nil, ⟨none, 0, 0, none, 0, 0, none, 0, 0⟩, h2 q, ⟨w'.heap.size, h3.size, Nat.le_refl _, (Tm.is_zero _).fit, .inl rfl⟩, by rw [allL, if_neg q]; rfl, by decide, h3⟩
end Ca
set_option maxHeartbeats 4000000 in
set_option maxRecDepth 100000 in
theorem call_any (h : Hd) (kids : Tm) (p : Pl) (w : World) (hIs : Tm.Is w h kids p) (hG : TGlob w) :
    Calls Tryz.prog 20 #[.agg #[.int .i8 h.kind, .string h.name, .string h.arg, .int .i64 h.num, .int .i8 h.tk, .slice p.TA p.tn p.tc, .int .i8 h.uk, .slice p.UA p.un p.uc, .int .i64 h.label, .int .i64 h.pos, .slice p.A p.n p.c]] w (Ca.AllP w h kids) := by
  have hB1 := below_n2 w (.cells #[.int .i8 h.kind, .string h.name, .string h.arg, .int .i64 h.num, .int .i8 h.tk, .slice p.TA p.tn p.tc, .int .i8 h.uk, .slice p.UA p.un p.uc, .int .i64 h.label, .int .i64 h.pos, .slice p.A p.n p.c] 28) (.cells #[.slice none 0 0] 38)
  obtain ⟨h0, h1⟩ := heap_n2 w (.cells #[.int .i8 h.kind, .string h.name, .string h.arg, .int .i64 h.num, .int .i8 h.tk, .slice p.TA p.tn p.tc, .int .i8 h.uk, .slice p.UA p.un p.uc, .int .i64 h.label, .int .i64 h.pos, .slice p.A p.n p.c] 28) (.cells #[.slice none 0 0] 38)
  obtain ⟨w1, hw1⟩ : ∃ w1, w1 = (w.alloc (.cells #[.int .i8 h.kind, .string h.name, .string h.arg, .int .i64 h.num, .int .i8 h.tk, .slice p.TA p.tn p.tc, .int .i8 h.uk, .slice p.UA p.un p.uc, .int .i64 h.label, .int .i64 h.pos, .slice p.A p.n p.c] 28)).alloc (.cells #[.slice none 0 0] 38) := ⟨_, rfl⟩
  have hz : w1.heap.size = w.heap.size + 2 := by rw [hw1]; simp
  rw [← hw1] at hB1 h0 h1
  have CB := Lib.hid (tbare_sp h kids p w1 (hIs.below hB1) (hG.below hB1))
  have HW := Lib.hid hw1
  have HB1 := Lib.hid hB1
  have H1 := Lib.hid h1
  have HZ := Lib.hid hz
  obtain ⟨q0, q1, q2, q3, q4, q5, q6, q7, q8, q9, q10, ql⟩ := own11 h0
  clear hw1 hB1 h0 h1 hIs hG hz
  go_enter Tryz.func20, Tryz.ntmps20
  go_upto_region 2 with fail
  rw [← HW.out]
  clear HW
  go_wp2_with fail
  refine CB.out.mono ?_
  intro e u1 hg
  obtain ⟨a, ak, pa, rfl, hsp, hcz, hpl, hb⟩ := Ca.bare_in hg
  have HCZ := Lib.hid hcz
  have hg1 := heap_below hb (heap_lt H1.out) H1.out
  have hzz := hb.size
  have hz1 := HZ.out
  have hIA : Ca.IA w.heap.size w (mask (rng w1.heap.size u1.heap.size) u1) u1 w1.heap.size u1.heap.size (w.heap.size + 1) [] (fun b => b = w.heap.size + 1 ∨ (Value.slice none 0 0).ownBlock = some b) u1 :=
    ⟨⟨.slice none 0 0, [], hg1, World.ownsRow_nil _ _ _ _, rfl, fun b => Iff.rfl⟩, fun _ _ _ => rfl, HB1.out.trans (hb.mono HB1.out.size), Nat.zero_le _, by omega, by omega, hzz, Nat.le_refl _, Nat.le_refl _⟩
  have hI : Tm.Is (mask (rng w1.heap.size u1.heap.size) u1) a ak pa := hsp.is fun b o v q1 q2 hv => mask_of (rng_of q1 q2) hv
  have CT := Lib.hid (thruC_any 8192 51 #[.pointer (some ⟨w.heap.size + 1, 0, none⟩)] _ _ Ca.IA.use a ak pa [] _ u1 hI hIA (fun h' k' q' _ hI' => all_use _ _ _ _ w u1 h' k' q' hI') (by simpa using hpl))
  clear hg hsp hcz hpl hb hIA hI hg1 hzz hz1 CB q0 q1 q2 q3 q4 q5 q6 q7 q8 q9 q10 ql
  go_wp2_with fail
  refine CT.out.mono ?_
  rintro e u2 ⟨rfl, M', hI', hG'⟩
  have HBE := Lib.hid hI'.below
  obtain ⟨G, m, c, r1, r2⟩ := hI'.row
  rw [List.nil_append, HCZ.out] at r2
  obtain ⟨y0, y1, y2⟩ := own1 r1
  have HR := Lib.hid r2
  clear hI' hG' r1 r2
  go_wp2_with fail
  go_ret
  exact ⟨G, m, c, rfl, HR.out, HBE.out⟩
end Go.Proofs.YtfkbdpehdabepaaGreatDoor
