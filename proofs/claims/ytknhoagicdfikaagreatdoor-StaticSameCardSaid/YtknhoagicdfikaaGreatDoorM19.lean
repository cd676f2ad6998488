/-
  Layer 11: what is left open in a term; what the static rules' words mean; a type's parts, as they lie. Layer 11: open, firstOpen.
-/
import Derived.Test.YtknhoagicdfikaaGreatDoorM16
import Derived.Test.YtknhoagicdfikaaGreatDoorM6
import Derived.Test.YtknhoagicdfikaaGreatDoorM18
import Derived.Test.YtknhoagicdfikaaGreatDoorM17
import Derived.Test.YtknhoagicdfikaaGreatDoorM8
import Derived.Test.YtknhoagicdfikaaGreatDoorKc
import Derived.Test.YtknhoagicdfikaaGreatDoorM4
namespace Go.Proofs.YtknhoagicdfikaaGreatDoor
open Go.RowKit
namespace St
/-- a term's own annotations -/
def anno (h : Hd) : Fo := Tm.tys h
def opnK (k : Int) (kids : Fo) : Bool := !Ty.knownT k kids
def opn (h : Hd) : Bool := Ty.anyF opnK (anno h)
/-- the place of the first term that leaves something open -/
def foF : Tm → Option Int
  | .nil => none
  | .node h k r => if opn h = true then some h.pos else match foF k with
    | some x => some x
    | none => foF r
def fo (h : Hd) (kids : Tm) : Option Int := if opn h = true then some h.pos else foF kids
theorem foF_node (h : Hd) (k r : Tm) : foF (.node h k r) = match fo h k with | some x => some x | none => foF r := by
  show (if opn h = true then some h.pos else _) = _
  unfold fo
  by_cases q : opn h = true
  · rw [if_pos q, if_pos q]
  · rw [if_neg q, if_neg q]
/-- what is refused, and where -/
def ref (h : Hd) (kids : Tm) : Option (Int × Int) := match Ck.refO h kids with
  | some x => some x
  | none => match fo h kids with
    | some x => some (110, x)
    | none => none
def p1 : Fo → Ck.T2
  | .node _ _ k f _ => (k, f)
  | .nil => (0, .nil)
def p2 : Fo → Ck.T2
  | .node _ _ _ _ r => p1 r
  | .nil => (0, .nil)
/-- the static rules' words -/
def ops : Cg.Ops where
  ag a b := Ty.sameT a.1 a.2 b.1 b.2
  asO k a := a.1 == k
  asl k a := if a.1 = k then p1 a.2 else (0, .nil)
  asr k a := if a.1 = k then p2 a.2 else (0, .nil)
  mt a _ := a
  gs _ _ := false
  ca := false
end St
theorem cell_set_same {w : World} {b o : Nat} {v x : Value} (h : w.cell? ⟨b, o, none⟩ = some v) : (w.setCell ⟨b, o, none⟩ x).cell? ⟨b, o, none⟩ = some x := by
  unfold World.cell? at h ⊢
  unfold World.setCell
  simp only [Array.getElem?_modify, if_true]
  cases hb : w.heap[b]? with
  | none => rw [hb] at h; cases h
  | some ob =>
    rw [hb] at h
    cases ob with
    | cells c t z =>
      simp only [Option.isSome_none, Bool.false_eq_true, if_false] at h
      have hlt : o < c.size := by
        rcases Nat.lt_or_ge o c.size with q | q
        · exact q
        · rw [Array.getElem?_eq_none q] at h; cases h
      simp [hlt]
    | _ => cases h
/-- a type's two parts, as they lie -/
theorem Ck.Ly.parts {Q : Nat → Prop} {w : World} {k : Int} {a1 a2 a3 a4 : Nat} {p1 p2 : Int} {f1 f2 : Fo} {A : Option Addr} {n c : Nat} (h : Ck.Ly Q w (k, .node a1 a2 p1 f1 (.node a3 a4 p2 f2 .nil)) A n c) :
    ∃ bb oo B1 c1 B2 c2, A = some ⟨bb, oo, none⟩ ∧ Q bb ∧ w.cell? ⟨bb, oo, none⟩ = some (.int .i8 p1) ∧ w.cell? ⟨bb, oo + 1, none⟩ = some (.slice B1 (Ty.len f1) c1) ∧ w.cell? ⟨bb, oo + 2, none⟩ = some (.int .i8 p2) ∧ w.cell? ⟨bb, oo + 3, none⟩ = some (.slice B2 (Ty.len f2) c2) ∧ Ck.Ly Q w (p1, f1) B1 (Ty.len f1) c1 ∧ Ck.Ly Q w (p2, f2) B2 (Ty.len f2) c2 := by
  obtain ⟨bb, oo, B1, c1, B2, c2, rfl, x0, x1, x2, x3, -, -⟩ := Ty.lies2 h.is.lies
  have hQ : Q bb := by
    refine Classical.byContradiction fun hn => ?_
    obtain ⟨bb', oo', B1', c1', B2', c2', e, y0, -, -, -, -, -⟩ := Ty.lies2 (h (w.setCell ⟨bb, oo, none⟩ (.bool true)) fun b o v hb hc => by
      rw [World.cell?_setCell_other _ _ _ _ (fun e => by injection e with e1 e2; exact hn (e1 ▸ hb))]; exact hc).lies
    injection e with e; injection e with e1 e2; subst e1; subst e2
    rw [cell_set_same x0] at y0
    cases y0
  refine ⟨bb, oo, B1, c1, B2, c2, rfl, hQ, x0, x1, x2, x3, fun u hu => ?_, fun u hu => ?_⟩
  · obtain ⟨bb', oo', B1', c1', B2', c2', e, y0, y1, y2, y3, i1, i2⟩ := Ty.lies2 (h u hu).lies
    injection e with e; injection e with e1 e2; subst e1; subst e2
    rw [hu _ _ _ hQ x1] at y1
    injection y1 with y1; injection y1 with z1 z2 z3; subst z1; subst z3
    exact i1
  · obtain ⟨bb', oo', B1', c1', B2', c2', e, y0, y1, y2, y3, i1, i2⟩ := Ty.lies2 (h u hu).lies
    injection e with e; injection e with e1 e2; subst e1; subst e2
    rw [hu _ _ _ hQ x3] at y3
    injection y3 with y3; injection y3 with z1 z2 z3; subst z1; subst z3
    exact i2
end Go.Proofs.YtknhoagicdfikaaGreatDoor
namespace Go.Proofs.YtknhoagicdfikaaGreatDoor
open Go.RowKit
set_option maxHeartbeats 1000000 in
set_option maxRecDepth 100000 in
theorem sopen_any (k : Int) (kids : Fo) (A : Option Addr) (n c : Nat) (w : World) (hIs : Ty.Is w k kids A n c) (hS : Shapes w) :
    Calls Tryz.prog 64 #[.agg #[.int .i8 k, .slice A n c]] w fun e w' => e = .returned (.bool (St.opnK k kids)) ∧ Below w.heap.size w w' := by
  have HB1 := Lib.hid (below_n1 w (.cells #[.int .i8 k, .slice A n c] 25))
  have CK := Lib.hid (fun (W : World) (hb : Below w.heap.size w W) => known_fn k kids A n c W (hIs.below hb) (hS.below hb))
  unfold St.opnK
  generalize Ty.knownT k kids = B at *
  clear hIs hS
  go_enter Tryz.func64, Tryz.ntmps64
  go_wp2_with fail
  refine (CK.out _ HB1.out).mono ?_
  rintro e w2 ⟨rfl, hb2⟩
  have HB2 := Lib.hid (HB1.out.trans (hb2.mono HB1.out.size))
  clear hb2
  go_wp2_with fail
  go_ret
  exact ⟨rfl, HB2.out⟩
theorem cf_open (args : Array Value) (W : World) : (callFunc 64 args).run Tryz.prog W = .ok (.enter 64 args) W := by simp [go_sem]

namespace St
/-- what firstOpen leaves -/
def FoPost (w : World) (r : Option Int) (e : Ending) (w' : World) : Prop :=
  ∃ (h1 : Hd) (p1 : Pl), e = .returned (.tuple #[.agg #[.int .i8 h1.kind, .string h1.name, .string h1.arg, .int .i64 h1.num, .int .i8 h1.tk, .slice p1.TA p1.tn p1.tc, .int .i8 h1.uk, .slice p1.UA p1.un p1.uc, .int .i64 h1.label, .int .i64 h1.pos, .slice p1.A p1.n p1.c], .bool r.isSome]) ∧ (∀ x, r = some x → h1.pos = x) ∧ Below w.heap.size w w'
def pl0 : Pl := ⟨none, 0, 0, none, 0, 0, none, 0, 0⟩
end St
theorem set_11 {w : World} {X : Nat} {x0 x1 x2 x3 x4 x5 x6 x7 x8 x9 x10 : Value} {t : TypeId} (h : w.heap[X]? = some (.cells #[x0, x1, x2, x3, x4, x5, x6, x7, x8, x9, x10] t (0, 0))) (v0 v1 v2 v3 v4 v5 v6 v7 v8 v9 v10 : Value) :
    (((((((((((w.setCell ⟨X, 0, none⟩ v0).setCell ⟨X, 1, none⟩ v1).setCell ⟨X, 2, none⟩ v2).setCell ⟨X, 3, none⟩ v3).setCell ⟨X, 4, none⟩ v4).setCell ⟨X, 5, none⟩ v5).setCell ⟨X, 6, none⟩ v6).setCell ⟨X, 7, none⟩ v7).setCell ⟨X, 8, none⟩ v8).setCell ⟨X, 9, none⟩ v9).setCell ⟨X, 10, none⟩ v10).heap[X]? = some (.cells #[v0, v1, v2, v3, v4, v5, v6, v7, v8, v9, v10] t (0, 0)) := by
  simp [World.setCell, Array.getElem?_modify, h]
theorem froz11 {w : World} {b : Nat} {v0 v1 v2 v3 v4 v5 v6 v7 v8 v9 v10 : Value} {t : TypeId} (h : w.heap[b]? = some (.cells #[v0, v1, v2, v3, v4, v5, v6, v7, v8, v9, v10] t (0, 0))) :
    w.frozen? ⟨b, 0, none⟩ = false ∧ w.frozen? ⟨b, 1, none⟩ = false ∧ w.frozen? ⟨b, 2, none⟩ = false ∧ w.frozen? ⟨b, 3, none⟩ = false ∧ w.frozen? ⟨b, 4, none⟩ = false ∧ w.frozen? ⟨b, 5, none⟩ = false ∧ w.frozen? ⟨b, 6, none⟩ = false ∧ w.frozen? ⟨b, 7, none⟩ = false ∧ w.frozen? ⟨b, 8, none⟩ = false ∧ w.frozen? ⟨b, 9, none⟩ = false ∧ w.frozen? ⟨b, 10, none⟩ = false := by
  refine ⟨?_, ?_, ?_, ?_, ?_, ?_, ?_, ?_, ?_, ?_, ?_⟩ <;> simp [World.frozen?, h]
theorem below_11 {a w : World} {X : Nat} (hb : Below a.heap.size a w) (hX : a.heap.size ≤ X) (v0 v1 v2 v3 v4 v5 v6 v7 v8 v9 v10 : Value) :
    Below a.heap.size a (((((((((((w.setCell ⟨X, 0, none⟩ v0).setCell ⟨X, 1, none⟩ v1).setCell ⟨X, 2, none⟩ v2).setCell ⟨X, 3, none⟩ v3).setCell ⟨X, 4, none⟩ v4).setCell ⟨X, 5, none⟩ v5).setCell ⟨X, 6, none⟩ v6).setCell ⟨X, 7, none⟩ v7).setCell ⟨X, 8, none⟩ v8).setCell ⟨X, 9, none⟩ v9).setCell ⟨X, 10, none⟩ v10) := (((((((((((hb.setCell (p := ⟨X, 0, none⟩) hX _).setCell (p := ⟨X, 1, none⟩) hX _).setCell (p := ⟨X, 2, none⟩) hX _).setCell (p := ⟨X, 3, none⟩) hX _).setCell (p := ⟨X, 4, none⟩) hX _).setCell (p := ⟨X, 5, none⟩) hX _).setCell (p := ⟨X, 6, none⟩) hX _).setCell (p := ⟨X, 7, none⟩) hX _).setCell (p := ⟨X, 8, none⟩) hX _).setCell (p := ⟨X, 9, none⟩) hX _).setCell (p := ⟨X, 10, none⟩) hX _)
set_option maxHeartbeats 2000000 in
set_option maxRecDepth 100000 in
theorem sfirst_any (K : Nat) : ∀ (h : Hd) (kids : Tm) (p : Pl) (w : World), Tm.nodes kids < K → Tm.Is w h kids p → Shapes w →
    Calls Tryz.prog 36 #[.agg #[.int .i8 h.kind, .string h.name, .string h.arg, .int .i64 h.num, .int .i8 h.tk, .slice p.TA p.tn p.tc, .int .i8 h.uk, .slice p.UA p.un p.uc, .int .i64 h.label, .int .i64 h.pos, .slice p.A p.n p.c]] w (St.FoPost w (St.fo h kids)) := by
  induction K with
  | zero => intro _ _ _ _ hK; omega
  | succ K ih =>
    intro h kids p w hK hIs hS
    have hB2 := below_n2 w (.cells #[.int .i8 h.kind, .string h.name, .string h.arg, .int .i64 h.num, .int .i8 h.tk, .slice p.TA p.tn p.tc, .int .i8 h.uk, .slice p.UA p.un p.uc, .int .i64 h.label, .int .i64 h.pos, .slice p.A p.n p.c] 28) (.cells #[.int .i8 0, .string ⟨#[]⟩, .string ⟨#[]⟩, .int .i64 0, .int .i8 0, .slice none 0 0, .int .i8 0, .slice none 0 0, .int .i64 0, .int .i64 0, .slice none 0 0] 28)
    obtain ⟨h0, h1⟩ := heap_n2 w (.cells #[.int .i8 h.kind, .string h.name, .string h.arg, .int .i64 h.num, .int .i8 h.tk, .slice p.TA p.tn p.tc, .int .i8 h.uk, .slice p.UA p.un p.uc, .int .i64 h.label, .int .i64 h.pos, .slice p.A p.n p.c] 28) (.cells #[.int .i8 0, .string ⟨#[]⟩, .string ⟨#[]⟩, .int .i64 0, .int .i8 0, .slice none 0 0, .int .i8 0, .slice none 0 0, .int .i64 0, .int .i64 0, .slice none 0 0] 28)
    obtain ⟨w1, hw1⟩ : ∃ w1, w1 = (w.alloc (.cells #[.int .i8 h.kind, .string h.name, .string h.arg, .int .i64 h.num, .int .i8 h.tk, .slice p.TA p.tn p.tc, .int .i8 h.uk, .slice p.UA p.un p.uc, .int .i64 h.label, .int .i64 h.pos, .slice p.A p.n p.c] 28)).alloc (.cells #[.int .i8 0, .string ⟨#[]⟩, .string ⟨#[]⟩, .int .i64 0, .int .i8 0, .slice none 0 0, .int .i8 0, .slice none 0 0, .int .i64 0, .int .i64 0, .slice none 0 0] 28) := ⟨_, rfl⟩
    have hz : ((w.alloc (.cells #[.int .i8 h.kind, .string h.name, .string h.arg, .int .i64 h.num, .int .i8 h.tk, .slice p.TA p.tn p.tc, .int .i8 h.uk, .slice p.UA p.un p.uc, .int .i64 h.label, .int .i64 h.pos, .slice p.A p.n p.c] 28)).alloc (.cells #[.int .i8 0, .string ⟨#[]⟩, .string ⟨#[]⟩, .int .i64 0, .int .i8 0, .slice none 0 0, .int .i8 0, .slice none 0 0, .int .i64 0, .int .i64 0, .slice none 0 0] 28)).heap.size = w.heap.size + 2 := by simp
    rw [← hw1] at hB2 h0 h1 hz
    have HW1 := Lib.hid hw1
    have HB2 := Lib.hid hB2
    have H0 := Lib.hid h0
    have H1 := Lib.hid h1
    have HZ := Lib.hid hz
    have CA := Lib.hid (ptypes_any h kids p w1 (hIs.below hB2))
    have CC := Lib.hid (fun (G : Option Addr) (m cc : Nat) (W : World) (hb : Below w1.heap.size w1 W) (hL : Ty.Lies W (St.anno h) G 0) (hm : m = Ty.len (St.anno h)) (hmc : m ≤ cc) (hc : cc ≤ maxLen) => ty_contains_any 64 St.opnK (St.anno h) G m cc W hL hm hmc hc cf_open (fun k' kids' A' n' c' U hI hb2 => sopen_any k' kids' A' n' c' U hI ((hS.below (hB2.trans (hb.mono hB2.size))).below hb2)))
    have HI := Lib.hid (hIs.below hB2)
    have HIH := Lib.hid (fun (h' : Hd) (k' : Tm) (q : Pl) (W : World) (hk : Tm.nodes k' < Tm.nodes kids) (hI : Tm.Is W h' k' q) (hb : Below w1.heap.size w1 W) => ih h' k' q W (by omega) hI (hS.below (hB2.trans (hb.mono hB2.size))))
    have hpn := hIs.fit.n_eq
    have hpc := hIs.fit.n_le
    have hpm := hIs.fit.c_le
    have i5 : (p.n : Int) ≤ 9223372036854775807 := by unfold maxLen at hpm; omega
    clear ih hIs hS hB2 h0 h1 hz hpc hpm
    have HPN := Lib.hid hpn
    clear hpn
    by_cases ho : St.opn h = true
    · have hr : St.fo h kids = some h.pos := by unfold St.fo; rw [if_pos ho]
      rw [hr]
      have ho2 : Ty.anyF St.opnK (St.anno h) = true := ho
      rw [ho2] at CC
      clear hr ho ho2
      go_enter Tryz.func36, Tryz.ntmps36
      go_upto_region 1 with fail
      rw [← HW1.out]
      clear hw1 HW1
      obtain ⟨q0, q1, q2, q3, q4, q5, q6, q7, q8, q9, q10, ql⟩ := own11 H0.out
      go_wp2_with fail
      refine CA.out.mono ?_
      rintro e w2 ⟨G, m, cc, rfl, hL, hm, hmc, hcm, hb2⟩
      have CX := Lib.hid (CC.out G m cc w2 hb2 hL hm hmc hcm)
      have HB3 := Lib.hid hb2
      clear hL hm hmc hcm hb2
      go_wp2_with fail
      refine CX.out.mono ?_
      rintro e w3 ⟨rfl, hb3⟩
      have HB4 := Lib.hid (HB3.out.trans (hb3.mono HB3.out.size))
      have Z1 := Lib.hid (heap_below HB4.out (heap_lt H1.out) H1.out)
      clear hb3 q0 q1 q2 q3 q4 q5 q6 q7 q8 q9 q10 ql
      obtain ⟨q0, q1, q2, q3, q4, q5, q6, q7, q8, q9, q10, -⟩ := own11 (heap_below HB4.out (heap_lt H0.out) H0.out)
      obtain ⟨k0, k1, k2, k3, k4, k5, k6, k7, k8, k9, k10, kl⟩ := own11 Z1.out
      obtain ⟨f0, f1, f2, f3, f4, f5, f6, f7, f8, f9, f10⟩ := froz11 Z1.out
      have z2 := set_11 Z1.out (.int .i8 h.kind) (.string h.name) (.string h.arg) (.int .i64 h.num) (.int .i8 h.tk) (.slice p.TA p.tn p.tc) (.int .i8 h.uk) (.slice p.UA p.un p.uc) (.int .i64 h.label) (.int .i64 h.pos) (.slice p.A p.n p.c)
      have HBF := Lib.hid (below_11 (HB2.out.trans (HB4.out.mono HB2.out.size)) (show w.heap.size ≤ w.heap.size + 1 by omega) (.int .i8 h.kind) (.string h.name) (.string h.arg) (.int .i64 h.num) (.int .i8 h.tk) (.slice p.TA p.tn p.tc) (.int .i8 h.uk) (.slice p.UA p.un p.uc) (.int .i64 h.label) (.int .i64 h.pos) (.slice p.A p.n p.c))
      go_wp2_with fail
      clear q0 q1 q2 q3 q4 q5 q6 q7 q8 q9 q10 k0 k1 k2 k3 k4 k5 k6 k7 k8 k9 k10 f0 f1 f2 f3 f4 f5 f6 f7 f8 f9 f10 kl
      obtain ⟨k0, k1, k2, k3, k4, k5, k6, k7, k8, k9, k10, -⟩ := own11 z2
      refine bodyPost_ret (v := .tuple #[.agg #[.int .i8 h.kind, .string h.name, .string h.arg, .int .i64 h.num, .int .i8 h.tk, .slice p.TA p.tn p.tc, .int .i8 h.uk, .slice p.UA p.un p.uc, .int .i64 h.label, .int .i64 h.pos, .slice p.A p.n p.c], .bool true]) (by simp [results, Tryz.results36, go_sem, k0, k1, k2, k3, k4, k5, k6, k7, k8, k9, k10]) rfl ⟨h, p, rfl, (fun x hx => by injection hx), HBF.out⟩
    · have ho' : St.opn h = false := by simpa using ho
      have hr : St.fo h kids = St.foF kids := by unfold St.fo; rw [if_neg ho]
      rw [hr]
      have ho2 : Ty.anyF St.opnK (St.anno h) = false := ho'
      rw [ho2] at CC
      clear hr ho ho' ho2
      obtain ⟨R, hR⟩ : ∃ R, St.foF kids = R := ⟨_, rfl⟩
      rw [hR]
      have HR := Lib.hid hR
      clear hR
      go_enter Tryz.func36, Tryz.ntmps36
      go_upto_region 1 with fail
      rw [← HW1.out]
      clear hw1 HW1
      obtain ⟨q0, q1, q2, q3, q4, q5, q6, q7, q8, q9, q10, ql⟩ := own11 H0.out
      go_wp2_with fail
      refine CA.out.mono ?_
      rintro e w2 ⟨G, m, cc, rfl, hL, hm, hmc, hcm, hb2⟩
      have CX := Lib.hid (CC.out G m cc w2 hb2 hL hm hmc hcm)
      have HB3 := Lib.hid hb2
      clear hL hm hmc hcm hb2
      go_wp2_with fail
      refine CX.out.mono ?_
      rintro e w3 ⟨rfl, hb3⟩
      have HB4 := Lib.hid (HB3.out.trans (hb3.mono HB3.out.size))
      clear hb3 q0 q1 q2 q3 q4 q5 q6 q7 q8 q9 q10 ql
      obtain ⟨q0, q1, q2, q3, q4, q5, q6, q7, q8, q9, q10, -⟩ := own11 (heap_below HB4.out (heap_lt H0.out) H0.out)
      go_wp2_with fail
      clear q0 q1 q2 q3 q4 q5 q6 q7 q8 q9 q10
      go_loopw [15] (fun v15 wr => ∃ (i : Nat) (rest : Tm), v15 = .int .i64 i ∧ i + Tm.len rest = p.n ∧ Tm.Lies w1 rest p.A i ∧ Tm.nodes rest ≤ Tm.nodes kids ∧ St.foF rest = R ∧ Below w1.heap.size w1 wr) (fun v => fun _ => p.n - (intOf v).toNat)
      case atStart => exact ⟨0, kids, rfl, by have := HPN.out; omega, HI.out.lies, Nat.le_refl _, HR.out, HB4.out⟩
      case round =>
        obtain ⟨i, rest, rfl, hie, hli, hsb, hre, hbr⟩ := hrel
        have HBR := Lib.hid hbr
        have Z1 := Lib.hid (heap_below hbr (heap_lt H1.out) H1.out)
        clear hbr
        cases rest with
        | nil =>
          have hi2 : i = p.n := by simpa [Tm.len] using hie
          subst hi2
          have hRn : R = none := by rw [← hre]; rfl
          subst hRn
          obtain ⟨k0, k1, k2, k3, k4, k5, k6, k7, k8, k9, k10, kl⟩ := own11 Z1.out
          obtain ⟨f0, f1, f2, f3, f4, f5, f6, f7, f8, f9, f10⟩ := froz11 Z1.out
          have z2 := set_11 Z1.out (.int .i8 0) (.string ⟨#[]⟩) (.string ⟨#[]⟩) (.int .i64 0) (.int .i8 0) (.slice none 0 0) (.int .i8 0) (.slice none 0 0) (.int .i64 0) (.int .i64 0) (.slice none 0 0)
          have HBF := Lib.hid (below_11 (HB2.out.trans (HBR.out.mono HB2.out.size)) (show w.heap.size ≤ w.heap.size + 1 by omega) (.int .i8 0) (.string ⟨#[]⟩) (.string ⟨#[]⟩) (.int .i64 0) (.int .i8 0) (.slice none 0 0) (.int .i8 0) (.slice none 0 0) (.int .i64 0) (.int .i64 0) (.slice none 0 0))
          clear hli hsb hre hie
          go_wp2_with fail
          clear k0 k1 k2 k3 k4 k5 k6 k7 k8 k9 k10 f0 f1 f2 f3 f4 f5 f6 f7 f8 f9 f10 kl
          obtain ⟨k0, k1, k2, k3, k4, k5, k6, k7, k8, k9, k10, -⟩ := own11 z2
          refine bodyPost_ret (v := .tuple #[.agg #[.int .i8 Ck.hd0.kind, .string Ck.hd0.name, .string Ck.hd0.arg, .int .i64 Ck.hd0.num, .int .i8 Ck.hd0.tk, .slice St.pl0.TA St.pl0.tn St.pl0.tc, .int .i8 Ck.hd0.uk, .slice St.pl0.UA St.pl0.un St.pl0.uc, .int .i64 Ck.hd0.label, .int .i64 Ck.hd0.pos, .slice St.pl0.A St.pl0.n St.pl0.c], .bool false]) (by simp [results, Tryz.results36, go_sem, k0, k1, k2, k3, k4, k5, k6, k7, k8, k9, k10]; exact ⟨rfl, rfl, rfl, rfl, rfl, ⟨rfl, rfl, rfl⟩, rfl, ⟨rfl, rfl, rfl⟩, rfl, rfl, rfl, rfl, rfl⟩) rfl ⟨Ck.hd0, St.pl0, rfl, (fun x hx => by cases hx), HBF.out⟩
        | node h1 k1 r =>
          simp only [Tm.len, Tm.nodes] at hie hsb
          obtain ⟨bb, oo, q, hA, hcl, hft, hkl, hrl⟩ := hli
          have hb9 : Below w1.heap.size w1 (wr.alloc (.cells #[.int .i8 h1.kind, .string h1.name, .string h1.arg, .int .i64 h1.num, .int .i8 h1.tk, .slice q.TA q.tn q.tc, .int .i8 h1.uk, .slice q.UA q.un q.uc, .int .i64 h1.label, .int .i64 h1.pos, .slice q.A q.n q.c] 28)) := HBR.out.alloc HBR.out.size _
          have HC := Lib.hid (HIH.out h1 k1 q _ (by omega) ((show Tm.Is w1 h1 k1 q from ⟨hft, hkl⟩).below hb9) hb9)
          have HB9 := Lib.hid hb9
          have HRL := Lib.hid hrl
          have HRE := Lib.hid (show (match St.fo h1 k1 with | some x => some x | none => St.foF r) = R from (St.foF_node h1 k1 r).symm.trans hre)
          have HIE := Lib.hid hie
          have HSB := Lib.hid hsb
          have j1 : (i : Int) < p.n := by omega
          have d0 := keep_cell (hcl 0 _ rfl) HBR.out
          have d1 := keep_cell (hcl 1 _ rfl) HBR.out
          have d2 := keep_cell (hcl 2 _ rfl) HBR.out
          have d3 := keep_cell (hcl 3 _ rfl) HBR.out
          have d4 := keep_cell (hcl 4 _ rfl) HBR.out
          have d5 := keep_cell (hcl 5 _ rfl) HBR.out
          have d6 := keep_cell (hcl 6 _ rfl) HBR.out
          have d7 := keep_cell (hcl 7 _ rfl) HBR.out
          have d8 := keep_cell (hcl 8 _ rfl) HBR.out
          have d9 := keep_cell (hcl 9 _ rfl) HBR.out
          have d10 := keep_cell (hcl 10 _ rfl) HBR.out
          rw [Nat.add_zero] at d0
          have HAA := Lib.hid hA
          clear hcl hft hkl hrl hA hb9 hre hie hsb
          obtain ⟨TA, tn, tc, UA, un, uc, pA, pn, pc⟩ := p
          dsimp only at *
          obtain rfl : pA = some ⟨bb, oo, none⟩ := HAA.out
          clear HAA
          go_wp2_with fail
          refine HC.out.mono ?_
          rintro e u ⟨h2, p2, rfl, hx, hb⟩
          have HBU := Lib.hid (HB9.out.trans (hb.mono HB9.out.size))
          have HX := Lib.hid hx
          clear hb hx d0 d1 d2 d3 d4 d5 d6 d7 d8 d9 d10
          have hb3 := below_n1 u (.cells #[.int .i8 h2.kind, .string h2.name, .string h2.arg, .int .i64 h2.num, .int .i8 h2.tk, .slice p2.TA p2.tn p2.tc, .int .i8 h2.uk, .slice p2.UA p2.un p2.uc, .int .i64 h2.label, .int .i64 h2.pos, .slice p2.A p2.n p2.c] 28)
          have hn3 := heap_new u (.cells #[.int .i8 h2.kind, .string h2.name, .string h2.arg, .int .i64 h2.num, .int .i8 h2.tk, .slice p2.TA p2.tn p2.tc, .int .i8 h2.uk, .slice p2.UA p2.un p2.uc, .int .i64 h2.label, .int .i64 h2.pos, .slice p2.A p2.n p2.c] 28)
          have HBV := Lib.hid (HBU.out.trans (hb3.mono HBU.out.size))
          have Z2 := Lib.hid (heap_below HBV.out (heap_lt H1.out) H1.out)
          clear hb3
          cases hf : St.fo h1 k1 with
          | none =>
            have hre2 := HRE.out
            rw [hf] at hre2
            have HRE2 := Lib.hid hre2
            clear hre2 hf hn3
            go_wp2_with fail
            go_roundw
            case rel => exact ⟨i + 1, r, by go_num, by have := HIE.out; omega, HRL.out, by have := HSB.out; omega, HRE2.out, HBV.out⟩
            case measure => have := HIE.out; simp [intOf]; omega
          | some x =>
            have hre2 := HRE.out
            rw [hf] at hre2
            have hpx := HX.out x hf
            subst hre2
            have HPX := Lib.hid hpx
            clear hpx
            go_upto_region 8 with fail
            clear hf
            generalize hw9 : u.alloc (.cells #[.int .i8 h2.kind, .string h2.name, .string h2.arg, .int .i64 h2.num, .int .i8 h2.tk, .slice p2.TA p2.tn p2.tc, .int .i8 h2.uk, .slice p2.UA p2.un p2.uc, .int .i64 h2.label, .int .i64 h2.pos, .slice p2.A p2.n p2.c] 28) = w9 at *
            clear hw9
            obtain ⟨q0, q1, q2, q3, q4, q5, q6, q7, q8, q9, q10, ql⟩ := own11 hn3
            obtain ⟨k0, k1, k2, k3, k4, k5, k6, k7, k8, k9, k10, kl⟩ := own11 Z2.out
            obtain ⟨f0, f1, f2, f3, f4, f5, f6, f7, f8, f9, f10⟩ := froz11 Z2.out
            have z2 := set_11 Z2.out (.int .i8 h2.kind) (.string h2.name) (.string h2.arg) (.int .i64 h2.num) (.int .i8 h2.tk) (.slice p2.TA p2.tn p2.tc) (.int .i8 h2.uk) (.slice p2.UA p2.un p2.uc) (.int .i64 h2.label) (.int .i64 h2.pos) (.slice p2.A p2.n p2.c)
            have HBF := Lib.hid (below_11 (HB2.out.trans (HBV.out.mono HB2.out.size)) (show w.heap.size ≤ w.heap.size + 1 by omega) (.int .i8 h2.kind) (.string h2.name) (.string h2.arg) (.int .i64 h2.num) (.int .i8 h2.tk) (.slice p2.TA p2.tn p2.tc) (.int .i8 h2.uk) (.slice p2.UA p2.un p2.uc) (.int .i64 h2.label) (.int .i64 h2.pos) (.slice p2.A p2.n p2.c))
            clear hn3
            go_wp2_with fail
            clear q0 q1 q2 q3 q4 q5 q6 q7 q8 q9 q10 ql k0 k1 k2 k3 k4 k5 k6 k7 k8 k9 k10 f0 f1 f2 f3 f4 f5 f6 f7 f8 f9 f10 kl
            generalize (((((((((((w9.setCell ⟨w.heap.size + 1, 0, none⟩ (.int .i8 h2.kind)).setCell ⟨w.heap.size + 1, 1, none⟩ (.string h2.name)).setCell ⟨w.heap.size + 1, 2, none⟩ (.string h2.arg)).setCell ⟨w.heap.size + 1, 3, none⟩ (.int .i64 h2.num)).setCell ⟨w.heap.size + 1, 4, none⟩ (.int .i8 h2.tk)).setCell ⟨w.heap.size + 1, 5, none⟩ (.slice p2.TA p2.tn p2.tc)).setCell ⟨w.heap.size + 1, 6, none⟩ (.int .i8 h2.uk)).setCell ⟨w.heap.size + 1, 7, none⟩ (.slice p2.UA p2.un p2.uc)).setCell ⟨w.heap.size + 1, 8, none⟩ (.int .i64 h2.label)).setCell ⟨w.heap.size + 1, 9, none⟩ (.int .i64 h2.pos)).setCell ⟨w.heap.size + 1, 10, none⟩ (.slice p2.A p2.n p2.c)) = wz at *
            obtain ⟨k0, k1, k2, k3, k4, k5, k6, k7, k8, k9, k10, -⟩ := own11 z2
            refine bodyPost_ret (v := .tuple #[.agg #[.int .i8 h2.kind, .string h2.name, .string h2.arg, .int .i64 h2.num, .int .i8 h2.tk, .slice p2.TA p2.tn p2.tc, .int .i8 h2.uk, .slice p2.UA p2.un p2.uc, .int .i64 h2.label, .int .i64 h2.pos, .slice p2.A p2.n p2.c], .bool true]) (by simp [results, Tryz.results36, go_sem, k0, k1, k2, k3, k4, k5, k6, k7, k8, k9, k10]) rfl ⟨h2, p2, rfl, (fun y hy => by injection hy with hy; rw [← hy]; exact HPX.out), HBF.out⟩
end Go.Proofs.YtknhoagicdfikaaGreatDoor
