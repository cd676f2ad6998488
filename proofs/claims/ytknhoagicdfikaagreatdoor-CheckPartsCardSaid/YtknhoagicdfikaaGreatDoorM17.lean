/-
  Layer 9: the rules' small parts: wantAgree, parts, meet, answerOf, named. Layer 9: the rules, kind by kind. Layer 9: how much fuel is enough; what is told of a closed pair. terms.bare. terms.Bare, terms.Same.
-/
import Derived.Test.YtknhoagicdfikaaGreatDoorM16
import Derived.Test.YtknhoagicdfikaaGreatDoorM2
import Derived.Deep.QuietTactic
import Derived.BigQuiet
import Derived.Test.YtknhoagicdfikaaGreatDoorM15
import Derived.Test.YtknhoagicdfikaaGreatDoorM10
import Derived.Deep.RegionHeld3
namespace Go.Proofs.YtknhoagicdfikaaGreatDoor
open Go.RowKit
set_option maxHeartbeats 2000000 in
set_option maxRecDepth 100000 in
theorem ckwant_yes (rv : Cg.Rv) (h : Hd) (p : Pl) (k : Int) (kids : Fo) (A : Option Addr) (n c : Nat) (k' : Int) (kids' : Fo) (A' : Option Addr) (n' c' : Nat) (w : World) (hIs : Ty.Is w k kids A n c) (hIs' : Ty.Is w k' kids' A' n' c') (hS : Shapes w) (hag : rv.D.ag (k, kids) (k', kids') = true) :
    Calls Tryz.prog 88 #[.agg #[.func (Fn.func rv.fr) #[] rv.cpt, .func (Fn.func rv.fa) #[] #[], .func (Fn.func rv.fm) #[] #[], .func (Fn.func rv.ft) #[] #[], rv.vg], .agg #[.int .i8 h.kind, .string h.name, .string h.arg, .int .i64 h.num, .int .i8 h.tk, .slice p.TA p.tn p.tc, .int .i8 h.uk, .slice p.UA p.un p.uc, .int .i64 h.label, .int .i64 h.pos, .slice p.A p.n p.c], .agg #[.int .i8 k, .slice A n c], .agg #[.int .i8 k', .slice A' n' c']] w fun e w' => e = .returned (.tuple #[]) ∧ Below w.heap.size w w' := by
  have hcf := rv.cfa
  have CA := Lib.hid (fun (W : World) (hb : Below w.heap.size w W) => rv.agC k kids A n c k' kids' A' n' c' W (hIs.below hb) (hIs'.below hb) (hS.below hb))
  rw [hag] at CA
  have HB4 := Lib.hid (below_n4 w (.cells #[.func (Fn.func rv.fr) #[] rv.cpt, .func (Fn.func rv.fa) #[] #[], .func (Fn.func rv.fm) #[] #[], .func (Fn.func rv.ft) #[] #[], rv.vg] 47) (.cells #[.int .i8 h.kind, .string h.name, .string h.arg, .int .i64 h.num, .int .i8 h.tk, .slice p.TA p.tn p.tc, .int .i8 h.uk, .slice p.UA p.un p.uc, .int .i64 h.label, .int .i64 h.pos, .slice p.A p.n p.c] 28) (.cells #[.int .i8 k, .slice A n c] 25) (.cells #[.int .i8 k', .slice A' n' c'] 25))
  obtain ⟨-, h1, -, -⟩ := heap_n4 w (.cells #[.func (Fn.func rv.fr) #[] rv.cpt, .func (Fn.func rv.fa) #[] #[], .func (Fn.func rv.fm) #[] #[], .func (Fn.func rv.ft) #[] #[], rv.vg] 47) (.cells #[.int .i8 h.kind, .string h.name, .string h.arg, .int .i64 h.num, .int .i8 h.tk, .slice p.TA p.tn p.tc, .int .i8 h.uk, .slice p.UA p.un p.uc, .int .i64 h.label, .int .i64 h.pos, .slice p.A p.n p.c] 28) (.cells #[.int .i8 k, .slice A n c] 25) (.cells #[.int .i8 k', .slice A' n' c'] 25)
  have H1 := Lib.hid h1
  clear hIs hIs' hS hag h1
  go_enter Tryz.func88, Tryz.ntmps88
  go_wp2_with fail
  refine (CA.out _ HB4.out).mono ?_
  rintro e w5 ⟨rfl, hb5⟩
  have HB5 := Lib.hid (HB4.out.trans (hb5.mono HB4.out.size))
  clear hb5
  go_wp2_with fail
  go_end0
  exact ⟨rfl, HB5.out⟩

set_option maxHeartbeats 2000000 in
set_option maxRecDepth 100000 in
theorem ckwant_no (rv : Cg.Rv) (h : Hd) (p : Pl) (k : Int) (kids : Fo) (A : Option Addr) (n c : Nat) (k' : Int) (kids' : Fo) (A' : Option Addr) (n' c' : Nat) (w : World) (hIs : Ty.Is w k kids A n c) (hIs' : Ty.Is w k' kids' A' n' c') (hS : Shapes w) (hag : rv.D.ag (k, kids) (k', kids') = false) :
    Calls Tryz.prog 88 #[.agg #[.func (Fn.func rv.fr) #[] rv.cpt, .func (Fn.func rv.fa) #[] #[], .func (Fn.func rv.fm) #[] #[], .func (Fn.func rv.ft) #[] #[], rv.vg], .agg #[.int .i8 h.kind, .string h.name, .string h.arg, .int .i64 h.num, .int .i8 h.tk, .slice p.TA p.tn p.tc, .int .i8 h.uk, .slice p.UA p.un p.uc, .int .i64 h.label, .int .i64 h.pos, .slice p.A p.n p.c], .agg #[.int .i8 k, .slice A n c], .agg #[.int .i8 k', .slice A' n' c']] w (Ck.Gave w 91 h.pos Ck.e0) := by
  have hcf := rv.cfa
  have CA := Lib.hid (fun (W : World) (hb : Below w.heap.size w W) => rv.agC k kids A n c k' kids' A' n' c' W (hIs.below hb) (hIs'.below hb) (hS.below hb))
  rw [hag] at CA
  have HB4 := Lib.hid (below_n4 w (.cells #[.func (Fn.func rv.fr) #[] rv.cpt, .func (Fn.func rv.fa) #[] #[], .func (Fn.func rv.fm) #[] #[], .func (Fn.func rv.ft) #[] #[], rv.vg] 47) (.cells #[.int .i8 h.kind, .string h.name, .string h.arg, .int .i64 h.num, .int .i8 h.tk, .slice p.TA p.tn p.tc, .int .i8 h.uk, .slice p.UA p.un p.uc, .int .i64 h.label, .int .i64 h.pos, .slice p.A p.n p.c] 28) (.cells #[.int .i8 k, .slice A n c] 25) (.cells #[.int .i8 k', .slice A' n' c'] 25))
  obtain ⟨-, h1, -, -⟩ := heap_n4 w (.cells #[.func (Fn.func rv.fr) #[] rv.cpt, .func (Fn.func rv.fa) #[] #[], .func (Fn.func rv.fm) #[] #[], .func (Fn.func rv.ft) #[] #[], rv.vg] 47) (.cells #[.int .i8 h.kind, .string h.name, .string h.arg, .int .i64 h.num, .int .i8 h.tk, .slice p.TA p.tn p.tc, .int .i8 h.uk, .slice p.UA p.un p.uc, .int .i64 h.label, .int .i64 h.pos, .slice p.A p.n p.c] 28) (.cells #[.int .i8 k, .slice A n c] 25) (.cells #[.int .i8 k', .slice A' n' c'] 25)
  have H1 := Lib.hid h1
  clear hIs hIs' hS hag h1
  go_enter Tryz.func88, Tryz.ntmps88
  go_wp2_with fail
  refine (CA.out _ HB4.out).mono ?_
  rintro e w5 ⟨rfl, hb5⟩
  have HB5 := Lib.hid (HB4.out.trans (hb5.mono HB4.out.size))
  obtain ⟨q0, q1, q2, q3, q4, q5, q6, q7, q8, q9, q10, ql⟩ := own11 (heap_below hb5 (heap_lt H1.out) H1.out)
  have HF := Lib.hid (ckfail_any h p 91 w5)
  clear hb5
  go_wp2_with fail
  refine HF.out.mono ?_
  rintro e w6 hg
  have HG := Lib.hid (Ck.Gave.from hg HB5.out)
  obtain ⟨g, rfl, -⟩ := hg
  go_wp2_with fail
  exact ⟨rfl, HG.out⟩

set_option maxHeartbeats 2000000 in
set_option maxRecDepth 100000 in
theorem ckgoes_any (rv : Cg.Rv) (h : Hd) (p : Pl) (w : World) (hca : rv.D.ca = true) (hT : Ty.Is w h.tk h.tkids p.TA p.tn p.tc) (hU : Ty.Is w h.uk h.ukids p.UA p.un p.uc) (hS : Shapes w) :
    Calls Tryz.prog 92 #[.agg #[.func (Fn.func rv.fr) #[] rv.cpt, .func (Fn.func rv.fa) #[] #[], .func (Fn.func rv.fm) #[] #[], .func (Fn.func rv.ft) #[] #[], rv.vg], .agg #[.int .i8 h.kind, .string h.name, .string h.arg, .int .i64 h.num, .int .i8 h.tk, .slice p.TA p.tn p.tc, .int .i8 h.uk, .slice p.UA p.un p.uc, .int .i64 h.label, .int .i64 h.pos, .slice p.A p.n p.c]] w fun e w' => (rv.D.gs (Ck.TT h) (Ck.UU h) = false ∧ Ck.Gave w 91 h.pos Ck.e0 e w') ∨ (rv.D.gs (Ck.TT h) (Ck.UU h) = true ∧ e = .returned (.tuple #[]) ∧ Below w.heap.size w w') := by
  obtain ⟨fg, hv, hcf, hgC⟩ := rv.gC hca
  rw [hv]
  have CA := Lib.hid (fun (W : World) (hb : Below w.heap.size w W) => hgC h.tk h.tkids p.TA p.tn p.tc h.uk h.ukids p.UA p.un p.uc W (hT.below hb) (hU.below hb) (hS.below hb))
  have HB2 := Lib.hid (below_n2 w (.cells #[.func (Fn.func rv.fr) #[] rv.cpt, .func (Fn.func rv.fa) #[] #[], .func (Fn.func rv.fm) #[] #[], .func (Fn.func rv.ft) #[] #[], .func (Fn.func fg) #[] #[]] 47) (.cells #[.int .i8 h.kind, .string h.name, .string h.arg, .int .i64 h.num, .int .i8 h.tk, .slice p.TA p.tn p.tc, .int .i8 h.uk, .slice p.UA p.un p.uc, .int .i64 h.label, .int .i64 h.pos, .slice p.A p.n p.c] 28))
  obtain ⟨-, h1⟩ := heap_n2 w (.cells #[.func (Fn.func rv.fr) #[] rv.cpt, .func (Fn.func rv.fa) #[] #[], .func (Fn.func rv.fm) #[] #[], .func (Fn.func rv.ft) #[] #[], .func (Fn.func fg) #[] #[]] 47) (.cells #[.int .i8 h.kind, .string h.name, .string h.arg, .int .i64 h.num, .int .i8 h.tk, .slice p.TA p.tn p.tc, .int .i8 h.uk, .slice p.UA p.un p.uc, .int .i64 h.label, .int .i64 h.pos, .slice p.A p.n p.c] 28)
  have H1 := Lib.hid h1
  rw [show rv.D.gs (h.tk, h.tkids) (h.uk, h.ukids) = rv.D.gs (Ck.TT h) (Ck.UU h) from rfl] at CA
  generalize rv.D.gs (Ck.TT h) (Ck.UU h) = g0 at *
  clear hT hU hS h1 hgC hv
  cases g0
  · go_enter Tryz.func92, Tryz.ntmps92
    go_wp2_with fail
    refine (CA.out _ HB2.out).mono ?_
    rintro e w5 ⟨rfl, hb5⟩
    have HB5 := Lib.hid (HB2.out.trans (hb5.mono HB2.out.size))
    obtain ⟨q0, q1, q2, q3, q4, q5, q6, q7, q8, q9, q10, ql⟩ := own11 (heap_below hb5 (heap_lt H1.out) H1.out)
    have HF := Lib.hid (ckfail_any h p 91 w5)
    clear hb5
    go_wp2_with fail
    refine HF.out.mono ?_
    rintro e w6 hg
    have HG := Lib.hid (Ck.Gave.from hg HB5.out)
    obtain ⟨g, rfl, -⟩ := hg
    go_wp2_with fail
    exact ⟨rfl, .inl ⟨trivial, HG.out⟩⟩
  · go_enter Tryz.func92, Tryz.ntmps92
    go_wp2_with fail
    refine (CA.out _ HB2.out).mono ?_
    rintro e w5 ⟨rfl, hb5⟩
    have HB5 := Lib.hid (HB2.out.trans (hb5.mono HB2.out.size))
    clear hb5
    go_wp2_with fail
    go_end0
    exact .inr ⟨trivial, rfl, HB5.out⟩

theorem set_two {u : World} {X : Nat} {x0 x1 : Value} {t : TypeId} (h : u.heap[X]? = some (.cells #[x0, x1] t (0, 0))) (a b : Value) : ((u.setCell ⟨X, 0, none⟩ a).setCell ⟨X, 1, none⟩ b).heap[X]? = some (.cells #[a, b] t (0, 0)) := by
  simp [World.setCell, Array.getElem?_modify, h]
theorem set_two_ne {u : World} {X Y : Nat} {o : Obj} (h : u.heap[Y]? = some o) (hne : X ≠ Y) (a b : Value) : ((u.setCell ⟨X, 0, none⟩ a).setCell ⟨X, 1, none⟩ b).heap[Y]? = some o := by
  simp [World.setCell, Array.getElem?_modify, h, hne]
theorem below_set2 {N X : Nat} {w u : World} (h : Below N w u) (hX : N ≤ X) (a b : Value) : Below N w ((u.setCell ⟨X, 0, none⟩ a).setCell ⟨X, 1, none⟩ b) := (h.setCell (p := ⟨X, 0, none⟩) hX _).setCell (p := ⟨X, 1, none⟩) hX _
theorem Ck.Ly.set2 {Q : Nat → Prop} {w : World} {a : Ck.T2} {G : Option Addr} {m c : Nat} (h : Ck.Ly Q w a G m c) {X : Nat} (hX : ∀ b, Q b → b ≠ X) (v0 v1 : Value) : Ck.Ly Q ((w.setCell ⟨X, 0, none⟩ v0).setCell ⟨X, 1, none⟩ v1) a G m c := (h.set hX _ _).set hX _ _
/-- two types that are handed back -/
def AsPost2 (Q : Nat → Prop) (w : World) (l r : Ck.T2) (e : Ending) (w' : World) : Prop :=
  ∃ G1 m1 c1 G2 m2 c2, e = .returned (.tuple #[.agg #[.int .i8 l.1, .slice G1 m1 c1], .agg #[.int .i8 r.1, .slice G2 m2 c2]]) ∧ Ck.Ly (Ck.Cut Q w.heap.size w.heap.size) w' l G1 m1 c1 ∧ Ck.Ly (Ck.Cut Q w.heap.size w.heap.size) w' r G2 m2 c2 ∧ Below w.heap.size w w'

set_option maxHeartbeats 2000000 in
set_option maxRecDepth 100000 in
theorem ckparts_yes (rv : Cg.Rv) (Q : Nat → Prop) (h : Hd) (p : Pl) (kd : Int) (a : Ck.T2) (A : Option Addr) (n c : Nat) (w : World) (hkd : 3 ≤ kd ∧ kd ≤ 5) (hL : Ck.Ly Q w a A n c) (hok : Ty.okT a.1 a.2 = true) (hS : Shapes w) (hag : rv.D.asO kd a = true) :
    Calls Tryz.prog 89 #[.agg #[.func (Fn.func rv.fr) #[] rv.cpt, .func (Fn.func rv.fa) #[] #[], .func (Fn.func rv.fm) #[] #[], .func (Fn.func rv.ft) #[] #[], rv.vg], .agg #[.int .i8 h.kind, .string h.name, .string h.arg, .int .i64 h.num, .int .i8 h.tk, .slice p.TA p.tn p.tc, .int .i8 h.uk, .slice p.UA p.un p.uc, .int .i64 h.label, .int .i64 h.pos, .slice p.A p.n p.c], .int .i8 kd, .agg #[.int .i8 a.1, .slice A n c]] w (AsPost2 Q w (rv.D.asl kd a) (rv.D.asr kd a)) := by
  have hcf := rv.cfm
  have CA := Lib.hid (fun (W : World) (hb : Below w.heap.size w W) => rv.asC (fun b => Q b ∧ b < w.heap.size) kd a A n c W hkd ((hL.weak (fun b hl hq => ⟨hq, hl⟩)).later hb) hok (hS.below hb))
  rw [hag] at CA
  have HB5 := Lib.hid (below_n5 w (.cells #[.func (Fn.func rv.fr) #[] rv.cpt, .func (Fn.func rv.fa) #[] #[], .func (Fn.func rv.fm) #[] #[], .func (Fn.func rv.ft) #[] #[], rv.vg] 47) (.cells #[.int .i8 h.kind, .string h.name, .string h.arg, .int .i64 h.num, .int .i8 h.tk, .slice p.TA p.tn p.tc, .int .i8 h.uk, .slice p.UA p.un p.uc, .int .i64 h.label, .int .i64 h.pos, .slice p.A p.n p.c] 28) (.cells #[.int .i8 a.1, .slice A n c] 25) (.cells #[.int .i8 0, .slice none 0 0] 25) (.cells #[.int .i8 0, .slice none 0 0] 25))
  obtain ⟨-, h1, -, h3, h4⟩ := heap_n5 w (.cells #[.func (Fn.func rv.fr) #[] rv.cpt, .func (Fn.func rv.fa) #[] #[], .func (Fn.func rv.fm) #[] #[], .func (Fn.func rv.ft) #[] #[], rv.vg] 47) (.cells #[.int .i8 h.kind, .string h.name, .string h.arg, .int .i64 h.num, .int .i8 h.tk, .slice p.TA p.tn p.tc, .int .i8 h.uk, .slice p.UA p.un p.uc, .int .i64 h.label, .int .i64 h.pos, .slice p.A p.n p.c] 28) (.cells #[.int .i8 a.1, .slice A n c] 25) (.cells #[.int .i8 0, .slice none 0 0] 25) (.cells #[.int .i8 0, .slice none 0 0] 25)
  have H1 := Lib.hid h1
  have H3 := Lib.hid h3
  have H4 := Lib.hid h4
  clear hL hok hS hag h1 h3 h4
  go_enter Tryz.func89, Tryz.ntmps89
  go_wp2_with fail
  refine (CA.out _ HB5.out).mono ?_
  rintro e w5 ⟨G1, m1, c1, G2, m2, c2, rfl, hI1, hI2, hb5⟩
  have HB6 := Lib.hid (HB5.out.trans (hb5.mono HB5.out.size))
  obtain ⟨q0, q1, q2, q3, q4, q5, q6, q7, q8, q9, q10, ql⟩ := own11 (heap_below hb5 (heap_lt H1.out) H1.out)
  obtain ⟨x0, x1, f0, f1, xl⟩ := own2 (heap_below hb5 (heap_lt H3.out) H3.out)
  obtain ⟨y0, y1, f2, f3, yl⟩ := own2 (heap_below hb5 (heap_lt H4.out) H4.out)
  have HI1 := Lib.hid (Ck.Ly.weak (Q' := Ck.Cut Q w.heap.size (w.heap.size + 5)) (a := rv.D.asl kd a) (w := w5) hI1 (fun b _ h => Or.elim h (fun h => .inl h.1) (fun h => .inr (by simp at h; omega))))
  have HI2 := Lib.hid (Ck.Ly.weak (Q' := Ck.Cut Q w.heap.size (w.heap.size + 5)) (a := rv.D.asr kd a) (w := w5) hI2 (fun b _ h => Or.elim h (fun h => .inl h.1) (fun h => .inr (by simp at h; omega))))
  have hsz := hb5.size
  simp only [World.size_alloc] at hsz
  clear hI1 hI2
  have hN3 : ∀ b, Ck.Cut Q w.heap.size (w.heap.size + 5) b → b ≠ w.heap.size + 1 + 1 + 1 := fun b h => h.ne (by omega) (by omega)
  have hN4 : ∀ b, Ck.Cut Q w.heap.size (w.heap.size + 5) b → b ≠ w.heap.size + 1 + 1 + 1 + 1 := fun b h => h.ne (by omega) (by omega)
  have hW : ∀ b, Ck.Cut Q w.heap.size (w.heap.size + 5) b → Ck.Cut Q w.heap.size w.heap.size b := fun b h => h.out (by omega)
  have HNN := Lib.hid (And.intro hN3 (And.intro hN4 hW))
  clear hN3 hN4 hW
  have H3 := Lib.hid (set_two_ne (set_two (heap_below hb5 (heap_lt H3.out) H3.out) (.int .i8 (rv.D.asl kd a).1) (.slice G1 m1 c1)) (show w.heap.size + 1 + 1 + 1 + 1 ≠ w.heap.size + 1 + 1 + 1 by omega) (.int .i8 (rv.D.asr kd a).1) (.slice G2 m2 c2))
  have H4 := Lib.hid (set_two (set_two_ne (heap_below hb5 (heap_lt H4.out) H4.out) (show w.heap.size + 1 + 1 + 1 ≠ w.heap.size + 1 + 1 + 1 + 1 by omega) (.int .i8 (rv.D.asl kd a).1) (.slice G1 m1 c1)) (.int .i8 (rv.D.asr kd a).1) (.slice G2 m2 c2))
  have HJ1 := Lib.hid ((HI1.out.set2 HNN.out.1 (.int .i8 (rv.D.asl kd a).1) (.slice G1 m1 c1)).set2 HNN.out.2.1 (.int .i8 (rv.D.asr kd a).1) (.slice G2 m2 c2))
  have HJ2 := Lib.hid ((HI2.out.set2 HNN.out.1 (.int .i8 (rv.D.asl kd a).1) (.slice G1 m1 c1)).set2 HNN.out.2.1 (.int .i8 (rv.D.asr kd a).1) (.slice G2 m2 c2))
  have HB7 := Lib.hid (below_set2 (below_set2 HB6.out (show w.heap.size ≤ w.heap.size + 1 + 1 + 1 by omega) (.int .i8 (rv.D.asl kd a).1) (.slice G1 m1 c1)) (show w.heap.size ≤ w.heap.size + 1 + 1 + 1 + 1 by omega) (.int .i8 (rv.D.asr kd a).1) (.slice G2 m2 c2))
  clear hb5
  go_upto_region 2 with fail
  generalize (((w5.setCell ⟨w.heap.size + 1 + 1 + 1, 0, none⟩ (.int .i8 (rv.D.asl kd a).1)).setCell ⟨w.heap.size + 1 + 1 + 1, 1, none⟩ (.slice G1 m1 c1)).setCell ⟨w.heap.size + 1 + 1 + 1 + 1, 0, none⟩ (.int .i8 (rv.D.asr kd a).1)).setCell ⟨w.heap.size + 1 + 1 + 1 + 1, 1, none⟩ (.slice G2 m2 c2) = w6 at *
  clear x0 x1 f0 f1 xl y0 y1 f2 f3 yl q0 q1 q2 q3 q4 q5 q6 q7 q8 q9 q10 ql HI1 HI2 HB6
  obtain ⟨x0, x1, f0, f1, xl⟩ := own2 H3.out
  obtain ⟨y0, y1, f2, f3, yl⟩ := own2 H4.out
  go_wp2_with fail
  go_region
  have H3 : Hid ((((((w6.setCell ⟨w.heap.size + 1 + 1 + 1, 0, none⟩ (.int .i8 (rv.D.asl kd a).1)).setCell ⟨w.heap.size + 1 + 1 + 1, 1, none⟩ (.slice G1 m1 c1)).setCell ⟨w.heap.size + 1 + 1 + 1 + 1, 0, none⟩ (.int .i8 (rv.D.asr kd a).1)).setCell ⟨w.heap.size + 1 + 1 + 1 + 1, 1, none⟩ (.slice G2 m2 c2)).drew).heap[w.heap.size + 1 + 1 + 1]? = some (.cells #[.int .i8 (rv.D.asl kd a).1, .slice G1 m1 c1] 25 (0, 0))) := Lib.hid (set_two_ne (set_two H3.out _ _) (by omega) _ _)
  have H4 : Hid ((((((w6.setCell ⟨w.heap.size + 1 + 1 + 1, 0, none⟩ (.int .i8 (rv.D.asl kd a).1)).setCell ⟨w.heap.size + 1 + 1 + 1, 1, none⟩ (.slice G1 m1 c1)).setCell ⟨w.heap.size + 1 + 1 + 1 + 1, 0, none⟩ (.int .i8 (rv.D.asr kd a).1)).setCell ⟨w.heap.size + 1 + 1 + 1 + 1, 1, none⟩ (.slice G2 m2 c2)).drew).heap[w.heap.size + 1 + 1 + 1 + 1]? = some (.cells #[.int .i8 (rv.D.asr kd a).1, .slice G2 m2 c2] 25 (0, 0))) := Lib.hid (set_two (set_two_ne H4.out (by omega) _ _) _ _)
  have HJ1 : Hid (Ck.Ly (Ck.Cut Q w.heap.size (w.heap.size + 5)) (((((w6.setCell ⟨w.heap.size + 1 + 1 + 1, 0, none⟩ (.int .i8 (rv.D.asl kd a).1)).setCell ⟨w.heap.size + 1 + 1 + 1, 1, none⟩ (.slice G1 m1 c1)).setCell ⟨w.heap.size + 1 + 1 + 1 + 1, 0, none⟩ (.int .i8 (rv.D.asr kd a).1)).setCell ⟨w.heap.size + 1 + 1 + 1 + 1, 1, none⟩ (.slice G2 m2 c2)).drew) (rv.D.asl kd a) G1 m1 c1) := Lib.hid (((HJ1.out.set2 HNN.out.1 _ _).set2 HNN.out.2.1 _ _).later (Below.refl _ _).drew)
  have HJ2 : Hid (Ck.Ly (Ck.Cut Q w.heap.size (w.heap.size + 5)) (((((w6.setCell ⟨w.heap.size + 1 + 1 + 1, 0, none⟩ (.int .i8 (rv.D.asl kd a).1)).setCell ⟨w.heap.size + 1 + 1 + 1, 1, none⟩ (.slice G1 m1 c1)).setCell ⟨w.heap.size + 1 + 1 + 1 + 1, 0, none⟩ (.int .i8 (rv.D.asr kd a).1)).setCell ⟨w.heap.size + 1 + 1 + 1 + 1, 1, none⟩ (.slice G2 m2 c2)).drew) (rv.D.asr kd a) G2 m2 c2) := Lib.hid (((HJ2.out.set2 HNN.out.1 _ _).set2 HNN.out.2.1 _ _).later (Below.refl _ _).drew)
  have HB7 : Hid (Below w.heap.size w (((((w6.setCell ⟨w.heap.size + 1 + 1 + 1, 0, none⟩ (.int .i8 (rv.D.asl kd a).1)).setCell ⟨w.heap.size + 1 + 1 + 1, 1, none⟩ (.slice G1 m1 c1)).setCell ⟨w.heap.size + 1 + 1 + 1 + 1, 0, none⟩ (.int .i8 (rv.D.asr kd a).1)).setCell ⟨w.heap.size + 1 + 1 + 1 + 1, 1, none⟩ (.slice G2 m2 c2)).drew)) := Lib.hid ((below_set2 (below_set2 HB7.out (show w.heap.size ≤ w.heap.size + 1 + 1 + 1 by omega) _ _) (show w.heap.size ≤ w.heap.size + 1 + 1 + 1 + 1 by omega) _ _).drew)
  generalize ((((w6.setCell ⟨w.heap.size + 1 + 1 + 1, 0, none⟩ (.int .i8 (rv.D.asl kd a).1)).setCell ⟨w.heap.size + 1 + 1 + 1, 1, none⟩ (.slice G1 m1 c1)).setCell ⟨w.heap.size + 1 + 1 + 1 + 1, 0, none⟩ (.int .i8 (rv.D.asr kd a).1)).setCell ⟨w.heap.size + 1 + 1 + 1 + 1, 1, none⟩ (.slice G2 m2 c2)).drew = w7 at *
  clear x0 x1 f0 f1 xl y0 y1 f2 f3 yl
  obtain ⟨x0, x1, f0, f1, xl⟩ := own2 H3.out
  obtain ⟨y0, y1, f2, f3, yl⟩ := own2 H4.out
  go_wp2_with fail
  refine bodyPost_ret (v := .tuple #[.agg #[.int .i8 (rv.D.asl kd a).1, .slice G1 m1 c1], .agg #[.int .i8 (rv.D.asr kd a).1, .slice G2 m2 c2]]) (by simp [results, Tryz.results89, go_sem, *]) rfl ⟨G1, m1, c1, G2, m2, c2, rfl, HJ1.out.weak (fun b _ h => HNN.out.2.2 b h), HJ2.out.weak (fun b _ h => HNN.out.2.2 b h), HB7.out⟩

set_option maxHeartbeats 2000000 in
set_option maxRecDepth 100000 in
theorem ckparts_no (rv : Cg.Rv) (Q : Nat → Prop) (h : Hd) (p : Pl) (kd : Int) (a : Ck.T2) (A : Option Addr) (n c : Nat) (w : World) (hkd : 3 ≤ kd ∧ kd ≤ 5) (hL : Ck.Ly Q w a A n c) (hok : Ty.okT a.1 a.2 = true) (hS : Shapes w) (hag : rv.D.asO kd a = false) :
    Calls Tryz.prog 89 #[.agg #[.func (Fn.func rv.fr) #[] rv.cpt, .func (Fn.func rv.fa) #[] #[], .func (Fn.func rv.fm) #[] #[], .func (Fn.func rv.ft) #[] #[], rv.vg], .agg #[.int .i8 h.kind, .string h.name, .string h.arg, .int .i64 h.num, .int .i8 h.tk, .slice p.TA p.tn p.tc, .int .i8 h.uk, .slice p.UA p.un p.uc, .int .i64 h.label, .int .i64 h.pos, .slice p.A p.n p.c], .int .i8 kd, .agg #[.int .i8 a.1, .slice A n c]] w (Ck.Gave w 90 h.pos Ck.e0) := by
  have hcf := rv.cfm
  have CA := Lib.hid (fun (W : World) (hb : Below w.heap.size w W) => rv.asC (fun b => Q b ∧ b < w.heap.size) kd a A n c W hkd ((hL.weak (fun b hl hq => ⟨hq, hl⟩)).later hb) hok (hS.below hb))
  rw [hag] at CA
  have HB5 := Lib.hid (below_n5 w (.cells #[.func (Fn.func rv.fr) #[] rv.cpt, .func (Fn.func rv.fa) #[] #[], .func (Fn.func rv.fm) #[] #[], .func (Fn.func rv.ft) #[] #[], rv.vg] 47) (.cells #[.int .i8 h.kind, .string h.name, .string h.arg, .int .i64 h.num, .int .i8 h.tk, .slice p.TA p.tn p.tc, .int .i8 h.uk, .slice p.UA p.un p.uc, .int .i64 h.label, .int .i64 h.pos, .slice p.A p.n p.c] 28) (.cells #[.int .i8 a.1, .slice A n c] 25) (.cells #[.int .i8 0, .slice none 0 0] 25) (.cells #[.int .i8 0, .slice none 0 0] 25))
  obtain ⟨-, h1, -, h3, h4⟩ := heap_n5 w (.cells #[.func (Fn.func rv.fr) #[] rv.cpt, .func (Fn.func rv.fa) #[] #[], .func (Fn.func rv.fm) #[] #[], .func (Fn.func rv.ft) #[] #[], rv.vg] 47) (.cells #[.int .i8 h.kind, .string h.name, .string h.arg, .int .i64 h.num, .int .i8 h.tk, .slice p.TA p.tn p.tc, .int .i8 h.uk, .slice p.UA p.un p.uc, .int .i64 h.label, .int .i64 h.pos, .slice p.A p.n p.c] 28) (.cells #[.int .i8 a.1, .slice A n c] 25) (.cells #[.int .i8 0, .slice none 0 0] 25) (.cells #[.int .i8 0, .slice none 0 0] 25)
  have H1 := Lib.hid h1
  have H3 := Lib.hid h3
  have H4 := Lib.hid h4
  clear hL hok hS hag h1 h3 h4
  go_enter Tryz.func89, Tryz.ntmps89
  go_wp2_with fail
  refine (CA.out _ HB5.out).mono ?_
  rintro e w5 ⟨G1, m1, c1, G2, m2, c2, rfl, hI1, hI2, hb5⟩
  have HB6 := Lib.hid (HB5.out.trans (hb5.mono HB5.out.size))
  obtain ⟨q0, q1, q2, q3, q4, q5, q6, q7, q8, q9, q10, ql⟩ := own11 (heap_below hb5 (heap_lt H1.out) H1.out)
  obtain ⟨x0, x1, f0, f1, xl⟩ := own2 (heap_below hb5 (heap_lt H3.out) H3.out)
  obtain ⟨y0, y1, f2, f3, yl⟩ := own2 (heap_below hb5 (heap_lt H4.out) H4.out)
  have HI1 := Lib.hid (Ck.Ly.weak (Q' := Ck.Cut Q w.heap.size (w.heap.size + 5)) (a := rv.D.asl kd a) (w := w5) hI1 (fun b _ h => Or.elim h (fun h => .inl h.1) (fun h => .inr (by simp at h; omega))))
  have HI2 := Lib.hid (Ck.Ly.weak (Q' := Ck.Cut Q w.heap.size (w.heap.size + 5)) (a := rv.D.asr kd a) (w := w5) hI2 (fun b _ h => Or.elim h (fun h => .inl h.1) (fun h => .inr (by simp at h; omega))))
  have hsz := hb5.size
  simp only [World.size_alloc] at hsz
  clear hI1 hI2
  have HF := Lib.hid (ckfail_any h p 90)
  clear hb5
  go_wp2_with fail
  refine (HF.out _).mono ?_
  rintro e w6 hg
  have HG := Lib.hid (Ck.Gave.from (w := w) hg (by repeat' (first | exact HB6.out | refine Below.setCell ?_ (by simp; omega) _)))
  obtain ⟨g, rfl, -⟩ := hg
  go_wp2_with fail
  exact ⟨rfl, HG.out⟩

end Go.Proofs.YtknhoagicdfikaaGreatDoor
namespace Go.Proofs.YtknhoagicdfikaaGreatDoor
namespace Ck
theorem raw_0 (F : Hd → Tm → Env → R) (h : Hd) (kids : Tm) (l : Env) (hk : h.kind = 0) : raw F h kids l = (match fnd l h.name with | some a => .ok a | none => .bad 41 h.pos h.name) := by
  unfold raw
  rw [if_pos hk]
  all_goals (cases fnd l h.name <;> rfl)
theorem raw_1 (F : Hd → Tm → Env → R) (h : Hd) (kids : Tm) (l : Env) (hk : h.kind = 1) : raw F h kids l = .ok (1, .nil) := by
  unfold raw
  simp [hk]
theorem raw_2 (F : Hd → Tm → Env → R) (h : Hd) (kids : Tm) (l : Env) (hk : h.kind = 2) : raw F h kids l = .ok (2, .nil) := by
  unfold raw
  simp [hk]
theorem raw_3 (F : Hd → Tm → Env → R) (h : Hd) (kids : Tm) (l : Env) (hk : h.kind = 3) : raw F h kids l = .ok (2, .nil) := by
  unfold raw
  simp [hk]
theorem raw_4 (F : Hd → Tm → Env → R) (h : Hd) (kids : Tm) (l : Env) (hk : h.kind = 4) : raw F h kids l = bnd (F (k1 kids).1 (k1 kids).2 (l ++ [(h.name, TT h)])) fun b => .ok (mk2 3 (TT h) b) := by
  unfold raw
  simp [hk]
theorem raw_5 (F : Hd → Tm → Env → R) (h : Hd) (kids : Tm) (l : Env) (hk : h.kind = 5) : raw F h kids l = bnd (F (k1 kids).1 (k1 kids).2 (l ++ [(h.name, mk2 3 (TT h) (UU h)), (h.arg, TT h)])) fun b => if ag b (UU h) = true then .ok (mk2 3 (TT h) (UU h)) else fault h 91 := by
  unfold raw
  simp [hk]
theorem raw_6 (F : Hd → Tm → Env → R) (h : Hd) (kids : Tm) (l : Env) (hk : h.kind = 6) : raw F h kids l = bnd (F (k1 kids).1 (k1 kids).2 l) fun a => bnd (F (k2 kids).1 (k2 kids).2 l) fun b => over h a b (0, .nil) := by
  unfold raw
  simp [hk]
theorem raw_7 (F : Hd → Tm → Env → R) (h : Hd) (kids : Tm) (l : Env) (hk : h.kind = 7) : raw F h kids l = bnd (F (k1 kids).1 (k1 kids).2 l) fun a => if ag a (TT h) = true then F (k2 kids).1 (k2 kids).2 (l ++ [(h.name, TT h)]) else fault h 91 := by
  unfold raw
  simp [hk]
theorem raw_8 (F : Hd → Tm → Env → R) (h : Hd) (kids : Tm) (l : Env) (hk : h.kind = 8) : raw F h kids l = bnd (F (k1 kids).1 (k1 kids).2 l) fun a => bnd (F (k2 kids).1 (k2 kids).2 l) fun b => bnd (F (k3 kids).1 (k3 kids).2 l) fun c => over h a b c := by
  unfold raw
  simp [hk]
theorem raw_9 (F : Hd → Tm → Env → R) (h : Hd) (kids : Tm) (l : Env) (hk : h.kind = 9) : raw F h kids l = bnd (F (k1 kids).1 (k1 kids).2 l) fun a => bnd (F (k2 kids).1 (k2 kids).2 l) fun b => over h a b (0, .nil) := by
  unfold raw
  simp [hk]
theorem raw_10 (F : Hd → Tm → Env → R) (h : Hd) (kids : Tm) (l : Env) (hk : h.kind = 10) : raw F h kids l = bnd (F (k1 kids).1 (k1 kids).2 l) fun a => over h a (0, .nil) (0, .nil) := by
  unfold raw
  simp [hk]
theorem raw_11 (F : Hd → Tm → Env → R) (h : Hd) (kids : Tm) (l : Env) (hk : h.kind = 11) : raw F h kids l = bnd (F (k1 kids).1 (k1 kids).2 l) fun a => over h a (0, .nil) (0, .nil) := by
  unfold raw
  simp [hk]
theorem raw_12 (F : Hd → Tm → Env → R) (h : Hd) (kids : Tm) (l : Env) (hk : h.kind = 12) : raw F h kids l = bnd (F (k1 kids).1 (k1 kids).2 l) fun a => over h a (0, .nil) (0, .nil) := by
  unfold raw
  simp [hk]
theorem raw_13 (F : Hd → Tm → Env → R) (h : Hd) (kids : Tm) (l : Env) (hk : h.kind = 13) : raw F h kids l = bnd (F (k1 kids).1 (k1 kids).2 l) fun a => over h a (0, .nil) (0, .nil) := by
  unfold raw
  simp [hk]
theorem raw_14 (F : Hd → Tm → Env → R) (h : Hd) (kids : Tm) (l : Env) (hk : h.kind = 14) : raw F h kids l = bnd (F (k1 kids).1 (k1 kids).2 l) fun a => if asO 5 a = true then bnd (F (k2 kids).1 (k2 kids).2 (l ++ [(h.name, asl 5 a)])) fun b => bnd (F (k3 kids).1 (k3 kids).2 (l ++ [(h.arg, asr 5 a)])) fun c => meet h b c else fault h 90 := by
  unfold raw
  simp [hk]
theorem raw_15 (F : Hd → Tm → Env → R) (h : Hd) (kids : Tm) (l : Env) (hk : h.kind = 15) : raw F h kids l = bnd (F (k1 kids).1 (k1 kids).2 l) fun a => bnd (F (k2 kids).1 (k2 kids).2 l) fun b => over h a b (0, .nil) := by
  unfold raw
  simp [hk]
theorem raw_16 (F : Hd → Tm → Env → R) (h : Hd) (kids : Tm) (l : Env) (hk : h.kind = 16) : raw F h kids l = bnd (F (k1 kids).1 (k1 kids).2 l) fun a => over h a (0, .nil) (0, .nil) := by
  unfold raw
  simp [hk]
theorem raw_17 (F : Hd → Tm → Env → R) (h : Hd) (kids : Tm) (l : Env) (hk : h.kind = 17) : raw F h kids l = bnd (F (k1 kids).1 (k1 kids).2 l) fun a => over h a (0, .nil) (0, .nil) := by
  unfold raw
  simp [hk]
theorem over_6 (h : Hd) (a b c : T2) (hk : h.kind = 6) : over h a b c = if asO 3 a = true then (if ag b (asl 3 a) = true then .ok (asr 3 a) else fault h 91) else fault h 90 := by
  unfold over
  simp [hk]
theorem over_8 (h : Hd) (a b c : T2) (hk : h.kind = 8) : over h a b c = if ag a (2, .nil) = true then meet h b c else fault h 91 := by
  unfold over
  simp [hk]
theorem over_9 (h : Hd) (a b c : T2) (hk : h.kind = 9) : over h a b c = .ok (mk2 4 a b) := by
  unfold over
  simp [hk]
theorem over_10 (h : Hd) (a b c : T2) (hk : h.kind = 10) : over h a b c = if asO 4 a = true then .ok (asl 4 a) else fault h 90 := by
  unfold over
  simp [hk]
theorem over_11 (h : Hd) (a b c : T2) (hk : h.kind = 11) : over h a b c = if asO 4 a = true then .ok (asr 4 a) else fault h 90 := by
  unfold over
  simp [hk]
theorem over_12 (h : Hd) (a b c : T2) (hk : h.kind = 12) : over h a b c = if asO 5 (TT h) = true then (if ag a (asl 5 (TT h)) = true then .ok (mk2 5 (asl 5 (TT h)) (asr 5 (TT h))) else fault h 91) else fault h 90 := by
  unfold over
  simp [hk]
theorem over_13 (h : Hd) (a b c : T2) (hk : h.kind = 13) : over h a b c = if asO 5 (TT h) = true then (if ag a (asr 5 (TT h)) = true then .ok (mk2 5 (asl 5 (TT h)) (asr 5 (TT h))) else fault h 91) else fault h 90 := by
  unfold over
  simp [hk]
theorem over_15 (h : Hd) (a b c : T2) (hk : h.kind = 15) : over h a b c = if ag a (1, .nil) = true then (if ag b (1, .nil) = true then .ok (opAns h.name) else fault h 91) else fault h 91 := by
  unfold over
  simp [hk]
theorem over_16 (h : Hd) (a b c : T2) (hk : h.kind = 16) : over h a b c = if ag a (TT h) = true then .ok (TT h) else fault h 91 := by
  unfold over
  simp [hk]
theorem over_17 (h : Hd) (a b c : T2) (hk : h.kind = 17) : over h a b c = if ag a (TT h) = true then .ok (TT h) else fault h 91 := by
  unfold over
  simp [hk]
end Ck
end Go.Proofs.YtknhoagicdfikaaGreatDoor
namespace Go.Proofs.YtknhoagicdfikaaGreatDoor
namespace Ck
theorem raw_congr {F G : Hd → Tm → Env → R} (h : Hd) (kids : Tm) (l : Env) (hi : Tm.isKind h.kind = true) (hn : Tm.len kids = Tm.kidsN h.kind)
    (h1 : 1 ≤ Tm.len kids → ∀ l, F (k1 kids).1 (k1 kids).2 l = G (k1 kids).1 (k1 kids).2 l)
    (h2 : 2 ≤ Tm.len kids → ∀ l, F (k2 kids).1 (k2 kids).2 l = G (k2 kids).1 (k2 kids).2 l)
    (h3 : 3 ≤ Tm.len kids → ∀ l, F (k3 kids).1 (k3 kids).2 l = G (k3 kids).1 (k3 kids).2 l) : raw F h kids l = raw G h kids l := by
  have hk : h.kind = 0 ∨ h.kind = 1 ∨ h.kind = 2 ∨ h.kind = 3 ∨ h.kind = 4 ∨ h.kind = 5 ∨ h.kind = 6 ∨ h.kind = 7 ∨ h.kind = 8 ∨ h.kind = 9 ∨ h.kind = 10 ∨ h.kind = 11 ∨ h.kind = 12 ∨ h.kind = 13 ∨ h.kind = 14 ∨ h.kind = 15 ∨ h.kind = 16 ∨ h.kind = 17 := by
    simp only [Tm.isKind, decide_eq_true_eq] at hi
    omega
  rcases hk with hk | hk | hk | hk | hk | hk | hk | hk | hk | hk | hk | hk | hk | hk | hk | hk | hk | hk
  · rw [hn, hk] at h1 h2 h3
    simp only [raw_0 F h kids l hk, raw_0 G h kids l hk]
  · rw [hn, hk] at h1 h2 h3
    simp only [raw_1 F h kids l hk, raw_1 G h kids l hk]
  · rw [hn, hk] at h1 h2 h3
    simp only [raw_2 F h kids l hk, raw_2 G h kids l hk]
  · rw [hn, hk] at h1 h2 h3
    simp only [raw_3 F h kids l hk, raw_3 G h kids l hk]
  · rw [hn, hk] at h1 h2 h3
    simp only [raw_4 F h kids l hk, raw_4 G h kids l hk, h1 (by decide)]
  · rw [hn, hk] at h1 h2 h3
    simp only [raw_5 F h kids l hk, raw_5 G h kids l hk, h1 (by decide)]
  · rw [hn, hk] at h1 h2 h3
    simp only [raw_6 F h kids l hk, raw_6 G h kids l hk, h1 (by decide), h2 (by decide)]
  · rw [hn, hk] at h1 h2 h3
    simp only [raw_7 F h kids l hk, raw_7 G h kids l hk, h1 (by decide), h2 (by decide)]
  · rw [hn, hk] at h1 h2 h3
    simp only [raw_8 F h kids l hk, raw_8 G h kids l hk, h1 (by decide), h2 (by decide), h3 (by decide)]
  · rw [hn, hk] at h1 h2 h3
    simp only [raw_9 F h kids l hk, raw_9 G h kids l hk, h1 (by decide), h2 (by decide)]
  · rw [hn, hk] at h1 h2 h3
    simp only [raw_10 F h kids l hk, raw_10 G h kids l hk, h1 (by decide)]
  · rw [hn, hk] at h1 h2 h3
    simp only [raw_11 F h kids l hk, raw_11 G h kids l hk, h1 (by decide)]
  · rw [hn, hk] at h1 h2 h3
    simp only [raw_12 F h kids l hk, raw_12 G h kids l hk, h1 (by decide)]
  · rw [hn, hk] at h1 h2 h3
    simp only [raw_13 F h kids l hk, raw_13 G h kids l hk, h1 (by decide)]
  · rw [hn, hk] at h1 h2 h3
    simp only [raw_14 F h kids l hk, raw_14 G h kids l hk, h1 (by decide), h2 (by decide), h3 (by decide)]
  · rw [hn, hk] at h1 h2 h3
    simp only [raw_15 F h kids l hk, raw_15 G h kids l hk, h1 (by decide), h2 (by decide)]
  · rw [hn, hk] at h1 h2 h3
    simp only [raw_16 F h kids l hk, raw_16 G h kids l hk, h1 (by decide)]
  · rw [hn, hk] at h1 h2 h3
    simp only [raw_17 F h kids l hk, raw_17 G h kids l hk, h1 (by decide)]
theorem okF_node' {h : Hd} {k r : Tm} (h0 : Tm.okF (.node h k r) = true) : Tm.okT h k = true ∧ Tm.okF r = true := by
  simp only [Tm.okF, Bool.and_eq_true] at h0
  exact ⟨by unfold Tm.okT; rw [h0.1.1, h0.1.2]; rfl, h0.2⟩
theorem k1_in {kids : Tm} (h : 1 ≤ Tm.len kids) : (Tm.okF kids = true → Tm.okT (k1 kids).1 (k1 kids).2 = true) ∧ (castF kids = false → castT (k1 kids).1 (k1 kids).2 = false) ∧ Tm.nodes (k1 kids).2 < Tm.nodes kids := by
  cases kids with
  | nil => simp [Tm.len] at h
  | node h k r =>
    refine ⟨fun h0 => (okF_node' h0).1, fun h0 => ?_, by simp only [k1, Tm.nodes]; omega⟩
    simp only [castF, Bool.or_eq_false_iff] at h0
    simp only [k1, castT, h0.1.1, h0.1.2, Bool.or_false]
theorem k2_in {kids : Tm} (h : 2 ≤ Tm.len kids) : (Tm.okF kids = true → Tm.okT (k2 kids).1 (k2 kids).2 = true) ∧ (castF kids = false → castT (k2 kids).1 (k2 kids).2 = false) ∧ Tm.nodes (k2 kids).2 < Tm.nodes kids := by
  cases kids with
  | nil => simp [Tm.len] at h
  | node h' k r =>
    obtain ⟨x, y, z⟩ := k1_in (kids := r) (by simp only [Tm.len] at h; omega)
    refine ⟨fun h0 => x (okF_node' h0).2, fun h0 => ?_, by simp only [k2, Tm.nodes]; omega⟩
    simp only [castF, Bool.or_eq_false_iff] at h0
    exact y h0.2
theorem k3_in {kids : Tm} (h : 3 ≤ Tm.len kids) : (Tm.okF kids = true → Tm.okT (k3 kids).1 (k3 kids).2 = true) ∧ (castF kids = false → castT (k3 kids).1 (k3 kids).2 = false) ∧ Tm.nodes (k3 kids).2 < Tm.nodes kids := by
  cases kids with
  | nil => simp [Tm.len] at h
  | node h' k r =>
    obtain ⟨x, y, z⟩ := k2_in (kids := r) (by simp only [Tm.len] at h; omega)
    refine ⟨fun h0 => x (okF_node' h0).2, fun h0 => ?_, by simp only [k3, Tm.nodes]; omega⟩
    simp only [castF, Bool.or_eq_false_iff] at h0
    exact y h0.2
/-- what a right term's fields say -/
theorem okT_parts {h : Hd} {kids : Tm} (h0 : Tm.okT h kids = true) : Tm.isKind h.kind = true ∧ Tm.len kids = Tm.kidsN h.kind ∧ Tm.okF kids = true := by
  unfold Tm.okT Tm.headOk at h0
  simp only [Bool.and_eq_true, decide_eq_true_eq] at h0
  exact ⟨h0.1.1.1.1.1, h0.1.1.1.1.2, h0.2⟩
theorem castT_parts {h : Hd} {kids : Tm} (h0 : castT h kids = false) : h.kind ≠ 17 ∧ castF kids = false := by
  unfold castT at h0
  simp only [Bool.or_eq_false_iff, beq_eq_false_iff_ne] at h0
  exact h0
/-- more fuel tells the same -/
theorem ty_more : ∀ (K K' : Nat) (h : Hd) (kids : Tm) (l : Env), Tm.okT h kids = true → Tm.nodes kids < K → Tm.nodes kids < K' → ty K h kids l = ty K' h kids l
  | 0, _, _, _, _, _, h1, _ => by omega
  | _ + 1, 0, _, _, _, _, _, h2 => by omega
  | K + 1, K' + 1, h, kids, l, h0, hK, hK' => by
    obtain ⟨x, y, z⟩ := okT_parts h0
    rw [ty_succ, ty_succ, raw_congr (F := ty K) (G := ty K') h kids l x y
      (fun g l => by obtain ⟨a, -, c⟩ := k1_in g; exact ty_more K K' _ _ l (a z) (by omega) (by omega))
      (fun g l => by obtain ⟨a, -, c⟩ := k2_in g; exact ty_more K K' _ _ l (a z) (by omega) (by omega))
      (fun g l => by obtain ⟨a, -, c⟩ := k3_in g; exact ty_more K K' _ _ l (a z) (by omega) (by omega))]
theorem chk_parts {h : Hd} {kids : Tm} (h0 : Tm.chk h kids = 0) : Tm.nd h kids ≤ 8192 ∧ Tm.dp h kids ≤ 200 ∧ Tm.okT h kids = true := by
  unfold Tm.chk at h0
  split at h0
  · cases h0
  · split at h0
    · cases h0
    · split at h0
      · exact ⟨by omega, by omega, by assumption⟩
      · cases h0
theorem chk_of' {h : Hd} {kids : Tm} (h1 : Tm.nd h kids ≤ 8192) (h2 : Tm.dp h kids ≤ 200) (h3 : Tm.okT h kids = true) : Tm.chk h kids = 0 := by
  unfold Tm.chk
  rw [if_neg (by omega), if_neg (by omega), if_pos h3]
/-- a pair of terms -/
def hd9 : Hd := ⟨9, e0, e0, 0, 0, .nil, 0, .nil, 0, 0⟩
def two (h : Hd) (k : Tm) (h' : Hd) (k' : Tm) : Tm := .node h k (.node h' k' .nil)
theorem two_ok {h : Hd} {k : Tm} {h' : Hd} {k' : Tm} : Tm.okT hd9 (two h k h' k') = (Tm.okT h k && Tm.okT h' k') := by
  unfold Tm.okT two
  simp [Tm.okF, Tm.headOk, Tm.len, hd9, Tm.isKind, Tm.kidsN, Tm.nameOk, Tm.hasName, Tm.hasArg, Tm.hasLabel, Tm.hasType, Tm.hasTo, Tm.tysOk, Bool.and_assoc]
theorem two_size {h : Hd} {k : Tm} {h' : Hd} {k' : Tm} : Tm.nd hd9 (two h k h' k') = 1 + Tm.nd h k + Tm.nd h' k' ∧ Tm.dp hd9 (two h k h' k') = 1 + max (Tm.dp h k) (Tm.dp h' k') := by
  unfold Tm.nd Tm.dp two
  simp only [Tm.nodes, Tm.dep, hd9, Tm.tyN, Tm.tyD, Tm.hasType, Tm.hasTo]
  constructor
  · simp; omega
  · simp
theorem two_cast {h : Hd} {k : Tm} {h' : Hd} {k' : Tm} : castT hd9 (two h k h' k') = (castT h k || castT h' k') := by
  simp [castT, two, castF, hd9, Bool.or_assoc]
theorem two_chk {h : Hd} {k : Tm} {h' : Hd} {k' : Tm} (h0 : Tm.chk hd9 (two h k h' k') = 0) : Tm.chk h k = 0 ∧ Tm.chk h' k' = 0 := by
  obtain ⟨x, y, z⟩ := chk_parts h0
  obtain ⟨s, d⟩ := two_size (h := h) (k := k) (h' := h') (k' := k')
  rw [two_ok, Bool.and_eq_true] at z
  exact ⟨chk_of' (by omega) (by omega) z.1, chk_of' (by omega) (by omega) z.2⟩
def isBad : R → Prop
  | .ok _ => False
  | .bad _ _ _ => True
theorem tell_eq {h : Hd} {k : Tm} (h0 : Tm.chk h k = 0) (hc : castT h k = false) : tell h k = ty (Tm.nodes k + 1) h k [] := by
  unfold tell
  rw [if_neg (by omega), if_neg (by rw [hc]; decide)]
/-- what is told of a closed pair -/
theorem tell_two (h : Hd) (k : Tm) (h' : Hd) (k' : Tm) :
    (isBad (tell hd9 (two h k h' k')) ∧ (isBad (tell h k) ∨ isBad (tell h' k') ∨ (Tm.chk hd9 (two h k h' k') ≠ 0 ∨ ∃ a b, tell h k = .ok a ∧ tell h' k' = .ok b ∧ chk (mk2 4 a b) ≠ 0)))
    ∨ ∃ a b, tell hd9 (two h k h' k') = .ok (mk2 4 a b) ∧ tell h k = .ok a ∧ tell h' k' = .ok b := by
  by_cases h0 : Tm.chk hd9 (two h k h' k') = 0
  case neg =>
    refine .inl ⟨?_, .inr (.inr (.inl h0))⟩
    unfold tell
    rw [if_pos h0]
    trivial
  obtain ⟨x, y⟩ := two_chk h0
  cases hc : castT hd9 (two h k h' k')
  case true =>
    refine .inl ⟨?_, ?_⟩
    · unfold tell
      rw [if_neg (by omega), if_pos hc]
      trivial
    · rw [two_cast, Bool.or_eq_true] at hc
      rcases hc with hc | hc
      · refine .inl ?_
        unfold tell
        rw [if_neg (by omega), if_pos hc]
        trivial
      · refine .inr (.inl ?_)
        unfold tell
        rw [if_neg (by omega), if_pos hc]
        trivial
  have hc2 := hc
  rw [two_cast, Bool.or_eq_false_iff] at hc2
  rw [tell_eq h0 hc, tell_eq x hc2.1, tell_eq y hc2.2, ty_succ, raw_9 _ _ _ _ rfl]
  have e1 : ty (Tm.nodes (two h k h' k')) (k1 (two h k h' k')).1 (k1 (two h k h' k')).2 [] = ty (Tm.nodes k + 1) h k [] :=
    ty_more _ _ h k [] (chk_parts x).2.2 (by simp only [two, Tm.nodes]; omega) (by omega)
  have e2 : ty (Tm.nodes (two h k h' k')) (k2 (two h k h' k')).1 (k2 (two h k h' k')).2 [] = ty (Tm.nodes k' + 1) h' k' [] :=
    ty_more _ _ h' k' [] (chk_parts y).2.2 (by simp only [two, Tm.nodes]; omega) (by omega)
  rw [e1]
  cases q1 : ty (Tm.nodes k + 1) h k [] with
  | bad E p s => exact .inl ⟨trivial, .inl trivial⟩
  | ok a =>
    simp only [bnd]
    rw [e2]
    cases q2 : ty (Tm.nodes k' + 1) h' k' [] with
    | bad E p s => exact .inl ⟨trivial, .inr (.inl trivial)⟩
    | ok b =>
      simp only []
      rw [over_9 _ _ _ _ rfl]
      simp only [lift]
      by_cases hz : chk (mk2 4 a b) = 0
      · rw [if_pos hz]
        exact .inr ⟨a, b, rfl, rfl, rfl⟩
      · rw [if_neg hz]
        exact .inl ⟨trivial, .inr (.inr (.inr ⟨a, b, rfl, rfl, hz⟩))⟩
end Ck
end Go.Proofs.YtknhoagicdfikaaGreatDoor
namespace Go.Proofs.YtknhoagicdfikaaGreatDoor
open Go.RowKit

/-- the copy's block, the result's block -/
structure BareRel (w wx : World) (B R : Nat) (a : Hd) (q : Pl) : Prop where
  bx : wx.heap[B]? = some (.cells #[.int .i8 a.kind, .string a.name, .string a.arg, .int .i64 a.num, .int .i8 a.tk, .slice q.TA q.tn q.tc, .int .i8 a.uk, .slice q.UA q.un q.uc, .int .i64 a.label, .int .i64 a.pos, .slice q.A q.n q.c] 28 (0, 0))
  rx : wx.heap[R]? = some (.cells #[.int .i8 0, .string ⟨#[]⟩, .string ⟨#[]⟩, .int .i64 0, .int .i8 0, .slice none 0 0, .int .i8 0, .slice none 0 0, .int .i64 0, .int .i64 0, .slice none 0 0] 28 (0, 0))
  below : Below w.heap.size w wx
  gt : w.heap.size < B
  ne : R ≠ B
/-- behind the types -/
structure BareRel2 (w wx : World) (B R : Nat) (a : Hd) (q q2 : Pl) : Prop where
  rel : BareRel w wx B R a q2
  ty : Ty.Is (mask (fun b => decide (B < b)) wx) a.tk a.tkids q2.TA q2.tn q2.tc
  tu : Ty.Is (mask (fun b => decide (B < b)) wx) a.uk a.ukids q2.UA q2.un q2.uc
  A : q2.A = q.A
  n : q2.n = q.n
  c : q2.c = q.c

theorem BareRel.types {w u v : World} {B R : Nat} {a : Hd} {q : Pl} {G1 G2 : Option Addr} {m1 c1 m2 c2 n1 n2 : Nat} (hB : v.heap[B]? = some (.cells #[.int .i8 a.kind, .string a.name, .string a.arg, .int .i64 a.num, .int .i8 a.tk, .slice q.TA q.tn q.tc, .int .i8 a.uk, .slice q.UA q.un q.uc, .int .i64 a.label, .int .i64 a.pos, .slice q.A q.n q.c] 28 (0, 0))) (hR : v.heap[R]? = some (.cells #[.int .i8 0, .string ⟨#[]⟩, .string ⟨#[]⟩, .int .i64 0, .int .i8 0, .slice none 0 0, .int .i8 0, .slice none 0 0, .int .i64 0, .int .i64 0, .slice none 0 0] 28 (0, 0))) (hb : Below w.heap.size w v) (hg : w.heap.size < B) (hne : R ≠ B)
    (h1 : Ty.Is (mask (fun b => decide (n1 ≤ b)) u) a.tk a.tkids G1 m1 c1) (hn1 : B < n1) (huv : Below u.heap.size u v) (h2 : Ty.Is (mask (fun b => decide (n2 ≤ b)) v) a.uk a.ukids G2 m2 c2) (hn2 : B < n2) :
    BareRel2 w ((((v.setCell ⟨B, 4, none⟩ (.int .i8 a.tk)).setCell ⟨B, 5, none⟩ (.slice G1 m1 c1)).setCell ⟨B, 6, none⟩ (.int .i8 a.uk)).setCell ⟨B, 7, none⟩ (.slice G2 m2 c2)) B R a q ⟨G1, m1, c1, G2, m2, c2, q.A, q.n, q.c⟩ := by
  have hoth : ∀ (b o : Nat) (x : Value), b ≠ B → v.cell? ⟨b, o, none⟩ = some x → ((((v.setCell ⟨B, 4, none⟩ (.int .i8 a.tk)).setCell ⟨B, 5, none⟩ (.slice G1 m1 c1)).setCell ⟨B, 6, none⟩ (.int .i8 a.uk)).setCell ⟨B, 7, none⟩ (.slice G2 m2 c2)).cell? ⟨b, o, none⟩ = some x := by
    intro b o x hbB hx
    rw [World.cell?_setCell_other _ _ _ _ (fun e => hbB (by injection e with e; exact e.symm)), World.cell?_setCell_other _ _ _ _ (fun e => hbB (by injection e with e; exact e.symm)), World.cell?_setCell_other _ _ _ _ (fun e => hbB (by injection e with e; exact e.symm)), World.cell?_setCell_other _ _ _ _ (fun e => hbB (by injection e with e; exact e.symm))]
    exact hx
  refine ⟨⟨?_, ?_, (((hb.setCell (p := ⟨B, 4, none⟩) (Nat.le_of_lt hg) _).setCell (p := ⟨B, 5, none⟩) (Nat.le_of_lt hg) _).setCell (p := ⟨B, 6, none⟩) (Nat.le_of_lt hg) _).setCell (p := ⟨B, 7, none⟩) (Nat.le_of_lt hg) _, hg, hne⟩, ?_, ?_, rfl, rfl, rfl⟩
  · simp [World.setCell, Array.getElem?_modify, hB]
  · rw [Below.heap_setCell _ _ _ R hne, Below.heap_setCell _ _ _ R hne, Below.heap_setCell _ _ _ R hne, Below.heap_setCell _ _ _ R hne]; exact hR
  · refine h1.kept (kept_mask fun b o x hP hx => ?_)
    have hP' : n1 ≤ b := by simpa using hP
    exact ⟨by simp; omega, hoth b o x (by omega) (by rw [huv.cell (p := ⟨b, o, none⟩) (Ty.cell_lt hx)]; exact hx)⟩
  · refine h2.kept (kept_mask fun b o x hP hx => ?_)
    have hP' : n2 ≤ b := by simpa using hP
    exact ⟨by simp; omega, hoth b o x (by omega) hx⟩

attribute [local go_sem ↓] Go.wp_at_zero Go.wp_at_succ
end Go.Proofs.YtknhoagicdfikaaGreatDoor
namespace Go.Proofs.YtknhoagicdfikaaGreatDoor
open Go.RowKit

def Tm.zero : Hd := ⟨0, ⟨#[]⟩, ⟨#[]⟩, 0, 0, .nil, 0, .nil, 0, 0⟩
def RowEl (w : World) (g : Nat) (h : Hd) (p : Pl) : Prop :=
  w.cell? ⟨g, 0, none⟩ = some (.int .i8 h.kind) ∧ w.cell? ⟨g, 1, none⟩ = some (.string h.name) ∧ w.cell? ⟨g, 2, none⟩ = some (.string h.arg) ∧ w.cell? ⟨g, 3, none⟩ = some (.int .i64 h.num) ∧ w.cell? ⟨g, 4, none⟩ = some (.int .i8 h.tk) ∧
  w.cell? ⟨g, 5, none⟩ = some (.slice p.TA p.tn p.tc) ∧ w.cell? ⟨g, 6, none⟩ = some (.int .i8 h.uk) ∧ w.cell? ⟨g, 7, none⟩ = some (.slice p.UA p.un p.uc) ∧ w.cell? ⟨g, 8, none⟩ = some (.int .i64 h.label) ∧ w.cell? ⟨g, 9, none⟩ = some (.int .i64 h.pos) ∧
  w.cell? ⟨g, 10, none⟩ = some (.slice p.A p.n p.c)
theorem RowEl.below {w w' : World} {g : Nat} {h : Hd} {p : Pl} (hr : RowEl w g h p) (hb : Below w.heap.size w w') : RowEl w' g h p := by
  have hl := Ty.cell_lt hr.1
  have hc := fun o => (bcell hb).1 g o hl
  unfold RowEl at *
  rw [hc, hc, hc, hc, hc, hc, hc, hc, hc, hc, hc]
  exact hr
end Go.Proofs.YtknhoagicdfikaaGreatDoor
