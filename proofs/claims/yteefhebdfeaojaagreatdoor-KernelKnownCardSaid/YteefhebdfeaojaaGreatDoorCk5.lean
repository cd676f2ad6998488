/-
  Layer 9: the rules' small parts: wantAgree, parts, meet, answerOf, named.
-/
import Derived.Test.YteefhebdfeaojaaGreatDoorM17
import Derived.Test.YteefhebdfeaojaaGreatDoorM2
import Derived.Deep.QuietTactic
import Derived.BigQuiet
namespace Go.Proofs.YteefhebdfeaojaaGreatDoor
open Go.RowKit
set_option maxHeartbeats 2000000 in
set_option maxRecDepth 100000 in
theorem ckwant_yes (rv : Cg.Rv) (h : Hd) (p : Pl) (k : Int) (kids : Fo) (A : Option Addr) (n c : Nat) (k' : Int) (kids' : Fo) (A' : Option Addr) (n' c' : Nat) (w : World) (hIs : Ty.Is w k kids A n c) (hIs' : Ty.Is w k' kids' A' n' c') (hS : Shapes w) (hag : rv.D.ag (k, kids) (k', kids') = true) :
    Calls Tryz.prog 68 #[.agg #[.func (Fn.func rv.fr) #[] rv.cpt, .func (Fn.func rv.fa) #[] #[], .func (Fn.func rv.fm) #[] #[], .func (Fn.func rv.ft) #[] #[], rv.vg], .agg #[.int .i8 h.kind, .string h.name, .string h.arg, .int .i64 h.num, .int .i8 h.tk, .slice p.TA p.tn p.tc, .int .i8 h.uk, .slice p.UA p.un p.uc, .int .i64 h.label, .int .i64 h.pos, .slice p.A p.n p.c], .agg #[.int .i8 k, .slice A n c], .agg #[.int .i8 k', .slice A' n' c']] w fun e w' => e = .returned (.tuple #[]) ∧ Below w.heap.size w w' := by
  have hcf := rv.cfa
  have CA := Lib.hid (fun (W : World) (hb : Below w.heap.size w W) => rv.agC k kids A n c k' kids' A' n' c' W (hIs.below hb) (hIs'.below hb) (hS.below hb))
  rw [hag] at CA
  have HB4 := Lib.hid (below_n4 w (.cells #[.func (Fn.func rv.fr) #[] rv.cpt, .func (Fn.func rv.fa) #[] #[], .func (Fn.func rv.fm) #[] #[], .func (Fn.func rv.ft) #[] #[], rv.vg] 44) (.cells #[.int .i8 h.kind, .string h.name, .string h.arg, .int .i64 h.num, .int .i8 h.tk, .slice p.TA p.tn p.tc, .int .i8 h.uk, .slice p.UA p.un p.uc, .int .i64 h.label, .int .i64 h.pos, .slice p.A p.n p.c] 28) (.cells #[.int .i8 k, .slice A n c] 25) (.cells #[.int .i8 k', .slice A' n' c'] 25))
  obtain ⟨-, h1, -, -⟩ := heap_n4 w (.cells #[.func (Fn.func rv.fr) #[] rv.cpt, .func (Fn.func rv.fa) #[] #[], .func (Fn.func rv.fm) #[] #[], .func (Fn.func rv.ft) #[] #[], rv.vg] 44) (.cells #[.int .i8 h.kind, .string h.name, .string h.arg, .int .i64 h.num, .int .i8 h.tk, .slice p.TA p.tn p.tc, .int .i8 h.uk, .slice p.UA p.un p.uc, .int .i64 h.label, .int .i64 h.pos, .slice p.A p.n p.c] 28) (.cells #[.int .i8 k, .slice A n c] 25) (.cells #[.int .i8 k', .slice A' n' c'] 25)
  have H1 := Lib.hid h1
  clear hIs hIs' hS hag h1
  go_enter Tryz.func68, Tryz.ntmps68
  go_wp2_with fail
  refine (CA.out _ HB4.out).mono ?_
  rintro e w5 ⟨rfl, hb5⟩
  have HB5 := Lib.hid (HB4.out.trans (hb5.mono HB4.out.size))
  clear hb5
  go_wp2_with fail
  go_end0
  exact ⟨rfl, HB5.out⟩

set_option maxHeartbeats 2000000 in
set_option maxRecDepth 100000 in
theorem ckwant_no (rv : Cg.Rv) (h : Hd) (p : Pl) (k : Int) (kids : Fo) (A : Option Addr) (n c : Nat) (k' : Int) (kids' : Fo) (A' : Option Addr) (n' c' : Nat) (w : World) (hIs : Ty.Is w k kids A n c) (hIs' : Ty.Is w k' kids' A' n' c') (hS : Shapes w) (hag : rv.D.ag (k, kids) (k', kids') = false) :
    Calls Tryz.prog 68 #[.agg #[.func (Fn.func rv.fr) #[] rv.cpt, .func (Fn.func rv.fa) #[] #[], .func (Fn.func rv.fm) #[] #[], .func (Fn.func rv.ft) #[] #[], rv.vg], .agg #[.int .i8 h.kind, .string h.name, .string h.arg, .int .i64 h.num, .int .i8 h.tk, .slice p.TA p.tn p.tc, .int .i8 h.uk, .slice p.UA p.un p.uc, .int .i64 h.label, .int .i64 h.pos, .slice p.A p.n p.c], .agg #[.int .i8 k, .slice A n c], .agg #[.int .i8 k', .slice A' n' c']] w (Ck.Gave w 91 h.pos Ck.e0) := by
  have hcf := rv.cfa
  have CA := Lib.hid (fun (W : World) (hb : Below w.heap.size w W) => rv.agC k kids A n c k' kids' A' n' c' W (hIs.below hb) (hIs'.below hb) (hS.below hb))
  rw [hag] at CA
  have HB4 := Lib.hid (below_n4 w (.cells #[.func (Fn.func rv.fr) #[] rv.cpt, .func (Fn.func rv.fa) #[] #[], .func (Fn.func rv.fm) #[] #[], .func (Fn.func rv.ft) #[] #[], rv.vg] 44) (.cells #[.int .i8 h.kind, .string h.name, .string h.arg, .int .i64 h.num, .int .i8 h.tk, .slice p.TA p.tn p.tc, .int .i8 h.uk, .slice p.UA p.un p.uc, .int .i64 h.label, .int .i64 h.pos, .slice p.A p.n p.c] 28) (.cells #[.int .i8 k, .slice A n c] 25) (.cells #[.int .i8 k', .slice A' n' c'] 25))
  obtain ⟨-, h1, -, -⟩ := heap_n4 w (.cells #[.func (Fn.func rv.fr) #[] rv.cpt, .func (Fn.func rv.fa) #[] #[], .func (Fn.func rv.fm) #[] #[], .func (Fn.func rv.ft) #[] #[], rv.vg] 44) (.cells #[.int .i8 h.kind, .string h.name, .string h.arg, .int .i64 h.num, .int .i8 h.tk, .slice p.TA p.tn p.tc, .int .i8 h.uk, .slice p.UA p.un p.uc, .int .i64 h.label, .int .i64 h.pos, .slice p.A p.n p.c] 28) (.cells #[.int .i8 k, .slice A n c] 25) (.cells #[.int .i8 k', .slice A' n' c'] 25)
  have H1 := Lib.hid h1
  clear hIs hIs' hS hag h1
  go_enter Tryz.func68, Tryz.ntmps68
  go_wp2_with fail
  refine (CA.out _ HB4.out).mono ?_
  rintro e w5 ⟨rfl, hb5⟩
  have HB5 := Lib.hid (HB4.out.trans (hb5.mono HB4.out.size))
  obtain ⟨q0, q1, q2, q3, q4, q5, q6, q7, q8, q9, q10, ql⟩ := own11 (heap_below hb5 (heap_lt H1.out) H1.out)
  have HF := Lib.hid (ckfail_any h p 91 w5)
  clear hb5
  go_wp2_with fail
  refine HF.out.mono ?_
  rintro e w6 hg
  have HG := Lib.hid (Ck.Gave.from hg HB5.out)
  obtain ⟨g, rfl, -⟩ := hg
  go_wp2_with fail
  exact ⟨rfl, HG.out⟩

set_option maxHeartbeats 2000000 in
set_option maxRecDepth 100000 in
theorem ckgoes_any (rv : Cg.Rv) (h : Hd) (p : Pl) (w : World) (hca : rv.D.ca = true) (hT : Ty.Is w h.tk h.tkids p.TA p.tn p.tc) (hU : Ty.Is w h.uk h.ukids p.UA p.un p.uc) (hS : Shapes w) :
    Calls Tryz.prog 72 #[.agg #[.func (Fn.func rv.fr) #[] rv.cpt, .func (Fn.func rv.fa) #[] #[], .func (Fn.func rv.fm) #[] #[], .func (Fn.func rv.ft) #[] #[], rv.vg], .agg #[.int .i8 h.kind, .string h.name, .string h.arg, .int .i64 h.num, .int .i8 h.tk, .slice p.TA p.tn p.tc, .int .i8 h.uk, .slice p.UA p.un p.uc, .int .i64 h.label, .int .i64 h.pos, .slice p.A p.n p.c]] w fun e w' => (rv.D.gs (Ck.TT h) (Ck.UU h) = false ∧ Ck.Gave w 91 h.pos Ck.e0 e w') ∨ (rv.D.gs (Ck.TT h) (Ck.UU h) = true ∧ e = .returned (.tuple #[]) ∧ Below w.heap.size w w') := by
  obtain ⟨fg, hv, hcf, hgC⟩ := rv.gC hca
  rw [hv]
  have CA := Lib.hid (fun (W : World) (hb : Below w.heap.size w W) => hgC h.tk h.tkids p.TA p.tn p.tc h.uk h.ukids p.UA p.un p.uc W (hT.below hb) (hU.below hb) (hS.below hb))
  have HB2 := Lib.hid (below_n2 w (.cells #[.func (Fn.func rv.fr) #[] rv.cpt, .func (Fn.func rv.fa) #[] #[], .func (Fn.func rv.fm) #[] #[], .func (Fn.func rv.ft) #[] #[], .func (Fn.func fg) #[] #[]] 44) (.cells #[.int .i8 h.kind, .string h.name, .string h.arg, .int .i64 h.num, .int .i8 h.tk, .slice p.TA p.tn p.tc, .int .i8 h.uk, .slice p.UA p.un p.uc, .int .i64 h.label, .int .i64 h.pos, .slice p.A p.n p.c] 28))
  obtain ⟨-, h1⟩ := heap_n2 w (.cells #[.func (Fn.func rv.fr) #[] rv.cpt, .func (Fn.func rv.fa) #[] #[], .func (Fn.func rv.fm) #[] #[], .func (Fn.func rv.ft) #[] #[], .func (Fn.func fg) #[] #[]] 44) (.cells #[.int .i8 h.kind, .string h.name, .string h.arg, .int .i64 h.num, .int .i8 h.tk, .slice p.TA p.tn p.tc, .int .i8 h.uk, .slice p.UA p.un p.uc, .int .i64 h.label, .int .i64 h.pos, .slice p.A p.n p.c] 28)
  have H1 := Lib.hid h1
  rw [show rv.D.gs (h.tk, h.tkids) (h.uk, h.ukids) = rv.D.gs (Ck.TT h) (Ck.UU h) from rfl] at CA
  generalize rv.D.gs (Ck.TT h) (Ck.UU h) = g0 at *
  clear hT hU hS h1 hgC hv
  cases g0
  · go_enter Tryz.func72, Tryz.ntmps72
    go_wp2_with fail
    refine (CA.out _ HB2.out).mono ?_
    rintro e w5 ⟨rfl, hb5⟩
    have HB5 := Lib.hid (HB2.out.trans (hb5.mono HB2.out.size))
    obtain ⟨q0, q1, q2, q3, q4, q5, q6, q7, q8, q9, q10, ql⟩ := own11 (heap_below hb5 (heap_lt H1.out) H1.out)
    have HF := Lib.hid (ckfail_any h p 91 w5)
    clear hb5
    go_wp2_with fail
    refine HF.out.mono ?_
    rintro e w6 hg
    have HG := Lib.hid (Ck.Gave.from hg HB5.out)
    obtain ⟨g, rfl, -⟩ := hg
    go_wp2_with fail
    exact ⟨rfl, .inl ⟨trivial, HG.out⟩⟩
  · go_enter Tryz.func72, Tryz.ntmps72
    go_wp2_with fail
    refine (CA.out _ HB2.out).mono ?_
    rintro e w5 ⟨rfl, hb5⟩
    have HB5 := Lib.hid (HB2.out.trans (hb5.mono HB2.out.size))
    clear hb5
    go_wp2_with fail
    go_end0
    exact .inr ⟨trivial, rfl, HB5.out⟩

theorem set_two {u : World} {X : Nat} {x0 x1 : Value} {t : TypeId} (h : u.heap[X]? = some (.cells #[x0, x1] t (0, 0))) (a b : Value) : ((u.setCell ⟨X, 0, none⟩ a).setCell ⟨X, 1, none⟩ b).heap[X]? = some (.cells #[a, b] t (0, 0)) := by
  simp [World.setCell, Array.getElem?_modify, h]
theorem set_two_ne {u : World} {X Y : Nat} {o : Obj} (h : u.heap[Y]? = some o) (hne : X ≠ Y) (a b : Value) : ((u.setCell ⟨X, 0, none⟩ a).setCell ⟨X, 1, none⟩ b).heap[Y]? = some o := by
  simp [World.setCell, Array.getElem?_modify, h, hne]
theorem below_set2 {N X : Nat} {w u : World} (h : Below N w u) (hX : N ≤ X) (a b : Value) : Below N w ((u.setCell ⟨X, 0, none⟩ a).setCell ⟨X, 1, none⟩ b) := (h.setCell (p := ⟨X, 0, none⟩) hX _).setCell (p := ⟨X, 1, none⟩) hX _
theorem Ck.Ly.set2 {Q : Nat → Prop} {w : World} {a : Ck.T2} {G : Option Addr} {m c : Nat} (h : Ck.Ly Q w a G m c) {X : Nat} (hX : ∀ b, Q b → b ≠ X) (v0 v1 : Value) : Ck.Ly Q ((w.setCell ⟨X, 0, none⟩ v0).setCell ⟨X, 1, none⟩ v1) a G m c := (h.set hX _ _).set hX _ _
/-- two types that are handed back -/
def AsPost2 (Q : Nat → Prop) (w : World) (l r : Ck.T2) (e : Ending) (w' : World) : Prop :=
  ∃ G1 m1 c1 G2 m2 c2, e = .returned (.tuple #[.agg #[.int .i8 l.1, .slice G1 m1 c1], .agg #[.int .i8 r.1, .slice G2 m2 c2]]) ∧ Ck.Ly (Ck.Cut Q w.heap.size w.heap.size) w' l G1 m1 c1 ∧ Ck.Ly (Ck.Cut Q w.heap.size w.heap.size) w' r G2 m2 c2 ∧ Below w.heap.size w w'

set_option maxHeartbeats 2000000 in
set_option maxRecDepth 100000 in
theorem ckparts_yes (rv : Cg.Rv) (Q : Nat → Prop) (h : Hd) (p : Pl) (kd : Int) (a : Ck.T2) (A : Option Addr) (n c : Nat) (w : World) (hkd : 3 ≤ kd ∧ kd ≤ 5) (hL : Ck.Ly Q w a A n c) (hok : Ty.okT a.1 a.2 = true) (hS : Shapes w) (hag : rv.D.asO kd a = true) :
    Calls Tryz.prog 69 #[.agg #[.func (Fn.func rv.fr) #[] rv.cpt, .func (Fn.func rv.fa) #[] #[], .func (Fn.func rv.fm) #[] #[], .func (Fn.func rv.ft) #[] #[], rv.vg], .agg #[.int .i8 h.kind, .string h.name, .string h.arg, .int .i64 h.num, .int .i8 h.tk, .slice p.TA p.tn p.tc, .int .i8 h.uk, .slice p.UA p.un p.uc, .int .i64 h.label, .int .i64 h.pos, .slice p.A p.n p.c], .int .i8 kd, .agg #[.int .i8 a.1, .slice A n c]] w (AsPost2 Q w (rv.D.asl kd a) (rv.D.asr kd a)) := by
  have hcf := rv.cfm
  have CA := Lib.hid (fun (W : World) (hb : Below w.heap.size w W) => rv.asC (fun b => Q b ∧ b < w.heap.size) kd a A n c W hkd ((hL.weak (fun b hl hq => ⟨hq, hl⟩)).later hb) hok (hS.below hb))
  rw [hag] at CA
  have HB5 := Lib.hid (below_n5 w (.cells #[.func (Fn.func rv.fr) #[] rv.cpt, .func (Fn.func rv.fa) #[] #[], .func (Fn.func rv.fm) #[] #[], .func (Fn.func rv.ft) #[] #[], rv.vg] 44) (.cells #[.int .i8 h.kind, .string h.name, .string h.arg, .int .i64 h.num, .int .i8 h.tk, .slice p.TA p.tn p.tc, .int .i8 h.uk, .slice p.UA p.un p.uc, .int .i64 h.label, .int .i64 h.pos, .slice p.A p.n p.c] 28) (.cells #[.int .i8 a.1, .slice A n c] 25) (.cells #[.int .i8 0, .slice none 0 0] 25) (.cells #[.int .i8 0, .slice none 0 0] 25))
  obtain ⟨-, h1, -, h3, h4⟩ := heap_n5 w (.cells #[.func (Fn.func rv.fr) #[] rv.cpt, .func (Fn.func rv.fa) #[] #[], .func (Fn.func rv.fm) #[] #[], .func (Fn.func rv.ft) #[] #[], rv.vg] 44) (.cells #[.int .i8 h.kind, .string h.name, .string h.arg, .int .i64 h.num, .int .i8 h.tk, .slice p.TA p.tn p.tc, .int .i8 h.uk, .slice p.UA p.un p.uc, .int .i64 h.label, .int .i64 h.pos, .slice p.A p.n p.c] 28) (.cells #[.int .i8 a.1, .slice A n c] 25) (.cells #[.int .i8 0, .slice none 0 0] 25) (.cells #[.int .i8 0, .slice none 0 0] 25)
  have H1 := Lib.hid h1
  have H3 := Lib.hid h3
  have H4 := Lib.hid h4
  clear hL hok hS hag h1 h3 h4
  go_enter Tryz.func69, Tryz.ntmps69
  go_wp2_with fail
  refine (CA.out _ HB5.out).mono ?_
  rintro e w5 ⟨G1, m1, c1, G2, m2, c2, rfl, hI1, hI2, hb5⟩
  have HB6 := Lib.hid (HB5.out.trans (hb5.mono HB5.out.size))
  obtain ⟨q0, q1, q2, q3, q4, q5, q6, q7, q8, q9, q10, ql⟩ := own11 (heap_below hb5 (heap_lt H1.out) H1.out)
  obtain ⟨x0, x1, f0, f1, xl⟩ := own2 (heap_below hb5 (heap_lt H3.out) H3.out)
  obtain ⟨y0, y1, f2, f3, yl⟩ := own2 (heap_below hb5 (heap_lt H4.out) H4.out)
  have HI1 := Lib.hid (Ck.Ly.weak (Q' := Ck.Cut Q w.heap.size (w.heap.size + 5)) (a := rv.D.asl kd a) (w := w5) hI1 (fun b _ h => Or.elim h (fun h => .inl h.1) (fun h => .inr (by simp at h; omega))))
  have HI2 := Lib.hid (Ck.Ly.weak (Q' := Ck.Cut Q w.heap.size (w.heap.size + 5)) (a := rv.D.asr kd a) (w := w5) hI2 (fun b _ h => Or.elim h (fun h => .inl h.1) (fun h => .inr (by simp at h; omega))))
  have hsz := hb5.size
  simp only [World.size_alloc] at hsz
  clear hI1 hI2
  have hN3 : ∀ b, Ck.Cut Q w.heap.size (w.heap.size + 5) b → b ≠ w.heap.size + 1 + 1 + 1 := fun b h => h.ne (by omega) (by omega)
  have hN4 : ∀ b, Ck.Cut Q w.heap.size (w.heap.size + 5) b → b ≠ w.heap.size + 1 + 1 + 1 + 1 := fun b h => h.ne (by omega) (by omega)
  have hW : ∀ b, Ck.Cut Q w.heap.size (w.heap.size + 5) b → Ck.Cut Q w.heap.size w.heap.size b := fun b h => h.out (by omega)
  have HNN := Lib.hid (And.intro hN3 (And.intro hN4 hW))
  clear hN3 hN4 hW
  have H3 := Lib.hid (set_two_ne (set_two (heap_below hb5 (heap_lt H3.out) H3.out) (.int .i8 (rv.D.asl kd a).1) (.slice G1 m1 c1)) (show w.heap.size + 1 + 1 + 1 + 1 ≠ w.heap.size + 1 + 1 + 1 by omega) (.int .i8 (rv.D.asr kd a).1) (.slice G2 m2 c2))
  have H4 := Lib.hid (set_two (set_two_ne (heap_below hb5 (heap_lt H4.out) H4.out) (show w.heap.size + 1 + 1 + 1 ≠ w.heap.size + 1 + 1 + 1 + 1 by omega) (.int .i8 (rv.D.asl kd a).1) (.slice G1 m1 c1)) (.int .i8 (rv.D.asr kd a).1) (.slice G2 m2 c2))
  have HJ1 := Lib.hid ((HI1.out.set2 HNN.out.1 (.int .i8 (rv.D.asl kd a).1) (.slice G1 m1 c1)).set2 HNN.out.2.1 (.int .i8 (rv.D.asr kd a).1) (.slice G2 m2 c2))
  have HJ2 := Lib.hid ((HI2.out.set2 HNN.out.1 (.int .i8 (rv.D.asl kd a).1) (.slice G1 m1 c1)).set2 HNN.out.2.1 (.int .i8 (rv.D.asr kd a).1) (.slice G2 m2 c2))
  have HB7 := Lib.hid (below_set2 (below_set2 HB6.out (show w.heap.size ≤ w.heap.size + 1 + 1 + 1 by omega) (.int .i8 (rv.D.asl kd a).1) (.slice G1 m1 c1)) (show w.heap.size ≤ w.heap.size + 1 + 1 + 1 + 1 by omega) (.int .i8 (rv.D.asr kd a).1) (.slice G2 m2 c2))
  clear hb5
  go_upto_region 2 with fail
  generalize (((w5.setCell ⟨w.heap.size + 1 + 1 + 1, 0, none⟩ (.int .i8 (rv.D.asl kd a).1)).setCell ⟨w.heap.size + 1 + 1 + 1, 1, none⟩ (.slice G1 m1 c1)).setCell ⟨w.heap.size + 1 + 1 + 1 + 1, 0, none⟩ (.int .i8 (rv.D.asr kd a).1)).setCell ⟨w.heap.size + 1 + 1 + 1 + 1, 1, none⟩ (.slice G2 m2 c2) = w6 at *
  clear x0 x1 f0 f1 xl y0 y1 f2 f3 yl q0 q1 q2 q3 q4 q5 q6 q7 q8 q9 q10 ql HI1 HI2 HB6
  obtain ⟨x0, x1, f0, f1, xl⟩ := own2 H3.out
  obtain ⟨y0, y1, f2, f3, yl⟩ := own2 H4.out
  go_wp2_with fail
  go_region
  have H3 : Hid ((((((w6.setCell ⟨w.heap.size + 1 + 1 + 1, 0, none⟩ (.int .i8 (rv.D.asl kd a).1)).setCell ⟨w.heap.size + 1 + 1 + 1, 1, none⟩ (.slice G1 m1 c1)).setCell ⟨w.heap.size + 1 + 1 + 1 + 1, 0, none⟩ (.int .i8 (rv.D.asr kd a).1)).setCell ⟨w.heap.size + 1 + 1 + 1 + 1, 1, none⟩ (.slice G2 m2 c2)).drew).heap[w.heap.size + 1 + 1 + 1]? = some (.cells #[.int .i8 (rv.D.asl kd a).1, .slice G1 m1 c1] 25 (0, 0))) := Lib.hid (set_two_ne (set_two H3.out _ _) (by omega) _ _)
  have H4 : Hid ((((((w6.setCell ⟨w.heap.size + 1 + 1 + 1, 0, none⟩ (.int .i8 (rv.D.asl kd a).1)).setCell ⟨w.heap.size + 1 + 1 + 1, 1, none⟩ (.slice G1 m1 c1)).setCell ⟨w.heap.size + 1 + 1 + 1 + 1, 0, none⟩ (.int .i8 (rv.D.asr kd a).1)).setCell ⟨w.heap.size + 1 + 1 + 1 + 1, 1, none⟩ (.slice G2 m2 c2)).drew).heap[w.heap.size + 1 + 1 + 1 + 1]? = some (.cells #[.int .i8 (rv.D.asr kd a).1, .slice G2 m2 c2] 25 (0, 0))) := Lib.hid (set_two (set_two_ne H4.out (by omega) _ _) _ _)
  have HJ1 : Hid (Ck.Ly (Ck.Cut Q w.heap.size (w.heap.size + 5)) (((((w6.setCell ⟨w.heap.size + 1 + 1 + 1, 0, none⟩ (.int .i8 (rv.D.asl kd a).1)).setCell ⟨w.heap.size + 1 + 1 + 1, 1, none⟩ (.slice G1 m1 c1)).setCell ⟨w.heap.size + 1 + 1 + 1 + 1, 0, none⟩ (.int .i8 (rv.D.asr kd a).1)).setCell ⟨w.heap.size + 1 + 1 + 1 + 1, 1, none⟩ (.slice G2 m2 c2)).drew) (rv.D.asl kd a) G1 m1 c1) := Lib.hid (((HJ1.out.set2 HNN.out.1 _ _).set2 HNN.out.2.1 _ _).later (Below.refl _ _).drew)
  have HJ2 : Hid (Ck.Ly (Ck.Cut Q w.heap.size (w.heap.size + 5)) (((((w6.setCell ⟨w.heap.size + 1 + 1 + 1, 0, none⟩ (.int .i8 (rv.D.asl kd a).1)).setCell ⟨w.heap.size + 1 + 1 + 1, 1, none⟩ (.slice G1 m1 c1)).setCell ⟨w.heap.size + 1 + 1 + 1 + 1, 0, none⟩ (.int .i8 (rv.D.asr kd a).1)).setCell ⟨w.heap.size + 1 + 1 + 1 + 1, 1, none⟩ (.slice G2 m2 c2)).drew) (rv.D.asr kd a) G2 m2 c2) := Lib.hid (((HJ2.out.set2 HNN.out.1 _ _).set2 HNN.out.2.1 _ _).later (Below.refl _ _).drew)
  have HB7 : Hid (Below w.heap.size w (((((w6.setCell ⟨w.heap.size + 1 + 1 + 1, 0, none⟩ (.int .i8 (rv.D.asl kd a).1)).setCell ⟨w.heap.size + 1 + 1 + 1, 1, none⟩ (.slice G1 m1 c1)).setCell ⟨w.heap.size + 1 + 1 + 1 + 1, 0, none⟩ (.int .i8 (rv.D.asr kd a).1)).setCell ⟨w.heap.size + 1 + 1 + 1 + 1, 1, none⟩ (.slice G2 m2 c2)).drew)) := Lib.hid ((below_set2 (below_set2 HB7.out (show w.heap.size ≤ w.heap.size + 1 + 1 + 1 by omega) _ _) (show w.heap.size ≤ w.heap.size + 1 + 1 + 1 + 1 by omega) _ _).drew)
  generalize ((((w6.setCell ⟨w.heap.size + 1 + 1 + 1, 0, none⟩ (.int .i8 (rv.D.asl kd a).1)).setCell ⟨w.heap.size + 1 + 1 + 1, 1, none⟩ (.slice G1 m1 c1)).setCell ⟨w.heap.size + 1 + 1 + 1 + 1, 0, none⟩ (.int .i8 (rv.D.asr kd a).1)).setCell ⟨w.heap.size + 1 + 1 + 1 + 1, 1, none⟩ (.slice G2 m2 c2)).drew = w7 at *
  clear x0 x1 f0 f1 xl y0 y1 f2 f3 yl
  obtain ⟨x0, x1, f0, f1, xl⟩ := own2 H3.out
  obtain ⟨y0, y1, f2, f3, yl⟩ := own2 H4.out
  go_wp2_with fail
  refine bodyPost_ret (v := .tuple #[.agg #[.int .i8 (rv.D.asl kd a).1, .slice G1 m1 c1], .agg #[.int .i8 (rv.D.asr kd a).1, .slice G2 m2 c2]]) (by simp [results, Tryz.results69, go_sem, *]) rfl ⟨G1, m1, c1, G2, m2, c2, rfl, HJ1.out.weak (fun b _ h => HNN.out.2.2 b h), HJ2.out.weak (fun b _ h => HNN.out.2.2 b h), HB7.out⟩

set_option maxHeartbeats 2000000 in
set_option maxRecDepth 100000 in
theorem ckparts_no (rv : Cg.Rv) (Q : Nat → Prop) (h : Hd) (p : Pl) (kd : Int) (a : Ck.T2) (A : Option Addr) (n c : Nat) (w : World) (hkd : 3 ≤ kd ∧ kd ≤ 5) (hL : Ck.Ly Q w a A n c) (hok : Ty.okT a.1 a.2 = true) (hS : Shapes w) (hag : rv.D.asO kd a = false) :
    Calls Tryz.prog 69 #[.agg #[.func (Fn.func rv.fr) #[] rv.cpt, .func (Fn.func rv.fa) #[] #[], .func (Fn.func rv.fm) #[] #[], .func (Fn.func rv.ft) #[] #[], rv.vg], .agg #[.int .i8 h.kind, .string h.name, .string h.arg, .int .i64 h.num, .int .i8 h.tk, .slice p.TA p.tn p.tc, .int .i8 h.uk, .slice p.UA p.un p.uc, .int .i64 h.label, .int .i64 h.pos, .slice p.A p.n p.c], .int .i8 kd, .agg #[.int .i8 a.1, .slice A n c]] w (Ck.Gave w 90 h.pos Ck.e0) := by
  have hcf := rv.cfm
  have CA := Lib.hid (fun (W : World) (hb : Below w.heap.size w W) => rv.asC (fun b => Q b ∧ b < w.heap.size) kd a A n c W hkd ((hL.weak (fun b hl hq => ⟨hq, hl⟩)).later hb) hok (hS.below hb))
  rw [hag] at CA
  have HB5 := Lib.hid (below_n5 w (.cells #[.func (Fn.func rv.fr) #[] rv.cpt, .func (Fn.func rv.fa) #[] #[], .func (Fn.func rv.fm) #[] #[], .func (Fn.func rv.ft) #[] #[], rv.vg] 44) (.cells #[.int .i8 h.kind, .string h.name, .string h.arg, .int .i64 h.num, .int .i8 h.tk, .slice p.TA p.tn p.tc, .int .i8 h.uk, .slice p.UA p.un p.uc, .int .i64 h.label, .int .i64 h.pos, .slice p.A p.n p.c] 28) (.cells #[.int .i8 a.1, .slice A n c] 25) (.cells #[.int .i8 0, .slice none 0 0] 25) (.cells #[.int .i8 0, .slice none 0 0] 25))
  obtain ⟨-, h1, -, h3, h4⟩ := heap_n5 w (.cells #[.func (Fn.func rv.fr) #[] rv.cpt, .func (Fn.func rv.fa) #[] #[], .func (Fn.func rv.fm) #[] #[], .func (Fn.func rv.ft) #[] #[], rv.vg] 44) (.cells #[.int .i8 h.kind, .string h.name, .string h.arg, .int .i64 h.num, .int .i8 h.tk, .slice p.TA p.tn p.tc, .int .i8 h.uk, .slice p.UA p.un p.uc, .int .i64 h.label, .int .i64 h.pos, .slice p.A p.n p.c] 28) (.cells #[.int .i8 a.1, .slice A n c] 25) (.cells #[.int .i8 0, .slice none 0 0] 25) (.cells #[.int .i8 0, .slice none 0 0] 25)
  have H1 := Lib.hid h1
  have H3 := Lib.hid h3
  have H4 := Lib.hid h4
  clear hL hok hS hag h1 h3 h4
  go_enter Tryz.func69, Tryz.ntmps69
  go_wp2_with fail
  refine (CA.out _ HB5.out).mono ?_
  rintro e w5 ⟨G1, m1, c1, G2, m2, c2, rfl, hI1, hI2, hb5⟩
  have HB6 := Lib.hid (HB5.out.trans (hb5.mono HB5.out.size))
  obtain ⟨q0, q1, q2, q3, q4, q5, q6, q7, q8, q9, q10, ql⟩ := own11 (heap_below hb5 (heap_lt H1.out) H1.out)
  obtain ⟨x0, x1, f0, f1, xl⟩ := own2 (heap_below hb5 (heap_lt H3.out) H3.out)
  obtain ⟨y0, y1, f2, f3, yl⟩ := own2 (heap_below hb5 (heap_lt H4.out) H4.out)
  have HI1 := Lib.hid (Ck.Ly.weak (Q' := Ck.Cut Q w.heap.size (w.heap.size + 5)) (a := rv.D.asl kd a) (w := w5) hI1 (fun b _ h => Or.elim h (fun h => .inl h.1) (fun h => .inr (by simp at h; omega))))
  have HI2 := Lib.hid (Ck.Ly.weak (Q' := Ck.Cut Q w.heap.size (w.heap.size + 5)) (a := rv.D.asr kd a) (w := w5) hI2 (fun b _ h => Or.elim h (fun h => .inl h.1) (fun h => .inr (by simp at h; omega))))
  have hsz := hb5.size
  simp only [World.size_alloc] at hsz
  clear hI1 hI2
  have HF := Lib.hid (ckfail_any h p 90)
  clear hb5
  go_wp2_with fail
  refine (HF.out _).mono ?_
  rintro e w6 hg
  have HG := Lib.hid (Ck.Gave.from (w := w) hg (by repeat' (first | exact HB6.out | refine Below.setCell ?_ (by simp; omega) _)))
  obtain ⟨g, rfl, -⟩ := hg
  go_wp2_with fail
  exact ⟨rfl, HG.out⟩

end Go.Proofs.YteefhebdfeaojaaGreatDoor
