import Derived.Test.YtglgjaomneljbacGreatDoorM19
import Derived.Test.YtglgjaomneljbacGreatDoorKc
namespace Go.Proofs.YtglgjaomneljbacGreatDoor
set_option maxHeartbeats 2000000
set_option maxRecDepth 100000
open Go.RowKit
theorem kL (rv : Cg.Rv) (h : Hd) (p : Pl) (k : Int) (kids : Fo) (A : Option Addr) (n c : Nat) (k' : Int) (kids' : Fo) (A' : Option Addr) (n' c' : Nat) (w : World) (hIs : Ty.Is w k kids A n c) (hIs' : Ty.Is w k' kids' A' n' c') (hS : Shapes w) (hag : rv.D.ag (k, kids) (k', kids') = true) :
  Calls Tryz.prog 82 #[.agg (rF_ rv), .agg (tC_ h p), .agg #[.int .i8 k, .slice A n c], .agg #[.int .i8 k', .slice A' n' c']] w fun e w' => e = .returned (.tuple #[]) ∧ Below w.heap.size w w' := by
 try unfold tC_
 try unfold rF_
 have hcf := rv.cfa
 have CA := k0_ (fun (W : World) (hb : Below w.heap.size w W) => rv.agC k kids A n c k' kids' A' n' c' W (hIs.below hb) (hIs'.below hb) (hS.below hb))
 rw [hag] at CA
 have HB4 := k0_ (qx w (.cells (rF_ rv) 45) (.cells (tC_ h p) 28) (.cells #[.int .i8 k, .slice A n c] 25) (.cells #[.int .i8 k', .slice A' n' c'] 25))
 obtain ⟨-, h1, -, -⟩ := jZ w (.cells (rF_ rv) 45) (.cells (tC_ h p) 28) (.cells #[.int .i8 k, .slice A n c] 25) (.cells #[.int .i8 k', .slice A' n' c'] 25)
 have H1 := k0_ h1
 clear hIs hIs' hS hag h1
 go_enter Tryz.func82, Tryz.ntmps82
 go_wp2_with fail
 refine (CA.out _ HB4.out).mono ?_
 rintro e w5 ⟨rfl, hb5⟩
 have HB5 := kt_ HB4 hb5
 clear hb5
 go_wp2_with fail
 go_end0
 exact ⟨rfl, HB5.out⟩
theorem yP (rv : Cg.Rv) (h : Hd) (p : Pl) (k : Int) (kids : Fo) (A : Option Addr) (n c : Nat) (k' : Int) (kids' : Fo) (A' : Option Addr) (n' c' : Nat) (w : World) (hIs : Ty.Is w k kids A n c) (hIs' : Ty.Is w k' kids' A' n' c') (hS : Shapes w) (hag : rv.D.ag (k, kids) (k', kids') = false) :
  Calls Tryz.prog 82 #[.agg (rF_ rv), .agg (tC_ h p), .agg #[.int .i8 k, .slice A n c], .agg #[.int .i8 k', .slice A' n' c']] w (Ck.Gave w 91 h.pos Ck.e0) := by
 try unfold tC_
 try unfold rF_
 have hcf := rv.cfa
 have CA := k0_ (fun (W : World) (hb : Below w.heap.size w W) => rv.agC k kids A n c k' kids' A' n' c' W (hIs.below hb) (hIs'.below hb) (hS.below hb))
 rw [hag] at CA
 have HB4 := k0_ (qx w (.cells (rF_ rv) 45) (.cells (tC_ h p) 28) (.cells #[.int .i8 k, .slice A n c] 25) (.cells #[.int .i8 k', .slice A' n' c'] 25))
 obtain ⟨-, h1, -, -⟩ := jZ w (.cells (rF_ rv) 45) (.cells (tC_ h p) 28) (.cells #[.int .i8 k, .slice A n c] 25) (.cells #[.int .i8 k', .slice A' n' c'] 25)
 have H1 := k0_ h1
 clear hIs hIs' hS hag h1
 go_enter Tryz.func82, Tryz.ntmps82
 go_wp2_with fail
 refine (CA.out _ HB4.out).mono ?_
 rintro e w5 ⟨rfl, hb5⟩
 have HB5 := kt_ HB4 hb5
 obtain ⟨q0, q1, q2, q3, q4, q5, q6, q7, q8, q9, q10, ql⟩ := zK (zB hb5 (zC H1.out) H1.out)
 have HF := k0_ (qd h p 91 w5)
 clear hb5
 go_wp2_with fail
 refine HF.out.mono ?_
 rintro e w6 hg
 have HG := k0_ (Ck.Gave.from hg HB5.out)
 obtain ⟨g, rfl, -⟩ := hg
 go_wp2_with fail
 exact ⟨rfl, HG.out⟩
theorem zA3 (rv : Cg.Rv) (h : Hd) (p : Pl) (w : World) (hca : rv.D.ca = true) (hT : Ty.Is w h.tk h.tkids p.TA p.tn p.tc) (hU : Ty.Is w h.uk h.ukids p.UA p.un p.uc) (hS : Shapes w) :
  Calls Tryz.prog 86 #[.agg (rF_ rv), .agg (tC_ h p)] w fun e w' => (rv.D.gs (Ck.TT h) (Ck.UU h) = false ∧ Ck.Gave w 91 h.pos Ck.e0 e w') ∨ (rv.D.gs (Ck.TT h) (Ck.UU h) = true ∧ e = .returned (.tuple #[]) ∧ Below w.heap.size w w') := by
 try unfold tC_
 try unfold rF_
 obtain ⟨fg, hv, hcf, hgC⟩ := rv.gC hca
 rw [hv]
 have CA := k0_ (fun (W : World) (hb : Below w.heap.size w W) => hgC h.tk h.tkids p.TA p.tn p.tc h.uk h.ukids p.UA p.un p.uc W (hT.below hb) (hU.below hb) (hS.below hb))
 have HB2 := k0_ (zb w (.cells #[.func (Fn.func rv.fr) #[] rv.cpt, .func (Fn.func rv.fa) #[] #[], .func (Fn.func rv.fm) #[] #[], .func (Fn.func rv.ft) #[] #[], .func (Fn.func fg) #[] #[]] 45) (.cells (tC_ h p) 28))
 obtain ⟨-, h1⟩ := zt w (.cells #[.func (Fn.func rv.fr) #[] rv.cpt, .func (Fn.func rv.fa) #[] #[], .func (Fn.func rv.fm) #[] #[], .func (Fn.func rv.ft) #[] #[], .func (Fn.func fg) #[] #[]] 45) (.cells (tC_ h p) 28)
 have H1 := k0_ h1
 rw [show rv.D.gs (h.tk, h.tkids) (h.uk, h.ukids) = rv.D.gs (Ck.TT h) (Ck.UU h) from rfl] at CA
 generalize rv.D.gs (Ck.TT h) (Ck.UU h) = g0 at *
 clear hT hU hS h1 hgC hv
 cases g0
 ·go_enter Tryz.func86, Tryz.ntmps86
  go_wp2_with fail
  refine (CA.out _ HB2.out).mono ?_
  rintro e w5 ⟨rfl, hb5⟩
  have HB5 := kt_ HB2 hb5
  obtain ⟨q0, q1, q2, q3, q4, q5, q6, q7, q8, q9, q10, ql⟩ := zK (zB hb5 (zC H1.out) H1.out)
  have HF := k0_ (qd h p 91 w5)
  clear hb5
  go_wp2_with fail
  refine HF.out.mono ?_
  rintro e w6 hg
  have HG := k0_ (Ck.Gave.from hg HB5.out)
  obtain ⟨g, rfl, -⟩ := hg
  go_wp2_with fail
  exact ⟨rfl, .inl ⟨trivial, HG.out⟩⟩
 ·go_enter Tryz.func86, Tryz.ntmps86
  go_wp2_with fail
  refine (CA.out _ HB2.out).mono ?_
  rintro e w5 ⟨rfl, hb5⟩
  have HB5 := kt_ HB2 hb5
  clear hb5
  go_wp2_with fail
  go_end0
  exact .inr ⟨trivial, rfl, HB5.out⟩
theorem zL {u : World} {X : Nat} {x0 x1 : Value} {t : TypeId} (h : u.heap[X]? = some (.cells #[x0, x1] t (0, 0))) (a b : Value) : ((u.setCell ⟨X, 0, none⟩ a).setCell ⟨X, 1, none⟩ b).heap[X]? = some (.cells #[a, b] t (0, 0)) := by
 simp [World.setCell, Array.getElem?_modify, h]
theorem zR {u : World} {X Y : Nat} {o : Obj} (h : u.heap[Y]? = some o) (hne : X ≠ Y) (a b : Value) : ((u.setCell ⟨X, 0, none⟩ a).setCell ⟨X, 1, none⟩ b).heap[Y]? = some o := by
 simp [World.setCell, Array.getElem?_modify, h, hne]
theorem zG {N X : Nat} {w u : World} (h : Below N w u) (hX : N ≤ X) (a b : Value) : Below N w ((u.setCell ⟨X, 0, none⟩ a).setCell ⟨X, 1, none⟩ b) := (h.setCell (p := ⟨X, 0, none⟩) hX _).setCell (p := ⟨X, 1, none⟩) hX _
theorem Ck.Ly.set2 {Q : Nat → Prop} {w : World} {a : Ck.T2} {G : Option Addr} {m c : Nat} (h : Ck.Ly Q w a G m c) {X : Nat} (hX : ∀ b, Q b → b ≠ X) (v0 v1 : Value) : Ck.Ly Q ((w.setCell ⟨X, 0, none⟩ v0).setCell ⟨X, 1, none⟩ v1) a G m c := (h.set hX _ _).set hX _ _
def AsPost2 (Q : Nat → Prop) (w : World) (l r : Ck.T2) (e : Ending) (w' : World) : Prop :=
 ∃ G1 m1 c1 G2 m2 c2, e = .returned (.tuple #[.agg #[.int .i8 l.1, .slice G1 m1 c1], .agg #[.int .i8 r.1, .slice G2 m2 c2]]) ∧ Ck.Ly (Ck.Cut Q w.heap.size w.heap.size) w' l G1 m1 c1 ∧ Ck.Ly (Ck.Cut Q w.heap.size w.heap.size) w' r G2 m2 c2 ∧ Below w.heap.size w w'
theorem wQ (rv : Cg.Rv) (Q : Nat → Prop) (h : Hd) (p : Pl) (kd : Int) (a : Ck.T2) (A : Option Addr) (n c : Nat) (w : World) (hkd : 3 ≤ kd ∧ kd ≤ 5) (hL : Ck.Ly Q w a A n c) (hok : Ty.okT a.1 a.2 = true) (hS : Shapes w) (hag : rv.D.asO kd a = true) :
  Calls Tryz.prog 83 #[.agg (rF_ rv), .agg (tC_ h p), .int .i8 kd, .agg #[.int .i8 a.1, .slice A n c]] w (AsPost2 Q w (rv.D.asl kd a) (rv.D.asr kd a)) := by
 try unfold tC_
 try unfold rF_
 have hcf := rv.cfm
 have CA := k0_ (fun (W : World) (hb : Below w.heap.size w W) => rv.asC (fun b => Q b ∧ b < w.heap.size) kd a A n c W hkd ((hL.weak (fun b hl hq => ⟨hq, hl⟩)).later hb) hok (hS.below hb))
 rw [hag] at CA
 have HB5 := k0_ (ja w (.cells (rF_ rv) 45) (.cells (tC_ h p) 28) (.cells #[.int .i8 a.1, .slice A n c] 25) (.cells #[.int .i8 0, .slice none 0 0] 25) (.cells #[.int .i8 0, .slice none 0 0] 25))
 obtain ⟨-, h1, -, h3, h4⟩ := xO w (.cells (rF_ rv) 45) (.cells (tC_ h p) 28) (.cells #[.int .i8 a.1, .slice A n c] 25) (.cells #[.int .i8 0, .slice none 0 0] 25) (.cells #[.int .i8 0, .slice none 0 0] 25)
 have H1 := k0_ h1
 have H3 := k0_ h3
 have H4 := k0_ h4
 clear hL hok hS hag h1 h3 h4
 go_enter Tryz.func83, Tryz.ntmps83
 go_wp2_with fail
 refine (CA.out _ HB5.out).mono ?_
 rintro e w5 ⟨G1, m1, c1, G2, m2, c2, rfl, hI1, hI2, hb5⟩
 have HB6 := kt_ HB5 hb5
 obtain ⟨q0, q1, q2, q3, q4, q5, q6, q7, q8, q9, q10, ql⟩ := zK (zB hb5 (zC H1.out) H1.out)
 obtain ⟨x0, x1, f0, f1, xl⟩ := zH (zB hb5 (zC H3.out) H3.out)
 obtain ⟨y0, y1, f2, f3, yl⟩ := zH (zB hb5 (zC H4.out) H4.out)
 have HI1 := k0_ (Ck.Ly.weak (Q' := Ck.Cut Q w.heap.size (w.heap.size + 5)) (a := rv.D.asl kd a) (w := w5) hI1 (fun b _ h => Or.elim h (fun h => .inl h.1) (fun h => .inr (by simp at h; omega))))
 have HI2 := k0_ (Ck.Ly.weak (Q' := Ck.Cut Q w.heap.size (w.heap.size + 5)) (a := rv.D.asr kd a) (w := w5) hI2 (fun b _ h => Or.elim h (fun h => .inl h.1) (fun h => .inr (by simp at h; omega))))
 have hsz := hb5.size
 simp only [World.size_alloc] at hsz
 clear hI1 hI2
 have hN3 : ∀ b, Ck.Cut Q w.heap.size (w.heap.size + 5) b → b ≠ w.heap.size + 1 + 1 + 1 := fun b h => h.ne (by omega) (by omega)
 have hN4 : ∀ b, Ck.Cut Q w.heap.size (w.heap.size + 5) b → b ≠ w.heap.size + 1 + 1 + 1 + 1 := fun b h => h.ne (by omega) (by omega)
 have hW : ∀ b, Ck.Cut Q w.heap.size (w.heap.size + 5) b → Ck.Cut Q w.heap.size w.heap.size b := fun b h => h.out (by omega)
 have HNN := k0_ (And.intro hN3 (And.intro hN4 hW))
 clear hN3 hN4 hW
 have H3 := k0_ (zR (zL (zB hb5 (zC H3.out) H3.out) (.int .i8 (rv.D.asl kd a).1) (.slice G1 m1 c1)) (show w.heap.size + 1 + 1 + 1 + 1 ≠ w.heap.size + 1 + 1 + 1 by omega) (.int .i8 (rv.D.asr kd a).1) (.slice G2 m2 c2))
 have H4 := k0_ (zL (zR (zB hb5 (zC H4.out) H4.out) (show w.heap.size + 1 + 1 + 1 ≠ w.heap.size + 1 + 1 + 1 + 1 by omega) (.int .i8 (rv.D.asl kd a).1) (.slice G1 m1 c1)) (.int .i8 (rv.D.asr kd a).1) (.slice G2 m2 c2))
 have HJ1 := k0_ ((HI1.out.set2 HNN.out.1 (.int .i8 (rv.D.asl kd a).1) (.slice G1 m1 c1)).set2 HNN.out.2.1 (.int .i8 (rv.D.asr kd a).1) (.slice G2 m2 c2))
 have HJ2 := k0_ ((HI2.out.set2 HNN.out.1 (.int .i8 (rv.D.asl kd a).1) (.slice G1 m1 c1)).set2 HNN.out.2.1 (.int .i8 (rv.D.asr kd a).1) (.slice G2 m2 c2))
 have HB7 := k0_ (zG (zG HB6.out (show w.heap.size ≤ w.heap.size + 1 + 1 + 1 by omega) (.int .i8 (rv.D.asl kd a).1) (.slice G1 m1 c1)) (show w.heap.size ≤ w.heap.size + 1 + 1 + 1 + 1 by omega) (.int .i8 (rv.D.asr kd a).1) (.slice G2 m2 c2))
 clear hb5
 go_upto_region 2 with fail
 generalize (((w5.setCell ⟨w.heap.size + 1 + 1 + 1, 0, none⟩ (.int .i8 (rv.D.asl kd a).1)).setCell ⟨w.heap.size + 1 + 1 + 1, 1, none⟩ (.slice G1 m1 c1)).setCell ⟨w.heap.size + 1 + 1 + 1 + 1, 0, none⟩ (.int .i8 (rv.D.asr kd a).1)).setCell ⟨w.heap.size + 1 + 1 + 1 + 1, 1, none⟩ (.slice G2 m2 c2) = w6 at *
 clear x0 x1 f0 f1 xl y0 y1 f2 f3 yl q0 q1 q2 q3 q4 q5 q6 q7 q8 q9 q10 ql HI1 HI2 HB6
 obtain ⟨x0, x1, f0, f1, xl⟩ := zH H3.out
 obtain ⟨y0, y1, f2, f3, yl⟩ := zH H4.out
 go_wp2_with fail
 go_region
 have H3 : Hid ((((((w6.setCell ⟨w.heap.size + 1 + 1 + 1, 0, none⟩ (.int .i8 (rv.D.asl kd a).1)).setCell ⟨w.heap.size + 1 + 1 + 1, 1, none⟩ (.slice G1 m1 c1)).setCell ⟨w.heap.size + 1 + 1 + 1 + 1, 0, none⟩ (.int .i8 (rv.D.asr kd a).1)).setCell ⟨w.heap.size + 1 + 1 + 1 + 1, 1, none⟩ (.slice G2 m2 c2)).drew).heap[w.heap.size + 1 + 1 + 1]? = some (.cells #[.int .i8 (rv.D.asl kd a).1, .slice G1 m1 c1] 25 (0, 0))) := k0_ (zR (zL H3.out _ _) (by omega) _ _)
 have H4 : Hid ((((((w6.setCell ⟨w.heap.size + 1 + 1 + 1, 0, none⟩ (.int .i8 (rv.D.asl kd a).1)).setCell ⟨w.heap.size + 1 + 1 + 1, 1, none⟩ (.slice G1 m1 c1)).setCell ⟨w.heap.size + 1 + 1 + 1 + 1, 0, none⟩ (.int .i8 (rv.D.asr kd a).1)).setCell ⟨w.heap.size + 1 + 1 + 1 + 1, 1, none⟩ (.slice G2 m2 c2)).drew).heap[w.heap.size + 1 + 1 + 1 + 1]? = some (.cells #[.int .i8 (rv.D.asr kd a).1, .slice G2 m2 c2] 25 (0, 0))) := k0_ (zL (zR H4.out (by omega) _ _) _ _)
 have HJ1 : Hid (Ck.Ly (Ck.Cut Q w.heap.size (w.heap.size + 5)) (((((w6.setCell ⟨w.heap.size + 1 + 1 + 1, 0, none⟩ (.int .i8 (rv.D.asl kd a).1)).setCell ⟨w.heap.size + 1 + 1 + 1, 1, none⟩ (.slice G1 m1 c1)).setCell ⟨w.heap.size + 1 + 1 + 1 + 1, 0, none⟩ (.int .i8 (rv.D.asr kd a).1)).setCell ⟨w.heap.size + 1 + 1 + 1 + 1, 1, none⟩ (.slice G2 m2 c2)).drew) (rv.D.asl kd a) G1 m1 c1) := k0_ (((HJ1.out.set2 HNN.out.1 _ _).set2 HNN.out.2.1 _ _).later (Below.refl _ _).drew)
 have HJ2 : Hid (Ck.Ly (Ck.Cut Q w.heap.size (w.heap.size + 5)) (((((w6.setCell ⟨w.heap.size + 1 + 1 + 1, 0, none⟩ (.int .i8 (rv.D.asl kd a).1)).setCell ⟨w.heap.size + 1 + 1 + 1, 1, none⟩ (.slice G1 m1 c1)).setCell ⟨w.heap.size + 1 + 1 + 1 + 1, 0, none⟩ (.int .i8 (rv.D.asr kd a).1)).setCell ⟨w.heap.size + 1 + 1 + 1 + 1, 1, none⟩ (.slice G2 m2 c2)).drew) (rv.D.asr kd a) G2 m2 c2) := k0_ (((HJ2.out.set2 HNN.out.1 _ _).set2 HNN.out.2.1 _ _).later (Below.refl _ _).drew)
 have HB7 : Hid (Below w.heap.size w (((((w6.setCell ⟨w.heap.size + 1 + 1 + 1, 0, none⟩ (.int .i8 (rv.D.asl kd a).1)).setCell ⟨w.heap.size + 1 + 1 + 1, 1, none⟩ (.slice G1 m1 c1)).setCell ⟨w.heap.size + 1 + 1 + 1 + 1, 0, none⟩ (.int .i8 (rv.D.asr kd a).1)).setCell ⟨w.heap.size + 1 + 1 + 1 + 1, 1, none⟩ (.slice G2 m2 c2)).drew)) := k0_ ((zG (zG HB7.out (show w.heap.size ≤ w.heap.size + 1 + 1 + 1 by omega) _ _) (show w.heap.size ≤ w.heap.size + 1 + 1 + 1 + 1 by omega) _ _).drew)
 generalize ((((w6.setCell ⟨w.heap.size + 1 + 1 + 1, 0, none⟩ (.int .i8 (rv.D.asl kd a).1)).setCell ⟨w.heap.size + 1 + 1 + 1, 1, none⟩ (.slice G1 m1 c1)).setCell ⟨w.heap.size + 1 + 1 + 1 + 1, 0, none⟩ (.int .i8 (rv.D.asr kd a).1)).setCell ⟨w.heap.size + 1 + 1 + 1 + 1, 1, none⟩ (.slice G2 m2 c2)).drew = w7 at *
 clear x0 x1 f0 f1 xl y0 y1 f2 f3 yl
 obtain ⟨x0, x1, f0, f1, xl⟩ := zH H3.out
 obtain ⟨y0, y1, f2, f3, yl⟩ := zH H4.out
 go_wp2_with fail
 refine bodyPost_ret (v := .tuple #[.agg #[.int .i8 (rv.D.asl kd a).1, .slice G1 m1 c1], .agg #[.int .i8 (rv.D.asr kd a).1, .slice G2 m2 c2]]) (by simp [results, Tryz.results83, go_sem, *]) rfl ⟨G1, m1, c1, G2, m2, c2, rfl, HJ1.out.weak (fun b _ h => HNN.out.2.2 b h), HJ2.out.weak (fun b _ h => HNN.out.2.2 b h), HB7.out⟩
theorem uy (rv : Cg.Rv) (Q : Nat → Prop) (h : Hd) (p : Pl) (kd : Int) (a : Ck.T2) (A : Option Addr) (n c : Nat) (w : World) (hkd : 3 ≤ kd ∧ kd ≤ 5) (hL : Ck.Ly Q w a A n c) (hok : Ty.okT a.1 a.2 = true) (hS : Shapes w) (hag : rv.D.asO kd a = false) :
  Calls Tryz.prog 83 #[.agg (rF_ rv), .agg (tC_ h p), .int .i8 kd, .agg #[.int .i8 a.1, .slice A n c]] w (Ck.Gave w 90 h.pos Ck.e0) := by
 try unfold tC_
 try unfold rF_
 have hcf := rv.cfm
 have CA := k0_ (fun (W : World) (hb : Below w.heap.size w W) => rv.asC (fun b => Q b ∧ b < w.heap.size) kd a A n c W hkd ((hL.weak (fun b hl hq => ⟨hq, hl⟩)).later hb) hok (hS.below hb))
 rw [hag] at CA
 have HB5 := k0_ (ja w (.cells (rF_ rv) 45) (.cells (tC_ h p) 28) (.cells #[.int .i8 a.1, .slice A n c] 25) (.cells #[.int .i8 0, .slice none 0 0] 25) (.cells #[.int .i8 0, .slice none 0 0] 25))
 obtain ⟨-, h1, -, h3, h4⟩ := xO w (.cells (rF_ rv) 45) (.cells (tC_ h p) 28) (.cells #[.int .i8 a.1, .slice A n c] 25) (.cells #[.int .i8 0, .slice none 0 0] 25) (.cells #[.int .i8 0, .slice none 0 0] 25)
 have H1 := k0_ h1
 have H3 := k0_ h3
 have H4 := k0_ h4
 clear hL hok hS hag h1 h3 h4
 go_enter Tryz.func83, Tryz.ntmps83
 go_wp2_with fail
 refine (CA.out _ HB5.out).mono ?_
 rintro e w5 ⟨G1, m1, c1, G2, m2, c2, rfl, hI1, hI2, hb5⟩
 have HB6 := kt_ HB5 hb5
 obtain ⟨q0, q1, q2, q3, q4, q5, q6, q7, q8, q9, q10, ql⟩ := zK (zB hb5 (zC H1.out) H1.out)
 obtain ⟨x0, x1, f0, f1, xl⟩ := zH (zB hb5 (zC H3.out) H3.out)
 obtain ⟨y0, y1, f2, f3, yl⟩ := zH (zB hb5 (zC H4.out) H4.out)
 have HI1 := k0_ (Ck.Ly.weak (Q' := Ck.Cut Q w.heap.size (w.heap.size + 5)) (a := rv.D.asl kd a) (w := w5) hI1 (fun b _ h => Or.elim h (fun h => .inl h.1) (fun h => .inr (by simp at h; omega))))
 have HI2 := k0_ (Ck.Ly.weak (Q' := Ck.Cut Q w.heap.size (w.heap.size + 5)) (a := rv.D.asr kd a) (w := w5) hI2 (fun b _ h => Or.elim h (fun h => .inl h.1) (fun h => .inr (by simp at h; omega))))
 have hsz := hb5.size
 simp only [World.size_alloc] at hsz
 clear hI1 hI2
 have HF := k0_ (qd h p 90)
 clear hb5
 go_wp2_with fail
 refine (HF.out _).mono ?_
 rintro e w6 hg
 have HG := k0_ (Ck.Gave.from (w := w) hg (by repeat' (first | exact HB6.out | refine Below.setCell ?_ (by simp; omega) _)))
 obtain ⟨g, rfl, -⟩ := hg
 go_wp2_with fail
 exact ⟨rfl, HG.out⟩
set_option maxHeartbeats 2000000
set_option maxRecDepth 100000
open Go.RowKit
theorem zBR (rv : Cg.Rv) (Q : Nat → Prop) (h : Hd) (p : Pl) (a : Ck.T2) (A : Option Addr) (n c : Nat) (b : Ck.T2) (A' : Option Addr) (n' c' : Nat) (w : World) (hL : Ck.Ly Q w a A n c) (hL' : Ck.Ly Q w b A' n' c') (hS : Shapes w) (hag : rv.D.ag a b = false) :
  Calls Tryz.prog 84 #[.agg (rF_ rv), .agg (tC_ h p), .agg #[.int .i8 a.1, .slice A n c], .agg #[.int .i8 b.1, .slice A' n' c']] w (Ck.Gave w 91 h.pos Ck.e0) := by
 try unfold tC_
 try unfold rF_
 have HB5 := k0_ (ja w (.cells (rF_ rv) 45) (.cells (tC_ h p) 28) (.cells #[.int .i8 a.1, .slice A n c] 25) (.cells #[.int .i8 b.1, .slice A' n' c'] 25) (.cells #[.int .i8 0, .slice none 0 0] 25))
 have CW := k0_ (fun (W : World) (hb : Below w.heap.size w W) => yP rv h p a.1 a.2 A n c b.1 b.2 A' n' c' W (hL.later hb).is (hL'.later hb).is (hS.below hb) hag)
 clear hL hL' hS hag
 go_enter Tryz.func84, Tryz.ntmps84
 go_wp2_with fail
 refine (CW.out _ HB5.out).mono ?_
 rintro e w6 hg
 have HG := k0_ (Ck.Gave.from (w := w) hg HB5.out)
 obtain ⟨g, rfl, -⟩ := hg
 go_wp2_with fail
 exact ⟨rfl, HG.out⟩
theorem zA0 (rv : Cg.Rv) (Q : Nat → Prop) (h : Hd) (p : Pl) (a : Ck.T2) (A : Option Addr) (n c : Nat) (b : Ck.T2) (A' : Option Addr) (n' c' : Nat) (w : World) (hL : Ck.Ly Q w a A n c) (hL' : Ck.Ly Q w b A' n' c') (hS : Shapes w) (hag : rv.D.ag a b = true) :
  Calls Tryz.prog 84 #[.agg (rF_ rv), .agg (tC_ h p), .agg #[.int .i8 a.1, .slice A n c], .agg #[.int .i8 b.1, .slice A' n' c']] w (Ck.Gives Q w (rv.D.mt a b)) := by
 try unfold tC_
 try unfold rF_
 have HB5 := k0_ (ja w (.cells (rF_ rv) 45) (.cells (tC_ h p) 28) (.cells #[.int .i8 a.1, .slice A n c] 25) (.cells #[.int .i8 b.1, .slice A' n' c'] 25) (.cells #[.int .i8 0, .slice none 0 0] 25))
 have CW := k0_ (fun (W : World) (hb : Below w.heap.size w W) => kL rv h p a.1 a.2 A n c b.1 b.2 A' n' c' W (hL.later hb).is (hL'.later hb).is (hS.below hb) hag)
 obtain ⟨h0, -, h2, h3, h4⟩ := xO w (.cells (rF_ rv) 45) (.cells (tC_ h p) 28) (.cells #[.int .i8 a.1, .slice A n c] 25) (.cells #[.int .i8 b.1, .slice A' n' c'] 25) (.cells #[.int .i8 0, .slice none 0 0] 25)
 have hcf := rv.cft
 have CM := k0_ (fun (W : World) (hb : Below w.heap.size w W) => rv.mtC (fun b => Q b ∧ b < w.heap.size) a A n c b A' n' c' W ((hL.weak (fun b hl hq => ⟨hq, hl⟩)).later hb) ((hL'.weak (fun b hl hq => ⟨hq, hl⟩)).later hb) hag (hS.below hb))
 have H0 := k0_ h0
 have H2 := k0_ h2
 have H3 := k0_ h3
 have H4 := k0_ h4
 clear hL hL' hS hag h0 h2 h3 h4
 go_enter Tryz.func84, Tryz.ntmps84
 go_wp2_with fail
 refine (CW.out _ HB5.out).mono ?_
 rintro e w6 ⟨rfl, hb6⟩
 have HB6 := kt_ HB5 hb6
 have H0 := kp_ hb6 H0
 have H2 := kp_ hb6 H2
 have H3 := kp_ hb6 H3
 have H4 := kp_ hb6 H4
 have hz6 := hb6.size
 simp only [World.size_alloc] at hz6
 clear hb6
 obtain ⟨r0, r1, r2, r3, r4, -, -, -, -, -, rl⟩ := qF H0.out
 obtain ⟨x0, x1, -, -, xl⟩ := zH H2.out
 obtain ⟨y0, y1, -, -, yl⟩ := zH H3.out
 go_wp2_with fail
 refine (CM.out _ HB6.out).mono ?_
 rintro e w7 ⟨G, m, cg, rfl, hR, hb7⟩
 have HB7 := kt_ HB6 hb7
 have HL := k0_ (Ck.Ly.weak (Q' := Ck.Cut Q w.heap.size (w.heap.size + 5)) (a := rv.D.mt a b) (w := w7) hR (fun b _ h => Or.elim h (fun h => .inl h.1) (fun h => .inr (by omega))))
 have H4 := kp_ hb7 H4
 clear hR hb7 r0 r1 r2 r3 r4 rl x0 x1 xl y0 y1 yl
 obtain ⟨x0, x1, f0, f1, xl⟩ := zH H4.out
 have HNE := k0_ (fun (b : Nat) (hq : Ck.Cut Q w.heap.size (w.heap.size + 5) b) => hq.ne (X := w.heap.size + 1 + 1 + 1 + 1) (by omega) (by omega))
 go_wp2_with fail
 refine bodyPost_ret (v := .agg #[.int .i8 (rv.D.mt a b).1, .slice G m cg]) (by simp [results, Tryz.results84, go_sem, *]) rfl ⟨G, m, cg, rfl, ?_, ?_⟩
 ·exact (HL.out.set2 HNE.out _ _).weak fun b _ hq => hq.out (by omega)
 ·exact zG HB7.out (by omega) _ _
theorem xW (s : ByteArray) (w : World) : Calls Tryz.prog 85 #[.string s] w fun e w' => e = .returned (.agg #[.int .i8 (Ck.opAns s).1, .slice none 0 0]) ∧ Below w.heap.size w w' := by
 have HB1 := k0_ (zN w (.cells #[.int .i8 0, .slice none 0 0] 25))
 have CO := k0_ (fun (k : Int) (W : World) => zn k none 0 0 W)
 have H1 := k0_ (zD w (.cells #[.int .i8 0, .slice none 0 0] 25))
 cases h60 : (s.toList == [60]) with
 | true =>
  have hR : (Ck.opAns s).1 = 2 := by unfold Ck.opAns; rw [h60]; rfl
  rw [hR]
  clear hR
  go_enter Tryz.func85, Tryz.ntmps85
  go_wp2_with fail
  refine (CO.out 2 _).mono ?_
  rintro e w2 ⟨rfl, hb2⟩
  obtain ⟨x0, x1, f0, f1, xl⟩ := zH (zB hb2 (zC H1.out) H1.out)
  have HB2 := kt_ HB1 hb2
  clear hb2 h60
  exact zDy
 | false =>
  cases h61 : (s.toList == [61]) with
  | true =>
   have hR : (Ck.opAns s).1 = 2 := by unfold Ck.opAns; rw [h60, h61]; rfl
   rw [hR]
   clear hR
   go_enter Tryz.func85, Tryz.ntmps85
   go_wp2_with fail
   refine (CO.out 2 _).mono ?_
   rintro e w2 ⟨rfl, hb2⟩
   obtain ⟨x0, x1, f0, f1, xl⟩ := zH (zB hb2 (zC H1.out) H1.out)
   have HB2 := kt_ HB1 hb2
   clear hb2 h60 h61
   exact zDy
  | false =>
   have hR : (Ck.opAns s).1 = 1 := by unfold Ck.opAns; rw [h60, h61]; rfl
   rw [hR]
   clear hR
   go_enter Tryz.func85, Tryz.ntmps85
   go_wp2_with fail
   refine (CO.out 1 _).mono ?_
   rintro e w2 ⟨rfl, hb2⟩
   obtain ⟨x0, x1, f0, f1, xl⟩ := zH (zB hb2 (zC H1.out) H1.out)
   have HB2 := kt_ HB1 hb2
   clear hb2 h60 h61
   go_wp2_with fail
   exact bodyPost_ret (v := .agg #[.int .i8 1, .slice none 0 0]) (by simp [results, Tryz.results85, go_sem, *]) rfl ⟨rfl, zG HB2.out (Nat.le_refl _) _ _⟩
theorem Ck.jB : ∀ (l : Ck.Env) (x : ByteArray) (i : Nat), i ≤ l.length → (∀ j y, i ≤ j → l[j]? = some y → (y.1.toList == x.toList) = false) → Ck.fnd l x = Ck.fnd (l.take i) x
 | [], x, i, _, _ => by simp
 | b :: l, x, 0, _, h => by
  have h1 := Ck.jB l x 0 (Nat.zero_le _) (fun j y hj hy => h (j + 1) y (by omega) (by rw [List.getElem?_cons_succ]; exact hy))
  have h2 := h 0 b (Nat.le_refl _) rfl
  simp only [List.take_zero] at h1 ⊢
  unfold Ck.fnd
  rw [h1]
  simp [Ck.fnd, h2]
 | b :: l, x, i + 1, hi, h => by
  have h1 := Ck.jB l x i (by simp only [List.length_cons] at hi; omega) (fun j y hj hy => h (j + 1) y (by omega) (by rw [List.getElem?_cons_succ]; exact hy))
  rw [List.take_succ_cons]
  unfold Ck.fnd
  rw [h1]
theorem Ck.zCH {l : Ck.Env} {x : ByteArray} {i : Nat} {y : ByteArray × Ck.T2} (hy : l[i]? = some y) (he : (y.1.toList == x.toList) = true) (h : ∀ j z, i + 1 ≤ j → l[j]? = some z → (z.1.toList == x.toList) = false) : Ck.fnd l x = some y.2 := by
 have hi : i < l.length := by rcases Nat.lt_or_ge i l.length with q | q; exact q; rw [List.getElem?_eq_none q] at hy; cases hy
 rw [Ck.jB l x (i + 1) (by omega) h, List.take_add_one, hy]
 have hs : ∀ m : Ck.Env, Ck.fnd (m ++ [y]) x = some y.2 := by
  intro m
  induction m with
  | nil => simp [Ck.fnd, he]
  | cons b m ih => simp only [List.cons_append]; unfold Ck.fnd; rw [ih]
 exact hs _
theorem Ck.zCG {l : Ck.Env} {x : ByteArray} (h : ∀ (j : Nat) (z : ByteArray × Ck.T2), l[j]? = some z → (z.1.toList == x.toList) = false) : Ck.fnd l x = none := by
 rw [Ck.jB l x 0 (Nat.zero_le _) (fun j y _ hy => h j y hy), List.take_zero]; rfl
def Ck.OfPost (Q : Nat → Prop) (w : World) (r : Option Ck.T2) (e : Ending) (w' : World) : Prop := match r with
 | some a => ∃ G m c, e = .returned (.tuple #[.agg #[.int .i8 a.1, .slice G m c], .bool true]) ∧ Ck.Ly (Ck.Cut Q w.heap.size w.heap.size) w' a G m c ∧ Below w.heap.size w w'
 | none => e = .returned (.tuple #[.agg #[.int .i8 0, .slice none 0 0], .bool false]) ∧ Below w.heap.size w w'
theorem xV (Q : Nat → Prop) (x : ByteArray) (l : Ck.Env) (A : Option Addr) (n c : Nat) (w : World) (hE : Ck.EAt Q w l A n c) :
  Calls Tryz.prog 80 #[.slice A n c, .string x] w (Ck.OfPost Q w (Ck.fnd l x)) := by
 have HB1 := k0_ (zN w (.cells #[.int .i8 0, .slice none 0 0] 25))
 have h1 := zD w (.cells #[.int .i8 0, .slice none 0 0] 25)
 have HY := k0_ h1
 have HE := k0_ hE
 have hn := hE.n_eq
 have HN := k0_ hn
 have hnc := hE.n_le
 have hcm := hE.c_le
 have i5 : (n : Int) ≤ 9223372036854775807 := by unfold maxLen at hcm; omega
 obtain ⟨R, hR⟩ : ∃ R, R = Ck.fnd l x := ⟨_, rfl⟩
 rw [← hR]
 have HR := k0_ hR
 clear h1 hE hn hR
 go_enter Tryz.func80, Tryz.ntmps80
 go_upto_region 1 with fail
 generalize w.alloc (.cells #[.int .i8 0, .slice none 0 0] 25) = w1 at *
 go_wp2_with fail
 go_loopw [6] (fun v5 wr => ∃ i : Nat, v5 = .int .i64 ((i : Int) - 1) ∧ i ≤ n ∧ (∀ (j : Nat) (y : ByteArray × Ck.T2), i ≤ j → l[j]? = some y → (y.1.toList == x.toList) = false) ∧ Below w1.heap.size w1 wr) (fun v _ => (intOf v + 1).toNat)
 case atStart =>
  refine ⟨n, rfl, Nat.le_refl _, fun j y hj hy => ?_, Below.refl _ _⟩
  have hnn := HN.out
  rw [List.getElem?_eq_none (by omega)] at hy; cases hy
 case round =>
  obtain ⟨i, rfl, hin, hno, hb⟩ := hrel
  cases i with
  | zero =>
   have HF := k0_ (Ck.zCG fun j z hz => hno j z (Nat.zero_le _) hz)
   have HBR := kt_ HB1 hb
   have HY2 := kp_ hb HY
   clear hno hb
   obtain ⟨y0, y1, f0, f1, yl⟩ := zH HY2.out
   go_wp2_with fail
   have z3 := zL HY2.out (.int .i8 0) (.slice none 0 0)
   obtain ⟨k0, k1, -, -, -⟩ := zH z3
   refine bodyPost_ret (v := .tuple #[.agg #[.int .i8 0, .slice none 0 0], .bool false]) (by simp [results, Tryz.results80, go_sem, k0, k1]) rfl ?_
   rw [HR.out, HF.out]
   exact ⟨rfl, zG HBR.out (Nat.le_refl _) _ _⟩
  | succ j =>
   have hj : j < l.length := by have := HN.out; omega
   obtain ⟨y, hy⟩ : ∃ y, l[j]? = some y := ⟨l[j]'hj, List.getElem?_eq_getElem hj⟩
   obtain ⟨b, o, G, m, k, hA, c0, c1, c2, hL⟩ := HE.out.at hy
   have hbw := HB1.out.trans (hb.mono HB1.out.size)
   have c0 := zA c0 hbw
   have c1 := zA c1 hbw
   have c2 := zA c2 hbw
   have hL := (hL.weak (Q' := Ck.Cut Q w.heap.size (w.heap.size + 1)) fun b hb hq => .inl ⟨hq, hb⟩).later hbw
   clear hbw
   have HY2 := kp_ hb HY
   have HBR := kt_ HB1 hb
   have HB := k0_ hb
   have HL := k0_ hL
   have HNO := k0_ hno
   have HYY := k0_ hy
   have e1 : ((j + 1 : Nat) : Int) - 1 = (j : Int) := by omega
   rw [e1]
   have j1 : (0 : Int) ≤ j := by omega
   have j2 : (j : Int) < n := by omega
   have j3 : (0 : Int) ≤ j ∧ (j : Int) < n := by omega
   clear hno hb hL hy e1 hj
   subst hA
   cases hq : (y.1.toList == x.toList)
   ·have HQ := k0_ hq
    go_wp2_with fail
    go_roundw
    case rel =>
     refine ⟨j, by go_num, by omega, fun i' y' hi' hy' => ?_, HB.out⟩
     rcases Nat.lt_or_ge j i' with g | g
     ·exact HNO.out i' y' (by omega) hy'
     ·obtain rfl : i' = j := by omega
      have q := HYY.out
      rw [hy'] at q
      injection q with q
      rw [q]; exact HQ.out
    case measure => simp [intOf]
   ·have HQ := k0_ hq
    have HF := k0_ (Ck.zCH HYY.out HQ.out fun i' z hi' hz' => HNO.out i' z hi' hz')
    have HBL := k0_ (fun (b : Nat) (hq : Ck.Cut Q w.heap.size (w.heap.size + 1) b) => hq.ne (X := w.heap.size) (by omega) (by omega))
    obtain ⟨x0, x1, f0, f1, xl⟩ := zH HY2.out
    go_wp2_with fail
    have z3 := zL HY2.out (.int .i8 y.2.1) (.slice G m k)
    obtain ⟨k0, k1, -, -, -⟩ := zH z3
    refine bodyPost_ret (v := .tuple #[.agg #[.int .i8 y.2.1, .slice G m k], .bool true]) (by simp [results, Tryz.results80, go_sem, k0, k1]) rfl ?_
    rw [HR.out, HF.out]
    refine ⟨G, m, k, rfl, ?_, zG HBR.out (Nat.le_refl _) _ _⟩
    exact (HL.out.set2 HBL.out _ _).weak fun b _ hq => hq.out (by omega)
theorem wR (Q : Nat → Prop) (h : Hd) (p : Pl) (l : Ck.Env) (A : Option Addr) (n c : Nat) (w : World) (hE : Ck.EAt Q w l A n c) (hnm : h.name.size ≤ 281474976710656) :
  Calls Tryz.prog 62 #[.agg (tC_ h p), .slice A n c] w (Ck.Post Q w (match Ck.fnd l h.name with | some a => .ok a | none => .bad 41 h.pos h.name)) := by
 try unfold tC_
 have HB2 := k0_ (zb w (.cells (tC_ h p) 28) (.cells #[.int .i8 0, .slice none 0 0] 25))
 obtain ⟨h0, h1⟩ := zt w (.cells (tC_ h p) 28) (.cells #[.int .i8 0, .slice none 0 0] 25)
 have HX := k0_ h0
 have HY := k0_ h1
 have HCL := k0_ (fun W => yO h.name hnm W)
 have HA := k0_ (fun (W : World) (hb : Below w.heap.size w W) => xV (fun b => Q b ∧ b < w.heap.size) h.name l A n c W ((hE.weak (fun b hl hq => ⟨hq, hl⟩)).below hb))
 have hzz : ((w.alloc (.cells (tC_ h p) 28)).alloc (.cells #[.int .i8 0, .slice none 0 0] 25)).heap.size = w.heap.size + 2 := by simp
 have HZ := k0_ hzz
 obtain ⟨R, hR⟩ : ∃ R, R = (match Ck.fnd l h.name with | some a => Ck.R.ok a | none => Ck.R.bad 41 h.pos h.name) := ⟨_, rfl⟩
 rw [← hR]
 have HR := k0_ hR
 clear h0 h1 hE hR hzz
 go_enter Tryz.func62, Tryz.ntmps62
 go_upto_region 1 with fail
 generalize (w.alloc (.cells (tC_ h p) 28)).alloc (.cells #[.int .i8 0, .slice none 0 0] 25) = w1 at *
 obtain ⟨q0, q1, q2, q3, q4, q5, q6, q7, q8, q9, q10, ql⟩ := zK HX.out
 cases hf : Ck.fnd l h.name with
 | none =>
  have HF := k0_ hf
  rw [hf] at HA
  clear hf
  go_wp2_with fail
  refine (HA.out _ HB2.out).mono ?_
  rintro e w5 ⟨rfl, hb5⟩
  have hb6 := zN w5 (.cells #[.int .i8 0, .slice none 0 0] 25)
  have HB6 := k0_ (HB2.out.trans ((hb5.trans (hb6.mono hb5.size)).mono HB2.out.size))
  have HX6 := k0_ (zB (hb5.trans (hb6.mono hb5.size)) (zC HX.out) HX.out)
  clear q0 q1 q2 q3 q4 q5 q6 q7 q8 q9 q10 ql hb5 hb6
  go_upto_region 3 with fail
  generalize w5.alloc (.cells #[.int .i8 0, .slice none 0 0] 25) = wr at *
  obtain ⟨q0, q1, q2, q3, q4, q5, q6, q7, q8, q9, q10, ql⟩ := zK HX6.out
  have HQ1 := k0_ q1
  have HQ9 := k0_ q9
  have HFIN := k0_ (fun (u : World) (hbu : Below wr.heap.size wr u) => (show Ck.Post Q w R (.panicked [{ v := .iface 48 (.pointer (some ⟨u.heap.size, 0, none⟩)), recovered := false }]) (u.alloc (.cells #[.int .i64 41, .int .i64 h.pos, .string h.name] 53)) from by
   rw [HR.out, HF.out]
   exact ⟨u.heap.size, rfl, zD u _, Nat.le_trans HB6.out.size hbu.size, (HB6.out.trans (hbu.mono HB6.out.size)).alloc (Nat.le_trans HB6.out.size hbu.size) _⟩))
  clear q0 q2 q3 q4 q5 q6 q7 q8 q10
  have D0 : Below wr.heap.size wr wr.drew := (Below.refl _ _).drew
  go_region_with (first
   | (go_at_call 81; (with_reducible refine (HCL.out _).mono ?_); rintro e u ⟨rfl, hbu⟩; have D1 := D0.trans (hbu.mono D0.size); have e9 := zA HQ9.out D1; have HFU := k0_ (HFIN.out u D1); clear hbu)
   | (with_reducible (refine (show bodyPost _ _ _ (.panic _) _ _ from ?_)); refine yE (P := Tryz.prog) (w := wr) ?_))
  all_goals exact ⟨rfl, HFU.out⟩
 | some a =>
  have HF := k0_ hf
  rw [hf] at HA
  clear hf
  go_wp2_with fail
  refine (HA.out _ HB2.out).mono ?_
  rintro e w5 ⟨G, m, cg, rfl, hl, hb5⟩
  have hb6 := zN w5 (.cells #[.int .i8 a.1, .slice G m cg] 25)
  have hs5 := hb5.size
  have hz := HZ.out
  have HL := k0_ (Ck.Ly.later (Ck.Ly.weak (Q' := Ck.Cut Q w.heap.size (w.heap.size + 2)) (a := a) (w := w5) hl (fun b _ h => Or.elim h (fun h => .inl h.1) (fun h => .inr (by omega)))) hb6)
  have HB6 := k0_ (HB2.out.trans ((hb5.trans (hb6.mono hb5.size)).mono HB2.out.size))
  have HY6 := k0_ (zB (hb5.trans (hb6.mono hb5.size)) (zC HY.out) HY.out)
  have HN6 := k0_ (zD w5 (.cells #[.int .i8 a.1, .slice G m cg] 25))
  clear q0 q1 q2 q3 q4 q5 q6 q7 q8 q9 q10 ql hb5 hb6 hl
  go_upto_region 4 with fail
  generalize w5.alloc (.cells #[.int .i8 a.1, .slice G m cg] 25) = w6 at *
  obtain ⟨y0, y1, f0, f1, yl⟩ := zH HY6.out
  obtain ⟨u0, u1, -, -, -⟩ := zH HN6.out
  go_wp2_with fail
  have z3 := zL HY6.out (.int .i8 a.1) (.slice G m cg)
  obtain ⟨k0, k1, -, -, -⟩ := zH z3
  refine bodyPost_ret (v := .agg #[.int .i8 a.1, .slice G m cg]) (by simp [results, Tryz.results62, go_sem, k0, k1]) rfl ?_
  rw [HR.out, HF.out]
  exact ⟨G, m, cg, rfl, (HL.out.set2 (fun b hq => hq.ne (X := w.heap.size + 1) (by omega) (by omega)) _ _).weak (fun b _ hq => hq.out (by omega)), zG HB6.out (by omega) _ _⟩
end Go.Proofs.YtglgjaomneljbacGreatDoor
