import Derived.Test.YtkdnnleanoompaaGreatDoorM16
namespace Go.Proofs.YtkdnnleanoompaaGreatDoor
set_option maxHeartbeats 2000000
set_option maxRecDepth 100000
open Go.RowKit
theorem zX (w : World) (a : Obj) : Below w.heap.size w (w.alloc a) := (Below.refl _ _).alloc (Nat.le_refl _) _
theorem zZ (w : World) (a b : Obj) : Below w.heap.size w ((w.alloc a).alloc b) := (zX w a).alloc (by simp) _
theorem jT (w : World) (a b c : Obj) : Below w.heap.size w (((w.alloc a).alloc b).alloc c) := (zZ w a b).alloc (by simp; omega) _
theorem jh (w : World) (a b c d : Obj) : Below w.heap.size w ((((w.alloc a).alloc b).alloc c).alloc d) := (jT w a b c).alloc (by simp; omega) _
theorem kL (w : World) (a b c d e : Obj) : Below w.heap.size w (((((w.alloc a).alloc b).alloc c).alloc d).alloc e) := (jh w a b c d).alloc (by simp; omega) _
theorem zT (w : World) (a b : Obj) : ((w.alloc a).alloc b).heap[w.heap.size]? = some a /\ ((w.alloc a).alloc b).heap[w.heap.size + 1]? = some b := ⟨zG (zD w a) b, vM w a b⟩
theorem jI (w : World) (a b c : Obj) : (((w.alloc a).alloc b).alloc c).heap[w.heap.size]? = some a /\ (((w.alloc a).alloc b).alloc c).heap[w.heap.size + 1]? = some b /\ (((w.alloc a).alloc b).alloc c).heap[w.heap.size + 1 + 1]? = some c := by
 obtain ⟨h1, h2⟩ := zT w a b;refine ⟨zG h1 c, zG h2 c, ?_⟩;have := zD ((w.alloc a).alloc b) c
 simpa using this
theorem vN (w : World) (a b c d : Obj) : ((((w.alloc a).alloc b).alloc c).alloc d).heap[w.heap.size]? = some a /\ ((((w.alloc a).alloc b).alloc c).alloc d).heap[w.heap.size + 1]? = some b /\ ((((w.alloc a).alloc b).alloc c).alloc d).heap[w.heap.size + 1 + 1]? = some c /\ ((((w.alloc a).alloc b).alloc c).alloc d).heap[w.heap.size + 1 + 1 + 1]? = some d := by
 obtain ⟨h1, h2, h3⟩ := jI w a b c;refine ⟨zG h1 d, zG h2 d, zG h3 d, ?_⟩;have := zD (((w.alloc a).alloc b).alloc c) d
 simpa using this
theorem wy (w : World) (a b c d e : Obj) : (((((w.alloc a).alloc b).alloc c).alloc d).alloc e).heap[w.heap.size]? = some a /\ (((((w.alloc a).alloc b).alloc c).alloc d).alloc e).heap[w.heap.size + 1]? = some b /\ (((((w.alloc a).alloc b).alloc c).alloc d).alloc e).heap[w.heap.size + 1 + 1]? = some c /\ (((((w.alloc a).alloc b).alloc c).alloc d).alloc e).heap[w.heap.size + 1 + 1 + 1]? = some d /\ (((((w.alloc a).alloc b).alloc c).alloc d).alloc e).heap[w.heap.size + 1 + 1 + 1 + 1]? = some e := by
 obtain ⟨h1, h2, h3, h4⟩ := vN w a b c d;refine ⟨zG h1 e, zG h2 e, zG h3 e, zG h4 e, ?_⟩;have := zD ((((w.alloc a).alloc b).alloc c).alloc d) e
 simpa using this
theorem qR (w : World) (a b c : Obj) : ∃ w1, w1 = ((w.alloc a).alloc b).alloc c /\ Below w.heap.size w w1 /\ w1.heap[w.heap.size]? = some a /\ w1.heap[w.heap.size + 1]? = some b /\ w1.heap[w.heap.size + 1 + 1]? = some c /\ w1.heap.size = w.heap.size + 3 :=
 ⟨_, rfl, jT w a b c, (jI w a b c).1, (jI w a b c).2.1, (jI w a b c).2.2, by simp⟩
theorem xA (rv : Cg.Rv) (h : Hd) (p : Pl) (k : Int) (kids : Fo) (A : Option Addr) (n c : Nat) (k' : Int) (kids' : Fo) (A' : Option Addr) (n' c' : Nat) (w : World) (hIs : Ty.Is w k kids A n c) (hIs' : Ty.Is w k' kids' A' n' c') (hS : Shapes w) (hag : rv.D.ag (k, kids) (k', kids') = true) :
  Calls Tryz.prog 108 #[.agg (rF_ rv), .agg (tC_ h p), .agg #[.int .i8 k, .slice A n c], .agg #[.int .i8 k', .slice A' n' c']] w fun e w' => e = .returned (.tuple #[]) /\ Below w.heap.size w w' := by
 try unfold tC_
 try unfold rF_
 have hcf := rv.cfa;have CA := k0_ (fun (W : World) (hb : Below w.heap.size w W) => rv.agC k kids A n c k' kids' A' n' c' W (hIs.below hb) (hIs'.below hb) (hS.below hb));rw [hag] at CA;have HB4 := k0_ (jh w (.cells (rF_ rv) 45) (.cells (tC_ h p) 28) (.cells #[.int .i8 k, .slice A n c] 25) (.cells #[.int .i8 k', .slice A' n' c'] 25));obtain ⟨-, h1, -, -⟩ := vN w (.cells (rF_ rv) 45) (.cells (tC_ h p) 28) (.cells #[.int .i8 k, .slice A n c] 25) (.cells #[.int .i8 k', .slice A' n' c'] 25);have H1 := k0_ h1;clear hIs hIs' hS hag h1
 go_enter Tryz.func108, Tryz.ntmps108
 go_wp2_with fail
 refine (CA.out _ HB4.out).mono ?_;rintro e w5 ⟨rfl, hb5⟩;have HB5 := kt_ HB4 hb5;clear hb5
 go_wp2_with fail
 go_end0
 exact ⟨rfl, HB5.out⟩
theorem xm (rv : Cg.Rv) (h : Hd) (p : Pl) (k : Int) (kids : Fo) (A : Option Addr) (n c : Nat) (k' : Int) (kids' : Fo) (A' : Option Addr) (n' c' : Nat) (w : World) (hIs : Ty.Is w k kids A n c) (hIs' : Ty.Is w k' kids' A' n' c') (hS : Shapes w) (hag : rv.D.ag (k, kids) (k', kids') = false) :
  Calls Tryz.prog 108 #[.agg (rF_ rv), .agg (tC_ h p), .agg #[.int .i8 k, .slice A n c], .agg #[.int .i8 k', .slice A' n' c']] w (Ck.Gave w 91 h.pos Ck.e0) := by
 try unfold tC_
 try unfold rF_
 have hcf := rv.cfa;have CA := k0_ (fun (W : World) (hb : Below w.heap.size w W) => rv.agC k kids A n c k' kids' A' n' c' W (hIs.below hb) (hIs'.below hb) (hS.below hb));rw [hag] at CA;have HB4 := k0_ (jh w (.cells (rF_ rv) 45) (.cells (tC_ h p) 28) (.cells #[.int .i8 k, .slice A n c] 25) (.cells #[.int .i8 k', .slice A' n' c'] 25));obtain ⟨-, h1, -, -⟩ := vN w (.cells (rF_ rv) 45) (.cells (tC_ h p) 28) (.cells #[.int .i8 k, .slice A n c] 25) (.cells #[.int .i8 k', .slice A' n' c'] 25);have H1 := k0_ h1;clear hIs hIs' hS hag h1
 go_enter Tryz.func108, Tryz.ntmps108
 go_wp2_with fail
 refine (CA.out _ HB4.out).mono ?_;rintro e w5 ⟨rfl, hb5⟩;have HB5 := kt_ HB4 hb5;obtain ⟨q0, q1, q2, q3, q4, q5, q6, q7, q8, q9, q10, ql⟩ := zJ (zA hb5 (zC H1.out) H1.out);have HF := k0_ (jo h p 91 w5);clear hb5
 go_wp2_with fail
 refine HF.out.mono ?_;rintro e w6 hg;have HG := k0_ (Ck.Gave.from hg HB5.out);obtain ⟨g, rfl, -⟩ := hg
 go_wp2_with fail
 exact ⟨rfl, HG.out⟩
theorem zBN (rv : Cg.Rv) (h : Hd) (p : Pl) (w : World) (hca : rv.D.ca = true) (hT : Ty.Is w h.tk h.tkids p.TA p.tn p.tc) (hU : Ty.Is w h.uk h.ukids p.UA p.un p.uc) (hS : Shapes w) :
  Calls Tryz.prog 112 #[.agg (rF_ rv), .agg (tC_ h p)] w fun e w' => (rv.D.gs (Ck.TT h) (Ck.UU h) = false /\ Ck.Gave w 91 h.pos Ck.e0 e w') \/ (rv.D.gs (Ck.TT h) (Ck.UU h) = true /\ e = .returned (.tuple #[]) /\ Below w.heap.size w w') := by
 try unfold tC_
 try unfold rF_
 obtain ⟨fg, hv, hcf, hgC⟩ := rv.gC hca;rw [hv];have CA := k0_ (fun (W : World) (hb : Below w.heap.size w W) => hgC h.tk h.tkids p.TA p.tn p.tc h.uk h.ukids p.UA p.un p.uc W (hT.below hb) (hU.below hb) (hS.below hb));have HB2 := k0_ (zZ w (.cells #[.func (Fn.func rv.fr) #[] rv.cpt, .func (Fn.func rv.fa) #[] #[], .func (Fn.func rv.fm) #[] #[], .func (Fn.func rv.ft) #[] #[], .func (Fn.func fg) #[] #[]] 45) (.cells (tC_ h p) 28));obtain ⟨-, h1⟩ := zT w (.cells #[.func (Fn.func rv.fr) #[] rv.cpt, .func (Fn.func rv.fa) #[] #[], .func (Fn.func rv.fm) #[] #[], .func (Fn.func rv.ft) #[] #[], .func (Fn.func fg) #[] #[]] 45) (.cells (tC_ h p) 28);have H1 := k0_ h1;rw [show rv.D.gs (h.tk, h.tkids) (h.uk, h.ukids) = rv.D.gs (Ck.TT h) (Ck.UU h) from rfl] at CA;generalize rv.D.gs (Ck.TT h) (Ck.UU h) = g0 at *;clear hT hU hS h1 hgC hv;cases g0
 ·go_enter Tryz.func112, Tryz.ntmps112
  go_wp2_with fail
  refine (CA.out _ HB2.out).mono ?_;rintro e w5 ⟨rfl, hb5⟩;have HB5 := kt_ HB2 hb5;obtain ⟨q0, q1, q2, q3, q4, q5, q6, q7, q8, q9, q10, ql⟩ := zJ (zA hb5 (zC H1.out) H1.out);have HF := k0_ (jo h p 91 w5);clear hb5
  go_wp2_with fail
  refine HF.out.mono ?_;rintro e w6 hg;have HG := k0_ (Ck.Gave.from hg HB5.out);obtain ⟨g, rfl, -⟩ := hg
  go_wp2_with fail
  exact ⟨rfl, .inl ⟨trivial, HG.out⟩⟩
 ·go_enter Tryz.func112, Tryz.ntmps112
  go_wp2_with fail
  refine (CA.out _ HB2.out).mono ?_;rintro e w5 ⟨rfl, hb5⟩;have HB5 := kt_ HB2 hb5;clear hb5
  go_wp2_with fail
  go_end0
  exact .inr ⟨trivial, rfl, HB5.out⟩
theorem zL {u : World} {X : Nat} {x0 x1 : Value} {t : TypeId} (h : u.heap[X]? = some (.cells #[x0, x1] t (0, 0))) (a b : Value) : ((u.setCell ⟨X, 0, none⟩ a).setCell ⟨X, 1, none⟩ b).heap[X]? = some (.cells #[a, b] t (0, 0)) := by
 simp [World.setCell, Array.getElem?_modify, h]
theorem zN {u : World} {X Y : Nat} {o : Obj} (h : u.heap[Y]? = some o) (hne : X ≠ Y) (a b : Value) : ((u.setCell ⟨X, 0, none⟩ a).setCell ⟨X, 1, none⟩ b).heap[Y]? = some o := by
 exact zAH
theorem zH {N X : Nat} {w u : World} (h : Below N w u) (hX : N <= X) (a b : Value) : Below N w ((u.setCell ⟨X, 0, none⟩ a).setCell ⟨X, 1, none⟩ b) := (h.setCell (p := ⟨X, 0, none⟩) hX _).setCell (p := ⟨X, 1, none⟩) hX _
theorem Ck.Ly.set2 {Q : Nat -> Prop} {w : World} {a : Ck.T2} {G : Option Addr} {m c : Nat} (h : Ck.Ly Q w a G m c) {X : Nat} (hX : ∀ b, Q b -> b ≠ X) (v0 v1 : Value) : Ck.Ly Q ((w.setCell ⟨X, 0, none⟩ v0).setCell ⟨X, 1, none⟩ v1) a G m c := (h.set hX _ _).set hX _ _
def AsPost2 (Q : Nat -> Prop) (w : World) (l r : Ck.T2) (e : Ending) (w' : World) : Prop :=
 ∃ G1 m1 c1 G2 m2 c2, e = .returned (.tuple #[.agg #[.int .i8 l.1, .slice G1 m1 c1], .agg #[.int .i8 r.1, .slice G2 m2 c2]]) /\ Ck.Ly (Ck.Cut Q w.heap.size w.heap.size) w' l G1 m1 c1 /\ Ck.Ly (Ck.Cut Q w.heap.size w.heap.size) w' r G2 m2 c2 /\ Below w.heap.size w w'
theorem zAA (rv : Cg.Rv) (Q : Nat -> Prop) (h : Hd) (p : Pl) (kd : Int) (a : Ck.T2) (A : Option Addr) (n c : Nat) (w : World) (hkd : 3 <= kd /\ kd <= 5) (hL : Ck.Ly Q w a A n c) (hok : Ty.okT a.1 a.2 = true) (hS : Shapes w) (hag : rv.D.asO kd a = true) :
  Calls Tryz.prog 109 #[.agg (rF_ rv), .agg (tC_ h p), .int .i8 kd, .agg #[.int .i8 a.1, .slice A n c]] w (AsPost2 Q w (rv.D.asl kd a) (rv.D.asr kd a)) := by
 try unfold tC_
 try unfold rF_
 have hcf := rv.cfm;have CA := k0_ (fun (W : World) (hb : Below w.heap.size w W) => rv.asC (fun b => Q b /\ b < w.heap.size) kd a A n c W hkd ((hL.weak (fun b hl hq => ⟨hq, hl⟩)).later hb) hok (hS.below hb));rw [hag] at CA;have HB5 := k0_ (kL w (.cells (rF_ rv) 45) (.cells (tC_ h p) 28) (.cells #[.int .i8 a.1, .slice A n c] 25) (.cells #[.int .i8 0, .slice none 0 0] 25) (.cells #[.int .i8 0, .slice none 0 0] 25));obtain ⟨-, h1, -, h3, h4⟩ := wy w (.cells (rF_ rv) 45) (.cells (tC_ h p) 28) (.cells #[.int .i8 a.1, .slice A n c] 25) (.cells #[.int .i8 0, .slice none 0 0] 25) (.cells #[.int .i8 0, .slice none 0 0] 25);have H1 := k0_ h1;have H3 := k0_ h3;have H4 := k0_ h4;clear hL hok hS hag h1 h3 h4
 go_enter Tryz.func109, Tryz.ntmps109
 go_wp2_with fail
 refine (CA.out _ HB5.out).mono ?_;rintro e w5 ⟨G1, m1, c1, G2, m2, c2, rfl, hI1, hI2, hb5⟩;have HB6 := kt_ HB5 hb5;obtain ⟨q0, q1, q2, q3, q4, q5, q6, q7, q8, q9, q10, ql⟩ := zJ (zA hb5 (zC H1.out) H1.out);obtain ⟨x0, x1, f0, f1, xl⟩ := zF (zA hb5 (zC H3.out) H3.out);obtain ⟨y0, y1, f2, f3, yl⟩ := zF (zA hb5 (zC H4.out) H4.out);have HI1 := k0_ (Ck.Ly.weak (Q' := Ck.Cut Q w.heap.size (w.heap.size + 5)) (a := rv.D.asl kd a) (w := w5) hI1 (fun b _ h => Or.elim h (fun h => .inl h.1) (fun h => .inr (by simp at h; omega))));have HI2 := k0_ (Ck.Ly.weak (Q' := Ck.Cut Q w.heap.size (w.heap.size + 5)) (a := rv.D.asr kd a) (w := w5) hI2 (fun b _ h => Or.elim h (fun h => .inl h.1) (fun h => .inr (by simp at h; omega))));have hsz := hb5.size;simp only [World.size_alloc] at hsz;clear hI1 hI2;have hN3 : ∀ b, Ck.Cut Q w.heap.size (w.heap.size + 5) b -> b ≠ w.heap.size + 1 + 1 + 1 := fun b h => h.ne (by omega) (by omega)
 have hN4 : ∀ b, Ck.Cut Q w.heap.size (w.heap.size + 5) b -> b ≠ w.heap.size + 1 + 1 + 1 + 1 := fun b h => h.ne (by omega) (by omega)
 have hW : ∀ b, Ck.Cut Q w.heap.size (w.heap.size + 5) b -> Ck.Cut Q w.heap.size w.heap.size b := fun b h => h.out (by omega)
 have HNN := k0_ (And.intro hN3 (And.intro hN4 hW));clear hN3 hN4 hW;have H3 := k0_ (zN (zL (zA hb5 (zC H3.out) H3.out) (.int .i8 (rv.D.asl kd a).1) (.slice G1 m1 c1)) (show w.heap.size + 1 + 1 + 1 + 1 ≠ w.heap.size + 1 + 1 + 1 by omega) (.int .i8 (rv.D.asr kd a).1) (.slice G2 m2 c2));have H4 := k0_ (zL (zN (zA hb5 (zC H4.out) H4.out) (show w.heap.size + 1 + 1 + 1 ≠ w.heap.size + 1 + 1 + 1 + 1 by omega) (.int .i8 (rv.D.asl kd a).1) (.slice G1 m1 c1)) (.int .i8 (rv.D.asr kd a).1) (.slice G2 m2 c2));have HJ1 := k0_ ((HI1.out.set2 HNN.out.1 (.int .i8 (rv.D.asl kd a).1) (.slice G1 m1 c1)).set2 HNN.out.2.1 (.int .i8 (rv.D.asr kd a).1) (.slice G2 m2 c2));have HJ2 := k0_ ((HI2.out.set2 HNN.out.1 (.int .i8 (rv.D.asl kd a).1) (.slice G1 m1 c1)).set2 HNN.out.2.1 (.int .i8 (rv.D.asr kd a).1) (.slice G2 m2 c2));have HB7 := k0_ (zH (zH HB6.out (show w.heap.size <= w.heap.size + 1 + 1 + 1 by omega) (.int .i8 (rv.D.asl kd a).1) (.slice G1 m1 c1)) (show w.heap.size <= w.heap.size + 1 + 1 + 1 + 1 by omega) (.int .i8 (rv.D.asr kd a).1) (.slice G2 m2 c2));clear hb5
 go_upto_region 2 with fail
 generalize (((w5.setCell ⟨w.heap.size + 1 + 1 + 1, 0, none⟩ (.int .i8 (rv.D.asl kd a).1)).setCell ⟨w.heap.size + 1 + 1 + 1, 1, none⟩ (.slice G1 m1 c1)).setCell ⟨w.heap.size + 1 + 1 + 1 + 1, 0, none⟩ (.int .i8 (rv.D.asr kd a).1)).setCell ⟨w.heap.size + 1 + 1 + 1 + 1, 1, none⟩ (.slice G2 m2 c2) = w6 at *;clear x0 x1 f0 f1 xl y0 y1 f2 f3 yl q0 q1 q2 q3 q4 q5 q6 q7 q8 q9 q10 ql HI1 HI2 HB6;obtain ⟨x0, x1, f0, f1, xl⟩ := zF H3.out;obtain ⟨y0, y1, f2, f3, yl⟩ := zF H4.out
 go_wp2_with fail
 go_region
 have H3 : Hid ((((((w6.setCell ⟨w.heap.size + 1 + 1 + 1, 0, none⟩ (.int .i8 (rv.D.asl kd a).1)).setCell ⟨w.heap.size + 1 + 1 + 1, 1, none⟩ (.slice G1 m1 c1)).setCell ⟨w.heap.size + 1 + 1 + 1 + 1, 0, none⟩ (.int .i8 (rv.D.asr kd a).1)).setCell ⟨w.heap.size + 1 + 1 + 1 + 1, 1, none⟩ (.slice G2 m2 c2)).drew).heap[w.heap.size + 1 + 1 + 1]? = some (.cells #[.int .i8 (rv.D.asl kd a).1, .slice G1 m1 c1] 25 (0, 0))) := k0_ (zN (zL H3.out _ _) (by omega) _ _);have H4 : Hid ((((((w6.setCell ⟨w.heap.size + 1 + 1 + 1, 0, none⟩ (.int .i8 (rv.D.asl kd a).1)).setCell ⟨w.heap.size + 1 + 1 + 1, 1, none⟩ (.slice G1 m1 c1)).setCell ⟨w.heap.size + 1 + 1 + 1 + 1, 0, none⟩ (.int .i8 (rv.D.asr kd a).1)).setCell ⟨w.heap.size + 1 + 1 + 1 + 1, 1, none⟩ (.slice G2 m2 c2)).drew).heap[w.heap.size + 1 + 1 + 1 + 1]? = some (.cells #[.int .i8 (rv.D.asr kd a).1, .slice G2 m2 c2] 25 (0, 0))) := k0_ (zL (zN H4.out (by omega) _ _) _ _);have HJ1 : Hid (Ck.Ly (Ck.Cut Q w.heap.size (w.heap.size + 5)) (((((w6.setCell ⟨w.heap.size + 1 + 1 + 1, 0, none⟩ (.int .i8 (rv.D.asl kd a).1)).setCell ⟨w.heap.size + 1 + 1 + 1, 1, none⟩ (.slice G1 m1 c1)).setCell ⟨w.heap.size + 1 + 1 + 1 + 1, 0, none⟩ (.int .i8 (rv.D.asr kd a).1)).setCell ⟨w.heap.size + 1 + 1 + 1 + 1, 1, none⟩ (.slice G2 m2 c2)).drew) (rv.D.asl kd a) G1 m1 c1) := k0_ (((HJ1.out.set2 HNN.out.1 _ _).set2 HNN.out.2.1 _ _).later (Below.refl _ _).drew);have HJ2 : Hid (Ck.Ly (Ck.Cut Q w.heap.size (w.heap.size + 5)) (((((w6.setCell ⟨w.heap.size + 1 + 1 + 1, 0, none⟩ (.int .i8 (rv.D.asl kd a).1)).setCell ⟨w.heap.size + 1 + 1 + 1, 1, none⟩ (.slice G1 m1 c1)).setCell ⟨w.heap.size + 1 + 1 + 1 + 1, 0, none⟩ (.int .i8 (rv.D.asr kd a).1)).setCell ⟨w.heap.size + 1 + 1 + 1 + 1, 1, none⟩ (.slice G2 m2 c2)).drew) (rv.D.asr kd a) G2 m2 c2) := k0_ (((HJ2.out.set2 HNN.out.1 _ _).set2 HNN.out.2.1 _ _).later (Below.refl _ _).drew);have HB7 : Hid (Below w.heap.size w (((((w6.setCell ⟨w.heap.size + 1 + 1 + 1, 0, none⟩ (.int .i8 (rv.D.asl kd a).1)).setCell ⟨w.heap.size + 1 + 1 + 1, 1, none⟩ (.slice G1 m1 c1)).setCell ⟨w.heap.size + 1 + 1 + 1 + 1, 0, none⟩ (.int .i8 (rv.D.asr kd a).1)).setCell ⟨w.heap.size + 1 + 1 + 1 + 1, 1, none⟩ (.slice G2 m2 c2)).drew)) := k0_ ((zH (zH HB7.out (show w.heap.size <= w.heap.size + 1 + 1 + 1 by omega) _ _) (show w.heap.size <= w.heap.size + 1 + 1 + 1 + 1 by omega) _ _).drew);generalize ((((w6.setCell ⟨w.heap.size + 1 + 1 + 1, 0, none⟩ (.int .i8 (rv.D.asl kd a).1)).setCell ⟨w.heap.size + 1 + 1 + 1, 1, none⟩ (.slice G1 m1 c1)).setCell ⟨w.heap.size + 1 + 1 + 1 + 1, 0, none⟩ (.int .i8 (rv.D.asr kd a).1)).setCell ⟨w.heap.size + 1 + 1 + 1 + 1, 1, none⟩ (.slice G2 m2 c2)).drew = w7 at *;clear x0 x1 f0 f1 xl y0 y1 f2 f3 yl;obtain ⟨x0, x1, f0, f1, xl⟩ := zF H3.out;obtain ⟨y0, y1, f2, f3, yl⟩ := zF H4.out
 go_wp2_with fail
 refine bodyPost_ret (v := .tuple #[.agg #[.int .i8 (rv.D.asl kd a).1, .slice G1 m1 c1], .agg #[.int .i8 (rv.D.asr kd a).1, .slice G2 m2 c2]]) (by simp [results, Tryz.results109, go_sem, *]) rfl ⟨G1, m1, c1, G2, m2, c2, rfl, HJ1.out.weak (fun b _ h => HNN.out.2.2 b h), HJ2.out.weak (fun b _ h => HNN.out.2.2 b h), HB7.out⟩
theorem zBI (rv : Cg.Rv) (Q : Nat -> Prop) (h : Hd) (p : Pl) (kd : Int) (a : Ck.T2) (A : Option Addr) (n c : Nat) (w : World) (hkd : 3 <= kd /\ kd <= 5) (hL : Ck.Ly Q w a A n c) (hok : Ty.okT a.1 a.2 = true) (hS : Shapes w) (hag : rv.D.asO kd a = false) :
  Calls Tryz.prog 109 #[.agg (rF_ rv), .agg (tC_ h p), .int .i8 kd, .agg #[.int .i8 a.1, .slice A n c]] w (Ck.Gave w 90 h.pos Ck.e0) := by
 try unfold tC_
 try unfold rF_
 have hcf := rv.cfm;have CA := k0_ (fun (W : World) (hb : Below w.heap.size w W) => rv.asC (fun b => Q b /\ b < w.heap.size) kd a A n c W hkd ((hL.weak (fun b hl hq => ⟨hq, hl⟩)).later hb) hok (hS.below hb));rw [hag] at CA;have HB5 := k0_ (kL w (.cells (rF_ rv) 45) (.cells (tC_ h p) 28) (.cells #[.int .i8 a.1, .slice A n c] 25) (.cells #[.int .i8 0, .slice none 0 0] 25) (.cells #[.int .i8 0, .slice none 0 0] 25));obtain ⟨-, h1, -, h3, h4⟩ := wy w (.cells (rF_ rv) 45) (.cells (tC_ h p) 28) (.cells #[.int .i8 a.1, .slice A n c] 25) (.cells #[.int .i8 0, .slice none 0 0] 25) (.cells #[.int .i8 0, .slice none 0 0] 25);have H1 := k0_ h1;have H3 := k0_ h3;have H4 := k0_ h4;clear hL hok hS hag h1 h3 h4
 go_enter Tryz.func109, Tryz.ntmps109
 go_wp2_with fail
 refine (CA.out _ HB5.out).mono ?_;rintro e w5 ⟨G1, m1, c1, G2, m2, c2, rfl, hI1, hI2, hb5⟩;have HB6 := kt_ HB5 hb5;obtain ⟨q0, q1, q2, q3, q4, q5, q6, q7, q8, q9, q10, ql⟩ := zJ (zA hb5 (zC H1.out) H1.out);obtain ⟨x0, x1, f0, f1, xl⟩ := zF (zA hb5 (zC H3.out) H3.out);obtain ⟨y0, y1, f2, f3, yl⟩ := zF (zA hb5 (zC H4.out) H4.out);have HI1 := k0_ (Ck.Ly.weak (Q' := Ck.Cut Q w.heap.size (w.heap.size + 5)) (a := rv.D.asl kd a) (w := w5) hI1 (fun b _ h => Or.elim h (fun h => .inl h.1) (fun h => .inr (by simp at h; omega))));have HI2 := k0_ (Ck.Ly.weak (Q' := Ck.Cut Q w.heap.size (w.heap.size + 5)) (a := rv.D.asr kd a) (w := w5) hI2 (fun b _ h => Or.elim h (fun h => .inl h.1) (fun h => .inr (by simp at h; omega))));have hsz := hb5.size;simp only [World.size_alloc] at hsz;clear hI1 hI2;have HF := k0_ (jo h p 90);clear hb5
 go_wp2_with fail
 refine (HF.out _).mono ?_;rintro e w6 hg;have HG := k0_ (Ck.Gave.from (w := w) hg (by repeat' (first | exact HB6.out | refine Below.setCell ?_ (by simp; omega) _)));obtain ⟨g, rfl, -⟩ := hg
 go_wp2_with fail
 exact ⟨rfl, HG.out⟩
set_option maxHeartbeats 2000000
set_option maxRecDepth 100000
open Go.RowKit
theorem zCl (rv : Cg.Rv) (Q : Nat -> Prop) (h : Hd) (p : Pl) (a : Ck.T2) (A : Option Addr) (n c : Nat) (b : Ck.T2) (A' : Option Addr) (n' c' : Nat) (w : World) (hL : Ck.Ly Q w a A n c) (hL' : Ck.Ly Q w b A' n' c') (hS : Shapes w) (hag : rv.D.ag a b = false) :
  Calls Tryz.prog 110 #[.agg (rF_ rv), .agg (tC_ h p), .agg #[.int .i8 a.1, .slice A n c], .agg #[.int .i8 b.1, .slice A' n' c']] w (Ck.Gave w 91 h.pos Ck.e0) := by
 try unfold tC_
 try unfold rF_
 have HB5 := k0_ (kL w (.cells (rF_ rv) 45) (.cells (tC_ h p) 28) (.cells #[.int .i8 a.1, .slice A n c] 25) (.cells #[.int .i8 b.1, .slice A' n' c'] 25) (.cells #[.int .i8 0, .slice none 0 0] 25));have CW := k0_ (fun (W : World) (hb : Below w.heap.size w W) => xm rv h p a.1 a.2 A n c b.1 b.2 A' n' c' W (hL.later hb).is (hL'.later hb).is (hS.below hb) hag);clear hL hL' hS hag
 go_enter Tryz.func110, Tryz.ntmps110
 go_wp2_with fail
 refine (CW.out _ HB5.out).mono ?_;rintro e w6 hg;have HG := k0_ (Ck.Gave.from (w := w) hg HB5.out);obtain ⟨g, rfl, -⟩ := hg
 go_wp2_with fail
 exact ⟨rfl, HG.out⟩
theorem zBK (rv : Cg.Rv) (Q : Nat -> Prop) (h : Hd) (p : Pl) (a : Ck.T2) (A : Option Addr) (n c : Nat) (b : Ck.T2) (A' : Option Addr) (n' c' : Nat) (w : World) (hL : Ck.Ly Q w a A n c) (hL' : Ck.Ly Q w b A' n' c') (hS : Shapes w) (hag : rv.D.ag a b = true) :
  Calls Tryz.prog 110 #[.agg (rF_ rv), .agg (tC_ h p), .agg #[.int .i8 a.1, .slice A n c], .agg #[.int .i8 b.1, .slice A' n' c']] w (Ck.Gives Q w (rv.D.mt a b)) := by
 try unfold tC_
 try unfold rF_
 have HB5 := k0_ (kL w (.cells (rF_ rv) 45) (.cells (tC_ h p) 28) (.cells #[.int .i8 a.1, .slice A n c] 25) (.cells #[.int .i8 b.1, .slice A' n' c'] 25) (.cells #[.int .i8 0, .slice none 0 0] 25));have CW := k0_ (fun (W : World) (hb : Below w.heap.size w W) => xA rv h p a.1 a.2 A n c b.1 b.2 A' n' c' W (hL.later hb).is (hL'.later hb).is (hS.below hb) hag);obtain ⟨h0, -, h2, h3, h4⟩ := wy w (.cells (rF_ rv) 45) (.cells (tC_ h p) 28) (.cells #[.int .i8 a.1, .slice A n c] 25) (.cells #[.int .i8 b.1, .slice A' n' c'] 25) (.cells #[.int .i8 0, .slice none 0 0] 25);have hcf := rv.cft;have CM := k0_ (fun (W : World) (hb : Below w.heap.size w W) => rv.mtC (fun b => Q b /\ b < w.heap.size) a A n c b A' n' c' W ((hL.weak (fun b hl hq => ⟨hq, hl⟩)).later hb) ((hL'.weak (fun b hl hq => ⟨hq, hl⟩)).later hb) hag (hS.below hb));have H0 := k0_ h0;have H2 := k0_ h2;have H3 := k0_ h3;have H4 := k0_ h4;clear hL hL' hS hag h0 h2 h3 h4
 go_enter Tryz.func110, Tryz.ntmps110
 go_wp2_with fail
 refine (CW.out _ HB5.out).mono ?_;rintro e w6 ⟨rfl, hb6⟩;have HB6 := kt_ HB5 hb6;have H0 := kp_ hb6 H0;have H2 := kp_ hb6 H2;have H3 := kp_ hb6 H3;have H4 := kp_ hb6 H4;have hz6 := hb6.size;simp only [World.size_alloc] at hz6;clear hb6;obtain ⟨r0, r1, r2, r3, r4, -, -, -, -, -, rl⟩ := jG H0.out;obtain ⟨x0, x1, -, -, xl⟩ := zF H2.out;obtain ⟨y0, y1, -, -, yl⟩ := zF H3.out
 go_wp2_with fail
 refine (CM.out _ HB6.out).mono ?_;rintro e w7 ⟨G, m, cg, rfl, hR, hb7⟩;have HB7 := kt_ HB6 hb7;have HL := k0_ (Ck.Ly.weak (Q' := Ck.Cut Q w.heap.size (w.heap.size + 5)) (a := rv.D.mt a b) (w := w7) hR (fun b _ h => Or.elim h (fun h => .inl h.1) (fun h => .inr (by omega))));have H4 := kp_ hb7 H4;clear hR hb7 r0 r1 r2 r3 r4 rl x0 x1 xl y0 y1 yl;obtain ⟨x0, x1, f0, f1, xl⟩ := zF H4.out;have HNE := k0_ (fun (b : Nat) (hq : Ck.Cut Q w.heap.size (w.heap.size + 5) b) => hq.ne (X := w.heap.size + 1 + 1 + 1 + 1) (by omega) (by omega))
 go_wp2_with fail
 refine bodyPost_ret (v := .agg #[.int .i8 (rv.D.mt a b).1, .slice G m cg]) (by simp [results, Tryz.results110, go_sem, *]) rfl ⟨G, m, cg, rfl, ?_, ?_⟩
 ·exact (HL.out.set2 HNE.out _ _).weak fun b _ hq => hq.out (by omega)
 ·exact zH HB7.out (by omega) _ _
theorem uH (s : ByteArray) (w : World) : Calls Tryz.prog 111 #[.string s] w fun e w' => e = .returned (.agg #[.int .i8 (Ck.opAns s).1, .slice none 0 0]) /\ Below w.heap.size w w' := by
 have HB1 := k0_ (zX w (.cells #[.int .i8 0, .slice none 0 0] 25));have CO := k0_ (fun (k : Int) (W : World) => qQ k none 0 0 W);have H1 := k0_ (zD w (.cells #[.int .i8 0, .slice none 0 0] 25))
 cases h60 : (s.toList == [60]) with
 | true =>
  have hR : (Ck.opAns s).1 = 2 := by unfold Ck.opAns; rw [h60]; rfl
  rw [hR];clear hR
  go_enter Tryz.func111, Tryz.ntmps111
  go_wp2_with fail
  refine (CO.out 2 _).mono ?_;rintro e w2 ⟨rfl, hb2⟩;obtain ⟨x0, x1, f0, f1, xl⟩ := zF (zA hb2 (zC H1.out) H1.out);have HB2 := kt_ HB1 hb2;clear hb2 h60;exact zGE
 | false =>
  cases h61 : (s.toList == [61]) with
  | true =>
   have hR : (Ck.opAns s).1 = 2 := by unfold Ck.opAns; rw [h60, h61]; rfl
   rw [hR];clear hR
   go_enter Tryz.func111, Tryz.ntmps111
   go_wp2_with fail
   refine (CO.out 2 _).mono ?_;rintro e w2 ⟨rfl, hb2⟩;obtain ⟨x0, x1, f0, f1, xl⟩ := zF (zA hb2 (zC H1.out) H1.out);have HB2 := kt_ HB1 hb2;clear hb2 h60 h61;exact zGE
  | false =>
   have hR : (Ck.opAns s).1 = 1 := by unfold Ck.opAns; rw [h60, h61]; rfl
   rw [hR];clear hR
   go_enter Tryz.func111, Tryz.ntmps111
   go_wp2_with fail
   refine (CO.out 1 _).mono ?_;rintro e w2 ⟨rfl, hb2⟩;obtain ⟨x0, x1, f0, f1, xl⟩ := zF (zA hb2 (zC H1.out) H1.out);have HB2 := kt_ HB1 hb2;clear hb2 h60 h61
   go_wp2_with fail
   exact bodyPost_ret (v := .agg #[.int .i8 1, .slice none 0 0]) (by simp [results, Tryz.results111, go_sem, *]) rfl ⟨rfl, zH HB2.out (Nat.le_refl _) _ _⟩
theorem Ck.vO : ∀ (l : Ck.Env) (x : ByteArray) (i : Nat), i <= l.length -> (∀ j y, i <= j -> l[j]? = some y -> (y.1.toList == x.toList) = false) -> Ck.fnd l x = Ck.fnd (l.take i) x
 | [], x, i, _, _ => by simp
 | b :: l, x, 0, _, h => by
  have h1 := Ck.vO l x 0 (Nat.zero_le _) (fun j y hj hy => h (j + 1) y (by omega) (by rw [List.getElem?_cons_succ]; exact hy));have h2 := h 0 b (Nat.le_refl _) rfl;simp only [List.take_zero] at h1 ⊢;unfold Ck.fnd;rw [h1]
  simp [Ck.fnd, h2]
 | b :: l, x, i + 1, hi, h => by
  have h1 := Ck.vO l x i (by simp only [List.length_cons] at hi; omega) (fun j y hj hy => h (j + 1) y (by omega) (by rw [List.getElem?_cons_succ]; exact hy));rw [List.take_succ_cons];unfold Ck.fnd;rw [h1]
theorem Ck.zA3 {l : Ck.Env} {x : ByteArray} {i : Nat} {y : ByteArray × Ck.T2} (hy : l[i]? = some y) (he : (y.1.toList == x.toList) = true) (h : ∀ j z, i + 1 <= j -> l[j]? = some z -> (z.1.toList == x.toList) = false) : Ck.fnd l x = some y.2 := by
 have hi : i < l.length := by rcases Nat.lt_or_ge i l.length with q | q; exact q; rw [List.getElem?_eq_none q] at hy; cases hy
 rw [Ck.vO l x (i + 1) (by omega) h, List.take_add_one, hy]
 have hs : ∀ m : Ck.Env, Ck.fnd (m ++ [y]) x = some y.2 := by
  intro m
  induction m with
  | nil => simp [Ck.fnd, he]
  | cons b m ih => simp only [List.cons_append]; unfold Ck.fnd; rw [ih]
 exact hs _
theorem Ck.zA2 {l : Ck.Env} {x : ByteArray} (h : ∀ (j : Nat) (z : ByteArray × Ck.T2), l[j]? = some z -> (z.1.toList == x.toList) = false) : Ck.fnd l x = none := by
 rw [Ck.vO l x 0 (Nat.zero_le _) (fun j y _ hy => h j y hy), List.take_zero]; rfl
def Ck.OfPost (Q : Nat -> Prop) (w : World) (r : Option Ck.T2) (e : Ending) (w' : World) : Prop := match r with
 | some a => ∃ G m c, e = .returned (.tuple #[.agg #[.int .i8 a.1, .slice G m c], .bool true]) /\ Ck.Ly (Ck.Cut Q w.heap.size w.heap.size) w' a G m c /\ Below w.heap.size w w'
 | none => e = .returned (.tuple #[.agg #[.int .i8 0, .slice none 0 0], .bool false]) /\ Below w.heap.size w w'
theorem uG (Q : Nat -> Prop) (x : ByteArray) (l : Ck.Env) (A : Option Addr) (n c : Nat) (w : World) (hE : Ck.EAt Q w l A n c) :
  Calls Tryz.prog 106 #[.slice A n c, .string x] w (Ck.OfPost Q w (Ck.fnd l x)) := by
 have HB1 := k0_ (zX w (.cells #[.int .i8 0, .slice none 0 0] 25));have h1 := zD w (.cells #[.int .i8 0, .slice none 0 0] 25);have HY := k0_ h1;have HE := k0_ hE;have hn := hE.n_eq;have HN := k0_ hn;have hnc := hE.n_le;have hcm := hE.c_le;have i5 : (n : Int) <= 9223372036854775807 := by unfold maxLen at hcm; omega
 obtain ⟨R, hR⟩ : ∃ R, R = Ck.fnd l x := ⟨_, rfl⟩
 rw [← hR];have HR := k0_ hR;clear h1 hE hn hR
 go_enter Tryz.func106, Tryz.ntmps106
 go_upto_region 1 with fail
 generalize w.alloc (.cells #[.int .i8 0, .slice none 0 0] 25) = w1 at *
 go_wp2_with fail
 go_loopw [6] (fun v5 wr => ∃ i : Nat, v5 = .int .i64 ((i : Int) - 1) /\ i <= n /\ (∀ (j : Nat) (y : ByteArray × Ck.T2), i <= j -> l[j]? = some y -> (y.1.toList == x.toList) = false) /\ Below w1.heap.size w1 wr) (fun v _ => (intOf v + 1).toNat)
 case atStart =>
  exact zFE
 case round =>
  obtain ⟨i, rfl, hin, hno, hb⟩ := hrel
  cases i with
  | zero =>
   have HF := k0_ (Ck.zA2 fun j z hz => hno j z (Nat.zero_le _) hz);have HBR := kt_ HB1 hb;have HY2 := kp_ hb HY;clear hno hb;obtain ⟨y0, y1, f0, f1, yl⟩ := zF HY2.out
   go_wp2_with fail
   have z3 := zL HY2.out (.int .i8 0) (.slice none 0 0);obtain ⟨k0, k1, -, -, -⟩ := zF z3;refine bodyPost_ret (v := .tuple #[.agg #[.int .i8 0, .slice none 0 0], .bool false]) (by simp [results, Tryz.results106, go_sem, k0, k1]) rfl ?_;rw [HR.out, HF.out];exact ⟨rfl, zH HBR.out (Nat.le_refl _) _ _⟩
  | succ j =>
   have hj : j < l.length := by have := HN.out; omega
   obtain ⟨y, hy⟩ : ∃ y, l[j]? = some y := ⟨l[j]'hj, List.getElem?_eq_getElem hj⟩
   obtain ⟨b, o, G, m, k, hA, c0, c1, c2, hL⟩ := HE.out.at hy;have hbw := HB1.out.trans (hb.mono HB1.out.size);have c0 := zB c0 hbw;have c1 := zB c1 hbw;have c2 := zB c2 hbw;have hL := (hL.weak (Q' := Ck.Cut Q w.heap.size (w.heap.size + 1)) fun b hb hq => .inl ⟨hq, hb⟩).later hbw;clear hbw;have HY2 := kp_ hb HY;have HBR := kt_ HB1 hb;have HB := k0_ hb;have HL := k0_ hL;have HNO := k0_ hno;have HYY := k0_ hy;have e1 : ((j + 1 : Nat) : Int) - 1 = (j : Int) := by omega
   rw [e1];have j1 : (0 : Int) <= j := by omega
   have j2 : (j : Int) < n := by omega
   have j3 : (0 : Int) <= j /\ (j : Int) < n := by omega
   clear hno hb hL hy e1 hj;subst hA;cases hq : (y.1.toList == x.toList)
   ·exact zGd
   ·have HQ := k0_ hq
    have HF := k0_ (Ck.zA3 HYY.out HQ.out fun i' z hi' hz' => HNO.out i' z hi' hz');have HBL := k0_ (fun (b : Nat) (hq : Ck.Cut Q w.heap.size (w.heap.size + 1) b) => hq.ne (X := w.heap.size) (by omega) (by omega));obtain ⟨x0, x1, f0, f1, xl⟩ := zF HY2.out
    go_wp2_with fail
    have z3 := zL HY2.out (.int .i8 y.2.1) (.slice G m k);obtain ⟨k0, k1, -, -, -⟩ := zF z3;refine bodyPost_ret (v := .tuple #[.agg #[.int .i8 y.2.1, .slice G m k], .bool true]) (by simp [results, Tryz.results106, go_sem, k0, k1]) rfl ?_;rw [HR.out, HF.out];refine ⟨G, m, k, rfl, ?_, zH HBR.out (Nat.le_refl _) _ _⟩;exact (HL.out.set2 HBL.out _ _).weak fun b _ hq => hq.out (by omega)
theorem zAB (Q : Nat -> Prop) (h : Hd) (p : Pl) (l : Ck.Env) (A : Option Addr) (n c : Nat) (w : World) (hE : Ck.EAt Q w l A n c) (hnm : h.name.size <= 281474976710656) :
  Calls Tryz.prog 69 #[.agg (tC_ h p), .slice A n c] w (Ck.Post Q w (match Ck.fnd l h.name with | some a => .ok a | none => .bad 41 h.pos h.name)) := by
 try unfold tC_
 have HB2 := k0_ (zZ w (.cells (tC_ h p) 28) (.cells #[.int .i8 0, .slice none 0 0] 25));obtain ⟨h0, h1⟩ := zT w (.cells (tC_ h p) 28) (.cells #[.int .i8 0, .slice none 0 0] 25);have HX := k0_ h0;have HY := k0_ h1;have HCL := k0_ (fun W => xk h.name hnm W);have HA := k0_ (fun (W : World) (hb : Below w.heap.size w W) => uG (fun b => Q b /\ b < w.heap.size) h.name l A n c W ((hE.weak (fun b hl hq => ⟨hq, hl⟩)).below hb));have hzz : ((w.alloc (.cells (tC_ h p) 28)).alloc (.cells #[.int .i8 0, .slice none 0 0] 25)).heap.size = w.heap.size + 2 := by simp
 have HZ := k0_ hzz;obtain ⟨R, hR⟩ : ∃ R, R = (match Ck.fnd l h.name with | some a => Ck.R.ok a | none => Ck.R.bad 41 h.pos h.name) := ⟨_, rfl⟩
 rw [← hR];have HR := k0_ hR;clear h0 h1 hE hR hzz
 go_enter Tryz.func69, Tryz.ntmps69
 go_upto_region 1 with fail
 generalize (w.alloc (.cells (tC_ h p) 28)).alloc (.cells #[.int .i8 0, .slice none 0 0] 25) = w1 at *;obtain ⟨q0, q1, q2, q3, q4, q5, q6, q7, q8, q9, q10, ql⟩ := zJ HX.out
 cases hf : Ck.fnd l h.name with
 | none =>
  have HF := k0_ hf;rw [hf] at HA;clear hf
  go_wp2_with fail
  refine (HA.out _ HB2.out).mono ?_;rintro e w5 ⟨rfl, hb5⟩;have hb6 := zX w5 (.cells #[.int .i8 0, .slice none 0 0] 25);have HB6 := k0_ (HB2.out.trans ((hb5.trans (hb6.mono hb5.size)).mono HB2.out.size));have HX6 := k0_ (zA (hb5.trans (hb6.mono hb5.size)) (zC HX.out) HX.out);clear q0 q1 q2 q3 q4 q5 q6 q7 q8 q9 q10 ql hb5 hb6
  go_upto_region 3 with fail
  generalize w5.alloc (.cells #[.int .i8 0, .slice none 0 0] 25) = wr at *;obtain ⟨q0, q1, q2, q3, q4, q5, q6, q7, q8, q9, q10, ql⟩ := zJ HX6.out;have HQ1 := k0_ q1;have HQ9 := k0_ q9
  have HFIN := k0_ (fun (u : World) (hbu : Below wr.heap.size wr u) => (show Ck.Post Q w R (.panicked [{ v := .iface 54 (.pointer (some ⟨u.heap.size, 0, none⟩)), recovered := false }]) (u.alloc (.cells #[.int .i64 41, .int .i64 h.pos, .string h.name] 71)) from by
   rw [HR.out, HF.out]
   exact ⟨u.heap.size, rfl, zD u _, Nat.le_trans HB6.out.size hbu.size, (HB6.out.trans (hbu.mono HB6.out.size)).alloc (Nat.le_trans HB6.out.size hbu.size) _⟩))
  clear q0 q2 q3 q4 q5 q6 q7 q8 q10;have D0 : Below wr.heap.size wr wr.drew := (Below.refl _ _).drew
  go_region_with (first
   | (go_at_call 107; (with_reducible refine (HCL.out _).mono ?_); rintro e u ⟨rfl, hbu⟩; have D1 := D0.trans (hbu.mono D0.size); have e9 := zB HQ9.out D1; have HFU := k0_ (HFIN.out u D1); clear hbu)
   | (with_reducible (refine (show bodyPost _ _ _ (.panic _) _ _ from ?_)); refine xW (P := Tryz.prog) (w := wr) ?_))
  all_goals exact ⟨rfl, HFU.out⟩
 | some a =>
  have HF := k0_ hf;rw [hf] at HA;clear hf
  go_wp2_with fail
  refine (HA.out _ HB2.out).mono ?_;rintro e w5 ⟨G, m, cg, rfl, hl, hb5⟩;have hb6 := zX w5 (.cells #[.int .i8 a.1, .slice G m cg] 25);have hs5 := hb5.size;have hz := HZ.out;have HL := k0_ (Ck.Ly.later (Ck.Ly.weak (Q' := Ck.Cut Q w.heap.size (w.heap.size + 2)) (a := a) (w := w5) hl (fun b _ h => Or.elim h (fun h => .inl h.1) (fun h => .inr (by omega)))) hb6);have HB6 := k0_ (HB2.out.trans ((hb5.trans (hb6.mono hb5.size)).mono HB2.out.size));have HY6 := k0_ (zA (hb5.trans (hb6.mono hb5.size)) (zC HY.out) HY.out);have HN6 := k0_ (zD w5 (.cells #[.int .i8 a.1, .slice G m cg] 25));clear q0 q1 q2 q3 q4 q5 q6 q7 q8 q9 q10 ql hb5 hb6 hl
  go_upto_region 4 with fail
  generalize w5.alloc (.cells #[.int .i8 a.1, .slice G m cg] 25) = w6 at *;obtain ⟨y0, y1, f0, f1, yl⟩ := zF HY6.out;obtain ⟨u0, u1, -, -, -⟩ := zF HN6.out
  go_wp2_with fail
  have z3 := zL HY6.out (.int .i8 a.1) (.slice G m cg);obtain ⟨k0, k1, -, -, -⟩ := zF z3;refine bodyPost_ret (v := .agg #[.int .i8 a.1, .slice G m cg]) (by simp [results, Tryz.results69, go_sem, k0, k1]) rfl ?_;rw [HR.out, HF.out];exact ⟨G, m, cg, rfl, (HL.out.set2 (fun b hq => hq.ne (X := w.heap.size + 1) (by omega) (by omega)) _ _).weak (fun b _ hq => hq.out (by omega)), zH HB6.out (by omega) _ _⟩
namespace Cg
open Ck
theorem zDc (D : Ops) (F : Hd -> Tm -> Env -> R) (h : Hd) (kids : Tm) (l : Env) (hk : h.kind = 0) : raw D F h kids l = (match fnd l h.name with | some a => .ok a | none => .bad 41 h.pos h.name) := by
 unfold raw;rw [if_pos hk]
 all_goals (cases fnd l h.name <;> rfl)
theorem zDb (D : Ops) (F : Hd -> Tm -> Env -> R) (h : Hd) (kids : Tm) (l : Env) (hk : h.kind = 1) : raw D F h kids l = .ok (1, .nil) := by
 unfold raw
 simp [hk]
theorem zDT (D : Ops) (F : Hd -> Tm -> Env -> R) (h : Hd) (kids : Tm) (l : Env) (hk : h.kind = 2) : raw D F h kids l = .ok (2, .nil) := by
 unfold raw
 simp [hk]
theorem zDS (D : Ops) (F : Hd -> Tm -> Env -> R) (h : Hd) (kids : Tm) (l : Env) (hk : h.kind = 3) : raw D F h kids l = .ok (2, .nil) := by
 unfold raw
 simp [hk]
theorem zDR (D : Ops) (F : Hd -> Tm -> Env -> R) (h : Hd) (kids : Tm) (l : Env) (hk : h.kind = 4) : raw D F h kids l = bnd (F (k1 kids).1 (k1 kids).2 (l ++ [(h.name, TT h)])) fun b => .ok (mk2 3 (TT h) b) := by
 unfold raw
 simp [hk]
theorem zDQ (D : Ops) (F : Hd -> Tm -> Env -> R) (h : Hd) (kids : Tm) (l : Env) (hk : h.kind = 5) : raw D F h kids l = bnd (F (k1 kids).1 (k1 kids).2 (l ++ [(h.name, mk2 3 (TT h) (UU h)), (h.arg, TT h)])) fun b => if D.ag b (UU h) = true then .ok (mk2 3 (TT h) (UU h)) else fault h 91 := by
 unfold raw
 simp [hk]
theorem zF9 (D : Ops) (F : Hd -> Tm -> Env -> R) (h : Hd) (kids : Tm) (l : Env) (hk : h.kind = 6) : raw D F h kids l = bnd (F (k1 kids).1 (k1 kids).2 l) fun a => bnd (F (k2 kids).1 (k2 kids).2 l) fun b => over D h a b (0, .nil) := by
 unfold raw
 simp [hk]
theorem zDP (D : Ops) (F : Hd -> Tm -> Env -> R) (h : Hd) (kids : Tm) (l : Env) (hk : h.kind = 7) : raw D F h kids l = bnd (F (k1 kids).1 (k1 kids).2 l) fun a => if D.ag a (TT h) = true then F (k2 kids).1 (k2 kids).2 (l ++ [(h.name, TT h)]) else fault h 91 := by
 unfold raw
 simp [hk]
theorem zF8 (D : Ops) (F : Hd -> Tm -> Env -> R) (h : Hd) (kids : Tm) (l : Env) (hk : h.kind = 8) : raw D F h kids l = bnd (F (k1 kids).1 (k1 kids).2 l) fun a => bnd (F (k2 kids).1 (k2 kids).2 l) fun b => bnd (F (k3 kids).1 (k3 kids).2 l) fun c => over D h a b c := by
 unfold raw
 simp [hk]
theorem zF7 (D : Ops) (F : Hd -> Tm -> Env -> R) (h : Hd) (kids : Tm) (l : Env) (hk : h.kind = 9) : raw D F h kids l = bnd (F (k1 kids).1 (k1 kids).2 l) fun a => bnd (F (k2 kids).1 (k2 kids).2 l) fun b => over D h a b (0, .nil) := by
 unfold raw
 simp [hk]
theorem zDa (D : Ops) (F : Hd -> Tm -> Env -> R) (h : Hd) (kids : Tm) (l : Env) (hk : h.kind = 10) : raw D F h kids l = bnd (F (k1 kids).1 (k1 kids).2 l) fun a => over D h a (0, .nil) (0, .nil) := by
 unfold raw
 simp [hk]
theorem zDZ (D : Ops) (F : Hd -> Tm -> Env -> R) (h : Hd) (kids : Tm) (l : Env) (hk : h.kind = 11) : raw D F h kids l = bnd (F (k1 kids).1 (k1 kids).2 l) fun a => over D h a (0, .nil) (0, .nil) := by
 unfold raw
 simp [hk]
theorem zDY (D : Ops) (F : Hd -> Tm -> Env -> R) (h : Hd) (kids : Tm) (l : Env) (hk : h.kind = 12) : raw D F h kids l = bnd (F (k1 kids).1 (k1 kids).2 l) fun a => over D h a (0, .nil) (0, .nil) := by
 unfold raw
 simp [hk]
theorem zDX (D : Ops) (F : Hd -> Tm -> Env -> R) (h : Hd) (kids : Tm) (l : Env) (hk : h.kind = 13) : raw D F h kids l = bnd (F (k1 kids).1 (k1 kids).2 l) fun a => over D h a (0, .nil) (0, .nil) := by
 unfold raw
 simp [hk]
theorem zAd (D : Ops) (F : Hd -> Tm -> Env -> R) (h : Hd) (kids : Tm) (l : Env) (hk : h.kind = 14) : raw D F h kids l = bnd (F (k1 kids).1 (k1 kids).2 l) fun a => if D.asO 5 a = true then bnd (F (k2 kids).1 (k2 kids).2 (l ++ [(h.name, D.asl 5 a)])) fun b => bnd (F (k3 kids).1 (k3 kids).2 (l ++ [(h.arg, D.asr 5 a)])) fun c => meet D h b c else fault h 90 := by
 unfold raw
 simp [hk]
theorem zDW (D : Ops) (F : Hd -> Tm -> Env -> R) (h : Hd) (kids : Tm) (l : Env) (hk : h.kind = 15) : raw D F h kids l = bnd (F (k1 kids).1 (k1 kids).2 l) fun a => bnd (F (k2 kids).1 (k2 kids).2 l) fun b => over D h a b (0, .nil) := by
 unfold raw
 simp [hk]
theorem zDV (D : Ops) (F : Hd -> Tm -> Env -> R) (h : Hd) (kids : Tm) (l : Env) (hk : h.kind = 16) : raw D F h kids l = bnd (F (k1 kids).1 (k1 kids).2 l) fun a => over D h a (0, .nil) (0, .nil) := by
 unfold raw
 simp [hk]
theorem zDU (D : Ops) (F : Hd -> Tm -> Env -> R) (h : Hd) (kids : Tm) (l : Env) (hk : h.kind = 17) : raw D F h kids l = bnd (F (k1 kids).1 (k1 kids).2 l) fun a => over D h a (0, .nil) (0, .nil) := by
 unfold raw
 simp [hk]
theorem zAs (D : Ops) (h : Hd) (a b c : T2) (hk : h.kind = 6) : over D h a b c = if D.asO 3 a = true then (if D.ag b (D.asl 3 a) = true then .ok (D.asr 3 a) else fault h 91) else fault h 90 := by
 unfold over
 simp [hk]
theorem zAr (D : Ops) (h : Hd) (a b c : T2) (hk : h.kind = 8) : over D h a b c = if D.ag a (2, .nil) = true then meet D h b c else fault h 91 := by
 unfold over
 simp [hk]
theorem zAq (D : Ops) (h : Hd) (a b c : T2) (hk : h.kind = 9) : over D h a b c = .ok (mk2 4 a b) := by
 unfold over
 simp [hk]
theorem wT (D : Ops) (h : Hd) (a b c : T2) (hk : h.kind = 10) : over D h a b c = if D.asO 4 a = true then .ok (D.asl 4 a) else fault h 90 := by
 unfold over
 simp [hk]
theorem wS (D : Ops) (h : Hd) (a b c : T2) (hk : h.kind = 11) : over D h a b c = if D.asO 4 a = true then .ok (D.asr 4 a) else fault h 90 := by
 unfold over
 simp [hk]
theorem wR (D : Ops) (h : Hd) (a b c : T2) (hk : h.kind = 12) : over D h a b c = if D.asO 5 (TT h) = true then (if D.ag a (D.asl 5 (TT h)) = true then .ok (mk2 5 (D.asl 5 (TT h)) (D.asr 5 (TT h))) else fault h 91) else fault h 90 := by
 unfold over
 simp [hk]
theorem wQ (D : Ops) (h : Hd) (a b c : T2) (hk : h.kind = 13) : over D h a b c = if D.asO 5 (TT h) = true then (if D.ag a (D.asr 5 (TT h)) = true then .ok (mk2 5 (D.asl 5 (TT h)) (D.asr 5 (TT h))) else fault h 91) else fault h 90 := by
 unfold over
 simp [hk]
theorem wP (D : Ops) (h : Hd) (a b c : T2) (hk : h.kind = 15) : over D h a b c = if D.ag a (1, .nil) = true then (if D.ag b (1, .nil) = true then .ok (opAns h.name) else fault h 91) else fault h 91 := by
 unfold over
 simp [hk]
theorem wO (D : Ops) (h : Hd) (a b c : T2) (hk : h.kind = 16) : over D h a b c = if D.ag a (TT h) = true then .ok (TT h) else fault h 91 := by
 unfold over
 simp [hk]
theorem wN (D : Ops) (h : Hd) (a b c : T2) (hk : h.kind = 17) (hca : D.ca = true) : over D h a b c = if D.ag a (TT h) = true then (if D.gs (TT h) (UU h) = true then .ok (UU h) else fault h 91) else fault h 91 := by
 unfold over
 simp [hk, hca]
end Cg
namespace Ck
def le2 (a b : T2) : Prop := chk a = 0 /\ chk b = 0 /\ Ty.leT a.1 a.2 b.1 b.2 = true
theorem le2.refl {a : T2} (h : chk a = 0) : le2 a a := ⟨h, h, by unfold Ty.leT; simp [Ty.yh]⟩
def eLe : Env -> Env -> Prop
 | [], [] => True
 | b' :: l', b :: l => (b'.1.toList = b.1.toList /\ le2 b'.2 b.2) /\ eLe l' l
 | _, _ => False
theorem eLe.snoc : ∀ {l' l : Env} {x' x : ByteArray} {a' a : T2}, eLe l' l -> x'.toList = x.toList -> le2 a' a -> eLe (l' ++ [(x', a')]) (l ++ [(x, a)])
 | [], [], _, _, _, _, _, h1, h2 => ⟨⟨h1, h2⟩, trivial⟩
 | _ :: _, _ :: _, _, _, _, _, h, h1, h2 => ⟨h.1, eLe.snoc h.2 h1 h2⟩
 | [], _ :: _, _, _, _, _, h, _, _ => h.elim
 | _ :: _, [], _, _, _, _, h, _, _ => h.elim
theorem jV {h : Hd} {a : T2} (hc : chk a = 0) : lift h (.ok a) = .ok a := by simp [lift, hc]
theorem qX {h : Hd} {n : Nat} (ho : Tm.headOk h n = true) (hk : Tm.hasType h.kind = true) : chk (TT h) = 0 := by
 have := Tm.yo ho;unfold Tm.tysOk at this;rw [hk] at this;simp only [Bool.not_true, Bool.false_or, Bool.and_eq_true, beq_iff_eq] at this;exact this.1
theorem xz {h : Hd} {n : Nat} (ho : Tm.headOk h n = true) (hk : Tm.hasTo h.kind = true) : chk (UU h) = 0 := by
 have := Tm.yo ho;unfold Tm.tysOk at this;rw [hk] at this;simp only [Bool.not_true, Bool.false_or, Bool.and_eq_true, beq_iff_eq] at this;exact this.2
structure HdLe (h' h : Hd) : Prop where
 kind : h'.kind = h.kind
 name : Tm.hasName h.kind = true -> h'.name.toList = h.name.toList
 arg : Tm.hasArg h.kind = true -> h'.arg.toList = h.arg.toList
 tt : Tm.hasType h.kind = true -> le2 (TT h') (TT h)
 uu : Tm.hasTo h.kind = true -> le2 (UU h') (UU h)
theorem HdLe.of {h' h : Hd} {n m : Nat} (e : Tm.reH h' h = true) (h1 : Tm.headOk h' n = true) (h2 : Tm.headOk h m = true) : HdLe h' h := by
 unfold Tm.reH at e;simp only [Bool.and_eq_true, beq_iff_eq] at e;obtain ⟨ek, en, ea, -, et, eu⟩ := e;rw [ek] at en ea et eu;refine ⟨ek, fun q => ?_, fun q => ?_, fun q => ?_, fun q => ?_⟩
 ·rw [q] at en; simpa using en
 ·rw [q] at ea; simpa using ea
 ·rw [q] at et
  exact ⟨qX h1 (by rw [ek]; exact q), qX h2 q, by rw [Bool.not_true, Bool.false_or] at et; exact et⟩
 ·rw [q] at eu
  exact ⟨xz h1 (by rw [ek]; exact q), xz h2 q, by rw [Bool.not_true, Bool.false_or] at eu; exact eu⟩
end Ck
set_option maxHeartbeats 1000000
set_option maxRecDepth 100000
open Go.RowKit
theorem xG (f : FuncId) (g : Addr) (q : Hd -> Tm -> Bool) (kids : Tm) (A : Option Addr) (n c : Nat) (w : World) (hL : Tm.Lies w kids A 0) (hn : n = Tm.len kids) (hnc : n <= c) (hc : c <= maxLen)
  (hcf : ∀ (args : Array Value) (W : World), (callFunc f args).run Tryz.prog W = .ok (.enter f args) W)
  (hf : ∀ (h : Hd) (kids' : Tm) (p : Pl) (W : World), Tm.nodes kids' < Tm.nodes kids -> Tm.Is W h kids' p -> Below w.heap.size w W -> Calls Tryz.prog f #[.agg (tC_ h p), .pointer (some g)] W fun e w' => e = .returned (.bool (q h kids')) /\ Below W.heap.size W w') :
  Calls Tryz.prog 102 #[.slice A n c, .func (Fn.func f) #[] #[.pointer (some g)]] w fun e w' => e = .returned (.int .i64 (Tm.firstI q kids 0)) /\ Below w.heap.size w w' := by
 try unfold tC_
 exact zGz
theorem kP (f : FuncId) (g : Addr) (q : Hd -> Tm -> Bool) (kids : Tm) (A : Option Addr) (n c : Nat) (w : World) (hL : Tm.Lies w kids A 0) (hn : n = Tm.len kids) (hnc : n <= c) (hc : c <= maxLen)
  (hcf : ∀ (args : Array Value) (W : World), (callFunc f args).run Tryz.prog W = .ok (.enter f args) W)
  (hf : ∀ (h : Hd) (kids' : Tm) (p : Pl) (W : World), Tm.nodes kids' < Tm.nodes kids -> Tm.Is W h kids' p -> Below w.heap.size w W -> Calls Tryz.prog f #[.agg (tC_ h p), .pointer (some g)] W fun e w' => e = .returned (.bool (q h kids')) /\ Below W.heap.size W w') :
  Calls Tryz.prog 62 #[.slice A n c, .func (Fn.func f) #[] #[.pointer (some g)]] w fun e w' => e = .returned (.bool (Tm.anyF q kids)) /\ Below w.heap.size w w' := by
 try unfold tC_
 have HI := k0_ (xG f g q kids A n c w hL hn hnc hc hcf hf);exact zGN
namespace Ck
def hasF (kd : Int) : Tm -> Bool
 | .nil => false
 | .node h kids r => (h.kind == kd) || hasF kd kids || hasF kd r
def hasT (kd : Int) (h : Hd) (kids : Tm) : Bool := (h.kind == kd) || hasF kd kids
theorem zA0 (kd : Int) : ∀ t : Tm, hasF kd t = Tm.anyF (hasT kd) t
 | .nil => rfl
 | .node h kids r => by
  simp only [hasF, Tm.anyF, hasT];rw [zA0 kd r]
theorem kZ : ∀ t : Tm, castF t = hasF 17 t
 | .nil => rfl
 | .node h kids r => by
  simp only [castF, hasF];rw [kZ kids, kZ r]
theorem kY (h : Hd) (kids : Tm) : castT h kids = hasT 17 h kids := by unfold castT hasT; rw [kZ]
def refK (kd : Int) (h : Hd) (kids : Tm) : Int := if Tm.chk h kids ≠ 0 then Tm.chk h kids else if hasT kd h kids = true then 30 else 0
def refKO (kd : Int) (h : Hd) (kids : Tm) : Option (Int × Int) := if refK kd h kids = 0 then none else some (refK kd h kids, 0)
end Ck
set_option maxHeartbeats 4000000
set_option maxRecDepth 100000
open Go.RowKit
theorem zEp (args : Array Value) (W : World) : (callFunc 63 args).run Tryz.prog W = .ok (.enter 63 args) W := by simp [go_sem]
theorem zCn (kd : Int) (g : Addr) (h : Hd) (p : Pl) (w : World) (R : Bool) (hg : ∀ W : World, Below w.heap.size w W -> W.cell? g = some (.int .i8 kd))
  (hC : ∀ W : World, Below w.heap.size w W -> Calls Tryz.prog 36 #[.agg (tC_ h p), .int .i8 kd] W fun e w' => e = .returned (.bool R) /\ Below W.heap.size W w') :
  Calls Tryz.prog 63 #[.agg (tC_ h p), .pointer (some g)] w fun e w' => e = .returned (.bool R) /\ Below w.heap.size w w' := by
 try unfold tC_
 have HB1 := k0_ (zX w (.cells (tC_ h p) 28));have HX := k0_ (zD w (.cells (tC_ h p) 28));have hgg := hg _ HB1.out;have HC := k0_ (hC _ HB1.out);clear hg hC
 go_enter Tryz.func63, Tryz.ntmps63
 go_upto_region 1 with fail
 generalize w.alloc (.cells (tC_ h p) 28) = w1 at *;obtain ⟨q0, q1, q2, q3, q4, q5, q6, q7, q8, q9, q10, ql⟩ := zJ HX.out
 go_wp2_with fail
 refine HC.out.mono ?_;rintro e w2 ⟨rfl, hb⟩;have HB2 := kt_ HB1 hb;clear hb
 go_wp2_with fail
 go_ret
 exact ⟨rfl, HB2.out⟩
theorem zCm (kd : Int) (K : Nat) : ∀ (h : Hd) (kids : Tm) (p : Pl) (w : World), Tm.nodes kids < K -> Tm.Is w h kids p ->
  Calls Tryz.prog 36 #[.agg (tC_ h p), .int .i8 kd] w fun e w' => e = .returned (.bool (Ck.hasT kd h kids)) /\ Below w.heap.size w w' := by
 try unfold tC_
 induction K with
 | zero => intro _ _ _ _ hK; omega
 | succ K ih =>
  intro h kids p w hK hIs;have hB0 := zZ w (.cells (tC_ h p) 28) (.cells #[.int .i8 kd] 22);obtain ⟨h0, h1⟩ := zT w (.cells (tC_ h p) 28) (.cells #[.int .i8 kd] 22);have HX := k0_ h0;have HY := k0_ h1;have hI := hIs.below hB0
  have CC := k0_ (kP 63 ⟨w.heap.size + 1, 0, none⟩ (Ck.hasT kd) kids p.A p.n p.c _ hI.lies hI.fit.n_eq hI.fit.n_le hI.fit.c_le zEp
   (fun h1 k1 q W h2 h3 h4 => zCn kd _ h1 q W (Ck.hasT kd h1 k1) (fun U hU => (vS (zA (h4.trans (hU.mono h4.size)) (zC HY.out) HY.out)).1) (fun U hU => ih h1 k1 q U (by omega) (h3.below hU))))
  rw [← Ck.zA0] at CC;obtain ⟨b0, hb0⟩ : ∃ b, (h.kind == kd) = b := ⟨_, rfl⟩
  obtain ⟨R, hR⟩ : ∃ b, Ck.hasF kd kids = b := ⟨_, rfl⟩
  have hres : Ck.hasT kd h kids = (b0 || R) := by unfold Ck.hasT; rw [hb0, hR]
  rw [hres];rw [hR] at CC;have HB0 := k0_ hB0;clear ih hIs hI hres hR h0 h1 hB0;cases b0
  all_goals
   go_enter Tryz.func36, Tryz.ntmps36
   go_upto_region 1 with fail
   generalize (w.alloc (.cells (tC_ h p) 28)).alloc (.cells #[.int .i8 kd] 22) = w1 at *;obtain ⟨q0, q1, q2, q3, q4, q5, q6, q7, q8, q9, q10, ql⟩ := zJ HX.out;obtain ⟨y0, -, yl⟩ := vS HY.out
   go_wp2_with fail
   first
    | (go_ret
       exact ⟨rfl, HB0.out⟩)
    | (refine CC.out.mono ?_
       rintro e w2 ⟨rfl, hb⟩;have HB2 := kt_ HB0 hb;clear hb
       go_wp2_with fail
       go_ret
       exact ⟨rfl, HB2.out⟩)
theorem xQ (kd : Int) (w : World) : Calls Tryz.prog 13 #[.int .i8 kd] w fun e w' => ∃ g, e = .returned (.func (Fn.func 34) #[] #[.pointer (some ⟨g, 0, none⟩)]) /\ w'.heap[g]? = some (.cells #[.int .i8 kd] 22 (0, 0)) /\ w.heap.size <= g /\ Below w.heap.size w w' := by
 have HB := k0_ (zX w (.cells #[.int .i8 kd] 22));have HX := k0_ (zD w (.cells #[.int .i8 kd] 22))
 go_enter Tryz.func13, Tryz.ntmps13
 go_wp2_with fail
 go_ret
 exact ⟨w.heap.size, rfl, HX.out, Nat.le_refl _, HB.out⟩
theorem yz (kd : Int) (g : Nat) (h : Hd) (kids : Tm) (p : Pl) (w : World) (hIs : Tm.Is w h kids p) (hG : TGlob w) (hg : w.heap[g]? = some (.cells #[.int .i8 kd] 22 (0, 0))) :
  Calls Tryz.prog 34 #[.agg (tC_ h p), .pointer (some ⟨g, 0, none⟩)] w (Cg.RefPost w (Ck.refKO kd h kids)) := by
 try unfold tC_
 have HB0 := k0_ (zX w (.cells (tC_ h p) 28));have HC := k0_ (fun (W : World) (hb : Below w.heap.size w W) => zAR h kids p W (hIs.below hb) (hG.below hb));have HH := k0_ (fun (W : World) (hb : Below w.heap.size w W) => zCm kd (Tm.nodes kids + 1) h kids p W (Nat.lt_succ_self _) (hIs.below hb));have HKG := k0_ (fun (W : World) (hb : Below w.heap.size w W) => (vS (zA hb (zC hg) hg)).1);have HX := k0_ (zD w (.cells (tC_ h p) 28));clear hIs hG hg
 by_cases h0 : Tm.chk h kids = 0
 ·rw [h0] at HC
  cases hc : Ck.hasT kd h kids
  all_goals rw [hc] at HH
  ·have hr : Ck.refKO kd h kids = none := by
    have hu : Ck.refK kd h kids = 0 := by unfold Ck.refK; rw [if_neg (by simpa using h0), if_neg (by rw [hc]; decide)]
    unfold Ck.refKO; rw [if_pos hu]
   rw [hr];clear hc hr h0
   go_enter Tryz.func34, Tryz.ntmps34
   go_upto_region 1 with fail
   generalize w.alloc (.cells (tC_ h p) 28) = w1 at *;obtain ⟨q0, q1, q2, q3, q4, q5, q6, q7, q8, q9, q10, ql⟩ := zJ HX.out
   go_wp2_with fail
   refine (HC.out _ HB0.out).mono ?_;rintro e w2 ⟨rfl, hb2⟩;have HB2 := kt_ HB0 hb2;have HX2 := kp_ hb2 HX;clear q0 q1 q2 q3 q4 q5 q6 q7 q8 q9 q10 ql;obtain ⟨q0, q1, q2, q3, q4, q5, q6, q7, q8, q9, q10, ql⟩ := zJ HX2.out;have hk := HKG.out _ HB2.out;clear hb2
   go_wp2_with fail
   refine (HH.out _ HB2.out).mono ?_;rintro e w3 ⟨rfl, hb3⟩;have HB3 := kt_ HB2 hb3;clear hb3 hk q0 q1 q2 q3 q4 q5 q6 q7 q8 q9 q10 ql
   go_wp2_with fail
   go_ret
   exact ⟨rfl, HB3.out⟩
  ·have hr : Ck.refKO kd h kids = some (30, 0) := by
    have hu : Ck.refK kd h kids = 30 := by unfold Ck.refK; rw [if_neg (by simpa using h0), if_pos hc]
    unfold Ck.refKO; rw [hu]; rfl
   rw [hr];clear hc hr h0
   go_enter Tryz.func34, Tryz.ntmps34
   go_upto_region 1 with fail
   generalize w.alloc (.cells (tC_ h p) 28) = w1 at *;obtain ⟨q0, q1, q2, q3, q4, q5, q6, q7, q8, q9, q10, ql⟩ := zJ HX.out
   go_wp2_with fail
   refine (HC.out _ HB0.out).mono ?_;rintro e w2 ⟨rfl, hb2⟩;have HB2 := kt_ HB0 hb2;have HX2 := kp_ hb2 HX;clear q0 q1 q2 q3 q4 q5 q6 q7 q8 q9 q10 ql;obtain ⟨q0, q1, q2, q3, q4, q5, q6, q7, q8, q9, q10, ql⟩ := zJ HX2.out;have hk := HKG.out _ HB2.out;clear hb2
   go_wp2_with fail
   refine (HH.out _ HB2.out).mono ?_;rintro e w3 ⟨rfl, hb3⟩;have HB3 := kt_ HB2 hb3;have HB4 := k0_ (HB3.out.alloc HB3.out.size (.cells #[.int .i64 30, .int .i64 0, .string ⟨#[]⟩] 71));have HF := k0_ (zD w3 (.cells #[.int .i64 30, .int .i64 0, .string ⟨#[]⟩] 71));clear hb3 hk q0 q1 q2 q3 q4 q5 q6 q7 q8 q9 q10 ql
   go_wp2_with fail
   go_ret
   exact ⟨w3.heap.size, rfl, HF.out, HB3.out.size, HB4.out⟩
 ·have hr : Ck.refKO kd h kids = some (((Tm.chk h kids : Nat) : Int), 0) := by
   have hu : Ck.refK kd h kids = Tm.chk h kids := by unfold Ck.refK; rw [if_pos (by simpa using h0)]
   unfold Ck.refKO; rw [hu, if_neg (by omega)]
  rw [hr];have hcn : (((Tm.chk h kids : Nat) : Int) == 0) = false := by simp; omega
  generalize Tm.chk h kids = C at *;clear hr h0 HH
  go_enter Tryz.func34, Tryz.ntmps34
  go_upto_region 1 with fail
  generalize w.alloc (.cells (tC_ h p) 28) = w1 at *;obtain ⟨q0, q1, q2, q3, q4, q5, q6, q7, q8, q9, q10, ql⟩ := zJ HX.out
  go_wp2_with fail
  refine (HC.out _ HB0.out).mono ?_;rintro e w2 ⟨rfl, hb2⟩;have HB2 := kt_ HB0 hb2;have HB4 := k0_ (HB2.out.alloc HB2.out.size (.cells #[.int .i64 C, .int .i64 0, .string ⟨#[]⟩] 71));have HF := k0_ (zD w2 (.cells #[.int .i64 C, .int .i64 0, .string ⟨#[]⟩] 71));clear hb2 q0 q1 q2 q3 q4 q5 q6 q7 q8 q9 q10 ql
  go_wp2_with fail
  go_ret
  exact ⟨w2.heap.size, rfl, HF.out, HB2.out.size, HB4.out⟩
theorem zCo (p : Option Addr) (w : World) : (Instr.typeAssert (.iface 54 (.pointer p)) 20 54 true).run Tryz.prog w = .ok (.tuple #[.pointer p, .bool true]) w := by kernel_rfl
theorem zEA (w : World) : (Instr.typeAssert .nilIface 20 54 true).run Tryz.prog w = .ok (.tuple #[.pointer none, .bool false]) w := by kernel_rfl
theorem xR (P R : Nat) (g : Addr) (x0 x1 z : Value) (w : World) (h0 : w.cell? ⟨P, 0, none⟩ = some x0) (h1 : w.cell? ⟨P, 1, none⟩ = some x1) (hr : w.cell? ⟨R, 0, none⟩ = some z)
  (hPR : P ≠ R) (f0 : w.frozen? ⟨P, 0, none⟩ = false) (f1 : w.frozen? ⟨P, 1, none⟩ = false) (fr : w.frozen? ⟨R, 0, none⟩ = false) :
  CallsD Tryz.prog 18 #[.pointer (some ⟨P, 0, none⟩), .pointer (some ⟨R, 0, none⟩)] (.panicking [{ v := .iface 54 (.pointer (some g)), recovered := false }]) w fun e u' w' =>
   e = .returned (.tuple #[]) /\ u' = .panicking [{ v := .iface 54 (.pointer (some g)), recovered := true }] /\ w' = ((w.setCell ⟨P, 0, none⟩ (.int .i8 0)).setCell ⟨P, 1, none⟩ (.slice none 0 0)).setCell ⟨R, 0, none⟩ (.iface 54 (.pointer (some g))) := by
 have e1 := zCo
 have k1 : (w.setCell ⟨P, 0, none⟩ (.int .i8 0)).cell? ⟨P, 1, none⟩ = some x1 := by
  rw [World.cell?_setCell_other _ _ _ _ (fun e => by injection e with e1 e2; omega)]; exact h1
 have kr : ((w.setCell ⟨P, 0, none⟩ (.int .i8 0)).setCell ⟨P, 1, none⟩ (.slice none 0 0)).cell? ⟨R, 0, none⟩ = some z := by
  rw [World.cell?_setCell_other _ _ _ _ (fun e => by injection e with e1 e2; omega), World.cell?_setCell_other _ _ _ _ (fun e => by injection e with e1 e2; omega)]; exact hr
 refine callsD_of_wpS Tryz.func18 rfl fun c₀ cs hu => ?_
 apply wpS_seq
 apply wpS_region
 simp [wpOpsS, go_sem, recoverD, hu, Tryz.ntmps18, Exit.thenS]
 refine wpS_of_wp ?_;change Code.wp _ _ _ { tmps := #[.pointer (some ⟨P, 0, none⟩), .pointer (some ⟨R, 0, none⟩), .iface 54 (.pointer (some g)), undef, undef, .iface 54 (.pointer (some g)), undef, undef, undef, undef, undef, undef, undef, undef, undef, undef, undef, undef], defers := [] } w;clear hu
 go_wp2_with fail
 exact ⟨rfl, _, rfl, .tuple #[], by simp [results, Tryz.results18], rfl, rfl, rfl⟩
theorem uF (p r : Addr) (w : World) :
  CallsD Tryz.prog 18 #[.pointer (some p), .pointer (some r)] .returning w fun e u' w' => e = .returned (.tuple #[]) /\ u' = .returning /\ w' = w := by
 have e1 := zEA;have e2 := zBf;refine callsD_of_wpS Tryz.func18 rfl fun c₀ cs hu => ?_
 apply wpS_seq
 apply wpS_region
 simp [wpOpsS, go_sem, recoverD, hu, Tryz.ntmps18, Exit.thenS]
 refine wpS_of_wp ?_;change Code.wp _ _ _ { tmps := #[.pointer (some p), .pointer (some r), .nilIface, undef, undef, .nilIface, undef, undef, undef, undef, undef, undef, undef, undef, undef, undef, undef, undef], defers := [] } w
 go_wp2_with fail
 exact ⟨rfl, .returning, by cases c₀; simp_all, .tuple #[], by simp [results, Tryz.results18], rfl, rfl, rfl⟩
end Go.Proofs.YtkdnnleanoompaaGreatDoor
