import Derived.Test.YtjpohjcnjanoaaaGreatDoorM13
import Derived.Deep.QuietTactic
import Derived.BigQuiet
import Derived.Test.YtjpohjcnjanoaaaGreatDoorKc
import Derived.WalkSmall
namespace Go.Proofs.YtjpohjcnjanoaaaGreatDoor
open Go.RowKit
theorem zn (w : World) (a : Obj) : Below w.heap.size w (w.alloc a) := (Below.refl _ _).alloc (Nat.le_refl _) _
theorem zm (w : World) (a b : Obj) : Below w.heap.size w ((w.alloc a).alloc b) := (zn w a).alloc (by simp) _
theorem yc (w : World) (a b c : Obj) : Below w.heap.size w (((w.alloc a).alloc b).alloc c) := (zm w a b).alloc (by simp; omega) _
theorem jV (w : World) (a b c d : Obj) : Below w.heap.size w ((((w.alloc a).alloc b).alloc c).alloc d) := (yc w a b c).alloc (by simp; omega) _
theorem vS (w : World) (a b c d e : Obj) : Below w.heap.size w (((((w.alloc a).alloc b).alloc c).alloc d).alloc e) := (jV w a b c d).alloc (by simp; omega) _
theorem zz (w : World) (a b : Obj) : ((w.alloc a).alloc b).heap[w.heap.size]? = some a ∧ ((w.alloc a).alloc b).heap[w.heap.size + 1]? = some b := ⟨zJ (zG w a) b, jc w a b⟩
theorem vP (w : World) (a b c : Obj) : (((w.alloc a).alloc b).alloc c).heap[w.heap.size]? = some a ∧ (((w.alloc a).alloc b).alloc c).heap[w.heap.size + 1]? = some b ∧ (((w.alloc a).alloc b).alloc c).heap[w.heap.size + 1 + 1]? = some c := by
  obtain ⟨h1, h2⟩ := zz w a b
  refine ⟨zJ h1 c, zJ h2 c, ?_⟩
  have := zG ((w.alloc a).alloc b) c
  simpa using this
theorem vO (w : World) (a b c d : Obj) : ((((w.alloc a).alloc b).alloc c).alloc d).heap[w.heap.size]? = some a ∧ ((((w.alloc a).alloc b).alloc c).alloc d).heap[w.heap.size + 1]? = some b ∧ ((((w.alloc a).alloc b).alloc c).alloc d).heap[w.heap.size + 1 + 1]? = some c ∧ ((((w.alloc a).alloc b).alloc c).alloc d).heap[w.heap.size + 1 + 1 + 1]? = some d := by
  obtain ⟨h1, h2, h3⟩ := vP w a b c
  refine ⟨zJ h1 d, zJ h2 d, zJ h3 d, ?_⟩
  have := zG (((w.alloc a).alloc b).alloc c) d
  simpa using this
theorem wR (w : World) (a b c d e : Obj) : (((((w.alloc a).alloc b).alloc c).alloc d).alloc e).heap[w.heap.size]? = some a ∧ (((((w.alloc a).alloc b).alloc c).alloc d).alloc e).heap[w.heap.size + 1]? = some b ∧ (((((w.alloc a).alloc b).alloc c).alloc d).alloc e).heap[w.heap.size + 1 + 1]? = some c ∧ (((((w.alloc a).alloc b).alloc c).alloc d).alloc e).heap[w.heap.size + 1 + 1 + 1]? = some d ∧ (((((w.alloc a).alloc b).alloc c).alloc d).alloc e).heap[w.heap.size + 1 + 1 + 1 + 1]? = some e := by
  obtain ⟨h1, h2, h3, h4⟩ := vO w a b c d
  refine ⟨zJ h1 e, zJ h2 e, zJ h3 e, zJ h4 e, ?_⟩
  have := zG ((((w.alloc a).alloc b).alloc c).alloc d) e
  simpa using this

theorem zu (w : World) (a b c : Obj) : ∃ w1, w1 = ((w.alloc a).alloc b).alloc c ∧ Below w.heap.size w w1 ∧ w1.heap[w.heap.size]? = some a ∧ w1.heap[w.heap.size + 1]? = some b ∧ w1.heap[w.heap.size + 1 + 1]? = some c ∧ w1.heap.size = w.heap.size + 3 :=
  ⟨_, rfl, yc w a b c, (vP w a b c).1, (vP w a b c).2.1, (vP w a b c).2.2, by simp⟩

set_option maxHeartbeats 2000000 in
set_option maxRecDepth 100000 in
theorem yV (rv : Cg.Rv) (h : Hd) (p : Pl) (k : Int) (kids : Fo) (A : Option Addr) (n c : Nat) (k' : Int) (kids' : Fo) (A' : Option Addr) (n' c' : Nat) (w : World) (hIs : Ty.Is w k kids A n c) (hIs' : Ty.Is w k' kids' A' n' c') (hS : Shapes w) (hag : rv.D.ag (k, kids) (k', kids') = true) :
    Calls Tryz.prog 150 #[.agg #[.func (Fn.func rv.fr) #[] #[], .func (Fn.func rv.fa) #[] #[], .func (Fn.func rv.fm) #[] #[], .func (Fn.func rv.ft) #[] #[]], .agg #[.int .i8 h.kind, .string h.name, .string h.arg, .int .i64 h.num, .int .i8 h.tk, .slice p.TA p.tn p.tc, .int .i8 h.uk, .slice p.UA p.un p.uc, .int .i64 h.label, .int .i64 h.pos, .slice p.A p.n p.c], .agg #[.int .i8 k, .slice A n c], .agg #[.int .i8 k', .slice A' n' c']] w fun e w' => e = .returned (.tuple #[]) ∧ Below w.heap.size w w' := by
  have hcf := rv.cfa
  have CA := Lib.hid (fun (W : World) (hb : Below w.heap.size w W) => rv.agC k kids A n c k' kids' A' n' c' W (hIs.below hb) (hIs'.below hb) (hS.below hb))
  rw [hag] at CA
  have HB4 := Lib.hid (jV w (.cells #[.func (Fn.func rv.fr) #[] #[], .func (Fn.func rv.fa) #[] #[], .func (Fn.func rv.fm) #[] #[], .func (Fn.func rv.ft) #[] #[]] 54) (.cells #[.int .i8 h.kind, .string h.name, .string h.arg, .int .i64 h.num, .int .i8 h.tk, .slice p.TA p.tn p.tc, .int .i8 h.uk, .slice p.UA p.un p.uc, .int .i64 h.label, .int .i64 h.pos, .slice p.A p.n p.c] 28) (.cells #[.int .i8 k, .slice A n c] 25) (.cells #[.int .i8 k', .slice A' n' c'] 25))
  obtain ⟨-, h1, -, -⟩ := vO w (.cells #[.func (Fn.func rv.fr) #[] #[], .func (Fn.func rv.fa) #[] #[], .func (Fn.func rv.fm) #[] #[], .func (Fn.func rv.ft) #[] #[]] 54) (.cells #[.int .i8 h.kind, .string h.name, .string h.arg, .int .i64 h.num, .int .i8 h.tk, .slice p.TA p.tn p.tc, .int .i8 h.uk, .slice p.UA p.un p.uc, .int .i64 h.label, .int .i64 h.pos, .slice p.A p.n p.c] 28) (.cells #[.int .i8 k, .slice A n c] 25) (.cells #[.int .i8 k', .slice A' n' c'] 25)
  have H1 := Lib.hid h1
  clear hIs hIs' hS hag h1
  go_enter Tryz.func150, Tryz.ntmps150
  go_wp2_with fail
  refine (CA.out _ HB4.out).mono ?_
  rintro e w5 ⟨rfl, hb5⟩
  have HB5 := Lib.hid (HB4.out.trans (hb5.mono HB4.out.size))
  clear hb5
  go_wp2_with fail
  go_end0
  exact ⟨rfl, HB5.out⟩

set_option maxHeartbeats 2000000 in
set_option maxRecDepth 100000 in
theorem xS (rv : Cg.Rv) (h : Hd) (p : Pl) (k : Int) (kids : Fo) (A : Option Addr) (n c : Nat) (k' : Int) (kids' : Fo) (A' : Option Addr) (n' c' : Nat) (w : World) (hIs : Ty.Is w k kids A n c) (hIs' : Ty.Is w k' kids' A' n' c') (hS : Shapes w) (hag : rv.D.ag (k, kids) (k', kids') = false) :
    Calls Tryz.prog 150 #[.agg #[.func (Fn.func rv.fr) #[] #[], .func (Fn.func rv.fa) #[] #[], .func (Fn.func rv.fm) #[] #[], .func (Fn.func rv.ft) #[] #[]], .agg #[.int .i8 h.kind, .string h.name, .string h.arg, .int .i64 h.num, .int .i8 h.tk, .slice p.TA p.tn p.tc, .int .i8 h.uk, .slice p.UA p.un p.uc, .int .i64 h.label, .int .i64 h.pos, .slice p.A p.n p.c], .agg #[.int .i8 k, .slice A n c], .agg #[.int .i8 k', .slice A' n' c']] w (Ck.Gave w 91 h.pos Ck.e0) := by
  have hcf := rv.cfa
  have CA := Lib.hid (fun (W : World) (hb : Below w.heap.size w W) => rv.agC k kids A n c k' kids' A' n' c' W (hIs.below hb) (hIs'.below hb) (hS.below hb))
  rw [hag] at CA
  have HB4 := Lib.hid (jV w (.cells #[.func (Fn.func rv.fr) #[] #[], .func (Fn.func rv.fa) #[] #[], .func (Fn.func rv.fm) #[] #[], .func (Fn.func rv.ft) #[] #[]] 54) (.cells #[.int .i8 h.kind, .string h.name, .string h.arg, .int .i64 h.num, .int .i8 h.tk, .slice p.TA p.tn p.tc, .int .i8 h.uk, .slice p.UA p.un p.uc, .int .i64 h.label, .int .i64 h.pos, .slice p.A p.n p.c] 28) (.cells #[.int .i8 k, .slice A n c] 25) (.cells #[.int .i8 k', .slice A' n' c'] 25))
  obtain ⟨-, h1, -, -⟩ := vO w (.cells #[.func (Fn.func rv.fr) #[] #[], .func (Fn.func rv.fa) #[] #[], .func (Fn.func rv.fm) #[] #[], .func (Fn.func rv.ft) #[] #[]] 54) (.cells #[.int .i8 h.kind, .string h.name, .string h.arg, .int .i64 h.num, .int .i8 h.tk, .slice p.TA p.tn p.tc, .int .i8 h.uk, .slice p.UA p.un p.uc, .int .i64 h.label, .int .i64 h.pos, .slice p.A p.n p.c] 28) (.cells #[.int .i8 k, .slice A n c] 25) (.cells #[.int .i8 k', .slice A' n' c'] 25)
  have H1 := Lib.hid h1
  clear hIs hIs' hS hag h1
  go_enter Tryz.func150, Tryz.ntmps150
  go_wp2_with fail
  refine (CA.out _ HB4.out).mono ?_
  rintro e w5 ⟨rfl, hb5⟩
  have HB5 := Lib.hid (HB4.out.trans (hb5.mono HB4.out.size))
  obtain ⟨q0, q1, q2, q3, q4, q5, q6, q7, q8, q9, q10, ql⟩ := zI (zA hb5 (zC H1.out) H1.out)
  have HF := Lib.hid (jr h p 91 w5)
  clear hb5
  go_wp2_with fail
  refine HF.out.mono ?_
  rintro e w6 hg
  have HG := Lib.hid (Ck.Gave.from hg HB5.out)
  obtain ⟨g, rfl, -⟩ := hg
  go_wp2_with fail
  exact ⟨rfl, HG.out⟩

theorem zP {u : World} {X : Nat} {x0 x1 : Value} {t : TypeId} (h : u.heap[X]? = some (.cells #[x0, x1] t (0, 0))) (a b : Value) : ((u.setCell ⟨X, 0, none⟩ a).setCell ⟨X, 1, none⟩ b).heap[X]? = some (.cells #[a, b] t (0, 0)) := by
  simp [World.setCell, Array.getElem?_modify, h]
theorem zT {u : World} {X Y : Nat} {o : Obj} (h : u.heap[Y]? = some o) (hne : X ≠ Y) (a b : Value) : ((u.setCell ⟨X, 0, none⟩ a).setCell ⟨X, 1, none⟩ b).heap[Y]? = some o := by
  simp [World.setCell, Array.getElem?_modify, h, hne]
theorem zL {N X : Nat} {w u : World} (h : Below N w u) (hX : N ≤ X) (a b : Value) : Below N w ((u.setCell ⟨X, 0, none⟩ a).setCell ⟨X, 1, none⟩ b) := (h.setCell (p := ⟨X, 0, none⟩) hX _).setCell (p := ⟨X, 1, none⟩) hX _
theorem Ck.Ly.set2 {Q : Nat → Prop} {w : World} {a : Ck.T2} {G : Option Addr} {m c : Nat} (h : Ck.Ly Q w a G m c) {X : Nat} (hX : ∀ b, Q b → b ≠ X) (v0 v1 : Value) : Ck.Ly Q ((w.setCell ⟨X, 0, none⟩ v0).setCell ⟨X, 1, none⟩ v1) a G m c := (h.set hX _ _).set hX _ _
def AsPost2 (Q : Nat → Prop) (w : World) (l r : Ck.T2) (e : Ending) (w' : World) : Prop :=
  ∃ G1 m1 c1 G2 m2 c2, e = .returned (.tuple #[.agg #[.int .i8 l.1, .slice G1 m1 c1], .agg #[.int .i8 r.1, .slice G2 m2 c2]]) ∧ Ck.Ly (Ck.Cut Q w.heap.size w.heap.size) w' l G1 m1 c1 ∧ Ck.Ly (Ck.Cut Q w.heap.size w.heap.size) w' r G2 m2 c2 ∧ Below w.heap.size w w'

set_option maxHeartbeats 2000000 in
set_option maxRecDepth 100000 in
theorem uh (rv : Cg.Rv) (Q : Nat → Prop) (h : Hd) (p : Pl) (kd : Int) (a : Ck.T2) (A : Option Addr) (n c : Nat) (w : World) (hkd : 3 ≤ kd ∧ kd ≤ 5) (hL : Ck.Ly Q w a A n c) (hok : Ty.okT a.1 a.2 = true) (hS : Shapes w) (hag : rv.D.asO kd a = true) :
    Calls Tryz.prog 151 #[.agg #[.func (Fn.func rv.fr) #[] #[], .func (Fn.func rv.fa) #[] #[], .func (Fn.func rv.fm) #[] #[], .func (Fn.func rv.ft) #[] #[]], .agg #[.int .i8 h.kind, .string h.name, .string h.arg, .int .i64 h.num, .int .i8 h.tk, .slice p.TA p.tn p.tc, .int .i8 h.uk, .slice p.UA p.un p.uc, .int .i64 h.label, .int .i64 h.pos, .slice p.A p.n p.c], .int .i8 kd, .agg #[.int .i8 a.1, .slice A n c]] w (AsPost2 Q w (rv.D.asl kd a) (rv.D.asr kd a)) := by
  have hcf := rv.cfm
  have CA := Lib.hid (fun (W : World) (hb : Below w.heap.size w W) => rv.asC (fun b => Q b ∧ b < w.heap.size) kd a A n c W hkd ((hL.weak (fun b hl hq => ⟨hq, hl⟩)).later hb) hok (hS.below hb))
  rw [hag] at CA
  have HB5 := Lib.hid (vS w (.cells #[.func (Fn.func rv.fr) #[] #[], .func (Fn.func rv.fa) #[] #[], .func (Fn.func rv.fm) #[] #[], .func (Fn.func rv.ft) #[] #[]] 54) (.cells #[.int .i8 h.kind, .string h.name, .string h.arg, .int .i64 h.num, .int .i8 h.tk, .slice p.TA p.tn p.tc, .int .i8 h.uk, .slice p.UA p.un p.uc, .int .i64 h.label, .int .i64 h.pos, .slice p.A p.n p.c] 28) (.cells #[.int .i8 a.1, .slice A n c] 25) (.cells #[.int .i8 0, .slice none 0 0] 25) (.cells #[.int .i8 0, .slice none 0 0] 25))
  obtain ⟨-, h1, -, h3, h4⟩ := wR w (.cells #[.func (Fn.func rv.fr) #[] #[], .func (Fn.func rv.fa) #[] #[], .func (Fn.func rv.fm) #[] #[], .func (Fn.func rv.ft) #[] #[]] 54) (.cells #[.int .i8 h.kind, .string h.name, .string h.arg, .int .i64 h.num, .int .i8 h.tk, .slice p.TA p.tn p.tc, .int .i8 h.uk, .slice p.UA p.un p.uc, .int .i64 h.label, .int .i64 h.pos, .slice p.A p.n p.c] 28) (.cells #[.int .i8 a.1, .slice A n c] 25) (.cells #[.int .i8 0, .slice none 0 0] 25) (.cells #[.int .i8 0, .slice none 0 0] 25)
  have H1 := Lib.hid h1
  have H3 := Lib.hid h3
  have H4 := Lib.hid h4
  clear hL hok hS hag h1 h3 h4
  go_enter Tryz.func151, Tryz.ntmps151
  go_wp2_with fail
  refine (CA.out _ HB5.out).mono ?_
  rintro e w5 ⟨G1, m1, c1, G2, m2, c2, rfl, hI1, hI2, hb5⟩
  have HB6 := Lib.hid (HB5.out.trans (hb5.mono HB5.out.size))
  obtain ⟨q0, q1, q2, q3, q4, q5, q6, q7, q8, q9, q10, ql⟩ := zI (zA hb5 (zC H1.out) H1.out)
  obtain ⟨x0, x1, f0, f1, xl⟩ := zM (zA hb5 (zC H3.out) H3.out)
  obtain ⟨y0, y1, f2, f3, yl⟩ := zM (zA hb5 (zC H4.out) H4.out)
  have HI1 := Lib.hid (Ck.Ly.weak (Q' := Ck.Cut Q w.heap.size (w.heap.size + 5)) (a := rv.D.asl kd a) (w := w5) hI1 (fun b _ h => Or.elim h (fun h => .inl h.1) (fun h => .inr (by simp at h; omega))))
  have HI2 := Lib.hid (Ck.Ly.weak (Q' := Ck.Cut Q w.heap.size (w.heap.size + 5)) (a := rv.D.asr kd a) (w := w5) hI2 (fun b _ h => Or.elim h (fun h => .inl h.1) (fun h => .inr (by simp at h; omega))))
  have hsz := hb5.size
  simp only [World.size_alloc] at hsz
  clear hI1 hI2
  have hN3 : ∀ b, Ck.Cut Q w.heap.size (w.heap.size + 5) b → b ≠ w.heap.size + 1 + 1 + 1 := fun b h => h.ne (by omega) (by omega)
  have hN4 : ∀ b, Ck.Cut Q w.heap.size (w.heap.size + 5) b → b ≠ w.heap.size + 1 + 1 + 1 + 1 := fun b h => h.ne (by omega) (by omega)
  have hW : ∀ b, Ck.Cut Q w.heap.size (w.heap.size + 5) b → Ck.Cut Q w.heap.size w.heap.size b := fun b h => h.out (by omega)
  have HNN := Lib.hid (And.intro hN3 (And.intro hN4 hW))
  clear hN3 hN4 hW
  have H3 := Lib.hid (zT (zP (zA hb5 (zC H3.out) H3.out) (.int .i8 (rv.D.asl kd a).1) (.slice G1 m1 c1)) (show w.heap.size + 1 + 1 + 1 + 1 ≠ w.heap.size + 1 + 1 + 1 by omega) (.int .i8 (rv.D.asr kd a).1) (.slice G2 m2 c2))
  have H4 := Lib.hid (zP (zT (zA hb5 (zC H4.out) H4.out) (show w.heap.size + 1 + 1 + 1 ≠ w.heap.size + 1 + 1 + 1 + 1 by omega) (.int .i8 (rv.D.asl kd a).1) (.slice G1 m1 c1)) (.int .i8 (rv.D.asr kd a).1) (.slice G2 m2 c2))
  have HJ1 := Lib.hid ((HI1.out.set2 HNN.out.1 (.int .i8 (rv.D.asl kd a).1) (.slice G1 m1 c1)).set2 HNN.out.2.1 (.int .i8 (rv.D.asr kd a).1) (.slice G2 m2 c2))
  have HJ2 := Lib.hid ((HI2.out.set2 HNN.out.1 (.int .i8 (rv.D.asl kd a).1) (.slice G1 m1 c1)).set2 HNN.out.2.1 (.int .i8 (rv.D.asr kd a).1) (.slice G2 m2 c2))
  have HB7 := Lib.hid (zL (zL HB6.out (show w.heap.size ≤ w.heap.size + 1 + 1 + 1 by omega) (.int .i8 (rv.D.asl kd a).1) (.slice G1 m1 c1)) (show w.heap.size ≤ w.heap.size + 1 + 1 + 1 + 1 by omega) (.int .i8 (rv.D.asr kd a).1) (.slice G2 m2 c2))
  clear hb5
  go_upto_region 2 with fail
  generalize (((w5.setCell ⟨w.heap.size + 1 + 1 + 1, 0, none⟩ (.int .i8 (rv.D.asl kd a).1)).setCell ⟨w.heap.size + 1 + 1 + 1, 1, none⟩ (.slice G1 m1 c1)).setCell ⟨w.heap.size + 1 + 1 + 1 + 1, 0, none⟩ (.int .i8 (rv.D.asr kd a).1)).setCell ⟨w.heap.size + 1 + 1 + 1 + 1, 1, none⟩ (.slice G2 m2 c2) = w6 at *
  clear x0 x1 f0 f1 xl y0 y1 f2 f3 yl q0 q1 q2 q3 q4 q5 q6 q7 q8 q9 q10 ql HI1 HI2 HB6
  obtain ⟨x0, x1, f0, f1, xl⟩ := zM H3.out
  obtain ⟨y0, y1, f2, f3, yl⟩ := zM H4.out
  go_wp2_with fail
  go_region
  have H3 : Hid ((((((w6.setCell ⟨w.heap.size + 1 + 1 + 1, 0, none⟩ (.int .i8 (rv.D.asl kd a).1)).setCell ⟨w.heap.size + 1 + 1 + 1, 1, none⟩ (.slice G1 m1 c1)).setCell ⟨w.heap.size + 1 + 1 + 1 + 1, 0, none⟩ (.int .i8 (rv.D.asr kd a).1)).setCell ⟨w.heap.size + 1 + 1 + 1 + 1, 1, none⟩ (.slice G2 m2 c2)).drew).heap[w.heap.size + 1 + 1 + 1]? = some (.cells #[.int .i8 (rv.D.asl kd a).1, .slice G1 m1 c1] 25 (0, 0))) := Lib.hid (zT (zP H3.out _ _) (by omega) _ _)
  have H4 : Hid ((((((w6.setCell ⟨w.heap.size + 1 + 1 + 1, 0, none⟩ (.int .i8 (rv.D.asl kd a).1)).setCell ⟨w.heap.size + 1 + 1 + 1, 1, none⟩ (.slice G1 m1 c1)).setCell ⟨w.heap.size + 1 + 1 + 1 + 1, 0, none⟩ (.int .i8 (rv.D.asr kd a).1)).setCell ⟨w.heap.size + 1 + 1 + 1 + 1, 1, none⟩ (.slice G2 m2 c2)).drew).heap[w.heap.size + 1 + 1 + 1 + 1]? = some (.cells #[.int .i8 (rv.D.asr kd a).1, .slice G2 m2 c2] 25 (0, 0))) := Lib.hid (zP (zT H4.out (by omega) _ _) _ _)
  have HJ1 : Hid (Ck.Ly (Ck.Cut Q w.heap.size (w.heap.size + 5)) (((((w6.setCell ⟨w.heap.size + 1 + 1 + 1, 0, none⟩ (.int .i8 (rv.D.asl kd a).1)).setCell ⟨w.heap.size + 1 + 1 + 1, 1, none⟩ (.slice G1 m1 c1)).setCell ⟨w.heap.size + 1 + 1 + 1 + 1, 0, none⟩ (.int .i8 (rv.D.asr kd a).1)).setCell ⟨w.heap.size + 1 + 1 + 1 + 1, 1, none⟩ (.slice G2 m2 c2)).drew) (rv.D.asl kd a) G1 m1 c1) := Lib.hid (((HJ1.out.set2 HNN.out.1 _ _).set2 HNN.out.2.1 _ _).later (Below.refl _ _).drew)
  have HJ2 : Hid (Ck.Ly (Ck.Cut Q w.heap.size (w.heap.size + 5)) (((((w6.setCell ⟨w.heap.size + 1 + 1 + 1, 0, none⟩ (.int .i8 (rv.D.asl kd a).1)).setCell ⟨w.heap.size + 1 + 1 + 1, 1, none⟩ (.slice G1 m1 c1)).setCell ⟨w.heap.size + 1 + 1 + 1 + 1, 0, none⟩ (.int .i8 (rv.D.asr kd a).1)).setCell ⟨w.heap.size + 1 + 1 + 1 + 1, 1, none⟩ (.slice G2 m2 c2)).drew) (rv.D.asr kd a) G2 m2 c2) := Lib.hid (((HJ2.out.set2 HNN.out.1 _ _).set2 HNN.out.2.1 _ _).later (Below.refl _ _).drew)
  have HB7 : Hid (Below w.heap.size w (((((w6.setCell ⟨w.heap.size + 1 + 1 + 1, 0, none⟩ (.int .i8 (rv.D.asl kd a).1)).setCell ⟨w.heap.size + 1 + 1 + 1, 1, none⟩ (.slice G1 m1 c1)).setCell ⟨w.heap.size + 1 + 1 + 1 + 1, 0, none⟩ (.int .i8 (rv.D.asr kd a).1)).setCell ⟨w.heap.size + 1 + 1 + 1 + 1, 1, none⟩ (.slice G2 m2 c2)).drew)) := Lib.hid ((zL (zL HB7.out (show w.heap.size ≤ w.heap.size + 1 + 1 + 1 by omega) _ _) (show w.heap.size ≤ w.heap.size + 1 + 1 + 1 + 1 by omega) _ _).drew)
  generalize ((((w6.setCell ⟨w.heap.size + 1 + 1 + 1, 0, none⟩ (.int .i8 (rv.D.asl kd a).1)).setCell ⟨w.heap.size + 1 + 1 + 1, 1, none⟩ (.slice G1 m1 c1)).setCell ⟨w.heap.size + 1 + 1 + 1 + 1, 0, none⟩ (.int .i8 (rv.D.asr kd a).1)).setCell ⟨w.heap.size + 1 + 1 + 1 + 1, 1, none⟩ (.slice G2 m2 c2)).drew = w7 at *
  clear x0 x1 f0 f1 xl y0 y1 f2 f3 yl
  obtain ⟨x0, x1, f0, f1, xl⟩ := zM H3.out
  obtain ⟨y0, y1, f2, f3, yl⟩ := zM H4.out
  go_wp2_with fail
  refine bodyPost_ret (v := .tuple #[.agg #[.int .i8 (rv.D.asl kd a).1, .slice G1 m1 c1], .agg #[.int .i8 (rv.D.asr kd a).1, .slice G2 m2 c2]]) (by simp [results, Tryz.results151, go_sem, *]) rfl ⟨G1, m1, c1, G2, m2, c2, rfl, HJ1.out.weak (fun b _ h => HNN.out.2.2 b h), HJ2.out.weak (fun b _ h => HNN.out.2.2 b h), HB7.out⟩

set_option maxHeartbeats 2000000 in
set_option maxRecDepth 100000 in
theorem zAe (rv : Cg.Rv) (Q : Nat → Prop) (h : Hd) (p : Pl) (kd : Int) (a : Ck.T2) (A : Option Addr) (n c : Nat) (w : World) (hkd : 3 ≤ kd ∧ kd ≤ 5) (hL : Ck.Ly Q w a A n c) (hok : Ty.okT a.1 a.2 = true) (hS : Shapes w) (hag : rv.D.asO kd a = false) :
    Calls Tryz.prog 151 #[.agg #[.func (Fn.func rv.fr) #[] #[], .func (Fn.func rv.fa) #[] #[], .func (Fn.func rv.fm) #[] #[], .func (Fn.func rv.ft) #[] #[]], .agg #[.int .i8 h.kind, .string h.name, .string h.arg, .int .i64 h.num, .int .i8 h.tk, .slice p.TA p.tn p.tc, .int .i8 h.uk, .slice p.UA p.un p.uc, .int .i64 h.label, .int .i64 h.pos, .slice p.A p.n p.c], .int .i8 kd, .agg #[.int .i8 a.1, .slice A n c]] w (Ck.Gave w 90 h.pos Ck.e0) := by
  have hcf := rv.cfm
  have CA := Lib.hid (fun (W : World) (hb : Below w.heap.size w W) => rv.asC (fun b => Q b ∧ b < w.heap.size) kd a A n c W hkd ((hL.weak (fun b hl hq => ⟨hq, hl⟩)).later hb) hok (hS.below hb))
  rw [hag] at CA
  have HB5 := Lib.hid (vS w (.cells #[.func (Fn.func rv.fr) #[] #[], .func (Fn.func rv.fa) #[] #[], .func (Fn.func rv.fm) #[] #[], .func (Fn.func rv.ft) #[] #[]] 54) (.cells #[.int .i8 h.kind, .string h.name, .string h.arg, .int .i64 h.num, .int .i8 h.tk, .slice p.TA p.tn p.tc, .int .i8 h.uk, .slice p.UA p.un p.uc, .int .i64 h.label, .int .i64 h.pos, .slice p.A p.n p.c] 28) (.cells #[.int .i8 a.1, .slice A n c] 25) (.cells #[.int .i8 0, .slice none 0 0] 25) (.cells #[.int .i8 0, .slice none 0 0] 25))
  obtain ⟨-, h1, -, h3, h4⟩ := wR w (.cells #[.func (Fn.func rv.fr) #[] #[], .func (Fn.func rv.fa) #[] #[], .func (Fn.func rv.fm) #[] #[], .func (Fn.func rv.ft) #[] #[]] 54) (.cells #[.int .i8 h.kind, .string h.name, .string h.arg, .int .i64 h.num, .int .i8 h.tk, .slice p.TA p.tn p.tc, .int .i8 h.uk, .slice p.UA p.un p.uc, .int .i64 h.label, .int .i64 h.pos, .slice p.A p.n p.c] 28) (.cells #[.int .i8 a.1, .slice A n c] 25) (.cells #[.int .i8 0, .slice none 0 0] 25) (.cells #[.int .i8 0, .slice none 0 0] 25)
  have H1 := Lib.hid h1
  have H3 := Lib.hid h3
  have H4 := Lib.hid h4
  clear hL hok hS hag h1 h3 h4
  go_enter Tryz.func151, Tryz.ntmps151
  go_wp2_with fail
  refine (CA.out _ HB5.out).mono ?_
  rintro e w5 ⟨G1, m1, c1, G2, m2, c2, rfl, hI1, hI2, hb5⟩
  have HB6 := Lib.hid (HB5.out.trans (hb5.mono HB5.out.size))
  obtain ⟨q0, q1, q2, q3, q4, q5, q6, q7, q8, q9, q10, ql⟩ := zI (zA hb5 (zC H1.out) H1.out)
  obtain ⟨x0, x1, f0, f1, xl⟩ := zM (zA hb5 (zC H3.out) H3.out)
  obtain ⟨y0, y1, f2, f3, yl⟩ := zM (zA hb5 (zC H4.out) H4.out)
  have HI1 := Lib.hid (Ck.Ly.weak (Q' := Ck.Cut Q w.heap.size (w.heap.size + 5)) (a := rv.D.asl kd a) (w := w5) hI1 (fun b _ h => Or.elim h (fun h => .inl h.1) (fun h => .inr (by simp at h; omega))))
  have HI2 := Lib.hid (Ck.Ly.weak (Q' := Ck.Cut Q w.heap.size (w.heap.size + 5)) (a := rv.D.asr kd a) (w := w5) hI2 (fun b _ h => Or.elim h (fun h => .inl h.1) (fun h => .inr (by simp at h; omega))))
  have hsz := hb5.size
  simp only [World.size_alloc] at hsz
  clear hI1 hI2
  have HF := Lib.hid (jr h p 90)
  clear hb5
  go_wp2_with fail
  refine (HF.out _).mono ?_
  rintro e w6 hg
  have HG := Lib.hid (Ck.Gave.from (w := w) hg (by repeat' (first | exact HB6.out | refine Below.setCell ?_ (by simp; omega) _)))
  obtain ⟨g, rfl, -⟩ := hg
  go_wp2_with fail
  exact ⟨rfl, HG.out⟩

end Go.Proofs.YtjpohjcnjanoaaaGreatDoor
namespace Go.Proofs.YtjpohjcnjanoaaaGreatDoor
open Go.RowKit

set_option maxHeartbeats 2000000 in
set_option maxRecDepth 100000 in
theorem zBk (rv : Cg.Rv) (Q : Nat → Prop) (h : Hd) (p : Pl) (a : Ck.T2) (A : Option Addr) (n c : Nat) (b : Ck.T2) (A' : Option Addr) (n' c' : Nat) (w : World) (hL : Ck.Ly Q w a A n c) (hL' : Ck.Ly Q w b A' n' c') (hS : Shapes w) (hag : rv.D.ag a b = false) :
    Calls Tryz.prog 152 #[.agg #[.func (Fn.func rv.fr) #[] #[], .func (Fn.func rv.fa) #[] #[], .func (Fn.func rv.fm) #[] #[], .func (Fn.func rv.ft) #[] #[]], .agg #[.int .i8 h.kind, .string h.name, .string h.arg, .int .i64 h.num, .int .i8 h.tk, .slice p.TA p.tn p.tc, .int .i8 h.uk, .slice p.UA p.un p.uc, .int .i64 h.label, .int .i64 h.pos, .slice p.A p.n p.c], .agg #[.int .i8 a.1, .slice A n c], .agg #[.int .i8 b.1, .slice A' n' c']] w (Ck.Gave w 91 h.pos Ck.e0) := by
  have HB5 := Lib.hid (vS w (.cells #[.func (Fn.func rv.fr) #[] #[], .func (Fn.func rv.fa) #[] #[], .func (Fn.func rv.fm) #[] #[], .func (Fn.func rv.ft) #[] #[]] 54) (.cells #[.int .i8 h.kind, .string h.name, .string h.arg, .int .i64 h.num, .int .i8 h.tk, .slice p.TA p.tn p.tc, .int .i8 h.uk, .slice p.UA p.un p.uc, .int .i64 h.label, .int .i64 h.pos, .slice p.A p.n p.c] 28) (.cells #[.int .i8 a.1, .slice A n c] 25) (.cells #[.int .i8 b.1, .slice A' n' c'] 25) (.cells #[.int .i8 0, .slice none 0 0] 25))
  have CW := Lib.hid (fun (W : World) (hb : Below w.heap.size w W) => xS rv h p a.1 a.2 A n c b.1 b.2 A' n' c' W (hL.later hb).is (hL'.later hb).is (hS.below hb) hag)
  clear hL hL' hS hag
  go_enter Tryz.func152, Tryz.ntmps152
  go_wp2_with fail
  refine (CW.out _ HB5.out).mono ?_
  rintro e w6 hg
  have HG := Lib.hid (Ck.Gave.from (w := w) hg HB5.out)
  obtain ⟨g, rfl, -⟩ := hg
  go_wp2_with fail
  exact ⟨rfl, HG.out⟩

set_option maxHeartbeats 2000000 in
set_option maxRecDepth 100000 in
theorem zAg (rv : Cg.Rv) (Q : Nat → Prop) (h : Hd) (p : Pl) (a : Ck.T2) (A : Option Addr) (n c : Nat) (b : Ck.T2) (A' : Option Addr) (n' c' : Nat) (w : World) (hL : Ck.Ly Q w a A n c) (hL' : Ck.Ly Q w b A' n' c') (hS : Shapes w) (hag : rv.D.ag a b = true) :
    Calls Tryz.prog 152 #[.agg #[.func (Fn.func rv.fr) #[] #[], .func (Fn.func rv.fa) #[] #[], .func (Fn.func rv.fm) #[] #[], .func (Fn.func rv.ft) #[] #[]], .agg #[.int .i8 h.kind, .string h.name, .string h.arg, .int .i64 h.num, .int .i8 h.tk, .slice p.TA p.tn p.tc, .int .i8 h.uk, .slice p.UA p.un p.uc, .int .i64 h.label, .int .i64 h.pos, .slice p.A p.n p.c], .agg #[.int .i8 a.1, .slice A n c], .agg #[.int .i8 b.1, .slice A' n' c']] w (Ck.Gives Q w (rv.D.mt a b)) := by
  have HB5 := Lib.hid (vS w (.cells #[.func (Fn.func rv.fr) #[] #[], .func (Fn.func rv.fa) #[] #[], .func (Fn.func rv.fm) #[] #[], .func (Fn.func rv.ft) #[] #[]] 54) (.cells #[.int .i8 h.kind, .string h.name, .string h.arg, .int .i64 h.num, .int .i8 h.tk, .slice p.TA p.tn p.tc, .int .i8 h.uk, .slice p.UA p.un p.uc, .int .i64 h.label, .int .i64 h.pos, .slice p.A p.n p.c] 28) (.cells #[.int .i8 a.1, .slice A n c] 25) (.cells #[.int .i8 b.1, .slice A' n' c'] 25) (.cells #[.int .i8 0, .slice none 0 0] 25))
  have CW := Lib.hid (fun (W : World) (hb : Below w.heap.size w W) => yV rv h p a.1 a.2 A n c b.1 b.2 A' n' c' W (hL.later hb).is (hL'.later hb).is (hS.below hb) hag)
  obtain ⟨h0, -, h2, h3, h4⟩ := wR w (.cells #[.func (Fn.func rv.fr) #[] #[], .func (Fn.func rv.fa) #[] #[], .func (Fn.func rv.fm) #[] #[], .func (Fn.func rv.ft) #[] #[]] 54) (.cells #[.int .i8 h.kind, .string h.name, .string h.arg, .int .i64 h.num, .int .i8 h.tk, .slice p.TA p.tn p.tc, .int .i8 h.uk, .slice p.UA p.un p.uc, .int .i64 h.label, .int .i64 h.pos, .slice p.A p.n p.c] 28) (.cells #[.int .i8 a.1, .slice A n c] 25) (.cells #[.int .i8 b.1, .slice A' n' c'] 25) (.cells #[.int .i8 0, .slice none 0 0] 25)
  have hcf := rv.cft
  have CM := Lib.hid (fun (W : World) (hb : Below w.heap.size w W) => rv.mtC (fun b => Q b ∧ b < w.heap.size) a A n c b A' n' c' W ((hL.weak (fun b hl hq => ⟨hq, hl⟩)).later hb) ((hL'.weak (fun b hl hq => ⟨hq, hl⟩)).later hb) hag (hS.below hb))
  have H0 := Lib.hid h0
  have H2 := Lib.hid h2
  have H3 := Lib.hid h3
  have H4 := Lib.hid h4
  clear hL hL' hS hag h0 h2 h3 h4
  go_enter Tryz.func152, Tryz.ntmps152
  go_wp2_with fail
  refine (CW.out _ HB5.out).mono ?_
  rintro e w6 ⟨rfl, hb6⟩
  have HB6 := Lib.hid (HB5.out.trans (hb6.mono HB5.out.size))
  have H0 := Lib.hid (zA hb6 (zC H0.out) H0.out)
  have H2 := Lib.hid (zA hb6 (zC H2.out) H2.out)
  have H3 := Lib.hid (zA hb6 (zC H3.out) H3.out)
  have H4 := Lib.hid (zA hb6 (zC H4.out) H4.out)
  have hz6 := hb6.size
  simp only [World.size_alloc] at hz6
  clear hb6
  obtain ⟨r0, r1, r2, r3, -, -, -, -, rl⟩ := zZ H0.out
  obtain ⟨x0, x1, -, -, xl⟩ := zM H2.out
  obtain ⟨y0, y1, -, -, yl⟩ := zM H3.out
  go_wp2_with fail
  refine (CM.out _ HB6.out).mono ?_
  rintro e w7 ⟨G, m, cg, rfl, hR, hb7⟩
  have HB7 := Lib.hid (HB6.out.trans (hb7.mono HB6.out.size))
  have HL := Lib.hid (Ck.Ly.weak (Q' := Ck.Cut Q w.heap.size (w.heap.size + 5)) (a := rv.D.mt a b) (w := w7) hR (fun b _ h => Or.elim h (fun h => .inl h.1) (fun h => .inr (by omega))))
  have H4 := Lib.hid (zA hb7 (zC H4.out) H4.out)
  clear hR hb7 r0 r1 r2 r3 rl x0 x1 xl y0 y1 yl
  obtain ⟨x0, x1, f0, f1, xl⟩ := zM H4.out
  have HNE := Lib.hid (fun (b : Nat) (hq : Ck.Cut Q w.heap.size (w.heap.size + 5) b) => hq.ne (X := w.heap.size + 1 + 1 + 1 + 1) (by omega) (by omega))
  go_wp2_with fail
  refine bodyPost_ret (v := .agg #[.int .i8 (rv.D.mt a b).1, .slice G m cg]) (by simp [results, Tryz.results152, go_sem, *]) rfl ⟨G, m, cg, rfl, ?_, ?_⟩
  · exact (HL.out.set2 HNE.out _ _).weak fun b _ hq => hq.out (by omega)
  · exact zL HB7.out (by omega) _ _

set_option maxHeartbeats 1000000 in
set_option maxRecDepth 100000 in
theorem wh (s : ByteArray) (w : World) : Calls Tryz.prog 153 #[.string s] w fun e w' => e = .returned (.agg #[.int .i8 (Ck.opAns s).1, .slice none 0 0]) ∧ Below w.heap.size w w' := by
  have HB1 := Lib.hid (zn w (.cells #[.int .i8 0, .slice none 0 0] 25))
  have CO := Lib.hid (fun (k : Int) (W : World) => qI k none 0 0 W)
  have H1 := Lib.hid (zG w (.cells #[.int .i8 0, .slice none 0 0] 25))
  cases h60 : (s.toList == [60]) with
  | true =>
    have hR : (Ck.opAns s).1 = 2 := by unfold Ck.opAns; rw [h60]; rfl
    rw [hR]
    clear hR
    go_enter Tryz.func153, Tryz.ntmps153
    go_wp2_with fail
    refine (CO.out 2 _).mono ?_
    rintro e w2 ⟨rfl, hb2⟩
    obtain ⟨x0, x1, f0, f1, xl⟩ := zM (zA hb2 (zC H1.out) H1.out)
    have HB2 := Lib.hid (HB1.out.trans (hb2.mono HB1.out.size))
    clear hb2 h60
    go_wp2_with fail
    exact bodyPost_ret (v := .agg #[.int .i8 2, .slice none 0 0]) (by simp [results, Tryz.results153, go_sem, *]) rfl ⟨rfl, zL HB2.out (Nat.le_refl _) _ _⟩
  | false =>
    cases h61 : (s.toList == [61]) with
    | true =>
      have hR : (Ck.opAns s).1 = 2 := by unfold Ck.opAns; rw [h60, h61]; rfl
      rw [hR]
      clear hR
      go_enter Tryz.func153, Tryz.ntmps153
      go_wp2_with fail
      refine (CO.out 2 _).mono ?_
      rintro e w2 ⟨rfl, hb2⟩
      obtain ⟨x0, x1, f0, f1, xl⟩ := zM (zA hb2 (zC H1.out) H1.out)
      have HB2 := Lib.hid (HB1.out.trans (hb2.mono HB1.out.size))
      clear hb2 h60 h61
      go_wp2_with fail
      exact bodyPost_ret (v := .agg #[.int .i8 2, .slice none 0 0]) (by simp [results, Tryz.results153, go_sem, *]) rfl ⟨rfl, zL HB2.out (Nat.le_refl _) _ _⟩
    | false =>
      have hR : (Ck.opAns s).1 = 1 := by unfold Ck.opAns; rw [h60, h61]; rfl
      rw [hR]
      clear hR
      go_enter Tryz.func153, Tryz.ntmps153
      go_wp2_with fail
      refine (CO.out 1 _).mono ?_
      rintro e w2 ⟨rfl, hb2⟩
      obtain ⟨x0, x1, f0, f1, xl⟩ := zM (zA hb2 (zC H1.out) H1.out)
      have HB2 := Lib.hid (HB1.out.trans (hb2.mono HB1.out.size))
      clear hb2 h60 h61
      go_wp2_with fail
      exact bodyPost_ret (v := .agg #[.int .i8 1, .slice none 0 0]) (by simp [results, Tryz.results153, go_sem, *]) rfl ⟨rfl, zL HB2.out (Nat.le_refl _) _ _⟩

theorem Ck.jd : ∀ (l : Ck.Env) (x : ByteArray) (i : Nat), i ≤ l.length → (∀ j y, i ≤ j → l[j]? = some y → (y.1.toList == x.toList) = false) → Ck.fnd l x = Ck.fnd (l.take i) x
  | [], x, i, _, _ => by simp
  | b :: l, x, 0, _, h => by
    have h1 := Ck.jd l x 0 (Nat.zero_le _) (fun j y hj hy => h (j + 1) y (by omega) (by rw [List.getElem?_cons_succ]; exact hy))
    have h2 := h 0 b (Nat.le_refl _) rfl
    simp only [List.take_zero] at h1 ⊢
    unfold Ck.fnd
    rw [h1]
    simp [Ck.fnd, h2]
  | b :: l, x, i + 1, hi, h => by
    have h1 := Ck.jd l x i (by simp only [List.length_cons] at hi; omega) (fun j y hj hy => h (j + 1) y (by omega) (by rw [List.getElem?_cons_succ]; exact hy))
    rw [List.take_succ_cons]
    unfold Ck.fnd
    rw [h1]
theorem Ck.zCR {l : Ck.Env} {x : ByteArray} {i : Nat} {y : ByteArray × Ck.T2} (hy : l[i]? = some y) (he : (y.1.toList == x.toList) = true) (h : ∀ j z, i + 1 ≤ j → l[j]? = some z → (z.1.toList == x.toList) = false) : Ck.fnd l x = some y.2 := by
  have hi : i < l.length := by rcases Nat.lt_or_ge i l.length with q | q; exact q; rw [List.getElem?_eq_none q] at hy; cases hy
  rw [Ck.jd l x (i + 1) (by omega) h, List.take_add_one, hy]
  have hs : ∀ m : Ck.Env, Ck.fnd (m ++ [y]) x = some y.2 := by
    intro m
    induction m with
    | nil => simp [Ck.fnd, he]
    | cons b m ih => simp only [List.cons_append]; unfold Ck.fnd; rw [ih]
  exact hs _
theorem Ck.zCP {l : Ck.Env} {x : ByteArray} (h : ∀ (j : Nat) (z : ByteArray × Ck.T2), l[j]? = some z → (z.1.toList == x.toList) = false) : Ck.fnd l x = none := by
  rw [Ck.jd l x 0 (Nat.zero_le _) (fun j y _ hy => h j y hy), List.take_zero]; rfl

set_option maxHeartbeats 2000000 in
set_option maxRecDepth 100000 in
theorem ui (Q : Nat → Prop) (h : Hd) (p : Pl) (l : Ck.Env) (A : Option Addr) (n c : Nat) (w : World) (hE : Ck.EAt Q w l A n c) (hnm : h.name.size ≤ 281474976710656) :
    Calls Tryz.prog 119 #[.agg #[.int .i8 h.kind, .string h.name, .string h.arg, .int .i64 h.num, .int .i8 h.tk, .slice p.TA p.tn p.tc, .int .i8 h.uk, .slice p.UA p.un p.uc, .int .i64 h.label, .int .i64 h.pos, .slice p.A p.n p.c], .slice A n c] w (Ck.Post Q w (match Ck.fnd l h.name with | some a => .ok a | none => .bad 41 h.pos h.name)) := by
  have HB1 := Lib.hid (zm w (.cells #[.int .i8 h.kind, .string h.name, .string h.arg, .int .i64 h.num, .int .i8 h.tk, .slice p.TA p.tn p.tc, .int .i8 h.uk, .slice p.UA p.un p.uc, .int .i64 h.label, .int .i64 h.pos, .slice p.A p.n p.c] 28) (.cells #[.int .i8 0, .slice none 0 0] 25))
  obtain ⟨h0, h1⟩ := zz w (.cells #[.int .i8 h.kind, .string h.name, .string h.arg, .int .i64 h.num, .int .i8 h.tk, .slice p.TA p.tn p.tc, .int .i8 h.uk, .slice p.UA p.un p.uc, .int .i64 h.label, .int .i64 h.pos, .slice p.A p.n p.c] 28) (.cells #[.int .i8 0, .slice none 0 0] 25)
  have HX := Lib.hid h0
  have HY := Lib.hid h1
  have HE := Lib.hid hE
  have hn := hE.n_eq
  have HN := Lib.hid hn
  have hnc := hE.n_le
  have hcm := hE.c_le
  have i5 : (n : Int) ≤ 9223372036854775807 := by unfold maxLen at hcm; omega
  have HCL := Lib.hid (fun W => je h.name hnm W)
  obtain ⟨R, hR⟩ : ∃ R, R = (match Ck.fnd l h.name with | some a => Ck.R.ok a | none => Ck.R.bad 41 h.pos h.name) := ⟨_, rfl⟩
  rw [← hR]
  have HR := Lib.hid hR
  clear h0 h1 hE hn hR
  go_enter Tryz.func119, Tryz.ntmps119
  go_upto_region 1 with fail
  generalize (w.alloc (.cells #[.int .i8 h.kind, .string h.name, .string h.arg, .int .i64 h.num, .int .i8 h.tk, .slice p.TA p.tn p.tc, .int .i8 h.uk, .slice p.UA p.un p.uc, .int .i64 h.label, .int .i64 h.pos, .slice p.A p.n p.c] 28)).alloc (.cells #[.int .i8 0, .slice none 0 0] 25) = w1 at *
  go_wp2_with fail
  go_loopw [5] (fun v5 wr => ∃ i : Nat, v5 = .int .i64 ((i : Int) - 1) ∧ i ≤ n ∧ (∀ (j : Nat) (y : ByteArray × Ck.T2), i ≤ j → l[j]? = some y → (y.1.toList == h.name.toList) = false) ∧ Below w1.heap.size w1 wr) (fun v _ => (intOf v + 1).toNat)
  case atStart =>
    refine ⟨n, rfl, Nat.le_refl _, fun j y hj hy => ?_, Below.refl _ _⟩
    have hnn := HN.out
    rw [List.getElem?_eq_none (by omega)] at hy; cases hy
  case round =>
    obtain ⟨i, rfl, hin, hno, hb⟩ := hrel
    cases i with
    | zero =>
      have hf : Ck.fnd l h.name = none := Ck.zCP fun j z hz => hno j z (Nat.zero_le _) hz
      have HF := Lib.hid hf
      have HBR := Lib.hid (HB1.out.trans (hb.mono HB1.out.size))
      obtain ⟨q0, q1, q2, q3, q4, q5, q6, q7, q8, q9, q10, ql⟩ := zI (zA hb (zC HX.out) HX.out)
      have HQ1 := Lib.hid q1
      have HQ9 := Lib.hid q9
      have HFIN := Lib.hid (fun (u : World) (hbu : Below wr.heap.size wr u) => (show Ck.Post Q w R (.panicked [{ v := .iface 65 (.pointer (some ⟨u.heap.size, 0, none⟩)), recovered := false }]) (u.alloc (.cells #[.int .i64 41, .int .i64 h.pos, .string h.name] 69)) from by
        rw [HR.out, HF.out]
        exact ⟨u.heap.size, rfl, zG u _, Nat.le_trans HBR.out.size hbu.size, (HBR.out.trans (hbu.mono HBR.out.size)).alloc (Nat.le_trans HBR.out.size hbu.size) _⟩))
      clear hno hf hb q0 q2 q3 q4 q5 q6 q7 q8 q10
      go_wp2_with fail
      have D0 : Below wr.heap.size wr wr.drew := (Below.refl _ _).drew
      go_region_with (first
        | (go_at_call 104; (with_reducible refine (HCL.out _).mono ?_); rintro e u ⟨rfl, hbu⟩; have D1 := D0.trans (hbu.mono D0.size); have e9 := zB HQ9.out D1; have HFU := Lib.hid (HFIN.out u D1); clear hbu)
        | (with_reducible (refine (show bodyPost _ _ _ (.panic _) _ _ from ?_)); refine xK (P := Tryz.prog) (w := wr) ?_))
      all_goals exact ⟨rfl, HFU.out⟩
    | succ j =>
      have hj : j < l.length := by have := HN.out; omega
      obtain ⟨y, hy⟩ : ∃ y, l[j]? = some y := ⟨l[j]'hj, List.getElem?_eq_getElem hj⟩
      obtain ⟨b, o, G, m, k, hA, c0, c1, c2, hL⟩ := HE.out.at hy
      have hbw := HB1.out.trans (hb.mono HB1.out.size)
      have c0 := zB c0 hbw
      have c1 := zB c1 hbw
      have c2 := zB c2 hbw
      have hL := (hL.weak (Q' := Ck.Cut Q w.heap.size (w.heap.size + 2)) fun b hb hq => .inl ⟨hq, hb⟩).later hbw
      clear hbw
      obtain ⟨q0, q1, q2, q3, q4, q5, q6, q7, q8, q9, q10, ql⟩ := zI (zA hb (zC HX.out) HX.out)
      have HY2 := Lib.hid (zA hb (zC HY.out) HY.out)
      have HBR := Lib.hid (HB1.out.trans (hb.mono HB1.out.size))
      have HB := Lib.hid hb
      have HL := Lib.hid hL
      have HNO := Lib.hid hno
      have HYY := Lib.hid hy
      have e1 : ((j + 1 : Nat) : Int) - 1 = (j : Int) := by omega
      rw [e1]
      have j1 : (0 : Int) ≤ j := by omega
      have j2 : (j : Int) < n := by omega
      have j3 : (0 : Int) ≤ j ∧ (j : Int) < n := by omega
      clear hno hb hL hy e1 hj
      subst hA
      cases hq : (y.1.toList == h.name.toList)
      · have HQ := Lib.hid hq
        go_wp2_with fail
        go_quiet (fail)
        have HB3 := Lib.hid (show Below w1.heap.size w1 (wr.drewN nq) from HB.out.trans ((below_drewN (Below.refl wr.heap.size wr) nq).mono HB.out.size))
        generalize wr.drewN nq = w3 at *
        go_wp2_with fail
        go_roundw
        case rel =>
          refine ⟨j, by go_num, by omega, fun i' y' hi' hy' => ?_, HB3.out⟩
          rcases Nat.lt_or_ge j i' with g | g
          · exact HNO.out i' y' (by omega) hy'
          · obtain rfl : i' = j := by omega
            have q := HYY.out
            rw [hy'] at q
            injection q with q
            rw [q]; exact HQ.out
        case measure => simp [intOf]
      · have HQ := Lib.hid hq
        go_wp2_with fail
        go_quiet (fail)
        have HD3 := Lib.hid (below_drewN (Below.refl wr.heap.size wr) nq)
        have HB3 := Lib.hid (show Below w1.heap.size w1 (wr.drewN nq) from HB.out.trans (HD3.out.mono HB.out.size))
        have c1 := zB c1 HD3.out
        have c2 := zB c2 HD3.out
        have HL3 := Lib.hid (HL.out.later HD3.out)
        have HY3 := Lib.hid (zA HD3.out (zC HY2.out) HY2.out)
        generalize wr.drewN nq = w3 at *
        obtain ⟨x0, x1, f0, f1, xl⟩ := zM HY3.out
        have HF := Lib.hid (Ck.zCR HYY.out HQ.out fun i' z hi' hz' => HNO.out i' z hi' hz')
        have HB4 := Lib.hid (HB1.out.trans (HB3.out.mono HB1.out.size))
        have HBL := Lib.hid (fun (b : Nat) (hq : Ck.Cut Q w.heap.size (w.heap.size + 2) b) => hq.ne (X := w.heap.size + 1) (by omega) (by omega))
        go_wp2_with fail
        refine bodyPost_ret (v := .agg #[.int .i8 y.2.1, .slice G m k]) (by simp [results, Tryz.results119, go_sem, *]) rfl ?_
        rw [HR.out, HF.out]
        refine ⟨G, m, k, rfl, ?_, zL HB4.out (by omega) _ _⟩
        exact (HL3.out.set2 HBL.out _ _).weak fun b _ hq => hq.out (by omega)

end Go.Proofs.YtjpohjcnjanoaaaGreatDoor
