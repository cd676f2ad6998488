import Derived.Test.YtkdnnleanoompaaGreatDoorM18
import Derived.Test.YtkdnnleanoompaaGreatDoorSt0
namespace Go.Proofs.YtkdnnleanoompaaGreatDoor
open Go.RowKit
namespace Qr
open Ck
def tyO : R -> T2
 | .ok a => a
 | .bad _ _ _ => (0, .nil)
def eO : R -> Int
 | .ok _ => 0
 | .bad E _ _ => E
def pO : R -> Int
 | .ok _ => 0
 | .bad _ p _ => p
def xO : R -> ByteArray
 | .ok _ => ⟨#[]⟩
 | .bad _ _ x => x
def Nz (r : R) : Prop := ∀ E p x, r = .bad E p x -> E ≠ 0
def Post (Q : Nat -> Prop) (w : World) (r : R) (e : Ending) (w' : World) : Prop :=
 Nz r /\ ∃ G m c, e = .returned (.tuple #[.agg #[.int .i8 (tyO r).1, .slice G m c], .agg #[.int .i64 (eO r), .int .i64 (pO r), .string (xO r)]]) /\ Ly (Cut Q w.heap.size w.heap.size) w' (tyO r) G m c /\ Below w.heap.size w w'
theorem Nz.ok (a : T2) : Nz (.ok a) := fun _ _ _ e => by cases e
theorem Nz.fault (h : Hd) {E : Int} (hE : E ≠ 0) : Nz (fault h E) := fun _ _ _ e => by injection e with e; rw [← e]; exact hE
theorem Post.from {Q : Nat -> Prop} {w u w' : World} {r : R} {e : Ending} (h : Post Q u r e w') (hb : Below w.heap.size w u) (hq : ∀ b, b < u.heap.size -> Q b -> Cut Q w.heap.size w.heap.size b) : Post Q w r e w' := by
 obtain ⟨h0, G, m, c, h1, h2, h3⟩ := h;exact ⟨h0, G, m, c, h1, h2.weak (fun b _ q => q.elim (fun q => hq b q.2 q.1) (fun q => .inr (Nat.le_trans hb.size q))), hb.trans (h3.mono hb.size)⟩
theorem Post.flt {Q : Nat -> Prop} {w w' : World} {h : Hd} {E : Int} {e : Ending} (hp : Post Q w (fault h E) e w') : ∃ G m c, e = .returned (.tuple #[.agg #[.int .i8 0, .slice G m c], .agg #[.int .i64 E, .int .i64 h.pos, .string ⟨#[]⟩]]) /\ Ly (Cut Q w.heap.size w.heap.size) w' (0, .nil) G m c /\ Below w.heap.size w w' := by
 obtain ⟨-, G, m, c, h1, h2, h3⟩ := hp;exact ⟨G, m, c, h1, h2, h3⟩
theorem Post.gen {Q : Nat -> Prop} {w w' : World} {r : R} {e : Ending} (hp : Post Q w r e w') : ∃ (a : T2) (E p : Int) (x : ByteArray) (G : Option Addr) (m c : Nat), (tyO r = a /\ eO r = E /\ pO r = p /\ xO r = x) /\ e = .returned (.tuple #[.agg #[.int .i8 a.1, .slice G m c], .agg #[.int .i64 E, .int .i64 p, .string x]]) /\ Ly (Cut Q w.heap.size w.heap.size) w' a G m c /\ Below w.heap.size w w' := by
 obtain ⟨-, G, m, c, h1, h2, h3⟩ := hp;exact ⟨_, _, _, _, G, m, c, ⟨rfl, rfl, rfl, rfl⟩, h1, h2, h3⟩
theorem R.qh {r : R} {a : T2} {E p : Int} {x : ByteArray} (hn : Nz r) (h : tyO r = a /\ eO r = E /\ pO r = p /\ xO r = x) : (E = 0 -> r = .ok a /\ p = 0 /\ x = ⟨#[]⟩) /\ (E ≠ 0 -> r = .bad E p x /\ a = (0, .nil)) := by
 obtain ⟨h1, h2, h3, h4⟩ := h
 cases r with
 | ok b => exact ⟨fun _ => ⟨by rw [← h1]; rfl, h3.symm, h4.symm⟩, fun q => absurd h2.symm q⟩
 | bad E' p' x' =>
  have := hn E' p' x' rfl;refine ⟨fun q => absurd (h2.trans q) this, fun _ => ⟨?_, h1.symm⟩⟩;rw [← h2, ← h3, ← h4]; rfl
end Qr
def LoneF (P : Nat -> Prop) (w : World) (f : Fo) (A : Option Addr) (i : Nat) : Prop := ∀ u : World, (∀ b o v, P b -> w.cell? ⟨b, o, none⟩ = some v -> u.cell? ⟨b, o, none⟩ = some v) -> Ty.Lies u f A i
theorem LoneF.zDr {P : Nat -> Prop} {w : World} : ∀ (f : Fo) (A : Option Addr) (i : Nat), LoneF P w f A i -> Ty.LiesP P w f A i
 | .nil, _, _, _ => trivial
 | .node a b k kids r, A, i, h => by
  obtain ⟨bb, oo, B, c, rfl, hk, x0, x1, h1, h2, h3, h4⟩ := h w (fun _ _ _ _ hc => hc)
  have hP : P bb := by
   refine Classical.byContradiction fun hn => ?_
   obtain ⟨bb', oo', B', c', e, -, y0, -, -, -, -, -⟩ := h (w.setCell ⟨bb, oo + i * 2, none⟩ (.bool true)) fun b o v hb hc => by
    rw [World.cell?_setCell_other _ _ _ _ (fun e => by injection e with e1 e2; exact hn (e1 ▸ hb))]; exact hc
   injection e with e; injection e with e1 e2; subst e1; subst e2
   rw [vY x0] at y0;cases y0
  refine ⟨bb, oo, B, c, rfl, hP, hk, x0, x1, h1, h2, LoneF.zDr kids B 0 fun u hu => ?_, LoneF.zDr r (some ⟨bb, oo, none⟩) (i + 1) fun v hu => ?_⟩
  ·obtain ⟨bb', oo', B', c', e, -, y0, y1, -, -, y3, -⟩ := h u hu
   injection e with e; injection e with e1 e2; subst e1; subst e2
   rw [hu _ _ _ hP x1] at y1;injection y1 with y1; injection y1 with z1 z2 z3; subst z1
   exact y3
  ·obtain ⟨bb', oo', B', c', e, -, y0, y1, -, -, -, y4⟩ := h v hu
   exact e ▸ y4
theorem Ck.Ly.isP {Q : Nat -> Prop} {w : World} {a : Ck.T2} {G : Option Addr} {m c : Nat} (h : Ck.Ly Q w a G m c) : Ty.IsP Q w a.1 a.2 G m c := by
 have hi := h.is;exact ⟨LoneF.zDr _ _ _ (fun u hu => (h u hu).lies), hi.n_eq, hi.n_le, hi.c_le, hi.lo, hi.hi⟩
theorem Ck.Ly.ofP {Q : Nat -> Prop} {w : World} {a : Ck.T2} {G : Option Addr} {m c : Nat} (h : Ty.IsP Q w a.1 a.2 G m c) : Ck.Ly Q w a G m c := fun _ hu => (h.to (P' := fun _ => True) (fun b o v hp hc => ⟨trivial, hu b o v hp hc⟩)).is
theorem zh {u : World} {X : Nat} {x0 x1 x2 : Value} {t : TypeId} (h : u.heap[X]? = some (.cells #[x0, x1, x2] t (0, 0))) (a b c : Value) : (((u.setCell ⟨X, 0, none⟩ a).setCell ⟨X, 1, none⟩ b).setCell ⟨X, 2, none⟩ c).heap[X]? = some (.cells #[a, b, c] t (0, 0)) := by
 simp [World.setCell, Array.getElem?_modify, h]
theorem zQ {u : World} {X Y : Nat} {o : Obj} (h : u.heap[Y]? = some o) (hne : X ≠ Y) (a b c : Value) : (((u.setCell ⟨X, 0, none⟩ a).setCell ⟨X, 1, none⟩ b).setCell ⟨X, 2, none⟩ c).heap[Y]? = some o := by
 exact zAH
theorem qI {N X : Nat} {w u : World} (h : Below N w u) (hX : N <= X) (a b c : Value) : Below N w (((u.setCell ⟨X, 0, none⟩ a).setCell ⟨X, 1, none⟩ b).setCell ⟨X, 2, none⟩ c) := ((h.setCell (p := ⟨X, 0, none⟩) hX _).setCell (p := ⟨X, 1, none⟩) hX _).setCell (p := ⟨X, 2, none⟩) hX _
theorem Ck.Ly.zm {Q : Nat -> Prop} {w : World} {a : Ck.T2} {G : Option Addr} {m c : Nat} (h : Ck.Ly Q w a G m c) {X : Nat} (hX : ∀ b, Q b -> b ≠ X) (v0 v1 v2 : Value) : Ck.Ly Q (((w.setCell ⟨X, 0, none⟩ v0).setCell ⟨X, 1, none⟩ v1).setCell ⟨X, 2, none⟩ v2) a G m c := ((h.set hX _ _).set hX _ _).set hX _ _
theorem cells3 {w : World} {b : Nat} {v0 v1 v2 : Value} {t : TypeId} (h : w.heap[b]? = some (.cells #[v0, v1, v2] t (0, 0))) :
  w.cell? ⟨b, 0, none⟩ = some v0 /\ w.cell? ⟨b, 1, none⟩ = some v1 /\ w.cell? ⟨b, 2, none⟩ = some v2 /\
  w.frozen? ⟨b, 0, none⟩ = false /\ w.frozen? ⟨b, 1, none⟩ = false /\ w.frozen? ⟨b, 2, none⟩ = false /\ b < w.heap.size := by
 refine ⟨?_, ?_, ?_, ?_, ?_, ?_, zC h⟩ <;> simp [World.cell?, World.frozen?, h]
theorem zP {u w : World} {X Y : Nat} {x0 x1 y0 y1 y2 : Value} {t s : TypeId} (hX : u.heap[X]? = some (.cells #[x0, x1] t (0, 0))) (hY : u.heap[Y]? = some (.cells #[y0, y1, y2] s (0, 0))) (hne : X ≠ Y) (hb : Below w.heap.size w u) (h1 : w.heap.size <= X) (h2 : w.heap.size <= Y) (a b c d e : Value) :
  let v := ((((u.setCell ⟨X, 0, none⟩ a).setCell ⟨X, 1, none⟩ b).setCell ⟨Y, 0, none⟩ c).setCell ⟨Y, 1, none⟩ d).setCell ⟨Y, 2, none⟩ e
  v.heap[X]? = some (.cells #[a, b] t (0, 0)) /\ v.heap[Y]? = some (.cells #[c, d, e] s (0, 0)) /\ Below w.heap.size w v :=
 ⟨zQ (zL hX a b) hne.symm _ _ _, zh (zN hY hne a b) _ _ _, qI (zH hb h1 _ _) h2 _ _ _⟩
end Go.Proofs.YtkdnnleanoompaaGreatDoor
namespace Go.Proofs.YtkdnnleanoompaaGreatDoor
set_option maxHeartbeats 1000000
set_option maxRecDepth 100000
open Go.RowKit
theorem qZ (k : Int) (w : World) : Calls Tryz.prog 24 #[.int .i8 k] w fun e w' => e = .returned (.agg #[.int .i8 k, .slice none 0 0]) /\ Below w.heap.size w w' := by
 have HB := k0_ (zX w (.cells #[.int .i8 k, .slice none 0 0] 25))
 go_enter Tryz.func24, Tryz.ntmps24
 go_wp2_with fail
 refine bodyPost_ret (v := .agg #[.int .i8 k, .slice none 0 0]) (by simp [results, Tryz.results24, go_sem, *]) rfl ⟨rfl, HB.out⟩
theorem vK (Q : Nat -> Prop) (k : Int) (hk : -128 <= k /\ k <= 127) (a : Ck.T2) (A : Option Addr) (n c : Nat) (b : Ck.T2) (A' : Option Addr) (n' c' : Nat) (w : World) (hL : Ck.Ly Q w a A n c) (hL' : Ck.Ly Q w b A' n' c') :
  Calls Tryz.prog 27 #[.int .i8 k, .agg #[.int .i8 a.1, .slice A n c], .agg #[.int .i8 b.1, .slice A' n' c']] w (Ck.Gives Q w (Ck.mk2 k a b)) := by
 have hB3 := jT w (.cells #[.int .i8 a.1, .slice A n c] 25) (.cells #[.int .i8 b.1, .slice A' n' c'] 25) (.cells #[.int .i8 0, .slice none 0 0] 25);obtain ⟨h0, h1, h2⟩ := jI w (.cells #[.int .i8 a.1, .slice A n c] 25) (.cells #[.int .i8 b.1, .slice A' n' c'] 25) (.cells #[.int .i8 0, .slice none 0 0] 25);have HL := k0_ ((hL.weak (Q' := Ck.Cut Q w.heap.size (w.heap.size + 3)) (fun b hl hq => .inl ⟨hq, hl⟩)).later hB3);have HL' := k0_ ((hL'.weak (Q' := Ck.Cut Q w.heap.size (w.heap.size + 3)) (fun b hl hq => .inl ⟨hq, hl⟩)).later hB3);have hz : (((w.alloc (.cells #[.int .i8 a.1, .slice A n c] 25)).alloc (.cells #[.int .i8 b.1, .slice A' n' c'] 25)).alloc (.cells #[.int .i8 0, .slice none 0 0] 25)).heap.size = w.heap.size + 3 := by simp
 have HB3 := k0_ hB3;have H2 := k0_ h2;clear hL hL' hB3 h2
 go_enter Tryz.func27, Tryz.ntmps27
 go_upto_region 1 with fail
 generalize ((w.alloc (.cells #[.int .i8 a.1, .slice A n c] 25)).alloc (.cells #[.int .i8 b.1, .slice A' n' c'] 25)).alloc (.cells #[.int .i8 0, .slice none 0 0] 25) = w1 at *;have HZ := k0_ hz;have HNE := k0_ (fun (b : Nat) (hq : Ck.Cut Q w.heap.size (w.heap.size + 3) b) => hq.ne (X := w.heap.size + 1 + 1) (by omega) (by omega));have HU := k0_ (HL.out.set2 HNE.out (.int .i8 k) (.slice (some ⟨w1.heap.size, 0, none⟩) 2 2));have HU' := k0_ (HL'.out.set2 HNE.out (.int .i8 k) (.slice (some ⟨w1.heap.size, 0, none⟩) 2 2));have h2u := zL H2.out (.int .i8 k) (.slice (some ⟨w1.heap.size, 0, none⟩) 2 2);have hsz : ((w1.setCell ⟨w.heap.size + 1 + 1, 0, none⟩ (.int .i8 k)).setCell ⟨w.heap.size + 1 + 1, 1, none⟩ (.slice (some ⟨w1.heap.size, 0, none⟩) 2 2)).heap.size = w1.heap.size := by simp
 have hbu := zH HB3.out (show w.heap.size <= w.heap.size + 1 + 1 by omega) (.int .i8 k) (.slice (some ⟨w1.heap.size, 0, none⟩) 2 2)
 have HFIN := k0_ (fun (u : World) (hu : u.heap.size = w1.heap.size) (h2u : u.heap[w.heap.size + 1 + 1]? = some (.cells #[.int .i8 k, .slice (some ⟨w1.heap.size, 0, none⟩) 2 2] 25 (0, 0))) (hbu : Below w.heap.size w u) (HU : Ck.Ly (Ck.Cut Q w.heap.size (w.heap.size + 3)) u a A n c) (HU' : Ck.Ly (Ck.Cut Q w.heap.size (w.heap.size + 3)) u b A' n' c') =>
  (show (u.alloc (.cells #[.int .i8 a.1, .slice A n c, .int .i8 b.1, .slice A' n' c'] 25)).heap[w.heap.size + 1 + 1]? = some (.cells #[.int .i8 k, .slice (some ⟨w1.heap.size, 0, none⟩) 2 2] 25 (0, 0)) /\ Ck.Ly (Ck.Cut Q w.heap.size (w.heap.size + 3)) (u.alloc (.cells #[.int .i8 a.1, .slice A n c, .int .i8 b.1, .slice A' n' c'] 25)) (Ck.mk2 k a b) (some ⟨w1.heap.size, 0, none⟩) 2 2 /\ Below w.heap.size w (u.alloc (.cells #[.int .i8 a.1, .slice A n c, .int .i8 b.1, .slice A' n' c'] 25)) from by
   have hb4 := zX u (.cells #[.int .i8 a.1, .slice A n c, .int .i8 b.1, .slice A' n' c'] 25);have hr := zD u (.cells #[.int .i8 a.1, .slice A n c, .int .i8 b.1, .slice A' n' c'] 25);rw [hu] at hr
   exact ⟨zA hb4 (zC h2u) h2u, Ck.Ly.two hr (.inr (by have := HZ.out; omega)) (HU.later hb4) (HU'.later hb4) k hk, hbu.trans (hb4.mono hbu.size)⟩))
 have HF := k0_ (HFIN.out _ hsz h2u hbu HU.out HU'.out);obtain ⟨x0, x1, -, -, xl⟩ := zF h0;obtain ⟨y0, y1, -, -, yl⟩ := zF h1;obtain ⟨z0, z1, z2, z3, zl⟩ := zF H2.out;clear h0 h1 h2u hsz hbu hz HU HU' HFIN HL HL'
 go_wp2_with fail
 generalize ((w1.setCell ⟨w.heap.size + 1 + 1, 0, none⟩ (.int .i8 k)).setCell ⟨w.heap.size + 1 + 1, 1, none⟩ (.slice (some ⟨w1.heap.size, 0, none⟩) 2 2)).alloc (.cells #[.int .i8 a.1, .slice A n c, .int .i8 b.1, .slice A' n' c'] 25) = w2 at *;obtain ⟨k0, k1, -, -, -⟩ := zF HF.out.1;refine bodyPost_ret (v := .agg #[.int .i8 k, .slice (some ⟨w1.heap.size, 0, none⟩) 2 2]) (by simp [results, Tryz.results27, go_sem, k0, k1]) rfl ⟨_, 2, 2, rfl, HF.out.2.1.weak (fun b _ hq => hq.out (by omega)), HF.out.2.2⟩
theorem zw (Q : Nat -> Prop) (h : Hd) (p : Pl) (E : Int) (hE : E ≠ 0) (w : World) :
  Calls Tryz.prog 29 #[.int .i64 E, .agg (tC_ h p)] w (Qr.Post Q w (Ck.fault h E)) := by
 try unfold tC_
 have HB3 := k0_ (jT w (.cells (tC_ h p) 28) (.cells #[.int .i8 0, .slice none 0 0] 25) (.cells #[.int .i64 0, .int .i64 0, .string ⟨#[]⟩] 35));obtain ⟨h0, h1, h2⟩ := jI w (.cells (tC_ h p) 28) (.cells #[.int .i8 0, .slice none 0 0] 25) (.cells #[.int .i64 0, .int .i64 0, .string ⟨#[]⟩] 35)
 go_enter Tryz.func29, Tryz.ntmps29
 go_upto_region 1 with fail
 generalize ((w.alloc (.cells (tC_ h p) 28)).alloc (.cells #[.int .i8 0, .slice none 0 0] 25)).alloc (.cells #[.int .i64 0, .int .i64 0, .string ⟨#[]⟩] 35) = w1 at *;obtain ⟨q0, q1, q2, q3, q4, q5, q6, q7, q8, q9, q10, ql⟩ := zJ h0;obtain ⟨x0, x1, x2, x3, xl⟩ := zF h1;obtain ⟨y0, y1, y2, y3, y4, y5, yl⟩ := cells3 h2;have HR := k0_ (zP h1 h2 (show w.heap.size + 1 ≠ w.heap.size + 1 + 1 by omega) HB3.out (by omega) (by omega) (.int .i8 0) (.slice none 0 0) (.int .i64 E) (.int .i64 h.pos) (.string ⟨#[]⟩));clear h0 h1 h2
 go_wp2_with fail
 go_region
 have HR2 := k0_ (And.intro (show (((((w1.setCell ⟨w.heap.size + 1, 0, none⟩ (.int .i8 0)).setCell ⟨w.heap.size + 1, 1, none⟩ (.slice none 0 0)).setCell ⟨w.heap.size + 1 + 1, 0, none⟩ (.int .i64 E)).setCell ⟨w.heap.size + 1 + 1, 1, none⟩ (.int .i64 h.pos)).setCell ⟨w.heap.size + 1 + 1, 2, none⟩ (.string ⟨#[]⟩)).drew.heap[w.heap.size + 1]? = _ from HR.out.1) (And.intro (show (((((w1.setCell ⟨w.heap.size + 1, 0, none⟩ (.int .i8 0)).setCell ⟨w.heap.size + 1, 1, none⟩ (.slice none 0 0)).setCell ⟨w.heap.size + 1 + 1, 0, none⟩ (.int .i64 E)).setCell ⟨w.heap.size + 1 + 1, 1, none⟩ (.int .i64 h.pos)).setCell ⟨w.heap.size + 1 + 1, 2, none⟩ (.string ⟨#[]⟩)).drew.heap[w.heap.size + 1 + 1]? = _ from HR.out.2.1) HR.out.2.2.drew));clear HR q0 q1 q2 q3 q4 q5 q6 q7 q8 q9 q10 ql x0 x1 x2 x3 xl y0 y1 y2 y3 y4 y5 yl;generalize (((((w1.setCell ⟨w.heap.size + 1, 0, none⟩ (.int .i8 0)).setCell ⟨w.heap.size + 1, 1, none⟩ (.slice none 0 0)).setCell ⟨w.heap.size + 1 + 1, 0, none⟩ (.int .i64 E)).setCell ⟨w.heap.size + 1 + 1, 1, none⟩ (.int .i64 h.pos)).setCell ⟨w.heap.size + 1 + 1, 2, none⟩ (.string ⟨#[]⟩)).drew = w2 at *;obtain ⟨k0, k1, -, -, -⟩ := zF HR2.out.1;obtain ⟨k2, k3, k4, -, -, -, -⟩ := cells3 HR2.out.2.1
 go_wp2_with fail
 refine bodyPost_ret (v := .tuple #[.agg #[.int .i8 0, .slice none 0 0], .agg #[.int .i64 E, .int .i64 h.pos, .string ⟨#[]⟩]]) (by simp [results, Tryz.results29, go_sem, k0, k1, k2, k3, k4]) rfl ⟨Qr.Nz.fault h hE, none, 0, 0, rfl, Ck.Ly.zero _ _, HR2.out.2.2⟩
namespace Qr
theorem zCL (h : Hd) {a : Ck.T2} (ha : Ty.okT a.1 a.2 = true) : Ck.lift h (.ok a) = if 8192 < Ty.nod a.2 then Ck.fault h 32 else if 200 < Ty.dpt a.2 then Ck.fault h 31 else .ok a := by
 have hc : Ck.chk a = if 8192 < Ty.nod a.2 then 32 else if 200 < Ty.dpt a.2 then 31 else 0 := by
  unfold Ck.chk Ty.chk Ty.nod Ty.dpt;unfold Ty.okT at ha
  by_cases h1 : 8192 < Ty.nodes a.2 + 1
  ·rw [if_pos h1, if_pos (show 8192 < min (Ty.nodes a.2 + 1) 8193 by omega)]
  ·rw [if_neg h1, if_neg (show ¬ 8192 < min (Ty.nodes a.2 + 1) 8193 by omega), if_neg h1]
   by_cases h2 : 200 < Ty.dep a.2 + 1
   ·rw [if_pos h2, if_pos (show 200 < min (Ty.dep a.2 + 1) 201 by omega)]
   ·rw [if_neg h2, if_neg (show ¬ 200 < min (Ty.dep a.2 + 1) 201 by omega), if_pos ha]
 show (if Ck.chk a = 0 then Ck.R.ok a else .bad (Ck.chk a) h.pos Ck.e0) = _;rw [hc]
 by_cases h1 : 8192 < Ty.nod a.2
 ·rw [if_pos h1, if_pos h1]; rfl
 ·rw [if_neg h1, if_neg h1]
  by_cases h2 : 200 < Ty.dpt a.2
  ·rw [if_pos h2, if_pos h2]; rfl
  ·rw [if_neg h2, if_neg h2]; rfl
end Qr
theorem jK (Q : Nat -> Prop) (h : Hd) (p : Pl) (a : Ck.T2) (A : Option Addr) (n c : Nat) (w : World) (hL : Ck.Ly Q w a A n c) (ha : Ty.okT a.1 a.2 = true) :
  Calls Tryz.prog 26 #[.agg #[.int .i8 a.1, .slice A n c], .agg (tC_ h p)] w (Qr.Post Q w (Ck.lift h (.ok a))) := by
 try unfold tC_
 rw [Qr.zCL h ha];have hB4 := jh w (.cells #[.int .i8 a.1, .slice A n c] 25) (.cells (tC_ h p) 28) (.cells #[.int .i8 0, .slice none 0 0] 25) (.cells #[.int .i64 0, .int .i64 0, .string ⟨#[]⟩] 35);obtain ⟨h0, h1, h2, h3⟩ := vN w (.cells #[.int .i8 a.1, .slice A n c] 25) (.cells (tC_ h p) 28) (.cells #[.int .i8 0, .slice none 0 0] 25) (.cells #[.int .i64 0, .int .i64 0, .string ⟨#[]⟩] 35);have CN := k0_ (fun (W : World) (hb : Below w.heap.size w W) => jc a.1 a.2 A n c W (hL.is.below hb));have CD := k0_ (fun (W : World) (hb : Below w.heap.size w W) => vJ a.1 a.2 A n c W (hL.is.below hb));have CF := k0_ (fun (E : Int) (hE : E ≠ 0) (W : World) => zw (fun b => Q b /\ b < w.heap.size) h p E hE W);have HL := k0_ ((hL.weak (Q' := fun b => Q b /\ b < w.heap.size) (fun b hl hq => ⟨hq, hl⟩)).later hB4);have i1 : ((Ty.nod a.2 : Nat) : Int) <= 8193 := by unfold Ty.nod; omega
 have i2 : ((Ty.dpt a.2 : Nat) : Int) <= 201 := by unfold Ty.dpt; split <;> omega
 have HB4 := k0_ hB4;have H0 := k0_ h0;have H1 := k0_ h1;have H2 := k0_ h2;have H3 := k0_ h3;have hz : ((((w.alloc (.cells #[.int .i8 a.1, .slice A n c] 25)).alloc (.cells (tC_ h p) 28)).alloc (.cells #[.int .i8 0, .slice none 0 0] 25)).alloc (.cells #[.int .i64 0, .int .i64 0, .string ⟨#[]⟩] 35)).heap.size = w.heap.size + 4 := by simp
 have HZ := k0_ hz;generalize Ty.nod a.2 = N at *;generalize Ty.dpt a.2 = DD at *;obtain ⟨R, hR⟩ : ∃ R, R = (if 8192 < N then Ck.fault h 32 else if 200 < DD then Ck.fault h 31 else .ok a) := ⟨_, rfl⟩
 rw [← hR];have HRR := k0_ hR;clear hR;clear hL ha hB4 h0 h1 h2 h3 hz
 go_enter Tryz.func26, Tryz.ntmps26
 go_upto_region 1 with fail
 generalize (((w.alloc (.cells #[.int .i8 a.1, .slice A n c] 25)).alloc (.cells (tC_ h p) 28)).alloc (.cells #[.int .i8 0, .slice none 0 0] 25)).alloc (.cells #[.int .i64 0, .int .i64 0, .string ⟨#[]⟩] 35) = w1 at *;obtain ⟨x0, x1, -, -, xl⟩ := zF H0.out
 go_wp2_with fail
 refine (CN.out _ HB4.out).mono ?_;rintro e w2 ⟨rfl, hb2⟩;have HB2 := kt_ HB4 hb2;have H0 := kp_ hb2 H0;have H1 := kp_ hb2 H1;have H2 := kp_ hb2 H2;have H3 := kp_ hb2 H3;have HL := Ck.kl_ HL hb2;have HZ := k0_ (show w.heap.size + 4 <= w2.heap.size by have h1 := HZ.out; have h2 := hb2.size; omega);clear hb2 x0 x1 xl
 by_cases hn : 8192 < N
 ·have hn2 : ((N : Int) > 8192) := by omega
  have HRR := k0_ (HRR.out.trans (if_pos hn));clear hn;obtain ⟨q0, q1, q2, q3, q4, q5, q6, q7, q8, q9, q10, ql⟩ := zJ H1.out;have CFF := k0_ (CF.out 32 (by decide) w2)
  go_wp2_with fail
  refine CFF.out.mono ?_;rintro e wf hp;obtain ⟨Gf, mf, cf, rfl, hlf, hbf⟩ := hp.flt;have HBf := kt_ HB2 hbf;have H2 := kp_ hbf H2;have H3 := kp_ hbf H3;have HR := k0_ (zP H2.out H3.out (show w.heap.size + 1 + 1 ≠ w.heap.size + 1 + 1 + 1 by omega) HBf.out (by omega) (by omega) (.int .i8 0) (.slice Gf mf cf) (.int .i64 32) (.int .i64 h.pos) (.string ⟨#[]⟩));have HLf := k0_ ((Ck.Ly.weak (Q' := Ck.Cut Q w.heap.size (w.heap.size + 4)) hlf (fun b _ hq => hq.elim (fun q => .inl q.1) (fun q => .inr (Nat.le_trans HZ.out q)))));have HLf := k0_ ((HLf.out.set2 (X := w.heap.size + 1 + 1) (fun b hq => hq.ne (by omega) (by omega)) (.int .i8 0) (.slice Gf mf cf)).zm (X := w.heap.size + 1 + 1 + 1) (fun b hq => hq.ne (by omega) (by omega)) (.int .i64 32) (.int .i64 h.pos) (.string ⟨#[]⟩));clear hlf hbf q0 q1 q2 q3 q4 q5 q6 q7 q8 q9 q10 ql;obtain ⟨x0, x1, x2, x3, xl⟩ := zF H2.out;obtain ⟨y0, y1, y2, y3, y4, y5, yl⟩ := cells3 H3.out
  go_wp2_with fail
  clear x0 x1 x2 x3 xl y0 y1 y2 y3 y4 y5 yl;generalize (((((wf.setCell ⟨w.heap.size + 1 + 1, 0, none⟩ (.int .i8 0)).setCell ⟨w.heap.size + 1 + 1, 1, none⟩ (.slice Gf mf cf)).setCell ⟨w.heap.size + 1 + 1 + 1, 0, none⟩ (.int .i64 32)).setCell ⟨w.heap.size + 1 + 1 + 1, 1, none⟩ (.int .i64 h.pos)).setCell ⟨w.heap.size + 1 + 1 + 1, 2, none⟩ (.string ⟨#[]⟩)) = wz at *;obtain ⟨k0, k1, -, -, -⟩ := zF HR.out.1;obtain ⟨k2, k3, k4, -, -, -, -⟩ := cells3 HR.out.2.1;refine bodyPost_ret (v := .tuple #[.agg #[.int .i8 0, .slice Gf mf cf], .agg #[.int .i64 32, .int .i64 h.pos, .string ⟨#[]⟩]]) (by simp [results, Tryz.results26, go_sem, k0, k1, k2, k3, k4]) rfl ?_;rw [HRR.out];exact ⟨Qr.Nz.fault h (by decide), Gf, mf, cf, rfl, HLf.out.weak (fun b _ hq => hq.out (by omega)), HR.out.2.2⟩
 ·have hn2 : ¬ ((N : Int) > 8192) := by omega
  have HRR := k0_ (HRR.out.trans (if_neg hn));clear hn;obtain ⟨x0, x1, -, -, xl⟩ := zF H0.out
  go_wp2_with fail
  refine (CD.out _ HB2.out).mono ?_;rintro e w3 ⟨rfl, hb3⟩;have HB2 := kt_ HB2 hb3;have H0 := kp_ hb3 H0;have H1 := kp_ hb3 H1;have H2 := kp_ hb3 H2;have H3 := kp_ hb3 H3;have HL := Ck.kl_ HL hb3;have HZ := kz_ HZ hb3;clear hb3 x0 x1 xl
  by_cases hd : 200 < DD
  ·have hd2 : ((DD : Int) > 200) := by omega
   have HRR := k0_ (HRR.out.trans (if_pos hd));clear hd;obtain ⟨q0, q1, q2, q3, q4, q5, q6, q7, q8, q9, q10, ql⟩ := zJ H1.out;have CFF := k0_ (CF.out 31 (by decide) w3)
   go_wp2_with fail
   refine CFF.out.mono ?_;rintro e wf hp;obtain ⟨Gf, mf, cf, rfl, hlf, hbf⟩ := hp.flt;have HBf := kt_ HB2 hbf;have H2 := kp_ hbf H2;have H3 := kp_ hbf H3;have HR := k0_ (zP H2.out H3.out (show w.heap.size + 1 + 1 ≠ w.heap.size + 1 + 1 + 1 by omega) HBf.out (by omega) (by omega) (.int .i8 0) (.slice Gf mf cf) (.int .i64 31) (.int .i64 h.pos) (.string ⟨#[]⟩));have HLf := k0_ ((Ck.Ly.weak (Q' := Ck.Cut Q w.heap.size (w.heap.size + 4)) hlf (fun b _ hq => hq.elim (fun q => .inl q.1) (fun q => .inr (Nat.le_trans HZ.out q)))));have HLf := k0_ ((HLf.out.set2 (X := w.heap.size + 1 + 1) (fun b hq => hq.ne (by omega) (by omega)) (.int .i8 0) (.slice Gf mf cf)).zm (X := w.heap.size + 1 + 1 + 1) (fun b hq => hq.ne (by omega) (by omega)) (.int .i64 31) (.int .i64 h.pos) (.string ⟨#[]⟩));clear hlf hbf q0 q1 q2 q3 q4 q5 q6 q7 q8 q9 q10 ql;obtain ⟨x0, x1, x2, x3, xl⟩ := zF H2.out;obtain ⟨y0, y1, y2, y3, y4, y5, yl⟩ := cells3 H3.out
   go_wp2_with fail
   clear x0 x1 x2 x3 xl y0 y1 y2 y3 y4 y5 yl;generalize (((((wf.setCell ⟨w.heap.size + 1 + 1, 0, none⟩ (.int .i8 0)).setCell ⟨w.heap.size + 1 + 1, 1, none⟩ (.slice Gf mf cf)).setCell ⟨w.heap.size + 1 + 1 + 1, 0, none⟩ (.int .i64 31)).setCell ⟨w.heap.size + 1 + 1 + 1, 1, none⟩ (.int .i64 h.pos)).setCell ⟨w.heap.size + 1 + 1 + 1, 2, none⟩ (.string ⟨#[]⟩)) = wz at *;obtain ⟨k0, k1, -, -, -⟩ := zF HR.out.1;obtain ⟨k2, k3, k4, -, -, -, -⟩ := cells3 HR.out.2.1;refine bodyPost_ret (v := .tuple #[.agg #[.int .i8 0, .slice Gf mf cf], .agg #[.int .i64 31, .int .i64 h.pos, .string ⟨#[]⟩]]) (by simp [results, Tryz.results26, go_sem, k0, k1, k2, k3, k4]) rfl ?_;rw [HRR.out];exact ⟨Qr.Nz.fault h (by decide), Gf, mf, cf, rfl, HLf.out.weak (fun b _ hq => hq.out (by omega)), HR.out.2.2⟩
  ·have hd2 : ¬ ((DD : Int) > 200) := by omega
   have HRR := k0_ (HRR.out.trans (if_neg hd));clear hd;obtain ⟨x0, x1, -, -, xl⟩ := zF H0.out;have HR := k0_ (zP H2.out H3.out (show w.heap.size + 1 + 1 ≠ w.heap.size + 1 + 1 + 1 by omega) HB2.out (by omega) (by omega) (.int .i8 a.1) (.slice A n c) (.int .i64 0) (.int .i64 0) (.string ⟨#[]⟩));have HLf := k0_ ((HL.out.weak (Q' := Ck.Cut Q w.heap.size (w.heap.size + 4)) (fun b _ hq => .inl hq)));have HLf := k0_ ((HLf.out.set2 (X := w.heap.size + 1 + 1) (fun b hq => hq.ne (by omega) (by omega)) (.int .i8 a.1) (.slice A n c)).zm (X := w.heap.size + 1 + 1 + 1) (fun b hq => hq.ne (by omega) (by omega)) (.int .i64 0) (.int .i64 0) (.string ⟨#[]⟩));obtain ⟨z0, z1, z2, z3, zl⟩ := zF H2.out;obtain ⟨y0, y1, y2, y3, y4, y5, yl⟩ := cells3 H3.out
   go_wp2_with fail
   clear x0 x1 xl z0 z1 z2 z3 zl y0 y1 y2 y3 y4 y5 yl;generalize (((((w3.setCell ⟨w.heap.size + 1 + 1, 0, none⟩ (.int .i8 a.1)).setCell ⟨w.heap.size + 1 + 1, 1, none⟩ (.slice A n c)).setCell ⟨w.heap.size + 1 + 1 + 1, 0, none⟩ (.int .i64 0)).setCell ⟨w.heap.size + 1 + 1 + 1, 1, none⟩ (.int .i64 0)).setCell ⟨w.heap.size + 1 + 1 + 1, 2, none⟩ (.string ⟨#[]⟩)) = wz at *;obtain ⟨k0, k1, -, -, -⟩ := zF HR.out.1;obtain ⟨k2, k3, k4, -, -, -, -⟩ := cells3 HR.out.2.1;refine bodyPost_ret (v := .tuple #[.agg #[.int .i8 a.1, .slice A n c], .agg #[.int .i64 0, .int .i64 0, .string ⟨#[]⟩]]) (by simp [results, Tryz.results26, go_sem, k0, k1, k2, k3, k4]) rfl ?_;rw [HRR.out];exact ⟨Qr.Nz.ok a, A, n, c, rfl, HLf.out.weak (fun b _ hq => hq.out (by omega)), HR.out.2.2⟩
end Go.Proofs.YtkdnnleanoompaaGreatDoor
namespace Go.Proofs.YtkdnnleanoompaaGreatDoor
open Go.RowKit
theorem uD {w : World} {X : Nat} {o : Obj} (q : ∃ u0 u1, w.heap[X]? = some (.cells #[u0, u1] 25 (0, 0))) : ∃ u0 u1, (w.alloc o).heap[X]? = some (.cells #[u0, u1] 25 (0, 0)) := kW q
theorem qV {w u : World} {X : Nat} (hb : Below w.heap.size w u) (q : ∃ u0 u1, w.heap[X]? = some (.cells #[u0, u1] 25 (0, 0))) : ∃ u0 u1, u.heap[X]? = some (.cells #[u0, u1] 25 (0, 0)) := zA7 hb q
theorem yK {w : World} {X : Nat} {a b : Value} (q : ∃ u0 u1, w.heap[X]? = some (.cells #[u0, u1] 25 (0, 0))) : ∃ u0 u1, ((w.setCell ⟨X, 0, none⟩ a).setCell ⟨X, 1, none⟩ b).heap[X]? = some (.cells #[u0, u1] 25 (0, 0)) := ja q
theorem qG {w : World} {X Y : Nat} {a b c : Value} (q : ∃ u0 u1, w.heap[Y]? = some (.cells #[u0, u1] 25 (0, 0))) (h : X ≠ Y) : ∃ u0 u1, (((w.setCell ⟨X, 0, none⟩ a).setCell ⟨X, 1, none⟩ b).setCell ⟨X, 2, none⟩ c).heap[Y]? = some (.cells #[u0, u1] 25 (0, 0)) := q.elim fun _ q => q.elim fun _ q => ⟨_, _, zQ q h _ _ _⟩
theorem kK {w : World} {X : Nat} {o : Obj} (q : ∃ u0 u1 u2, w.heap[X]? = some (.cells #[u0, u1, u2] 35 (0, 0))) : ∃ u0 u1 u2, (w.alloc o).heap[X]? = some (.cells #[u0, u1, u2] 35 (0, 0)) := q.elim fun _ q => q.elim fun _ q => q.elim fun _ q => ⟨_, _, _, zG q _⟩
theorem zx {w u : World} {X : Nat} (hb : Below w.heap.size w u) (q : ∃ u0 u1 u2, w.heap[X]? = some (.cells #[u0, u1, u2] 35 (0, 0))) : ∃ u0 u1 u2, u.heap[X]? = some (.cells #[u0, u1, u2] 35 (0, 0)) := q.elim fun _ q => q.elim fun _ q => q.elim fun _ q => ⟨_, _, _, zA hb (zC q) q⟩
theorem zBn {w : World} {X : Nat} {a b c : Value} (q : ∃ u0 u1 u2, w.heap[X]? = some (.cells #[u0, u1, u2] 35 (0, 0))) : ∃ u0 u1 u2, (((w.setCell ⟨X, 0, none⟩ a).setCell ⟨X, 1, none⟩ b).setCell ⟨X, 2, none⟩ c).heap[X]? = some (.cells #[u0, u1, u2] 35 (0, 0)) := q.elim fun _ q => q.elim fun _ q => q.elim fun _ q => ⟨_, _, _, zh q _ _ _⟩
theorem qF {w : World} {X Y : Nat} {a b : Value} (q : ∃ u0 u1 u2, w.heap[Y]? = some (.cells #[u0, u1, u2] 35 (0, 0))) (h : X ≠ Y) : ∃ u0 u1 u2, ((w.setCell ⟨X, 0, none⟩ a).setCell ⟨X, 1, none⟩ b).heap[Y]? = some (.cells #[u0, u1, u2] 35 (0, 0)) := q.elim fun _ q => q.elim fun _ q => q.elim fun _ q => ⟨_, _, _, zN q h _ _⟩
end Go.Proofs.YtkdnnleanoompaaGreatDoor
namespace Go.Proofs.YtkdnnleanoompaaGreatDoor
set_option maxHeartbeats 4000000
set_option maxRecDepth 100000
open Go.RowKit
namespace Qr
def MeetL (Q : Nat -> Prop) (w : World) (k : Int) (kids : Fo) (k' : Int) (kids' : Fo) (e : Ending) (w' : World) : Prop :=
 ∃ G m c, e = .returned (.tuple #[.agg #[.int .i8 (if Ty.agreeT k kids k' kids' then Ty.mK k k' else 0), .slice G m c], .bool (Ty.agreeT k kids k' kids')]) /\
  Ck.Ly (Ck.Cut Q w.heap.size w.heap.size) w' (if Ty.agreeT k kids k' kids' then (Ty.mK k k', Ty.mT k kids k' kids') else (0, .nil)) G m c /\ Below w.heap.size w w'
theorem MeetL.gen {Q : Nat -> Prop} {w w' : World} {k : Int} {kids : Fo} {k' : Int} {kids' : Fo} {e : Ending} (h : MeetL Q w k kids k' kids' e w') : ∃ (t : Ck.T2) (G : Option Addr) (m c : Nat), t = (if Ty.agreeT k kids k' kids' then (Ty.mK k k', Ty.mT k kids k' kids') else (0, .nil)) /\ e = .returned (.tuple #[.agg #[.int .i8 t.1, .slice G m c], .bool (Ty.agreeT k kids k' kids')]) /\ Ck.Ly (Ck.Cut Q w.heap.size w.heap.size) w' t G m c /\ Below w.heap.size w w' := by
 obtain ⟨G, m, c, h1, h2, h3⟩ := h;refine ⟨_, G, m, c, rfl, ?_, h2, h3⟩;rw [h1];cases Ty.agreeT k kids k' kids' <;> rfl
def MtPost (Q : Nat -> Prop) (w : World) (ok : Bool) (t : Ck.T2) (e : Ending) (w' : World) : Prop :=
 ∃ (s : Ck.T2) (G : Option Addr) (m c : Nat), e = .returned (.tuple #[.agg #[.int .i8 s.1, .slice G m c], .bool ok]) /\ Ck.Ly (Ck.Cut Q w.heap.size w.heap.size) w' s G m c /\ (ok = true -> s = t) /\ Below w.heap.size w w'
end Qr
theorem zDh (Q : Nat -> Prop) (kd k : Int) (kids : Fo) (A : Option Addr) (n c : Nat) (w : World) (hL : Ck.Ly Q w (k, kids) A n c) :
  Calls Tryz.prog 90 #[.int .i8 kd, .agg #[.int .i8 k, .slice A n c]] w (Cg.AsPost Q w (Ty.asOk kd k kids) (Ty.asL kd k kids) (Ty.asR kd k kids)) := by
 have hIs := hL.is;have HLL := k0_ hL;have hB0 : Below w.heap.size w (((w.alloc (.cells #[.int .i8 k, .slice A n c] 25)).alloc (.cells #[.int .i8 0, .slice none 0 0] 25)).alloc (.cells #[.int .i8 0, .slice none 0 0] 25)) := (((Below.refl _ _).alloc (Nat.le_refl _) _).alloc (by simp) _).alloc (by simp; omega) _;obtain ⟨r0, r1, r2⟩ := vH w (.cells #[.int .i8 k, .slice A n c] 25) (.cells #[.int .i8 0, .slice none 0 0] 25);have h0 := zG r0 (.cells #[.int .i8 0, .slice none 0 0] 25);have h1 := zG r1 (.cells #[.int .i8 0, .slice none 0 0] 25);have h2 := zD ((w.alloc (.cells #[.int .i8 k, .slice A n c] 25)).alloc (.cells #[.int .i8 0, .slice none 0 0] 25)) (.cells #[.int .i8 0, .slice none 0 0] 25);rw [r2] at h2;generalize hw1 : (((w.alloc (.cells #[.int .i8 k, .slice A n c] 25)).alloc (.cells #[.int .i8 0, .slice none 0 0] 25)).alloc (.cells #[.int .i8 0, .slice none 0 0] 25)) = w1 at *;have HW1 := k0_ hw1;have HB0 := k0_ hB0;have HC := k0_ (qp k kids A n c w1 (hIs.below hB0));have HI := k0_ hIs;have H0 := k0_ h0;have H1 := k0_ h1;have H2 := k0_ h2;obtain ⟨b0, b1, _, _, hb0⟩ := zF h0;clear r0 r1 r2 h0 h1 h2 hw1 hB0 hIs hL
 by_cases hkd : 3 <= kd /\ kd <= 5
 case neg =>
  have hno : Ty.asOk kd k kids = false := by unfold Ty.asOk; simp; omega
  obtain ⟨e1, e2⟩ := Ty.zAI hno;rw [hno, e1, e2];have f1 : (kd != 3) = true := by simp; omega
  have f2 : (kd != 4) = true := by simp; omega
  have f3 : (kd != 5) = true := by simp; omega
  obtain ⟨d0, d1, df0, df1, hd0⟩ := zF H1.out;obtain ⟨g0, g1, gf0, gf1, hg0⟩ := zF H2.out;clear hno e1 e2 hkd HC
  go_enter Tryz.func90, Tryz.ntmps90
  go_wp2_with fail
  rw [HW1.out]
  go_wp2_with fail
  refine bodyPost_ret (v := .tuple #[.agg #[.int .i8 0, .slice none 0 0], .agg #[.int .i8 0, .slice none 0 0], .bool false]) (by simp [results, Tryz.results90, go_sem, *]) rfl ⟨none, 0, 0, none, 0, 0, rfl, Ck.Ly.zero _ _, Ck.Ly.zero _ _, ?_⟩;exact HB0.out
 have hr2 : kd = 3 \/ kd = 4 \/ kd = 5 := by omega
 by_cases hc0 : Ty.chk k kids = 0
 case neg =>
  have hno : Ty.asOk kd k kids = false := by unfold Ty.asOk; simp [hc0]
  obtain ⟨e1, e2⟩ := Ty.zAI hno;rw [hno, e1, e2];have hcn : (((Ty.chk k kids : Nat) : Int) != 0) = true := by simp; omega
  generalize Ty.chk k kids = C at *;clear hno e1 e2 hc0 hkd;rcases hr2 with rfl | rfl | rfl
  all_goals
   go_enter Tryz.func90, Tryz.ntmps90
   go_wp2_with fail
   rw [HW1.out]
   go_wp2_with fail
   refine HC.out.mono ?_;rintro e w2 ⟨rfl, hb⟩;exact zGj
 have hok := (Ty.ze hc0).1;rw [hc0] at HC
 by_cases hk0 : k = 0
 ·subst hk0
  obtain rfl := Ty.jU hok (by omega);obtain ⟨e1, e2, e3⟩ := Ty.zBp hkd.1 hkd.2;rw [e1, e2, e3];clear e1 e2 e3 hok hkd hc0;rcases hr2 with rfl | rfl | rfl
  all_goals
   go_enter Tryz.func90, Tryz.ntmps90
   go_wp2_with fail
   rw [HW1.out]
   go_wp2_with fail
   refine HC.out.mono ?_;rintro e w2 ⟨rfl, hb⟩;obtain ⟨b0, b1, _, _, hb0⟩ := zF (zA hb (zC H0.out) H0.out);obtain ⟨d0, d1, df0, df1, hd0⟩ := zF (zA hb (zC H1.out) H1.out);obtain ⟨g0, g1, gf0, gf1, hg0⟩ := zF (zA hb (zC H2.out) H2.out);have HB2 := kt_ HB0 hb;clear hb
   go_wp2_with fail
   refine bodyPost_ret (v := .tuple #[.agg #[.int .i8 0, .slice none 0 0], .agg #[.int .i8 0, .slice none 0 0], .bool true]) (by simp [results, Tryz.results90, go_sem, *]) rfl ⟨none, 0, 0, none, 0, 0, rfl, Ck.Ly.zero _ _, Ck.Ly.zero _ _, ?_⟩;exact jf HB2.out (Nat.le_add_right _ _) (by omega) _ _ _ _
 have hz : (k == 0) = false := by simpa using hk0
 by_cases hkk : k = kd
 ·subst hkk
  obtain ⟨a1, a2, p1, f1, a3, a4, p2, f2, rfl, o1, o2⟩ := Ty.jE hok hkd.1;obtain ⟨e1, e2, e3⟩ := Ty.zEL hkd.1 hkd.2 hc0;rw [e1, e2, e3];have hn := HI.out.n_eq;simp only [Ty.len] at hn;subst hn;obtain ⟨bb, oo, B1, c1, B2, c2, rfl, -, x0, x1, x2, x3, i1, i2⟩ := HLL.out.parts;have hne2 : (k != k) = false := by simp
  have I1 := k0_ ((i1.weak (Q' := Ck.Cut Q w.heap.size (w.heap.size + 3)) (fun b hl hq => .inl ⟨hq, hl⟩)).later HB0.out);have I2 := k0_ ((i2.weak (Q' := Ck.Cut Q w.heap.size (w.heap.size + 3)) (fun b hl hq => .inl ⟨hq, hl⟩)).later HB0.out);clear HLL;have X0 := k0_ (qB x0 HB0.out);have X1 := k0_ (qB x1 HB0.out);have X2 := k0_ (qB x2 HB0.out);have X3 := k0_ (qB x3 HB0.out);clear e1 e2 e3 hok hkd hc0 o1 o2 i1 i2 x0 x1 x2 x3 hk0;generalize Ty.len f1 = m1 at *;generalize Ty.len f2 = m2 at *;rcases hr2 with rfl | rfl | rfl
  all_goals
   go_enter Tryz.func90, Tryz.ntmps90
   go_wp2_with fail
   rw [HW1.out]
   go_wp2_with fail
   refine HC.out.mono ?_;rintro e w2 ⟨rfl, hb⟩;obtain ⟨b0, b1, _, _, hb0⟩ := zF (zA hb (zC H0.out) H0.out);obtain ⟨d0, d1, df0, df1, hd0⟩ := zF (zA hb (zC H1.out) H1.out);obtain ⟨g0, g1, gf0, gf1, hg0⟩ := zF (zA hb (zC H2.out) H2.out);have x0 := qB X0.out hb;have x1 := qB X1.out hb;have x2 := qB X2.out hb;have x3 := qB X3.out hb;have HB2 := kt_ HB0 hb;have HBW := k0_ hb;clear hb
   go_wp2_with fail
   go_region
   all_goals
    go_wp2_with fail
    have hz1 : w1.heap.size = w.heap.size + 3 := by rw [← HW1.out]; simp
    refine bodyPost_ret (v := .tuple #[.agg #[.int .i8 p1, .slice B1 m1 c1], .agg #[.int .i8 p2, .slice B2 m2 c2], .bool true]) (by simp [results, Tryz.results90, go_sem, *]) rfl ⟨B1, m1, c1, B2, m2, c2, rfl, ?_, ?_, ?_⟩
    ·exact (((I1.out.later HBW.out.drew).set2 (X := w.heap.size + 1) (fun b hq => hq.ne (by omega) (by omega)) _ _).set2 (X := w.heap.size + 1 + 1) (fun b hq => hq.ne (by omega) (by omega)) _ _).weak (fun b _ hq => hq.out (by omega))
    ·exact (((I2.out.later HBW.out.drew).set2 (X := w.heap.size + 1) (fun b hq => hq.ne (by omega) (by omega)) _ _).set2 (X := w.heap.size + 1 + 1) (fun b hq => hq.ne (by omega) (by omega)) _ _).weak (fun b _ hq => hq.out (by omega))
    ·exact jf HB2.out.drew (Nat.le_add_right _ _) (by omega) _ _ _ _
 ·have hno : Ty.asOk kd k kids = false := by unfold Ty.asOk; simp [hkk, hk0]
  obtain ⟨e1, e2⟩ := Ty.zAI hno;rw [hno, e1, e2];have hkk2 : (k != kd) = true := by simpa using hkk
  clear hno e1 e2 hc0 hkd hok hkk hk0;rcases hr2 with rfl | rfl | rfl
  all_goals
   go_enter Tryz.func90, Tryz.ntmps90
   go_wp2_with fail
   rw [HW1.out]
   go_wp2_with fail
   refine HC.out.mono ?_;rintro e w2 ⟨rfl, hb⟩;obtain ⟨b0, b1, _, _, hb0⟩ := zF (zA hb (zC H0.out) H0.out);exact zGj
theorem zAp (Q : Nat -> Prop) (k : Int) (kids : Fo) (A : Option Addr) (n c : Nat) (k' : Int) (kids' : Fo) (A' : Option Addr) (n' c' : Nat) (w : World) (hL : Ck.Ly Q w (k, kids) A n c) (hL' : Ck.Ly Q w (k', kids') A' n' c') :
  Calls Tryz.prog 91 #[.agg #[.int .i8 k, .slice A n c], .agg #[.int .i8 k', .slice A' n' c']] w (Qr.MeetL Q w k kids k' kids') := by
 have hIs := hL.is;have hIs' := hL'.is;have HP := (Ck.Ly.weak (Q' := fun b => Q b /\ b < w.heap.size) hL (fun b hl hq => ⟨hq, hl⟩)).isP;have HP' := (Ck.Ly.weak (Q' := fun b => Q b /\ b < w.heap.size) hL' (fun b hl hq => ⟨hq, hl⟩)).isP;obtain ⟨hA0, hA1, hA2, hsz⟩ := vI w (.cells #[.int .i8 k, .slice A n c] 25) (.cells #[.int .i8 k', .slice A' n' c'] 25) (.cells #[.int .i8 0, .slice none 0 0] 25);have hB1 := jW w (.cells #[.int .i8 k, .slice A n c] 25) (.cells #[.int .i8 k', .slice A' n' c'] 25) (.cells #[.int .i8 0, .slice none 0 0] 25);generalize hw1 : ((w.alloc (.cells #[.int .i8 k, .slice A n c] 25)).alloc (.cells #[.int .i8 k', .slice A' n' c'] 25)).alloc (.cells #[.int .i8 0, .slice none 0 0] 25) = w1 at *;have HW1 := k0_ hw1;have HB1 := k0_ hB1;have HX1 := k0_ hA0;have HY1 := k0_ hA1;have HZ1 := k0_ hA2;have CA := k0_ (fun (W : World) (hb : Below w.heap.size w W) => qp k kids A n c W (hIs.below hb));have CB := k0_ (fun (W : World) (hb : Below w.heap.size w W) => qp k' kids' A' n' c' W (hIs'.below hb));have CG := k0_ (fun (W : World) (hb : Below w.heap.size w W) => yY k kids A n c k' kids' A' n' c' W (hIs.below hb) (hIs'.below hb));have HQ := k0_ (zAJ (k := k) (kids := kids) (k' := k') (kids' := kids'));have HM := k0_ (fun (W : World) (hb : Below w.heap.size w W) h1 h2 h3 => zCA (Ty.nodes kids + 1) k kids A n c k' kids' A' n' c' (fun b => Q b /\ b < w.heap.size) W (Nat.lt_succ_self _) (qA HP hb) (qA HP' hb) (fun b h => Nat.lt_of_lt_of_le h.2 hb.size) h1 h2 h3);have HSZ := k0_ hsz;clear hA0 hA1 hA2 hsz hB1 hw1 hIs hIs' hL hL' HP HP'
 by_cases h0 : Ty.chk k kids = 0
 ·by_cases h1 : Ty.chk k' kids' = 0
  ·rw [h0] at CA
   rw [h1] at CB;cases hR : Ty.agreeT k kids k' kids'
   ·rw [hR] at CG
    have hp : ∀ (e : Ending) (w' : World), (∃ G m c, e = .returned (.tuple #[.agg #[.int .i8 0, .slice G m c], .bool false]) /\ Ck.Ly (Ck.Cut Q w.heap.size w.heap.size) w' (0, .nil) G m c /\ Below w.heap.size w w') -> Qr.MeetL Q w k kids k' kids' e w' := fun e w' h => by unfold Qr.MeetL; rw [hR]; exact h
    refine Calls.mono ?_ hp;clear hp hR HQ h0 h1 HM
    go_enter Tryz.func91, Tryz.ntmps91
    go_upto_region 1 with fail
    rw [HW1.out];obtain ⟨x0, x1, x2, x3, hxl⟩ := zF HX1.out
    go_wp2_with fail
    refine (CA.out _ HB1.out).mono ?_;rintro e w2 ⟨rfl, hb⟩;have HB2 := kt_ HB1 hb;have HX2 := kp_ hb HX1;have HY2 := kp_ hb HY1;have HZ2 := kp_ hb HZ1;clear hb;clear x0 x1 x2 x3 hxl;obtain ⟨y0, y1, y2, y3, hyl⟩ := zF HY2.out
    go_wp2_with fail
    refine (CB.out _ HB2.out).mono ?_;rintro e w3 ⟨rfl, hb⟩;have HB3 := kt_ HB2 hb;have HX3 := kp_ hb HX2;have HY3 := kp_ hb HY2;have HZ3 := kp_ hb HZ2;clear hb;clear y0 y1 y2 y3 hyl;obtain ⟨x0, x1, x2, x3, hxl⟩ := zF HX3.out;obtain ⟨y0, y1, y2, y3, hyl⟩ := zF HY3.out
    go_wp2_with fail
    refine (CG.out _ HB3.out).mono ?_;rintro e w4 ⟨rfl, hb⟩;have HB4 := kt_ HB3 hb;have HX4 := kp_ hb HX3;have HY4 := kp_ hb HY3;have HZ4 := kp_ hb HZ3;clear hb;clear x0 x1 x2 x3 hxl y0 y1 y2 y3 hyl;obtain ⟨z0, z1, z2, z3, hzl⟩ := zF HZ4.out
    go_wp2_with fail
    refine bodyPost_ret (v := .tuple #[.agg #[.int .i8 0, .slice none 0 0], .bool false]) (by simp [results, Tryz.results91, go_sem, *]) rfl ⟨none, 0, 0, rfl, Ck.Ly.zero _ _, ?_⟩;exact (HB4.out.setCell (p := ⟨w.heap.size + 1 + 1, 0, none⟩) (by simp; omega) _).setCell (p := ⟨w.heap.size + 1 + 1, 1, none⟩) (by simp; omega) _
   ·rw [hR] at CG
    obtain ⟨⟨o1, s1⟩, ⟨o2, s2⟩, ha⟩ := HQ.out hR;have HMM := k0_ (fun (W : World) (hb : Below w.heap.size w W) => HM.out W hb o1 o2 ha);have hp : ∀ (e : Ending) (w' : World), (∃ G m c, e = .returned (.tuple #[.agg #[.int .i8 (Ty.mK k k'), .slice G m c], .bool true]) /\ Ck.Ly (Ck.Cut Q w.heap.size w.heap.size) w' (Ty.mK k k', Ty.mT k kids k' kids') G m c /\ Below w.heap.size w w') -> Qr.MeetL Q w k kids k' kids' e w' := fun e w' h => by unfold Qr.MeetL; rw [hR]; exact h
    refine Calls.mono ?_ hp;clear HM;generalize Ty.mK k k' = MK at *;generalize Ty.mT k kids k' kids' = MT at *;clear hp hR HQ h0 h1 o1 s1 o2 s2 ha
    go_enter Tryz.func91, Tryz.ntmps91
    go_upto_region 1 with fail
    rw [HW1.out];obtain ⟨x0, x1, x2, x3, hxl⟩ := zF HX1.out
    go_wp2_with fail
    refine (CA.out _ HB1.out).mono ?_;rintro e w2 ⟨rfl, hb⟩;have HB2 := kt_ HB1 hb;have HX2 := kp_ hb HX1;have HY2 := kp_ hb HY1;have HZ2 := kp_ hb HZ1;clear hb;clear x0 x1 x2 x3 hxl;obtain ⟨y0, y1, y2, y3, hyl⟩ := zF HY2.out
    go_wp2_with fail
    refine (CB.out _ HB2.out).mono ?_;rintro e w3 ⟨rfl, hb⟩;have HB3 := kt_ HB2 hb;have HX3 := kp_ hb HX2;have HY3 := kp_ hb HY2;have HZ3 := kp_ hb HZ2;clear hb;clear y0 y1 y2 y3 hyl;obtain ⟨x0, x1, x2, x3, hxl⟩ := zF HX3.out;obtain ⟨y0, y1, y2, y3, hyl⟩ := zF HY3.out
    go_wp2_with fail
    refine (CG.out _ HB3.out).mono ?_;rintro e w4 ⟨rfl, hb⟩;have HB4 := kt_ HB3 hb;have HX4 := kp_ hb HX3;have HY4 := kp_ hb HY3;have HZ4 := kp_ hb HZ3;clear hb;clear x0 x1 x2 x3 hxl y0 y1 y2 y3 hyl;obtain ⟨x0, x1, x2, x3, hxl⟩ := zF HX4.out;obtain ⟨y0, y1, y2, y3, hyl⟩ := zF HY4.out
    go_wp2_with fail
    refine (HMM.out _ HB4.out).mono ?_;rintro e w5 ⟨G, m, cg, rfl, hi, hb⟩;have HB5 := kt_ HB4 hb;have HX5 := kp_ hb HX4;have HY5 := kp_ hb HY4;have HZ5 := kp_ hb HZ4;clear hb;have HJ := k0_ hi;clear x0 x1 x2 x3 hxl y0 y1 y2 y3 hyl;obtain ⟨z0, z1, z2, z3, hzl⟩ := zF HZ5.out;clear hi
    go_wp2_with fail
    refine bodyPost_ret (v := .tuple #[.agg #[.int .i8 MK, .slice G m cg], .bool true]) (by simp [results, Tryz.results91, go_sem, *]) rfl ⟨G, m, cg, rfl, ?_, ?_⟩
    ·exact Ck.Ly.ofP (a := (MK, MT)) (jD (ji HJ.out (fun b h e => by have := HB4.out.size; have := zC HZ4.out; rcases h with ⟨-, h⟩ | h <;> omega) _ _) (fun b h => h.elim (fun q => .inl q) (fun q => .inr (by have := HB4.out.size; omega))))
    ·exact (HB5.out.setCell (p := ⟨w.heap.size + 1 + 1, 0, none⟩) (by simp; omega) _).setCell (p := ⟨w.heap.size + 1 + 1, 1, none⟩) (by simp; omega) _
  ·have hR : Ty.agreeT k kids k' kids' = false := by unfold Ty.agreeT; simp [h1]
   have hp : ∀ (e : Ending) (w' : World), (∃ G m c, e = .returned (.tuple #[.agg #[.int .i8 0, .slice G m c], .bool false]) /\ Ck.Ly (Ck.Cut Q w.heap.size w.heap.size) w' (0, .nil) G m c /\ Below w.heap.size w w') -> Qr.MeetL Q w k kids k' kids' e w' := fun e w' h => by unfold Qr.MeetL; rw [hR]; exact h
   refine Calls.mono ?_ hp;rw [h0] at CA;have hc : (((Ty.chk k' kids' : Nat) : Int) != 0) = true := by simp; omega
   generalize Ty.chk k' kids' = C at *;clear hp hR HQ h0 h1 HM CG
   go_enter Tryz.func91, Tryz.ntmps91
   go_upto_region 1 with fail
   rw [HW1.out];obtain ⟨x0, x1, x2, x3, hxl⟩ := zF HX1.out
   go_wp2_with fail
   refine (CA.out _ HB1.out).mono ?_;rintro e w2 ⟨rfl, hb⟩;have HB2 := kt_ HB1 hb;have HX2 := kp_ hb HX1;have HY2 := kp_ hb HY1;have HZ2 := kp_ hb HZ1;clear hb;clear x0 x1 x2 x3 hxl;obtain ⟨y0, y1, y2, y3, hyl⟩ := zF HY2.out
   go_wp2_with fail
   refine (CB.out _ HB2.out).mono ?_;rintro e w3 ⟨rfl, hb⟩;have HB3 := kt_ HB2 hb;have HX3 := kp_ hb HX2;have HY3 := kp_ hb HY2;have HZ3 := kp_ hb HZ2;clear hb;clear y0 y1 y2 y3 hyl;obtain ⟨z0, z1, z2, z3, hzl⟩ := zF HZ3.out
   go_wp2_with fail
   refine bodyPost_ret (v := .tuple #[.agg #[.int .i8 0, .slice none 0 0], .bool false]) (by simp [results, Tryz.results91, go_sem, *]) rfl ⟨none, 0, 0, rfl, Ck.Ly.zero _ _, ?_⟩;exact zFC
 ·have hR : Ty.agreeT k kids k' kids' = false := by unfold Ty.agreeT; simp [h0]
  have hp : ∀ (e : Ending) (w' : World), (∃ G m c, e = .returned (.tuple #[.agg #[.int .i8 0, .slice G m c], .bool false]) /\ Ck.Ly (Ck.Cut Q w.heap.size w.heap.size) w' (0, .nil) G m c /\ Below w.heap.size w w') -> Qr.MeetL Q w k kids k' kids' e w' := fun e w' h => by unfold Qr.MeetL; rw [hR]; exact h
  refine Calls.mono ?_ hp;have hc : (((Ty.chk k kids : Nat) : Int) != 0) = true := by simp; omega
  generalize Ty.chk k kids = C at *;clear hp hR HQ h0 HM CG CB
  go_enter Tryz.func91, Tryz.ntmps91
  go_upto_region 1 with fail
  rw [HW1.out];obtain ⟨x0, x1, x2, x3, hxl⟩ := zF HX1.out
  go_wp2_with fail
  refine (CA.out _ HB1.out).mono ?_;rintro e w2 ⟨rfl, hb⟩;have HB2 := kt_ HB1 hb;have HX2 := kp_ hb HX1;have HY2 := kp_ hb HY1;have HZ2 := kp_ hb HZ1;clear hb;clear x0 x1 x2 x3 hxl;obtain ⟨z0, z1, z2, z3, hzl⟩ := zF HZ2.out
  go_wp2_with fail
  refine bodyPost_ret (v := .tuple #[.agg #[.int .i8 0, .slice none 0 0], .bool false]) (by simp [results, Tryz.results91, go_sem, *]) rfl ⟨none, 0, 0, rfl, Ck.Ly.zero _ _, ?_⟩;exact zFB
theorem zCE (m : Int) (hm : (m == 0) = true) (k : Int) (kids : Fo) (A : Option Addr) (n c : Nat) (k' : Int) (kids' : Fo) (A' : Option Addr) (n' c' : Nat) (w : World) (hIs : Ty.Is w k kids A n c) (hIs' : Ty.Is w k' kids' A' n' c') :
  Calls Tryz.prog 28 #[.agg #[.int .i8 k, .slice A n c], .agg #[.int .i8 k', .slice A' n' c'], .int .i64 m] w fun e w' => e = .returned (.bool (Ty.agreeT k kids k' kids')) /\ Below w.heap.size w w' := by
 have HB2 := k0_ (zZ w (.cells #[.int .i8 k, .slice A n c] 25) (.cells #[.int .i8 k', .slice A' n' c'] 25));obtain ⟨h0, h1⟩ := zT w (.cells #[.int .i8 k, .slice A n c] 25) (.cells #[.int .i8 k', .slice A' n' c'] 25);have CA := k0_ (fun (W : World) (hb : Below w.heap.size w W) => yY k kids A n c k' kids' A' n' c' W (hIs.below hb) (hIs'.below hb));generalize Ty.agreeT k kids k' kids' = B at *;clear hIs hIs'
 go_enter Tryz.func28, Tryz.ntmps28
 go_upto_region 1 with fail
 generalize (w.alloc (.cells #[.int .i8 k, .slice A n c] 25)).alloc (.cells #[.int .i8 k', .slice A' n' c'] 25) = w1 at *;obtain ⟨x0, x1, -, -, xl⟩ := zF h0;obtain ⟨y0, y1, -, -, yl⟩ := zF h1;clear h0 h1
 go_wp2_with fail
 refine (CA.out _ HB2.out).mono ?_;rintro e w2 ⟨rfl, hb⟩;have HB3 := kt_ HB2 hb;clear hb x0 x1 xl y0 y1 yl
 go_wp2_with fail
 go_ret
 exact ⟨rfl, HB3.out⟩
theorem zAn (Q : Nat -> Prop) (kd : Int) (a : Ck.T2) (A : Option Addr) (n c : Nat) (w : World) (hL : Ck.Ly Q w a A n c) :
  Calls Tryz.prog 51 #[.int .i8 kd, .agg #[.int .i8 a.1, .slice A n c], .int .i64 0] w (Cg.AsPost Q w (Ck.asO kd a) (Ck.asl kd a) (Ck.asr kd a)) := by
 have hB3 := jT w (.cells #[.int .i8 a.1, .slice A n c] 25) (.cells #[.int .i8 0, .slice none 0 0] 25) (.cells #[.int .i8 0, .slice none 0 0] 25);obtain ⟨h0, h1, h2⟩ := jI w (.cells #[.int .i8 a.1, .slice A n c] 25) (.cells #[.int .i8 0, .slice none 0 0] 25) (.cells #[.int .i8 0, .slice none 0 0] 25);have hz : (((w.alloc (.cells #[.int .i8 a.1, .slice A n c] 25)).alloc (.cells #[.int .i8 0, .slice none 0 0] 25)).alloc (.cells #[.int .i8 0, .slice none 0 0] 25)).heap.size = w.heap.size + 3 := by simp
 have CA := k0_ (fun (W : World) (hb : Below w.heap.size w W) => zDh (fun b => Q b /\ b < w.heap.size) kd a.1 a.2 A n c W ((hL.weak (fun b hl hq => ⟨hq, hl⟩)).later hb));have HB3 := k0_ hB3;have HZ := k0_ hz;have H1 := k0_ h1;have H2 := k0_ h2;clear hL hB3 hz h1 h2
 go_enter Tryz.func51, Tryz.ntmps51
 go_upto_region 1 with fail
 generalize ((w.alloc (.cells #[.int .i8 a.1, .slice A n c] 25)).alloc (.cells #[.int .i8 0, .slice none 0 0] 25)).alloc (.cells #[.int .i8 0, .slice none 0 0] 25) = w1 at *;obtain ⟨r0, r1, -, -, rl⟩ := zF h0;clear h0
 go_wp2_with fail
 refine (CA.out _ HB3.out).mono ?_;rintro e w2 ⟨G1, m1, c1, G2, m2, c2, rfl, hl1, hl2, hb⟩;have hs := HZ.out;have HB4 := kt_ HB3 hb;have H1 := kp_ hb H1;have H2 := kp_ hb H2;have HL1 := k0_ (Ck.Ly.weak (a := Ck.asl kd a) (Q' := Ck.Cut Q w.heap.size (w.heap.size + 3)) hl1 (fun b _ hq => hq.elim (fun q => .inl q.1) (fun q => .inr (by omega))));have HL2 := k0_ (Ck.Ly.weak (a := Ck.asr kd a) (Q' := Ck.Cut Q w.heap.size (w.heap.size + 3)) hl2 (fun b _ hq => hq.elim (fun q => .inl q.1) (fun q => .inr (by omega))));clear hl1 hl2 hb r0 r1 rl hs;obtain ⟨y0, y1, y2, y3, yl⟩ := zF H1.out;obtain ⟨z0, z1, z2, z3, zl⟩ := zF H2.out;have Z4 := k0_ (zN (zL H1.out (.int .i8 (Ty.asL kd a.1 a.2).1) (.slice G1 m1 c1)) (show w.heap.size + 1 + 1 ≠ w.heap.size + 1 by omega) (.int .i8 (Ty.asR kd a.1 a.2).1) (.slice G2 m2 c2));have Z5 := k0_ (zL (zN H2.out (show w.heap.size + 1 ≠ w.heap.size + 1 + 1 by omega) (.int .i8 (Ty.asL kd a.1 a.2).1) (.slice G1 m1 c1)) (.int .i8 (Ty.asR kd a.1 a.2).1) (.slice G2 m2 c2));have HBF := k0_ (zH (zH HB4.out (show w.heap.size <= w.heap.size + 1 by omega) (.int .i8 (Ty.asL kd a.1 a.2).1) (.slice G1 m1 c1)) (show w.heap.size <= w.heap.size + 1 + 1 by omega) (.int .i8 (Ty.asR kd a.1 a.2).1) (.slice G2 m2 c2));have HJ1 := k0_ ((HL1.out.set2 (X := w.heap.size + 1) (fun b h => h.ne (by omega) (by omega)) (.int .i8 (Ty.asL kd a.1 a.2).1) (.slice G1 m1 c1)).set2 (X := w.heap.size + 1 + 1) (fun b h => h.ne (by omega) (by omega)) (.int .i8 (Ty.asR kd a.1 a.2).1) (.slice G2 m2 c2));have HJ2 := k0_ ((HL2.out.set2 (X := w.heap.size + 1) (fun b h => h.ne (by omega) (by omega)) (.int .i8 (Ty.asL kd a.1 a.2).1) (.slice G1 m1 c1)).set2 (X := w.heap.size + 1 + 1) (fun b h => h.ne (by omega) (by omega)) (.int .i8 (Ty.asR kd a.1 a.2).1) (.slice G2 m2 c2))
 go_wp2_with fail
 generalize ((((w2.setCell ⟨w.heap.size + 1, 0, none⟩ (.int .i8 (Ty.asL kd a.1 a.2).1)).setCell ⟨w.heap.size + 1, 1, none⟩ (.slice G1 m1 c1)).setCell ⟨w.heap.size + 1 + 1, 0, none⟩ (.int .i8 (Ty.asR kd a.1 a.2).1)).setCell ⟨w.heap.size + 1 + 1, 1, none⟩ (.slice G2 m2 c2)) = w6 at *;obtain ⟨k0, k1, -, -, -⟩ := zF Z4.out;obtain ⟨k2, k3, -, -, -⟩ := zF Z5.out;refine bodyPost_ret (v := .tuple #[.agg #[.int .i8 (Ty.asL kd a.1 a.2).1, .slice G1 m1 c1], .agg #[.int .i8 (Ty.asR kd a.1 a.2).1, .slice G2 m2 c2], .bool (Ty.asOk kd a.1 a.2)]) (by simp [results, Tryz.results51, go_sem, k0, k1, k2, k3]) rfl ⟨G1, m1, c1, G2, m2, c2, rfl, HJ1.out.weak (fun b _ h => h.out (by omega)), HJ2.out.weak (fun b _ h => h.out (by omega)), HBF.out⟩
theorem zDd (Q : Nat -> Prop) (a : Ck.T2) (A : Option Addr) (n c : Nat) (b : Ck.T2) (A' : Option Addr) (n' c' : Nat) (w : World) (hL : Ck.Ly Q w a A n c) (hL' : Ck.Ly Q w b A' n' c') :
  Calls Tryz.prog 52 #[.agg #[.int .i8 a.1, .slice A n c], .agg #[.int .i8 b.1, .slice A' n' c'], .int .i64 0] w (Qr.MtPost Q w (Ck.ag a b) (Ck.mt a b)) := by
 have hB3 := jT w (.cells #[.int .i8 a.1, .slice A n c] 25) (.cells #[.int .i8 b.1, .slice A' n' c'] 25) (.cells #[.int .i8 0, .slice none 0 0] 25);obtain ⟨h0, h1, h2⟩ := jI w (.cells #[.int .i8 a.1, .slice A n c] 25) (.cells #[.int .i8 b.1, .slice A' n' c'] 25) (.cells #[.int .i8 0, .slice none 0 0] 25);have hz : (((w.alloc (.cells #[.int .i8 a.1, .slice A n c] 25)).alloc (.cells #[.int .i8 b.1, .slice A' n' c'] 25)).alloc (.cells #[.int .i8 0, .slice none 0 0] 25)).heap.size = w.heap.size + 3 := by simp
 have CA := k0_ (fun (W : World) (hb : Below w.heap.size w W) => zAp (fun b => Q b /\ b < w.heap.size) a.1 a.2 A n c b.1 b.2 A' n' c' W ((hL.weak (fun b hl hq => ⟨hq, hl⟩)).later hb) ((hL'.weak (fun b hl hq => ⟨hq, hl⟩)).later hb));have HT := k0_ (fun (hq : Ck.ag a b = true) => (show (if Ty.agreeT a.1 a.2 b.1 b.2 = true then (Ty.mK a.1 b.1, Ty.mT a.1 a.2 b.1 b.2) else (0, .nil)) = Ck.mt a b from if_pos hq));have HB3 := k0_ hB3;have HZ := k0_ hz;have H0 := k0_ h0;have H1 := k0_ h1;have H2 := k0_ h2;clear hL hL' hB3 hz h0 h1 h2
 go_enter Tryz.func52, Tryz.ntmps52
 go_upto_region 1 with fail
 generalize ((w.alloc (.cells #[.int .i8 a.1, .slice A n c] 25)).alloc (.cells #[.int .i8 b.1, .slice A' n' c'] 25)).alloc (.cells #[.int .i8 0, .slice none 0 0] 25) = w1 at *;obtain ⟨r0, r1, -, -, rl⟩ := zF H0.out;obtain ⟨s0, s1, -, -, sl⟩ := zF H1.out
 go_wp2_with fail
 refine (CA.out _ HB3.out).mono ?_;rintro e w2 hp;obtain ⟨t, G, m, cg, ht, rfl, hl, hb⟩ := hp.gen;have HTT := k0_ ht;have hs := HZ.out;have HB4 := kt_ HB3 hb;have H2 := kp_ hb H2;have HL := k0_ (hl.weak (Q' := Ck.Cut Q w.heap.size (w.heap.size + 3)) (fun b _ hq => hq.elim (fun q => .inl q.1) (fun q => .inr (by omega))));clear hl hb ht hp hs r0 r1 rl s0 s1 sl;obtain ⟨y0, y1, y2, y3, yl⟩ := zF H2.out;have Z2 := k0_ (zL H2.out (.int .i8 t.1) (.slice G m cg));have HBF := k0_ (zH HB4.out (show w.heap.size <= w.heap.size + 1 + 1 by omega) (.int .i8 t.1) (.slice G m cg));have HJ := k0_ (HL.out.set2 (X := w.heap.size + 1 + 1) (fun b h => h.ne (by omega) (by omega)) (.int .i8 t.1) (.slice G m cg))
 go_wp2_with fail
 generalize (w2.setCell ⟨w.heap.size + 1 + 1, 0, none⟩ (.int .i8 t.1)).setCell ⟨w.heap.size + 1 + 1, 1, none⟩ (.slice G m cg) = w6 at *;obtain ⟨k0, k1, -, -, -⟩ := zF Z2.out;refine bodyPost_ret (v := .tuple #[.agg #[.int .i8 t.1, .slice G m cg], .bool (Ck.ag a b)]) (by simp [results, Tryz.results52, go_sem, k0, k1]; rfl) rfl ⟨t, G, m, cg, rfl, HJ.out.weak (fun b _ h => h.out (by omega)), (fun hq => HTT.out.trans (HT.out hq)), HBF.out⟩
end Go.Proofs.YtkdnnleanoompaaGreatDoor
namespace Go.Proofs.YtkdnnleanoompaaGreatDoor
open Go.RowKit
theorem K2 {l : Array Bool} {i j : Nat} {A B : Prop} (y : l[j]? = some true -> A) (f : A -> B := by ((repeat' with_reducible refine And.imp ?_ ?_) <;> first | with_reducible exact id | with_reducible exact fun q => pn q | with_reducible exact fun q => z8 q | with_reducible exact fun q => Ck.Ly.later q hba | with_reducible exact fun q => Ck.Ly.later q hb | with_reducible exact fun q => Ck.EAt.below q hba | with_reducible exact fun q => Ck.EAt.below q hb | with_reducible exact fun q => zG q _ | with_reducible exact fun q => zA hb (zC q) q | with_reducible exact uD | with_reducible exact kK | with_reducible exact qV hb | with_reducible exact zx hb | ((with_reducible refine fun q => Ck.Ly.set2 q ?_ _ _); exact fun b hq => hq.ne (by omega) (by omega)) | ((with_reducible refine fun q => Ck.Ly.zm q ?_ _ _ _); exact fun b hq => hq.ne (by omega) (by omega)) | ((with_reducible refine fun q => zN q ?_ _ _); omega) | ((with_reducible refine fun q => zQ q ?_ _ _ _); omega))) (h : i ≠ j := by decide) : (l.setIfInBounds i true)[j]? = some true -> B := kF y f h
end Go.Proofs.YtkdnnleanoompaaGreatDoor
