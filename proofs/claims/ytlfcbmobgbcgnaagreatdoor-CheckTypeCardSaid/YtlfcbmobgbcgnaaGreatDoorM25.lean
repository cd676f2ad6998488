import Derived.Test.YtlfcbmobgbcgnaaGreatDoorM19
import Derived.Test.YtlfcbmobgbcgnaaGreatDoorSt0
import Derived.Test.YtlfcbmobgbcgnaaGreatDoorM14
import Derived.Test.YtlfcbmobgbcgnaaGreatDoorM7
import Derived.Test.YtlfcbmobgbcgnaaGreatDoorM18
import Derived.Test.YtlfcbmobgbcgnaaGreatDoorM17
namespace Go.Proofs.YtlfcbmobgbcgnaaGreatDoor
open Go.RowKit
namespace Qr
open Ck
def tyO : R → T2
 | .ok a => a
 | .bad _ _ _ => (0, .nil)
def eO : R → Int
 | .ok _ => 0
 | .bad E _ _ => E
def pO : R → Int
 | .ok _ => 0
 | .bad _ p _ => p
def xO : R → ByteArray
 | .ok _ => ⟨#[]⟩
 | .bad _ _ x => x
def Nz (r : R) : Prop := ∀ E p x, r = .bad E p x → E ≠ 0
def Post (Q : Nat → Prop) (w : World) (r : R) (e : Ending) (w' : World) : Prop :=
 Nz r ∧ ∃ G m c, e = .returned (.tuple #[.agg #[.int .i8 (tyO r).1, .slice G m c], .agg #[.int .i64 (eO r), .int .i64 (pO r), .string (xO r)]]) ∧ Ly (Cut Q w.heap.size w.heap.size) w' (tyO r) G m c ∧ Below w.heap.size w w'
theorem Nz.ok (a : T2) : Nz (.ok a) := fun _ _ _ e => by cases e
theorem Nz.fault (h : Hd) {E : Int} (hE : E ≠ 0) : Nz (fault h E) := fun _ _ _ e => by injection e with e; rw [← e]; exact hE
theorem Post.from {Q : Nat → Prop} {w u w' : World} {r : R} {e : Ending} (h : Post Q u r e w') (hb : Below w.heap.size w u) (hq : ∀ b, b < u.heap.size → Q b → Cut Q w.heap.size w.heap.size b) : Post Q w r e w' := by
 obtain ⟨h0, G, m, c, h1, h2, h3⟩ := h
 exact ⟨h0, G, m, c, h1, h2.weak (fun b _ q => q.elim (fun q => hq b q.2 q.1) (fun q => .inr (Nat.le_trans hb.size q))), hb.trans (h3.mono hb.size)⟩
theorem Post.flt {Q : Nat → Prop} {w w' : World} {h : Hd} {E : Int} {e : Ending} (hp : Post Q w (fault h E) e w') : ∃ G m c, e = .returned (.tuple #[.agg #[.int .i8 0, .slice G m c], .agg #[.int .i64 E, .int .i64 h.pos, .string ⟨#[]⟩]]) ∧ Ly (Cut Q w.heap.size w.heap.size) w' (0, .nil) G m c ∧ Below w.heap.size w w' := by
 obtain ⟨-, G, m, c, h1, h2, h3⟩ := hp
 exact ⟨G, m, c, h1, h2, h3⟩
theorem Post.gen {Q : Nat → Prop} {w w' : World} {r : R} {e : Ending} (hp : Post Q w r e w') : ∃ (a : T2) (E p : Int) (x : ByteArray) (G : Option Addr) (m c : Nat), (tyO r = a ∧ eO r = E ∧ pO r = p ∧ xO r = x) ∧ e = .returned (.tuple #[.agg #[.int .i8 a.1, .slice G m c], .agg #[.int .i64 E, .int .i64 p, .string x]]) ∧ Ly (Cut Q w.heap.size w.heap.size) w' a G m c ∧ Below w.heap.size w w' := by
 obtain ⟨-, G, m, c, h1, h2, h3⟩ := hp
 exact ⟨_, _, _, _, G, m, c, ⟨rfl, rfl, rfl, rfl⟩, h1, h2, h3⟩
theorem R.qh {r : R} {a : T2} {E p : Int} {x : ByteArray} (hn : Nz r) (h : tyO r = a ∧ eO r = E ∧ pO r = p ∧ xO r = x) : (E = 0 → r = .ok a ∧ p = 0 ∧ x = ⟨#[]⟩) ∧ (E ≠ 0 → r = .bad E p x ∧ a = (0, .nil)) := by
 obtain ⟨h1, h2, h3, h4⟩ := h
 cases r with
 | ok b => exact ⟨fun _ => ⟨by rw [← h1]; rfl, h3.symm, h4.symm⟩, fun q => absurd h2.symm q⟩
 | bad E' p' x' =>
  have := hn E' p' x' rfl
  refine ⟨fun q => absurd (h2.trans q) this, fun _ => ⟨?_, h1.symm⟩⟩
  rw [← h2, ← h3, ← h4]; rfl
end Qr
def LoneF (P : Nat → Prop) (w : World) (f : Fo) (A : Option Addr) (i : Nat) : Prop := ∀ u : World, (∀ b o v, P b → w.cell? ⟨b, o, none⟩ = some v → u.cell? ⟨b, o, none⟩ = some v) → Ty.Lies u f A i
theorem LoneF.zDQ {P : Nat → Prop} {w : World} : ∀ (f : Fo) (A : Option Addr) (i : Nat), LoneF P w f A i → Ty.LiesP P w f A i
 | .nil, _, _, _ => trivial
 | .node a b k kids r, A, i, h => by
  obtain ⟨bb, oo, B, c, rfl, hk, x0, x1, h1, h2, h3, h4⟩ := h w (fun _ _ _ _ hc => hc)
  have hP : P bb := by
   refine Classical.byContradiction fun hn => ?_
   obtain ⟨bb', oo', B', c', e, -, y0, -, -, -, -, -⟩ := h (w.setCell ⟨bb, oo + i * 2, none⟩ (.bool true)) fun b o v hb hc => by
    rw [World.cell?_setCell_other _ _ _ _ (fun e => by injection e with e1 e2; exact hn (e1 ▸ hb))]; exact hc
   injection e with e; injection e with e1 e2; subst e1; subst e2
   rw [vU x0] at y0
   cases y0
  refine ⟨bb, oo, B, c, rfl, hP, hk, x0, x1, h1, h2, LoneF.zDQ kids B 0 fun u hu => ?_, LoneF.zDQ r (some ⟨bb, oo, none⟩) (i + 1) fun v hu => ?_⟩
  ·obtain ⟨bb', oo', B', c', e, -, y0, y1, -, -, y3, -⟩ := h u hu
   injection e with e; injection e with e1 e2; subst e1; subst e2
   rw [hu _ _ _ hP x1] at y1
   injection y1 with y1; injection y1 with z1 z2 z3; subst z1
   exact y3
  ·obtain ⟨bb', oo', B', c', e, -, y0, y1, -, -, -, y4⟩ := h v hu
   exact e ▸ y4
theorem Ck.Ly.isP {Q : Nat → Prop} {w : World} {a : Ck.T2} {G : Option Addr} {m c : Nat} (h : Ck.Ly Q w a G m c) : Ty.IsP Q w a.1 a.2 G m c := by
 have hi := h.is
 exact ⟨LoneF.zDQ _ _ _ (fun u hu => (h u hu).lies), hi.n_eq, hi.n_le, hi.c_le, hi.lo, hi.hi⟩
theorem Ck.Ly.ofP {Q : Nat → Prop} {w : World} {a : Ck.T2} {G : Option Addr} {m c : Nat} (h : Ty.IsP Q w a.1 a.2 G m c) : Ck.Ly Q w a G m c := fun _ hu => (h.to (P' := fun _ => True) (fun b o v hp hc => ⟨trivial, hu b o v hp hc⟩)).is
theorem zi {u : World} {X : Nat} {x0 x1 x2 : Value} {t : TypeId} (h : u.heap[X]? = some (.cells #[x0, x1, x2] t (0, 0))) (a b c : Value) : (((u.setCell ⟨X, 0, none⟩ a).setCell ⟨X, 1, none⟩ b).setCell ⟨X, 2, none⟩ c).heap[X]? = some (.cells #[a, b, c] t (0, 0)) := by
 simp [World.setCell, Array.getElem?_modify, h]
theorem zP {u : World} {X Y : Nat} {o : Obj} (h : u.heap[Y]? = some o) (hne : X ≠ Y) (a b c : Value) : (((u.setCell ⟨X, 0, none⟩ a).setCell ⟨X, 1, none⟩ b).setCell ⟨X, 2, none⟩ c).heap[Y]? = some o := by
 simp [World.setCell, Array.getElem?_modify, h, hne]
theorem qJ {N X : Nat} {w u : World} (h : Below N w u) (hX : N ≤ X) (a b c : Value) : Below N w (((u.setCell ⟨X, 0, none⟩ a).setCell ⟨X, 1, none⟩ b).setCell ⟨X, 2, none⟩ c) := ((h.setCell (p := ⟨X, 0, none⟩) hX _).setCell (p := ⟨X, 1, none⟩) hX _).setCell (p := ⟨X, 2, none⟩) hX _
theorem Ck.Ly.zo {Q : Nat → Prop} {w : World} {a : Ck.T2} {G : Option Addr} {m c : Nat} (h : Ck.Ly Q w a G m c) {X : Nat} (hX : ∀ b, Q b → b ≠ X) (v0 v1 v2 : Value) : Ck.Ly Q (((w.setCell ⟨X, 0, none⟩ v0).setCell ⟨X, 1, none⟩ v1).setCell ⟨X, 2, none⟩ v2) a G m c := ((h.set hX _ _).set hX _ _).set hX _ _
theorem cells3 {w : World} {b : Nat} {v0 v1 v2 : Value} {t : TypeId} (h : w.heap[b]? = some (.cells #[v0, v1, v2] t (0, 0))) :
  w.cell? ⟨b, 0, none⟩ = some v0 ∧ w.cell? ⟨b, 1, none⟩ = some v1 ∧ w.cell? ⟨b, 2, none⟩ = some v2 ∧
  w.frozen? ⟨b, 0, none⟩ = false ∧ w.frozen? ⟨b, 1, none⟩ = false ∧ w.frozen? ⟨b, 2, none⟩ = false ∧ b < w.heap.size := by
 refine ⟨?_, ?_, ?_, ?_, ?_, ?_, zC h⟩ <;> simp [World.cell?, World.frozen?, h]
theorem zQ {u w : World} {X Y : Nat} {x0 x1 y0 y1 y2 : Value} {t s : TypeId} (hX : u.heap[X]? = some (.cells #[x0, x1] t (0, 0))) (hY : u.heap[Y]? = some (.cells #[y0, y1, y2] s (0, 0))) (hne : X ≠ Y) (hb : Below w.heap.size w u) (h1 : w.heap.size ≤ X) (h2 : w.heap.size ≤ Y) (a b c d e : Value) :
  let v := ((((u.setCell ⟨X, 0, none⟩ a).setCell ⟨X, 1, none⟩ b).setCell ⟨Y, 0, none⟩ c).setCell ⟨Y, 1, none⟩ d).setCell ⟨Y, 2, none⟩ e
  v.heap[X]? = some (.cells #[a, b] t (0, 0)) ∧ v.heap[Y]? = some (.cells #[c, d, e] s (0, 0)) ∧ Below w.heap.size w v :=
 ⟨zP (zN hX a b) hne.symm _ _ _, zi (zM hY hne a b) _ _ _, qJ (zH hb h1 _ _) h2 _ _ _⟩
end Go.Proofs.YtlfcbmobgbcgnaaGreatDoor
namespace Go.Proofs.YtlfcbmobgbcgnaaGreatDoor
set_option maxHeartbeats 1000000
set_option maxRecDepth 100000
open Go.RowKit
theorem qZ (k : Int) (w : World) : Calls Tryz.prog 32 #[.int .i8 k] w fun e w' => e = .returned (.agg #[.int .i8 k, .slice none 0 0]) ∧ Below w.heap.size w w' := by
 have HB := k0_ (zf w (.cells #[.int .i8 k, .slice none 0 0] 25))
 go_enter Tryz.func32, Tryz.ntmps32
 go_wp2_with fail
 refine bodyPost_ret (v := .agg #[.int .i8 k, .slice none 0 0]) (by simp [results, Tryz.results32, go_sem, *]) rfl ⟨rfl, HB.out⟩
theorem vG (Q : Nat → Prop) (k : Int) (hk : -128 ≤ k ∧ k ≤ 127) (a : Ck.T2) (A : Option Addr) (n c : Nat) (b : Ck.T2) (A' : Option Addr) (n' c' : Nat) (w : World) (hL : Ck.Ly Q w a A n c) (hL' : Ck.Ly Q w b A' n' c') :
  Calls Tryz.prog 35 #[.int .i8 k, .agg #[.int .i8 a.1, .slice A n c], .agg #[.int .i8 b.1, .slice A' n' c']] w (Ck.Gives Q w (Ck.mk2 k a b)) := by
 have hB3 := jP w (.cells #[.int .i8 a.1, .slice A n c] 25) (.cells #[.int .i8 b.1, .slice A' n' c'] 25) (.cells #[.int .i8 0, .slice none 0 0] 25)
 obtain ⟨h0, h1, h2⟩ := jD w (.cells #[.int .i8 a.1, .slice A n c] 25) (.cells #[.int .i8 b.1, .slice A' n' c'] 25) (.cells #[.int .i8 0, .slice none 0 0] 25)
 have HL := k0_ ((hL.weak (Q' := Ck.Cut Q w.heap.size (w.heap.size + 3)) (fun b hl hq => .inl ⟨hq, hl⟩)).later hB3)
 have HL' := k0_ ((hL'.weak (Q' := Ck.Cut Q w.heap.size (w.heap.size + 3)) (fun b hl hq => .inl ⟨hq, hl⟩)).later hB3)
 have hz : (((w.alloc (.cells #[.int .i8 a.1, .slice A n c] 25)).alloc (.cells #[.int .i8 b.1, .slice A' n' c'] 25)).alloc (.cells #[.int .i8 0, .slice none 0 0] 25)).heap.size = w.heap.size + 3 := by simp
 have HB3 := k0_ hB3
 have H2 := k0_ h2
 clear hL hL' hB3 h2
 go_enter Tryz.func35, Tryz.ntmps35
 go_upto_region 1 with fail
 generalize ((w.alloc (.cells #[.int .i8 a.1, .slice A n c] 25)).alloc (.cells #[.int .i8 b.1, .slice A' n' c'] 25)).alloc (.cells #[.int .i8 0, .slice none 0 0] 25) = w1 at *
 have HZ := k0_ hz
 have HNE := k0_ (fun (b : Nat) (hq : Ck.Cut Q w.heap.size (w.heap.size + 3) b) => hq.ne (X := w.heap.size + 1 + 1) (by omega) (by omega))
 have HU := k0_ (HL.out.set2 HNE.out (.int .i8 k) (.slice (some ⟨w1.heap.size, 0, none⟩) 2 2))
 have HU' := k0_ (HL'.out.set2 HNE.out (.int .i8 k) (.slice (some ⟨w1.heap.size, 0, none⟩) 2 2))
 have h2u := zN H2.out (.int .i8 k) (.slice (some ⟨w1.heap.size, 0, none⟩) 2 2)
 have hsz : ((w1.setCell ⟨w.heap.size + 1 + 1, 0, none⟩ (.int .i8 k)).setCell ⟨w.heap.size + 1 + 1, 1, none⟩ (.slice (some ⟨w1.heap.size, 0, none⟩) 2 2)).heap.size = w1.heap.size := by simp
 have hbu := zH HB3.out (show w.heap.size ≤ w.heap.size + 1 + 1 by omega) (.int .i8 k) (.slice (some ⟨w1.heap.size, 0, none⟩) 2 2)
 have HFIN := k0_ (fun (u : World) (hu : u.heap.size = w1.heap.size) (h2u : u.heap[w.heap.size + 1 + 1]? = some (.cells #[.int .i8 k, .slice (some ⟨w1.heap.size, 0, none⟩) 2 2] 25 (0, 0))) (hbu : Below w.heap.size w u) (HU : Ck.Ly (Ck.Cut Q w.heap.size (w.heap.size + 3)) u a A n c) (HU' : Ck.Ly (Ck.Cut Q w.heap.size (w.heap.size + 3)) u b A' n' c') =>
  (show (u.alloc (.cells #[.int .i8 a.1, .slice A n c, .int .i8 b.1, .slice A' n' c'] 25)).heap[w.heap.size + 1 + 1]? = some (.cells #[.int .i8 k, .slice (some ⟨w1.heap.size, 0, none⟩) 2 2] 25 (0, 0)) ∧ Ck.Ly (Ck.Cut Q w.heap.size (w.heap.size + 3)) (u.alloc (.cells #[.int .i8 a.1, .slice A n c, .int .i8 b.1, .slice A' n' c'] 25)) (Ck.mk2 k a b) (some ⟨w1.heap.size, 0, none⟩) 2 2 ∧ Below w.heap.size w (u.alloc (.cells #[.int .i8 a.1, .slice A n c, .int .i8 b.1, .slice A' n' c'] 25)) from by
   have hb4 := zf u (.cells #[.int .i8 a.1, .slice A n c, .int .i8 b.1, .slice A' n' c'] 25)
   have hr := zD u (.cells #[.int .i8 a.1, .slice A n c, .int .i8 b.1, .slice A' n' c'] 25)
   rw [hu] at hr
   exact ⟨zA hb4 (zC h2u) h2u, Ck.Ly.two hr (.inr (by have := HZ.out; omega)) (HU.later hb4) (HU'.later hb4) k hk, hbu.trans (hb4.mono hbu.size)⟩))
 have HF := k0_ (HFIN.out _ hsz h2u hbu HU.out HU'.out)
 obtain ⟨x0, x1, -, -, xl⟩ := zF h0
 obtain ⟨y0, y1, -, -, yl⟩ := zF h1
 obtain ⟨z0, z1, z2, z3, zl⟩ := zF H2.out
 clear h0 h1 h2u hsz hbu hz HU HU' HFIN HL HL'
 go_wp2_with fail
 generalize ((w1.setCell ⟨w.heap.size + 1 + 1, 0, none⟩ (.int .i8 k)).setCell ⟨w.heap.size + 1 + 1, 1, none⟩ (.slice (some ⟨w1.heap.size, 0, none⟩) 2 2)).alloc (.cells #[.int .i8 a.1, .slice A n c, .int .i8 b.1, .slice A' n' c'] 25) = w2 at *
 obtain ⟨k0, k1, -, -, -⟩ := zF HF.out.1
 refine bodyPost_ret (v := .agg #[.int .i8 k, .slice (some ⟨w1.heap.size, 0, none⟩) 2 2]) (by simp [results, Tryz.results35, go_sem, k0, k1]) rfl ⟨_, 2, 2, rfl, HF.out.2.1.weak (fun b _ hq => hq.out (by omega)), HF.out.2.2⟩
theorem qA (Q : Nat → Prop) (h : Hd) (p : Pl) (E : Int) (hE : E ≠ 0) (w : World) :
  Calls Tryz.prog 37 #[.int .i64 E, .agg (tC_ h p)] w (Qr.Post Q w (Ck.fault h E)) := by
 try unfold tC_
 have HB3 := k0_ (jP w (.cells (tC_ h p) 28) (.cells #[.int .i8 0, .slice none 0 0] 25) (.cells #[.int .i64 0, .int .i64 0, .string ⟨#[]⟩] 35))
 obtain ⟨h0, h1, h2⟩ := jD w (.cells (tC_ h p) 28) (.cells #[.int .i8 0, .slice none 0 0] 25) (.cells #[.int .i64 0, .int .i64 0, .string ⟨#[]⟩] 35)
 go_enter Tryz.func37, Tryz.ntmps37
 go_upto_region 1 with fail
 generalize ((w.alloc (.cells (tC_ h p) 28)).alloc (.cells #[.int .i8 0, .slice none 0 0] 25)).alloc (.cells #[.int .i64 0, .int .i64 0, .string ⟨#[]⟩] 35) = w1 at *
 obtain ⟨q0, q1, q2, q3, q4, q5, q6, q7, q8, q9, q10, ql⟩ := zJ h0
 obtain ⟨x0, x1, x2, x3, xl⟩ := zF h1
 obtain ⟨y0, y1, y2, y3, y4, y5, yl⟩ := cells3 h2
 have HR := k0_ (zQ h1 h2 (show w.heap.size + 1 ≠ w.heap.size + 1 + 1 by omega) HB3.out (by omega) (by omega) (.int .i8 0) (.slice none 0 0) (.int .i64 E) (.int .i64 h.pos) (.string ⟨#[]⟩))
 clear h0 h1 h2
 go_wp2_with fail
 go_region
 have HR2 := k0_ (And.intro (show (((((w1.setCell ⟨w.heap.size + 1, 0, none⟩ (.int .i8 0)).setCell ⟨w.heap.size + 1, 1, none⟩ (.slice none 0 0)).setCell ⟨w.heap.size + 1 + 1, 0, none⟩ (.int .i64 E)).setCell ⟨w.heap.size + 1 + 1, 1, none⟩ (.int .i64 h.pos)).setCell ⟨w.heap.size + 1 + 1, 2, none⟩ (.string ⟨#[]⟩)).drew.heap[w.heap.size + 1]? = _ from HR.out.1) (And.intro (show (((((w1.setCell ⟨w.heap.size + 1, 0, none⟩ (.int .i8 0)).setCell ⟨w.heap.size + 1, 1, none⟩ (.slice none 0 0)).setCell ⟨w.heap.size + 1 + 1, 0, none⟩ (.int .i64 E)).setCell ⟨w.heap.size + 1 + 1, 1, none⟩ (.int .i64 h.pos)).setCell ⟨w.heap.size + 1 + 1, 2, none⟩ (.string ⟨#[]⟩)).drew.heap[w.heap.size + 1 + 1]? = _ from HR.out.2.1) HR.out.2.2.drew))
 clear HR q0 q1 q2 q3 q4 q5 q6 q7 q8 q9 q10 ql x0 x1 x2 x3 xl y0 y1 y2 y3 y4 y5 yl
 generalize (((((w1.setCell ⟨w.heap.size + 1, 0, none⟩ (.int .i8 0)).setCell ⟨w.heap.size + 1, 1, none⟩ (.slice none 0 0)).setCell ⟨w.heap.size + 1 + 1, 0, none⟩ (.int .i64 E)).setCell ⟨w.heap.size + 1 + 1, 1, none⟩ (.int .i64 h.pos)).setCell ⟨w.heap.size + 1 + 1, 2, none⟩ (.string ⟨#[]⟩)).drew = w2 at *
 obtain ⟨k0, k1, -, -, -⟩ := zF HR2.out.1
 obtain ⟨k2, k3, k4, -, -, -, -⟩ := cells3 HR2.out.2.1
 go_wp2_with fail
 refine bodyPost_ret (v := .tuple #[.agg #[.int .i8 0, .slice none 0 0], .agg #[.int .i64 E, .int .i64 h.pos, .string ⟨#[]⟩]]) (by simp [results, Tryz.results37, go_sem, k0, k1, k2, k3, k4]) rfl ⟨Qr.Nz.fault h hE, none, 0, 0, rfl, Ck.Ly.zero _ _, HR2.out.2.2⟩
namespace Qr
theorem zC0 (h : Hd) {a : Ck.T2} (ha : Ty.okT a.1 a.2 = true) : Ck.lift h (.ok a) = if 8192 < Ty.nod a.2 then Ck.fault h 32 else if 200 < Ty.dpt a.2 then Ck.fault h 31 else .ok a := by
 have hc : Ck.chk a = if 8192 < Ty.nod a.2 then 32 else if 200 < Ty.dpt a.2 then 31 else 0 := by
  unfold Ck.chk Ty.chk Ty.nod Ty.dpt
  unfold Ty.okT at ha
  by_cases h1 : 8192 < Ty.nodes a.2 + 1
  ·rw [if_pos h1, if_pos (show 8192 < min (Ty.nodes a.2 + 1) 8193 by omega)]
  ·rw [if_neg h1, if_neg (show ¬ 8192 < min (Ty.nodes a.2 + 1) 8193 by omega), if_neg h1]
   by_cases h2 : 200 < Ty.dep a.2 + 1
   ·rw [if_pos h2, if_pos (show 200 < min (Ty.dep a.2 + 1) 201 by omega)]
   ·rw [if_neg h2, if_neg (show ¬ 200 < min (Ty.dep a.2 + 1) 201 by omega), if_pos ha]
 show (if Ck.chk a = 0 then Ck.R.ok a else .bad (Ck.chk a) h.pos Ck.e0) = _
 rw [hc]
 by_cases h1 : 8192 < Ty.nod a.2
 ·rw [if_pos h1, if_pos h1]; rfl
 ·rw [if_neg h1, if_neg h1]
  by_cases h2 : 200 < Ty.dpt a.2
  ·rw [if_pos h2, if_pos h2]; rfl
  ·rw [if_neg h2, if_neg h2]; rfl
end Qr
theorem jF (Q : Nat → Prop) (h : Hd) (p : Pl) (a : Ck.T2) (A : Option Addr) (n c : Nat) (w : World) (hL : Ck.Ly Q w a A n c) (ha : Ty.okT a.1 a.2 = true) :
  Calls Tryz.prog 34 #[.agg #[.int .i8 a.1, .slice A n c], .agg (tC_ h p)] w (Qr.Post Q w (Ck.lift h (.ok a))) := by
 try unfold tC_
 rw [Qr.zC0 h ha]
 have hB4 := jc w (.cells #[.int .i8 a.1, .slice A n c] 25) (.cells (tC_ h p) 28) (.cells #[.int .i8 0, .slice none 0 0] 25) (.cells #[.int .i64 0, .int .i64 0, .string ⟨#[]⟩] 35)
 obtain ⟨h0, h1, h2, h3⟩ := vJ w (.cells #[.int .i8 a.1, .slice A n c] 25) (.cells (tC_ h p) 28) (.cells #[.int .i8 0, .slice none 0 0] 25) (.cells #[.int .i64 0, .int .i64 0, .string ⟨#[]⟩] 35)
 have CN := k0_ (fun (W : World) (hb : Below w.heap.size w W) => jX a.1 a.2 A n c W (hL.is.below hb))
 have CD := k0_ (fun (W : World) (hb : Below w.heap.size w W) => vF a.1 a.2 A n c W (hL.is.below hb))
 have CF := k0_ (fun (E : Int) (hE : E ≠ 0) (W : World) => qA (fun b => Q b ∧ b < w.heap.size) h p E hE W)
 have HL := k0_ ((hL.weak (Q' := fun b => Q b ∧ b < w.heap.size) (fun b hl hq => ⟨hq, hl⟩)).later hB4)
 have i1 : ((Ty.nod a.2 : Nat) : Int) ≤ 8193 := by unfold Ty.nod; omega
 have i2 : ((Ty.dpt a.2 : Nat) : Int) ≤ 201 := by unfold Ty.dpt; split <;> omega
 have HB4 := k0_ hB4
 have H0 := k0_ h0
 have H1 := k0_ h1
 have H2 := k0_ h2
 have H3 := k0_ h3
 have hz : ((((w.alloc (.cells #[.int .i8 a.1, .slice A n c] 25)).alloc (.cells (tC_ h p) 28)).alloc (.cells #[.int .i8 0, .slice none 0 0] 25)).alloc (.cells #[.int .i64 0, .int .i64 0, .string ⟨#[]⟩] 35)).heap.size = w.heap.size + 4 := by simp
 have HZ := k0_ hz
 generalize Ty.nod a.2 = N at *
 generalize Ty.dpt a.2 = DD at *
 obtain ⟨R, hR⟩ : ∃ R, R = (if 8192 < N then Ck.fault h 32 else if 200 < DD then Ck.fault h 31 else .ok a) := ⟨_, rfl⟩
 rw [← hR]
 have HRR := k0_ hR
 clear hR
 clear hL ha hB4 h0 h1 h2 h3 hz
 go_enter Tryz.func34, Tryz.ntmps34
 go_upto_region 1 with fail
 generalize (((w.alloc (.cells #[.int .i8 a.1, .slice A n c] 25)).alloc (.cells (tC_ h p) 28)).alloc (.cells #[.int .i8 0, .slice none 0 0] 25)).alloc (.cells #[.int .i64 0, .int .i64 0, .string ⟨#[]⟩] 35) = w1 at *
 obtain ⟨x0, x1, -, -, xl⟩ := zF H0.out
 go_wp2_with fail
 refine (CN.out _ HB4.out).mono ?_
 rintro e w2 ⟨rfl, hb2⟩
 have HB2 := kt_ HB4 hb2
 have H0 := kp_ hb2 H0
 have H1 := kp_ hb2 H1
 have H2 := kp_ hb2 H2
 have H3 := kp_ hb2 H3
 have HL := Ck.kl_ HL hb2
 have HZ := k0_ (show w.heap.size + 4 ≤ w2.heap.size by have h1 := HZ.out; have h2 := hb2.size; omega)
 clear hb2 x0 x1 xl
 by_cases hn : 8192 < N
 ·have hn2 : ((N : Int) > 8192) := by omega
  have HRR := k0_ (HRR.out.trans (if_pos hn))
  clear hn
  obtain ⟨q0, q1, q2, q3, q4, q5, q6, q7, q8, q9, q10, ql⟩ := zJ H1.out
  have CFF := k0_ (CF.out 32 (by decide) w2)
  go_wp2_with fail
  refine CFF.out.mono ?_
  rintro e wf hp
  obtain ⟨Gf, mf, cf, rfl, hlf, hbf⟩ := hp.flt
  have HBf := kt_ HB2 hbf
  have H2 := kp_ hbf H2
  have H3 := kp_ hbf H3
  have HR := k0_ (zQ H2.out H3.out (show w.heap.size + 1 + 1 ≠ w.heap.size + 1 + 1 + 1 by omega) HBf.out (by omega) (by omega) (.int .i8 0) (.slice Gf mf cf) (.int .i64 32) (.int .i64 h.pos) (.string ⟨#[]⟩))
  have HLf := k0_ ((Ck.Ly.weak (Q' := Ck.Cut Q w.heap.size (w.heap.size + 4)) hlf (fun b _ hq => hq.elim (fun q => .inl q.1) (fun q => .inr (Nat.le_trans HZ.out q)))))
  have HLf := k0_ ((HLf.out.set2 (X := w.heap.size + 1 + 1) (fun b hq => hq.ne (by omega) (by omega)) (.int .i8 0) (.slice Gf mf cf)).zo (X := w.heap.size + 1 + 1 + 1) (fun b hq => hq.ne (by omega) (by omega)) (.int .i64 32) (.int .i64 h.pos) (.string ⟨#[]⟩))
  clear hlf hbf q0 q1 q2 q3 q4 q5 q6 q7 q8 q9 q10 ql
  obtain ⟨x0, x1, x2, x3, xl⟩ := zF H2.out
  obtain ⟨y0, y1, y2, y3, y4, y5, yl⟩ := cells3 H3.out
  go_wp2_with fail
  clear x0 x1 x2 x3 xl y0 y1 y2 y3 y4 y5 yl
  generalize (((((wf.setCell ⟨w.heap.size + 1 + 1, 0, none⟩ (.int .i8 0)).setCell ⟨w.heap.size + 1 + 1, 1, none⟩ (.slice Gf mf cf)).setCell ⟨w.heap.size + 1 + 1 + 1, 0, none⟩ (.int .i64 32)).setCell ⟨w.heap.size + 1 + 1 + 1, 1, none⟩ (.int .i64 h.pos)).setCell ⟨w.heap.size + 1 + 1 + 1, 2, none⟩ (.string ⟨#[]⟩)) = wz at *
  obtain ⟨k0, k1, -, -, -⟩ := zF HR.out.1
  obtain ⟨k2, k3, k4, -, -, -, -⟩ := cells3 HR.out.2.1
  refine bodyPost_ret (v := .tuple #[.agg #[.int .i8 0, .slice Gf mf cf], .agg #[.int .i64 32, .int .i64 h.pos, .string ⟨#[]⟩]]) (by simp [results, Tryz.results34, go_sem, k0, k1, k2, k3, k4]) rfl ?_
  rw [HRR.out]
  exact ⟨Qr.Nz.fault h (by decide), Gf, mf, cf, rfl, HLf.out.weak (fun b _ hq => hq.out (by omega)), HR.out.2.2⟩
 ·have hn2 : ¬ ((N : Int) > 8192) := by omega
  have HRR := k0_ (HRR.out.trans (if_neg hn))
  clear hn
  obtain ⟨x0, x1, -, -, xl⟩ := zF H0.out
  go_wp2_with fail
  refine (CD.out _ HB2.out).mono ?_
  rintro e w3 ⟨rfl, hb3⟩
  have HB2 := kt_ HB2 hb3
  have H0 := kp_ hb3 H0
  have H1 := kp_ hb3 H1
  have H2 := kp_ hb3 H2
  have H3 := kp_ hb3 H3
  have HL := Ck.kl_ HL hb3
  have HZ := kz_ HZ hb3
  clear hb3 x0 x1 xl
  by_cases hd : 200 < DD
  ·have hd2 : ((DD : Int) > 200) := by omega
   have HRR := k0_ (HRR.out.trans (if_pos hd))
   clear hd
   obtain ⟨q0, q1, q2, q3, q4, q5, q6, q7, q8, q9, q10, ql⟩ := zJ H1.out
   have CFF := k0_ (CF.out 31 (by decide) w3)
   go_wp2_with fail
   refine CFF.out.mono ?_
   rintro e wf hp
   obtain ⟨Gf, mf, cf, rfl, hlf, hbf⟩ := hp.flt
   have HBf := kt_ HB2 hbf
   have H2 := kp_ hbf H2
   have H3 := kp_ hbf H3
   have HR := k0_ (zQ H2.out H3.out (show w.heap.size + 1 + 1 ≠ w.heap.size + 1 + 1 + 1 by omega) HBf.out (by omega) (by omega) (.int .i8 0) (.slice Gf mf cf) (.int .i64 31) (.int .i64 h.pos) (.string ⟨#[]⟩))
   have HLf := k0_ ((Ck.Ly.weak (Q' := Ck.Cut Q w.heap.size (w.heap.size + 4)) hlf (fun b _ hq => hq.elim (fun q => .inl q.1) (fun q => .inr (Nat.le_trans HZ.out q)))))
   have HLf := k0_ ((HLf.out.set2 (X := w.heap.size + 1 + 1) (fun b hq => hq.ne (by omega) (by omega)) (.int .i8 0) (.slice Gf mf cf)).zo (X := w.heap.size + 1 + 1 + 1) (fun b hq => hq.ne (by omega) (by omega)) (.int .i64 31) (.int .i64 h.pos) (.string ⟨#[]⟩))
   clear hlf hbf q0 q1 q2 q3 q4 q5 q6 q7 q8 q9 q10 ql
   obtain ⟨x0, x1, x2, x3, xl⟩ := zF H2.out
   obtain ⟨y0, y1, y2, y3, y4, y5, yl⟩ := cells3 H3.out
   go_wp2_with fail
   clear x0 x1 x2 x3 xl y0 y1 y2 y3 y4 y5 yl
   generalize (((((wf.setCell ⟨w.heap.size + 1 + 1, 0, none⟩ (.int .i8 0)).setCell ⟨w.heap.size + 1 + 1, 1, none⟩ (.slice Gf mf cf)).setCell ⟨w.heap.size + 1 + 1 + 1, 0, none⟩ (.int .i64 31)).setCell ⟨w.heap.size + 1 + 1 + 1, 1, none⟩ (.int .i64 h.pos)).setCell ⟨w.heap.size + 1 + 1 + 1, 2, none⟩ (.string ⟨#[]⟩)) = wz at *
   obtain ⟨k0, k1, -, -, -⟩ := zF HR.out.1
   obtain ⟨k2, k3, k4, -, -, -, -⟩ := cells3 HR.out.2.1
   refine bodyPost_ret (v := .tuple #[.agg #[.int .i8 0, .slice Gf mf cf], .agg #[.int .i64 31, .int .i64 h.pos, .string ⟨#[]⟩]]) (by simp [results, Tryz.results34, go_sem, k0, k1, k2, k3, k4]) rfl ?_
   rw [HRR.out]
   exact ⟨Qr.Nz.fault h (by decide), Gf, mf, cf, rfl, HLf.out.weak (fun b _ hq => hq.out (by omega)), HR.out.2.2⟩
  ·have hd2 : ¬ ((DD : Int) > 200) := by omega
   have HRR := k0_ (HRR.out.trans (if_neg hd))
   clear hd
   obtain ⟨x0, x1, -, -, xl⟩ := zF H0.out
   have HR := k0_ (zQ H2.out H3.out (show w.heap.size + 1 + 1 ≠ w.heap.size + 1 + 1 + 1 by omega) HB2.out (by omega) (by omega) (.int .i8 a.1) (.slice A n c) (.int .i64 0) (.int .i64 0) (.string ⟨#[]⟩))
   have HLf := k0_ ((HL.out.weak (Q' := Ck.Cut Q w.heap.size (w.heap.size + 4)) (fun b _ hq => .inl hq)))
   have HLf := k0_ ((HLf.out.set2 (X := w.heap.size + 1 + 1) (fun b hq => hq.ne (by omega) (by omega)) (.int .i8 a.1) (.slice A n c)).zo (X := w.heap.size + 1 + 1 + 1) (fun b hq => hq.ne (by omega) (by omega)) (.int .i64 0) (.int .i64 0) (.string ⟨#[]⟩))
   obtain ⟨z0, z1, z2, z3, zl⟩ := zF H2.out
   obtain ⟨y0, y1, y2, y3, y4, y5, yl⟩ := cells3 H3.out
   go_wp2_with fail
   clear x0 x1 xl z0 z1 z2 z3 zl y0 y1 y2 y3 y4 y5 yl
   generalize (((((w3.setCell ⟨w.heap.size + 1 + 1, 0, none⟩ (.int .i8 a.1)).setCell ⟨w.heap.size + 1 + 1, 1, none⟩ (.slice A n c)).setCell ⟨w.heap.size + 1 + 1 + 1, 0, none⟩ (.int .i64 0)).setCell ⟨w.heap.size + 1 + 1 + 1, 1, none⟩ (.int .i64 0)).setCell ⟨w.heap.size + 1 + 1 + 1, 2, none⟩ (.string ⟨#[]⟩)) = wz at *
   obtain ⟨k0, k1, -, -, -⟩ := zF HR.out.1
   obtain ⟨k2, k3, k4, -, -, -, -⟩ := cells3 HR.out.2.1
   refine bodyPost_ret (v := .tuple #[.agg #[.int .i8 a.1, .slice A n c], .agg #[.int .i64 0, .int .i64 0, .string ⟨#[]⟩]]) (by simp [results, Tryz.results34, go_sem, k0, k1, k2, k3, k4]) rfl ?_
   rw [HRR.out]
   exact ⟨Qr.Nz.ok a, A, n, c, rfl, HLf.out.weak (fun b _ hq => hq.out (by omega)), HR.out.2.2⟩
end Go.Proofs.YtlfcbmobgbcgnaaGreatDoor
namespace Go.Proofs.YtlfcbmobgbcgnaaGreatDoor
open Go.RowKit
theorem wY {w : World} {X : Nat} {o : Obj} (q : ∃ u0 u1, w.heap[X]? = some (.cells #[u0, u1] 25 (0, 0))) : ∃ u0 u1, (w.alloc o).heap[X]? = some (.cells #[u0, u1] 25 (0, 0)) := kQ q
theorem qU {w u : World} {X : Nat} (hb : Below w.heap.size w u) (q : ∃ u0 u1, w.heap[X]? = some (.cells #[u0, u1] 25 (0, 0))) : ∃ u0 u1, u.heap[X]? = some (.cells #[u0, u1] 25 (0, 0)) := um hb q
theorem yD {w : World} {X : Nat} {a b : Value} (q : ∃ u0 u1, w.heap[X]? = some (.cells #[u0, u1] 25 (0, 0))) : ∃ u0 u1, ((w.setCell ⟨X, 0, none⟩ a).setCell ⟨X, 1, none⟩ b).heap[X]? = some (.cells #[u0, u1] 25 (0, 0)) := jV q
theorem qG {w : World} {X Y : Nat} {a b c : Value} (q : ∃ u0 u1, w.heap[Y]? = some (.cells #[u0, u1] 25 (0, 0))) (h : X ≠ Y) : ∃ u0 u1, (((w.setCell ⟨X, 0, none⟩ a).setCell ⟨X, 1, none⟩ b).setCell ⟨X, 2, none⟩ c).heap[Y]? = some (.cells #[u0, u1] 25 (0, 0)) := q.elim fun _ q => q.elim fun _ q => ⟨_, _, zP q h _ _ _⟩
theorem kG {w : World} {X : Nat} {o : Obj} (q : ∃ u0 u1 u2, w.heap[X]? = some (.cells #[u0, u1, u2] 35 (0, 0))) : ∃ u0 u1 u2, (w.alloc o).heap[X]? = some (.cells #[u0, u1, u2] 35 (0, 0)) := q.elim fun _ q => q.elim fun _ q => q.elim fun _ q => ⟨_, _, _, zG q _⟩
theorem zw {w u : World} {X : Nat} (hb : Below w.heap.size w u) (q : ∃ u0 u1 u2, w.heap[X]? = some (.cells #[u0, u1, u2] 35 (0, 0))) : ∃ u0 u1 u2, u.heap[X]? = some (.cells #[u0, u1, u2] 35 (0, 0)) := q.elim fun _ q => q.elim fun _ q => q.elim fun _ q => ⟨_, _, _, zA hb (zC q) q⟩
theorem zBV {w : World} {X : Nat} {a b c : Value} (q : ∃ u0 u1 u2, w.heap[X]? = some (.cells #[u0, u1, u2] 35 (0, 0))) : ∃ u0 u1 u2, (((w.setCell ⟨X, 0, none⟩ a).setCell ⟨X, 1, none⟩ b).setCell ⟨X, 2, none⟩ c).heap[X]? = some (.cells #[u0, u1, u2] 35 (0, 0)) := q.elim fun _ q => q.elim fun _ q => q.elim fun _ q => ⟨_, _, _, zi q _ _ _⟩
theorem qF {w : World} {X Y : Nat} {a b : Value} (q : ∃ u0 u1 u2, w.heap[Y]? = some (.cells #[u0, u1, u2] 35 (0, 0))) (h : X ≠ Y) : ∃ u0 u1 u2, ((w.setCell ⟨X, 0, none⟩ a).setCell ⟨X, 1, none⟩ b).heap[Y]? = some (.cells #[u0, u1, u2] 35 (0, 0)) := q.elim fun _ q => q.elim fun _ q => q.elim fun _ q => ⟨_, _, _, zM q h _ _⟩
end Go.Proofs.YtlfcbmobgbcgnaaGreatDoor
namespace Go.Proofs.YtlfcbmobgbcgnaaGreatDoor
open Go.RowKit
theorem K2 {l : Array Bool} {i j : Nat} {A B : Prop} (y : l[j]? = some true → A) (f : A → B := by ((repeat' with_reducible refine And.imp ?_ ?_) <;> first | with_reducible exact id | with_reducible exact fun q => pn q | with_reducible exact fun q => z8 q | with_reducible exact fun q => Ck.Ly.later q hba | with_reducible exact fun q => Ck.Ly.later q hb | with_reducible exact fun q => Ck.EAt.below q hba | with_reducible exact fun q => Ck.EAt.below q hb | with_reducible exact fun q => zG q _ | with_reducible exact fun q => zA hb (zC q) q | with_reducible exact wY | with_reducible exact kG | with_reducible exact qU hb | with_reducible exact zw hb | ((with_reducible refine fun q => Ck.Ly.set2 q ?_ _ _); exact fun b hq => hq.ne (by omega) (by omega)) | ((with_reducible refine fun q => Ck.Ly.zo q ?_ _ _ _); exact fun b hq => hq.ne (by omega) (by omega)) | ((with_reducible refine fun q => zM q ?_ _ _); omega) | ((with_reducible refine fun q => zP q ?_ _ _ _); omega))) (h : i ≠ j := by decide) : (l.setIfInBounds i true)[j]? = some true → B := kF y f h
end Go.Proofs.YtlfcbmobgbcgnaaGreatDoor
namespace Go.Proofs.YtlfcbmobgbcgnaaGreatDoor
namespace Qr
open Ck
theorem jZ (h : Hd) (r : R) (f : T2 → R) : lift h (bnd r f) = bnd r fun a => lift h (f a) := by cases r <;> rfl
theorem qP (h : Hd) (c : Prop) [Decidable c] (x y : R) : lift h (if c then x else y) = if c then lift h x else lift h y := by split <;> rfl
theorem zx (h : Hd) (E : Int) : lift h (fault h E) = fault h E := rfl
theorem zE9 {h : Hd} {r : R} (e : ∀ a, r = .ok a → chk a = 0) : lift h r = r := by
 cases r with
 | ok a => exact jg (e a rfl)
 | bad _ _ _ => rfl
theorem xY {r : R} {f g : T2 → R} (e : ∀ a, r = .ok a → f a = g a) : bnd r f = bnd r g := by
 cases r with
 | ok a => exact e a rfl
 | bad _ _ _ => rfl
theorem bounds {k : Int} {f : Fo} (h : Ty.chk k f = 0) : Ty.nodes f + 1 ≤ 8192 ∧ Ty.dep f + 1 ≤ 200 := by
 unfold Ty.chk at h
 split at h
 ·cases h
 ·split at h
  ·cases h
  ·exact ⟨by omega, by omega⟩
theorem zDl {k : Int} {i j : Nat} {k1 : Int} {f1 r : Fo} (h0 : chk (k, .node i j k1 f1 r) = 0) : chk (k1, f1) = 0 := by
 have h1 := Ty.zZ (k := k) (kids := .node i j k1 f1 r) h0
 have h2 := Ty.uS (k := k) (kids := .node i j k1 f1 r) h0
 simp only [Ty.okF, Bool.and_eq_true] at h2
 have h3 := bounds (k := k) (f := .node i j k1 f1 r) h0
 simp only [Ty.nodes, Ty.dep] at h3
 exact Ty.zBC (k := k1) (kids := f1) (by unfold Ty.okT; rw [h2.2.1.1, h2.2.1.2]; rfl) (by omega) (by omega)
theorem zBB {k : Int} {i j i' j' : Nat} {k1 k2 : Int} {f1 f2 r : Fo} (h0 : chk (k, .node i j k1 f1 (.node i' j' k2 f2 r)) = 0) : chk (k2, f2) = 0 := by
 have h2 := Ty.uS (k := k) (kids := .node i j k1 f1 (.node i' j' k2 f2 r)) h0
 simp only [Ty.okF, Bool.and_eq_true] at h2
 have h3 := bounds (k := k) (f := .node i j k1 f1 (.node i' j' k2 f2 r)) h0
 simp only [Ty.nodes, Ty.dep] at h3
 exact Ty.zBC (k := k2) (kids := f2) (by unfold Ty.okT; rw [h2.2.2.1.1, h2.2.2.1.2]; rfl) (by omega) (by omega)
structure Sd (D : Cg.Ops) : Prop where
 l : ∀ k a, chk a = 0 → chk (D.asl k a) = 0
 r : ∀ k a, chk a = 0 → chk (D.asr k a) = 0
 m : ∀ a b, chk a = 0 → chk b = 0 → D.ag a b = true → Ty.okT (D.mt a b).1 (D.mt a b).2 = true
theorem zEu : Sd Cg.grad where
 l := fun k a h0 => by
  obtain ⟨k', f⟩ := a
  show chk (Ty.asL k k' f) = 0
  unfold Ty.asL
  split
  ·match f, h0 with
   | .nil, _ => rfl
   | .node _ _ _ _ _, h0 => exact zDl h0
  ·rfl
 r := fun k a h0 => by
  obtain ⟨k', f⟩ := a
  show chk (Ty.asR k k' f) = 0
  unfold Ty.asR
  split
  ·match f, h0 with
   | .nil, _ => rfl
   | .node _ _ _ _ .nil, _ => rfl
   | .node _ _ _ _ (.node _ _ _ _ _), h0 => exact zBB h0
  ·rfl
 m := fun a b h1 h2 hag => by
  have g : Ty.agreeT a.1 a.2 b.1 b.2 = true := hag
  unfold Ty.agreeT at g
  simp only [Bool.and_eq_true] at g
  exact Ty.zFT (Ty.zZ h1).1 (Ty.zZ h2).1 g.2
theorem zBT : ∀ {l : Env} {x : ByteArray} {a : T2}, (∀ y ∈ l, chk y.2 = 0) → fnd l x = some a → chk a = 0
 | [], _, _, _, e => by cases e
 | b :: l, x, a, hl, e => by
  unfold fnd at e
  cases hf : fnd l x with
  | some c =>
   rw [hf] at e
   injection e with e; subst e
   exact zBT (fun y hy => hl y (List.mem_cons_of_mem _ hy)) hf
  | none =>
   rw [hf] at e
   simp only at e
   split at e
   ·injection e with e; subst e; exact hl b (List.mem_cons_self ..)
   ·cases e
theorem zEy (s : ByteArray) : chk (opAns s) = 0 := by unfold opAns; split <;> rfl
section
variable (D : Cg.Ops) (K : Nat) (h h1 h2 h3 : Hd) (k1 k2 k3 : Tm) (l : Env)
theorem zGm (hl : ∀ y ∈ l, chk y.2 = 0) (hk : h.kind = 0) (kids : Tm) : Cg.ty D (K + 1) h kids l = (match fnd l h.name with | some a => R.ok a | none => R.bad 41 h.pos h.name) := by
 rw [Cg.qd, Cg.zDB _ _ _ _ _ hk]
 cases hf : fnd l h.name with
 | some a => exact jg (zBT hl hf)
 | none => rfl
theorem zGl (hk : h.kind = 1) (kids : Tm) : Cg.ty D (K + 1) h kids l = R.ok (1, .nil) := by rw [Cg.qd, Cg.zDA _ _ _ _ _ hk]; rfl
theorem zGk (hk : h.kind = 2) (kids : Tm) : Cg.ty D (K + 1) h kids l = R.ok (2, .nil) := by rw [Cg.qd, Cg.zD3 _ _ _ _ _ hk]; rfl
theorem zGj (hk : h.kind = 3) (kids : Tm) : Cg.ty D (K + 1) h kids l = R.ok (2, .nil) := by rw [Cg.qd, Cg.zD2 _ _ _ _ _ hk]; rfl
theorem zGi (hk : h.kind = 4) : Cg.ty D (K + 1) h (.node h1 k1 .nil) l = bnd (Cg.ty D K h1 k1 (l ++ [(h.name, TT h)])) fun b => lift h (.ok (mk2 3 (TT h) b)) := by
 rw [Cg.qd, Cg.zD1 _ _ _ _ _ hk, jZ]; rfl
theorem zGh (hk : h.kind = 5) : Cg.ty D (K + 1) h (.node h1 k1 .nil) l = bnd (Cg.ty D K h1 k1 ((l ++ [(h.name, mk2 3 (TT h) (UU h))]) ++ [(h.arg, TT h)])) fun b => if D.ag b (UU h) = true then lift h (.ok (mk2 3 (TT h) (UU h))) else fault h 91 := by
 rw [Cg.qd, Cg.zD0 _ _ _ _ _ hk, jZ, List.append_assoc]
 simp only [qP, zx]; rfl
theorem zGg (hk : h.kind = 7) : Cg.ty D (K + 1) h (.node h1 k1 (.node h2 k2 .nil)) l = bnd (Cg.ty D K h1 k1 l) fun a => if D.ag a (TT h) = true then Cg.ty D K h2 k2 (l ++ [(h.name, TT h)]) else fault h 91 := by
 rw [Cg.qd, Cg.zCz _ _ _ _ _ hk, jZ]
 simp only [qP, zx]
 refine xY fun a ha => ?_
 show (if _ then lift h (Cg.ty D K h2 k2 (l ++ [(h.name, TT h)])) else _) = _
 rw [zE9 fun b hb => Cg.jk hb]
theorem zFb (hk : h.kind = 14) : Cg.ty D (K + 1) h (.node h1 k1 (.node h2 k2 (.node h3 k3 .nil))) l = bnd (Cg.ty D K h1 k1 l) fun a => if D.asO 5 a = true then bnd (Cg.ty D K h2 k2 (l ++ [(h.name, D.asl 5 a)])) fun b => bnd (Cg.ty D K h3 k3 (l ++ [(h.arg, D.asr 5 a)])) fun c => (if D.ag b c = true then lift h (.ok (D.mt b c)) else fault h 91) else fault h 90 := by
 rw [Cg.qd, Cg.zAP _ _ _ _ _ hk, jZ]
 unfold Cg.meet
 simp only [qP, zx, jZ]; rfl
end
theorem zE2 {h : Hd} {kids : Tm} (hk : h.kind = 5) (ho : Tm.headOk h (Tm.len kids) = true) (hn : Tm.nd h kids ≤ 8192) (hd : Tm.dp h kids ≤ 200) : chk (mk2 3 (TT h) (UU h)) = 0 := by
 have h1 := qX ho (by rw [hk]; rfl)
 have h2 := zA6 ho (by rw [hk]; rfl)
 have o1 := (Ty.zZ h1).1
 have o2 := (Ty.zZ h2).1
 unfold Tm.nd Tm.tyN at hn
 unfold Tm.dp Tm.tyD at hd
 rw [hk] at hn hd
 rw [show Tm.hasType 5 = true from rfl, show Tm.hasTo 5 = true from rfl, if_pos rfl, if_pos rfl] at hn hd
 have b1 := bounds (k := h.tk) (f := h.tkids) h1
 have b2 := bounds (k := h.uk) (f := h.ukids) h2
 unfold Ty.nod at hn
 unfold Ty.dpt at hd
 rw [if_neg (by omega), if_neg (by omega)] at hd
 refine Ty.zBC ?_ ?_ ?_
 ·unfold Ty.okT at o1 o2 ⊢
  show (Ty.okK 3 2 && (Ty.okK h.tk (Ty.len h.tkids) && Ty.okF h.tkids && (Ty.okK h.uk (Ty.len h.ukids) && Ty.okF h.ukids && true))) = true
  unfold TT at o1; unfold UU at o2
  rw [o1, o2]; rfl
 ·show (Ty.nodes h.tkids + 1 + (Ty.nodes h.ukids + 1 + 0)) + 1 ≤ 8192
  omega
 ·show max (Ty.dep h.tkids + 1) (max (Ty.dep h.ukids + 1) 0) + 1 ≤ 200
  omega
end Qr
end Go.Proofs.YtlfcbmobgbcgnaaGreatDoor
