import Derived.Test.YtglgjaomneljbaaGreatDoorM19
import Derived.Test.YtglgjaomneljbaaGreatDoorM17
namespace Go.Proofs.YtglgjaomneljbaaGreatDoor
open Go.RowKit
namespace Qr
open Ck
def tyO : R -> T2
 | .ok a => a
 | .bad _ _ _ => (0, .nil)
def eO : R -> Int
 | .ok _ => 0
 | .bad E _ _ => E
def pO : R -> Int
 | .ok _ => 0
 | .bad _ p _ => p
def xO : R -> ByteArray
 | .ok _ => ⟨#[]⟩
 | .bad _ _ x => x
def Nz (r : R) : Prop := ∀ E p x, r = .bad E p x -> E ≠ 0
def Post (Q : Nat -> Prop) (w : World) (r : R) (e : Ending) (w' : World) : Prop :=
 Nz r /\ ∃ G m c, e = .returned (.tuple #[.agg #[.int .i8 (tyO r).1, .slice G m c], .agg #[.int .i64 (eO r), .int .i64 (pO r), .string (xO r)]]) /\ Ly (Cut Q w.heap.size w.heap.size) w' (tyO r) G m c /\ Below w.heap.size w w'
theorem Nz.ok (a : T2) : Nz (.ok a) := fun _ _ _ e => by cases e
theorem Nz.fault (h : Hd) {E : Int} (hE : E ≠ 0) : Nz (fault h E) := fun _ _ _ e => by injection e with e; rw [← e]; exact hE
theorem Post.from {Q : Nat -> Prop} {w u w' : World} {r : R} {e : Ending} (h : Post Q u r e w') (hb : Below w.heap.size w u) (hq : ∀ b, b < u.heap.size -> Q b -> Cut Q w.heap.size w.heap.size b) : Post Q w r e w' := by
 obtain ⟨h0, G, m, c, h1, h2, h3⟩ := h;exact ⟨h0, G, m, c, h1, h2.weak (fun b _ q => q.elim (fun q => hq b q.2 q.1) (fun q => .inr (Nat.le_trans hb.size q))), hb.trans (h3.mono hb.size)⟩
theorem Post.flt {Q : Nat -> Prop} {w w' : World} {h : Hd} {E : Int} {e : Ending} (hp : Post Q w (fault h E) e w') : ∃ G m c, e = .returned (.tuple #[.agg #[.int .i8 0, .slice G m c], .agg #[.int .i64 E, .int .i64 h.pos, .string ⟨#[]⟩]]) /\ Ly (Cut Q w.heap.size w.heap.size) w' (0, .nil) G m c /\ Below w.heap.size w w' := by
 obtain ⟨-, G, m, c, h1, h2, h3⟩ := hp;exact ⟨G, m, c, h1, h2, h3⟩
theorem Post.gen {Q : Nat -> Prop} {w w' : World} {r : R} {e : Ending} (hp : Post Q w r e w') : ∃ (a : T2) (E p : Int) (x : ByteArray) (G : Option Addr) (m c : Nat), (tyO r = a /\ eO r = E /\ pO r = p /\ xO r = x) /\ e = .returned (.tuple #[.agg #[.int .i8 a.1, .slice G m c], .agg #[.int .i64 E, .int .i64 p, .string x]]) /\ Ly (Cut Q w.heap.size w.heap.size) w' a G m c /\ Below w.heap.size w w' := by
 obtain ⟨-, G, m, c, h1, h2, h3⟩ := hp;exact ⟨_, _, _, _, G, m, c, ⟨rfl, rfl, rfl, rfl⟩, h1, h2, h3⟩
theorem R.qh {r : R} {a : T2} {E p : Int} {x : ByteArray} (hn : Nz r) (h : tyO r = a /\ eO r = E /\ pO r = p /\ xO r = x) : (E = 0 -> r = .ok a /\ p = 0 /\ x = ⟨#[]⟩) /\ (E ≠ 0 -> r = .bad E p x /\ a = (0, .nil)) := by
 obtain ⟨h1, h2, h3, h4⟩ := h
 cases r with
 | ok b => exact ⟨fun _ => ⟨by rw [← h1]; rfl, h3.symm, h4.symm⟩, fun q => absurd h2.symm q⟩
 | bad E' p' x' =>
  have := hn E' p' x' rfl;refine ⟨fun q => absurd (h2.trans q) this, fun _ => ⟨?_, h1.symm⟩⟩;rw [← h2, ← h3, ← h4]; rfl
end Qr
theorem zf {u : World} {X : Nat} {x0 x1 x2 : Value} {t : TypeId} (h : u.heap[X]? = some (.cells #[x0, x1, x2] t (0, 0))) (a b c : Value) : (((u.setCell ⟨X, 0, none⟩ a).setCell ⟨X, 1, none⟩ b).setCell ⟨X, 2, none⟩ c).heap[X]? = some (.cells #[a, b, c] t (0, 0)) := by
 simp [World.setCell, Array.getElem?_modify, h]
theorem zR {u : World} {X Y : Nat} {o : Obj} (h : u.heap[Y]? = some o) (hne : X ≠ Y) (a b c : Value) : (((u.setCell ⟨X, 0, none⟩ a).setCell ⟨X, 1, none⟩ b).setCell ⟨X, 2, none⟩ c).heap[Y]? = some o := by
 simp [World.setCell, Array.getElem?_modify, h, hne]
theorem qD {N X : Nat} {w u : World} (h : Below N w u) (hX : N <= X) (a b c : Value) : Below N w (((u.setCell ⟨X, 0, none⟩ a).setCell ⟨X, 1, none⟩ b).setCell ⟨X, 2, none⟩ c) := ((h.setCell (p := ⟨X, 0, none⟩) hX _).setCell (p := ⟨X, 1, none⟩) hX _).setCell (p := ⟨X, 2, none⟩) hX _
theorem Ck.Ly.zh {Q : Nat -> Prop} {w : World} {a : Ck.T2} {G : Option Addr} {m c : Nat} (h : Ck.Ly Q w a G m c) {X : Nat} (hX : ∀ b, Q b -> b ≠ X) (v0 v1 v2 : Value) : Ck.Ly Q (((w.setCell ⟨X, 0, none⟩ v0).setCell ⟨X, 1, none⟩ v1).setCell ⟨X, 2, none⟩ v2) a G m c := ((h.set hX _ _).set hX _ _).set hX _ _
theorem cells3 {w : World} {b : Nat} {v0 v1 v2 : Value} {t : TypeId} (h : w.heap[b]? = some (.cells #[v0, v1, v2] t (0, 0))) :
  w.cell? ⟨b, 0, none⟩ = some v0 /\ w.cell? ⟨b, 1, none⟩ = some v1 /\ w.cell? ⟨b, 2, none⟩ = some v2 /\
  w.frozen? ⟨b, 0, none⟩ = false /\ w.frozen? ⟨b, 1, none⟩ = false /\ w.frozen? ⟨b, 2, none⟩ = false /\ b < w.heap.size := by
 refine ⟨?_, ?_, ?_, ?_, ?_, ?_, zC h⟩ <;> simp [World.cell?, World.frozen?, h]
theorem zQ {u w : World} {X Y : Nat} {x0 x1 y0 y1 y2 : Value} {t s : TypeId} (hX : u.heap[X]? = some (.cells #[x0, x1] t (0, 0))) (hY : u.heap[Y]? = some (.cells #[y0, y1, y2] s (0, 0))) (hne : X ≠ Y) (hb : Below w.heap.size w u) (h1 : w.heap.size <= X) (h2 : w.heap.size <= Y) (a b c d e : Value) :
  let v := ((((u.setCell ⟨X, 0, none⟩ a).setCell ⟨X, 1, none⟩ b).setCell ⟨Y, 0, none⟩ c).setCell ⟨Y, 1, none⟩ d).setCell ⟨Y, 2, none⟩ e
  v.heap[X]? = some (.cells #[a, b] t (0, 0)) /\ v.heap[Y]? = some (.cells #[c, d, e] s (0, 0)) /\ Below w.heap.size w v :=
 ⟨zR (zL hX a b) hne.symm _ _ _, zf (zM hY hne a b) _ _ _, qD (zG hb h1 _ _) h2 _ _ _⟩
end Go.Proofs.YtglgjaomneljbaaGreatDoor
namespace Go.Proofs.YtglgjaomneljbaaGreatDoor
set_option maxHeartbeats 1000000
set_option maxRecDepth 100000
open Go.RowKit
theorem qY (k : Int) (w : World) : Calls Tryz.prog 29 #[.int .i8 k] w fun e w' => e = .returned (.agg #[.int .i8 k, .slice none 0 0]) /\ Below w.heap.size w w' := by
 have HB := k0_ (zO w (.cells #[.int .i8 k, .slice none 0 0] 25))
 go_enter Tryz.func29, Tryz.ntmps29
 go_wp2_with fail
 refine bodyPost_ret (v := .agg #[.int .i8 k, .slice none 0 0]) (by simp [results, Tryz.results29, go_sem, *]) rfl ⟨rfl, HB.out⟩
theorem jw (Q : Nat -> Prop) (k : Int) (hk : -128 <= k /\ k <= 127) (a : Ck.T2) (A : Option Addr) (n c : Nat) (b : Ck.T2) (A' : Option Addr) (n' c' : Nat) (w : World) (hL : Ck.Ly Q w a A n c) (hL' : Ck.Ly Q w b A' n' c') :
  Calls Tryz.prog 32 #[.int .i8 k, .agg #[.int .i8 a.1, .slice A n c], .agg #[.int .i8 b.1, .slice A' n' c']] w (Ck.Gives Q w (Ck.mk2 k a b)) := by
 have hB3 := qV w (.cells #[.int .i8 a.1, .slice A n c] 25) (.cells #[.int .i8 b.1, .slice A' n' c'] 25) (.cells #[.int .i8 0, .slice none 0 0] 25);obtain ⟨h0, h1, h2⟩ := qj w (.cells #[.int .i8 a.1, .slice A n c] 25) (.cells #[.int .i8 b.1, .slice A' n' c'] 25) (.cells #[.int .i8 0, .slice none 0 0] 25);have HL := k0_ ((hL.weak (Q' := Ck.Cut Q w.heap.size (w.heap.size + 3)) (fun b hl hq => .inl ⟨hq, hl⟩)).later hB3);have HL' := k0_ ((hL'.weak (Q' := Ck.Cut Q w.heap.size (w.heap.size + 3)) (fun b hl hq => .inl ⟨hq, hl⟩)).later hB3);have hz : (((w.alloc (.cells #[.int .i8 a.1, .slice A n c] 25)).alloc (.cells #[.int .i8 b.1, .slice A' n' c'] 25)).alloc (.cells #[.int .i8 0, .slice none 0 0] 25)).heap.size = w.heap.size + 3 := by simp
 have HB3 := k0_ hB3;have H2 := k0_ h2;clear hL hL' hB3 h2
 go_enter Tryz.func32, Tryz.ntmps32
 go_upto_region 1 with fail
 generalize ((w.alloc (.cells #[.int .i8 a.1, .slice A n c] 25)).alloc (.cells #[.int .i8 b.1, .slice A' n' c'] 25)).alloc (.cells #[.int .i8 0, .slice none 0 0] 25) = w1 at *;have HZ := k0_ hz;have HNE := k0_ (fun (b : Nat) (hq : Ck.Cut Q w.heap.size (w.heap.size + 3) b) => hq.ne (X := w.heap.size + 1 + 1) (by omega) (by omega));have HU := k0_ (HL.out.set2 HNE.out (.int .i8 k) (.slice (some ⟨w1.heap.size, 0, none⟩) 2 2));have HU' := k0_ (HL'.out.set2 HNE.out (.int .i8 k) (.slice (some ⟨w1.heap.size, 0, none⟩) 2 2));have h2u := zL H2.out (.int .i8 k) (.slice (some ⟨w1.heap.size, 0, none⟩) 2 2);have hsz : ((w1.setCell ⟨w.heap.size + 1 + 1, 0, none⟩ (.int .i8 k)).setCell ⟨w.heap.size + 1 + 1, 1, none⟩ (.slice (some ⟨w1.heap.size, 0, none⟩) 2 2)).heap.size = w1.heap.size := by simp
 have hbu := zG HB3.out (show w.heap.size <= w.heap.size + 1 + 1 by omega) (.int .i8 k) (.slice (some ⟨w1.heap.size, 0, none⟩) 2 2)
 have HFIN := k0_ (fun (u : World) (hu : u.heap.size = w1.heap.size) (h2u : u.heap[w.heap.size + 1 + 1]? = some (.cells #[.int .i8 k, .slice (some ⟨w1.heap.size, 0, none⟩) 2 2] 25 (0, 0))) (hbu : Below w.heap.size w u) (HU : Ck.Ly (Ck.Cut Q w.heap.size (w.heap.size + 3)) u a A n c) (HU' : Ck.Ly (Ck.Cut Q w.heap.size (w.heap.size + 3)) u b A' n' c') =>
  (show (u.alloc (.cells #[.int .i8 a.1, .slice A n c, .int .i8 b.1, .slice A' n' c'] 25)).heap[w.heap.size + 1 + 1]? = some (.cells #[.int .i8 k, .slice (some ⟨w1.heap.size, 0, none⟩) 2 2] 25 (0, 0)) /\ Ck.Ly (Ck.Cut Q w.heap.size (w.heap.size + 3)) (u.alloc (.cells #[.int .i8 a.1, .slice A n c, .int .i8 b.1, .slice A' n' c'] 25)) (Ck.mk2 k a b) (some ⟨w1.heap.size, 0, none⟩) 2 2 /\ Below w.heap.size w (u.alloc (.cells #[.int .i8 a.1, .slice A n c, .int .i8 b.1, .slice A' n' c'] 25)) from by
   have hb4 := zO u (.cells #[.int .i8 a.1, .slice A n c, .int .i8 b.1, .slice A' n' c'] 25);have hr := zD u (.cells #[.int .i8 a.1, .slice A n c, .int .i8 b.1, .slice A' n' c'] 25);rw [hu] at hr
   exact ⟨zA hb4 (zC h2u) h2u, Ck.Ly.two hr (.inr (by have := HZ.out; omega)) (HU.later hb4) (HU'.later hb4) k hk, hbu.trans (hb4.mono hbu.size)⟩))
 have HF := k0_ (HFIN.out _ hsz h2u hbu HU.out HU'.out);obtain ⟨x0, x1, -, -, xl⟩ := zF h0;obtain ⟨y0, y1, -, -, yl⟩ := zF h1;obtain ⟨z0, z1, z2, z3, zl⟩ := zF H2.out;clear h0 h1 h2u hsz hbu hz HU HU' HFIN HL HL'
 go_wp2_with fail
 generalize ((w1.setCell ⟨w.heap.size + 1 + 1, 0, none⟩ (.int .i8 k)).setCell ⟨w.heap.size + 1 + 1, 1, none⟩ (.slice (some ⟨w1.heap.size, 0, none⟩) 2 2)).alloc (.cells #[.int .i8 a.1, .slice A n c, .int .i8 b.1, .slice A' n' c'] 25) = w2 at *;obtain ⟨k0, k1, -, -, -⟩ := zF HF.out.1;refine bodyPost_ret (v := .agg #[.int .i8 k, .slice (some ⟨w1.heap.size, 0, none⟩) 2 2]) (by simp [results, Tryz.results32, go_sem, k0, k1]) rfl ⟨_, 2, 2, rfl, HF.out.2.1.weak (fun b _ hq => hq.out (by omega)), HF.out.2.2⟩
theorem zu (Q : Nat -> Prop) (h : Hd) (p : Pl) (E : Int) (hE : E ≠ 0) (w : World) :
  Calls Tryz.prog 34 #[.int .i64 E, .agg (tC_ h p)] w (Qr.Post Q w (Ck.fault h E)) := by
 try unfold tC_
 have HB3 := k0_ (qV w (.cells (tC_ h p) 28) (.cells #[.int .i8 0, .slice none 0 0] 25) (.cells #[.int .i64 0, .int .i64 0, .string ⟨#[]⟩] 35));obtain ⟨h0, h1, h2⟩ := qj w (.cells (tC_ h p) 28) (.cells #[.int .i8 0, .slice none 0 0] 25) (.cells #[.int .i64 0, .int .i64 0, .string ⟨#[]⟩] 35)
 go_enter Tryz.func34, Tryz.ntmps34
 go_upto_region 1 with fail
 generalize ((w.alloc (.cells (tC_ h p) 28)).alloc (.cells #[.int .i8 0, .slice none 0 0] 25)).alloc (.cells #[.int .i64 0, .int .i64 0, .string ⟨#[]⟩] 35) = w1 at *;obtain ⟨q0, q1, q2, q3, q4, q5, q6, q7, q8, q9, q10, ql⟩ := zJ h0;obtain ⟨x0, x1, x2, x3, xl⟩ := zF h1;obtain ⟨y0, y1, y2, y3, y4, y5, yl⟩ := cells3 h2;have HR := k0_ (zQ h1 h2 (show w.heap.size + 1 ≠ w.heap.size + 1 + 1 by omega) HB3.out (by omega) (by omega) (.int .i8 0) (.slice none 0 0) (.int .i64 E) (.int .i64 h.pos) (.string ⟨#[]⟩));clear h0 h1 h2
 go_wp2_with fail
 go_region
 have HR2 := k0_ (And.intro (show (((((w1.setCell ⟨w.heap.size + 1, 0, none⟩ (.int .i8 0)).setCell ⟨w.heap.size + 1, 1, none⟩ (.slice none 0 0)).setCell ⟨w.heap.size + 1 + 1, 0, none⟩ (.int .i64 E)).setCell ⟨w.heap.size + 1 + 1, 1, none⟩ (.int .i64 h.pos)).setCell ⟨w.heap.size + 1 + 1, 2, none⟩ (.string ⟨#[]⟩)).drew.heap[w.heap.size + 1]? = _ from HR.out.1) (And.intro (show (((((w1.setCell ⟨w.heap.size + 1, 0, none⟩ (.int .i8 0)).setCell ⟨w.heap.size + 1, 1, none⟩ (.slice none 0 0)).setCell ⟨w.heap.size + 1 + 1, 0, none⟩ (.int .i64 E)).setCell ⟨w.heap.size + 1 + 1, 1, none⟩ (.int .i64 h.pos)).setCell ⟨w.heap.size + 1 + 1, 2, none⟩ (.string ⟨#[]⟩)).drew.heap[w.heap.size + 1 + 1]? = _ from HR.out.2.1) HR.out.2.2.drew));clear HR q0 q1 q2 q3 q4 q5 q6 q7 q8 q9 q10 ql x0 x1 x2 x3 xl y0 y1 y2 y3 y4 y5 yl;generalize (((((w1.setCell ⟨w.heap.size + 1, 0, none⟩ (.int .i8 0)).setCell ⟨w.heap.size + 1, 1, none⟩ (.slice none 0 0)).setCell ⟨w.heap.size + 1 + 1, 0, none⟩ (.int .i64 E)).setCell ⟨w.heap.size + 1 + 1, 1, none⟩ (.int .i64 h.pos)).setCell ⟨w.heap.size + 1 + 1, 2, none⟩ (.string ⟨#[]⟩)).drew = w2 at *;obtain ⟨k0, k1, -, -, -⟩ := zF HR2.out.1;obtain ⟨k2, k3, k4, -, -, -, -⟩ := cells3 HR2.out.2.1
 go_wp2_with fail
 refine bodyPost_ret (v := .tuple #[.agg #[.int .i8 0, .slice none 0 0], .agg #[.int .i64 E, .int .i64 h.pos, .string ⟨#[]⟩]]) (by simp [results, Tryz.results34, go_sem, k0, k1, k2, k3, k4]) rfl ⟨Qr.Nz.fault h hE, none, 0, 0, rfl, Ck.Ly.zero _ _, HR2.out.2.2⟩
namespace Qr
theorem zBz (h : Hd) {a : Ck.T2} (ha : Ty.okT a.1 a.2 = true) : Ck.lift h (.ok a) = if 8192 < Ty.nod a.2 then Ck.fault h 32 else if 200 < Ty.dpt a.2 then Ck.fault h 31 else .ok a := by
 have hc : Ck.chk a = if 8192 < Ty.nod a.2 then 32 else if 200 < Ty.dpt a.2 then 31 else 0 := by
  unfold Ck.chk Ty.chk Ty.nod Ty.dpt;unfold Ty.okT at ha
  by_cases h1 : 8192 < Ty.nodes a.2 + 1
  ·rw [if_pos h1, if_pos (show 8192 < min (Ty.nodes a.2 + 1) 8193 by omega)]
  ·rw [if_neg h1, if_neg (show ¬ 8192 < min (Ty.nodes a.2 + 1) 8193 by omega), if_neg h1]
   by_cases h2 : 200 < Ty.dep a.2 + 1
   ·rw [if_pos h2, if_pos (show 200 < min (Ty.dep a.2 + 1) 201 by omega)]
   ·rw [if_neg h2, if_neg (show ¬ 200 < min (Ty.dep a.2 + 1) 201 by omega), if_pos ha]
 show (if Ck.chk a = 0 then Ck.R.ok a else .bad (Ck.chk a) h.pos Ck.e0) = _;rw [hc]
 by_cases h1 : 8192 < Ty.nod a.2
 ·rw [if_pos h1, if_pos h1]; rfl
 ·rw [if_neg h1, if_neg h1]
  by_cases h2 : 200 < Ty.dpt a.2
  ·rw [if_pos h2, if_pos h2]; rfl
  ·rw [if_neg h2, if_neg h2]; rfl
end Qr
theorem jD (Q : Nat -> Prop) (h : Hd) (p : Pl) (a : Ck.T2) (A : Option Addr) (n c : Nat) (w : World) (hL : Ck.Ly Q w a A n c) (ha : Ty.okT a.1 a.2 = true) :
  Calls Tryz.prog 31 #[.agg #[.int .i8 a.1, .slice A n c], .agg (tC_ h p)] w (Qr.Post Q w (Ck.lift h (.ok a))) := by
 try unfold tC_
 rw [Qr.zBz h ha];have hB4 := jZ w (.cells #[.int .i8 a.1, .slice A n c] 25) (.cells (tC_ h p) 28) (.cells #[.int .i8 0, .slice none 0 0] 25) (.cells #[.int .i64 0, .int .i64 0, .string ⟨#[]⟩] 35);obtain ⟨h0, h1, h2, h3⟩ := vB w (.cells #[.int .i8 a.1, .slice A n c] 25) (.cells (tC_ h p) 28) (.cells #[.int .i8 0, .slice none 0 0] 25) (.cells #[.int .i64 0, .int .i64 0, .string ⟨#[]⟩] 35);have CN := k0_ (fun (W : World) (hb : Below w.heap.size w W) => jT a.1 a.2 A n c W (hL.is.below hb));have CD := k0_ (fun (W : World) (hb : Below w.heap.size w W) => jv a.1 a.2 A n c W (hL.is.below hb));have CF := k0_ (fun (E : Int) (hE : E ≠ 0) (W : World) => zu (fun b => Q b /\ b < w.heap.size) h p E hE W);have HL := k0_ ((hL.weak (Q' := fun b => Q b /\ b < w.heap.size) (fun b hl hq => ⟨hq, hl⟩)).later hB4);have i1 : ((Ty.nod a.2 : Nat) : Int) <= 8193 := by unfold Ty.nod; omega
 have i2 : ((Ty.dpt a.2 : Nat) : Int) <= 201 := by unfold Ty.dpt; split <;> omega
 have HB4 := k0_ hB4;have H0 := k0_ h0;have H1 := k0_ h1;have H2 := k0_ h2;have H3 := k0_ h3;have hz : ((((w.alloc (.cells #[.int .i8 a.1, .slice A n c] 25)).alloc (.cells (tC_ h p) 28)).alloc (.cells #[.int .i8 0, .slice none 0 0] 25)).alloc (.cells #[.int .i64 0, .int .i64 0, .string ⟨#[]⟩] 35)).heap.size = w.heap.size + 4 := by simp
 have HZ := k0_ hz;generalize Ty.nod a.2 = N at *;generalize Ty.dpt a.2 = DD at *;obtain ⟨R, hR⟩ : ∃ R, R = (if 8192 < N then Ck.fault h 32 else if 200 < DD then Ck.fault h 31 else .ok a) := ⟨_, rfl⟩
 rw [← hR];have HRR := k0_ hR;clear hR;clear hL ha hB4 h0 h1 h2 h3 hz
 go_enter Tryz.func31, Tryz.ntmps31
 go_upto_region 1 with fail
 generalize (((w.alloc (.cells #[.int .i8 a.1, .slice A n c] 25)).alloc (.cells (tC_ h p) 28)).alloc (.cells #[.int .i8 0, .slice none 0 0] 25)).alloc (.cells #[.int .i64 0, .int .i64 0, .string ⟨#[]⟩] 35) = w1 at *;obtain ⟨x0, x1, -, -, xl⟩ := zF H0.out
 go_wp2_with fail
 refine (CN.out _ HB4.out).mono ?_;rintro e w2 ⟨rfl, hb2⟩;have HB2 := kt_ HB4 hb2;have H0 := kp_ hb2 H0;have H1 := kp_ hb2 H1;have H2 := kp_ hb2 H2;have H3 := kp_ hb2 H3;have HL := Ck.kl_ HL hb2;have HZ := k0_ (show w.heap.size + 4 <= w2.heap.size by have h1 := HZ.out; have h2 := hb2.size; omega);clear hb2 x0 x1 xl
 by_cases hn : 8192 < N
 ·have hn2 : ((N : Int) > 8192) := by omega
  have HRR := k0_ (HRR.out.trans (if_pos hn));clear hn;obtain ⟨q0, q1, q2, q3, q4, q5, q6, q7, q8, q9, q10, ql⟩ := zJ H1.out;have CFF := k0_ (CF.out 32 (by decide) w2)
  go_wp2_with fail
  refine CFF.out.mono ?_;rintro e wf hp;obtain ⟨Gf, mf, cf, rfl, hlf, hbf⟩ := hp.flt;have HBf := kt_ HB2 hbf;have H2 := kp_ hbf H2;have H3 := kp_ hbf H3;have HR := k0_ (zQ H2.out H3.out (show w.heap.size + 1 + 1 ≠ w.heap.size + 1 + 1 + 1 by omega) HBf.out (by omega) (by omega) (.int .i8 0) (.slice Gf mf cf) (.int .i64 32) (.int .i64 h.pos) (.string ⟨#[]⟩));have HLf := k0_ ((Ck.Ly.weak (Q' := Ck.Cut Q w.heap.size (w.heap.size + 4)) hlf (fun b _ hq => hq.elim (fun q => .inl q.1) (fun q => .inr (Nat.le_trans HZ.out q)))));have HLf := k0_ ((HLf.out.set2 (X := w.heap.size + 1 + 1) (fun b hq => hq.ne (by omega) (by omega)) (.int .i8 0) (.slice Gf mf cf)).zh (X := w.heap.size + 1 + 1 + 1) (fun b hq => hq.ne (by omega) (by omega)) (.int .i64 32) (.int .i64 h.pos) (.string ⟨#[]⟩));clear hlf hbf q0 q1 q2 q3 q4 q5 q6 q7 q8 q9 q10 ql;obtain ⟨x0, x1, x2, x3, xl⟩ := zF H2.out;obtain ⟨y0, y1, y2, y3, y4, y5, yl⟩ := cells3 H3.out
  go_wp2_with fail
  clear x0 x1 x2 x3 xl y0 y1 y2 y3 y4 y5 yl;generalize (((((wf.setCell ⟨w.heap.size + 1 + 1, 0, none⟩ (.int .i8 0)).setCell ⟨w.heap.size + 1 + 1, 1, none⟩ (.slice Gf mf cf)).setCell ⟨w.heap.size + 1 + 1 + 1, 0, none⟩ (.int .i64 32)).setCell ⟨w.heap.size + 1 + 1 + 1, 1, none⟩ (.int .i64 h.pos)).setCell ⟨w.heap.size + 1 + 1 + 1, 2, none⟩ (.string ⟨#[]⟩)) = wz at *;obtain ⟨k0, k1, -, -, -⟩ := zF HR.out.1;obtain ⟨k2, k3, k4, -, -, -, -⟩ := cells3 HR.out.2.1;refine bodyPost_ret (v := .tuple #[.agg #[.int .i8 0, .slice Gf mf cf], .agg #[.int .i64 32, .int .i64 h.pos, .string ⟨#[]⟩]]) (by simp [results, Tryz.results31, go_sem, k0, k1, k2, k3, k4]) rfl ?_;rw [HRR.out];exact ⟨Qr.Nz.fault h (by decide), Gf, mf, cf, rfl, HLf.out.weak (fun b _ hq => hq.out (by omega)), HR.out.2.2⟩
 ·have hn2 : ¬ ((N : Int) > 8192) := by omega
  have HRR := k0_ (HRR.out.trans (if_neg hn));clear hn;obtain ⟨x0, x1, -, -, xl⟩ := zF H0.out
  go_wp2_with fail
  refine (CD.out _ HB2.out).mono ?_;rintro e w3 ⟨rfl, hb3⟩;have HB2 := kt_ HB2 hb3;have H0 := kp_ hb3 H0;have H1 := kp_ hb3 H1;have H2 := kp_ hb3 H2;have H3 := kp_ hb3 H3;have HL := Ck.kl_ HL hb3;have HZ := kz_ HZ hb3;clear hb3 x0 x1 xl
  by_cases hd : 200 < DD
  ·have hd2 : ((DD : Int) > 200) := by omega
   have HRR := k0_ (HRR.out.trans (if_pos hd));clear hd;obtain ⟨q0, q1, q2, q3, q4, q5, q6, q7, q8, q9, q10, ql⟩ := zJ H1.out;have CFF := k0_ (CF.out 31 (by decide) w3)
   go_wp2_with fail
   refine CFF.out.mono ?_;rintro e wf hp;obtain ⟨Gf, mf, cf, rfl, hlf, hbf⟩ := hp.flt;have HBf := kt_ HB2 hbf;have H2 := kp_ hbf H2;have H3 := kp_ hbf H3;have HR := k0_ (zQ H2.out H3.out (show w.heap.size + 1 + 1 ≠ w.heap.size + 1 + 1 + 1 by omega) HBf.out (by omega) (by omega) (.int .i8 0) (.slice Gf mf cf) (.int .i64 31) (.int .i64 h.pos) (.string ⟨#[]⟩));have HLf := k0_ ((Ck.Ly.weak (Q' := Ck.Cut Q w.heap.size (w.heap.size + 4)) hlf (fun b _ hq => hq.elim (fun q => .inl q.1) (fun q => .inr (Nat.le_trans HZ.out q)))));have HLf := k0_ ((HLf.out.set2 (X := w.heap.size + 1 + 1) (fun b hq => hq.ne (by omega) (by omega)) (.int .i8 0) (.slice Gf mf cf)).zh (X := w.heap.size + 1 + 1 + 1) (fun b hq => hq.ne (by omega) (by omega)) (.int .i64 31) (.int .i64 h.pos) (.string ⟨#[]⟩));clear hlf hbf q0 q1 q2 q3 q4 q5 q6 q7 q8 q9 q10 ql;obtain ⟨x0, x1, x2, x3, xl⟩ := zF H2.out;obtain ⟨y0, y1, y2, y3, y4, y5, yl⟩ := cells3 H3.out
   go_wp2_with fail
   clear x0 x1 x2 x3 xl y0 y1 y2 y3 y4 y5 yl;generalize (((((wf.setCell ⟨w.heap.size + 1 + 1, 0, none⟩ (.int .i8 0)).setCell ⟨w.heap.size + 1 + 1, 1, none⟩ (.slice Gf mf cf)).setCell ⟨w.heap.size + 1 + 1 + 1, 0, none⟩ (.int .i64 31)).setCell ⟨w.heap.size + 1 + 1 + 1, 1, none⟩ (.int .i64 h.pos)).setCell ⟨w.heap.size + 1 + 1 + 1, 2, none⟩ (.string ⟨#[]⟩)) = wz at *;obtain ⟨k0, k1, -, -, -⟩ := zF HR.out.1;obtain ⟨k2, k3, k4, -, -, -, -⟩ := cells3 HR.out.2.1;refine bodyPost_ret (v := .tuple #[.agg #[.int .i8 0, .slice Gf mf cf], .agg #[.int .i64 31, .int .i64 h.pos, .string ⟨#[]⟩]]) (by simp [results, Tryz.results31, go_sem, k0, k1, k2, k3, k4]) rfl ?_;rw [HRR.out];exact ⟨Qr.Nz.fault h (by decide), Gf, mf, cf, rfl, HLf.out.weak (fun b _ hq => hq.out (by omega)), HR.out.2.2⟩
  ·have hd2 : ¬ ((DD : Int) > 200) := by omega
   have HRR := k0_ (HRR.out.trans (if_neg hd));clear hd;obtain ⟨x0, x1, -, -, xl⟩ := zF H0.out;have HR := k0_ (zQ H2.out H3.out (show w.heap.size + 1 + 1 ≠ w.heap.size + 1 + 1 + 1 by omega) HB2.out (by omega) (by omega) (.int .i8 a.1) (.slice A n c) (.int .i64 0) (.int .i64 0) (.string ⟨#[]⟩));have HLf := k0_ ((HL.out.weak (Q' := Ck.Cut Q w.heap.size (w.heap.size + 4)) (fun b _ hq => .inl hq)));have HLf := k0_ ((HLf.out.set2 (X := w.heap.size + 1 + 1) (fun b hq => hq.ne (by omega) (by omega)) (.int .i8 a.1) (.slice A n c)).zh (X := w.heap.size + 1 + 1 + 1) (fun b hq => hq.ne (by omega) (by omega)) (.int .i64 0) (.int .i64 0) (.string ⟨#[]⟩));obtain ⟨z0, z1, z2, z3, zl⟩ := zF H2.out;obtain ⟨y0, y1, y2, y3, y4, y5, yl⟩ := cells3 H3.out
   go_wp2_with fail
   clear x0 x1 xl z0 z1 z2 z3 zl y0 y1 y2 y3 y4 y5 yl;generalize (((((w3.setCell ⟨w.heap.size + 1 + 1, 0, none⟩ (.int .i8 a.1)).setCell ⟨w.heap.size + 1 + 1, 1, none⟩ (.slice A n c)).setCell ⟨w.heap.size + 1 + 1 + 1, 0, none⟩ (.int .i64 0)).setCell ⟨w.heap.size + 1 + 1 + 1, 1, none⟩ (.int .i64 0)).setCell ⟨w.heap.size + 1 + 1 + 1, 2, none⟩ (.string ⟨#[]⟩)) = wz at *;obtain ⟨k0, k1, -, -, -⟩ := zF HR.out.1;obtain ⟨k2, k3, k4, -, -, -, -⟩ := cells3 HR.out.2.1;refine bodyPost_ret (v := .tuple #[.agg #[.int .i8 a.1, .slice A n c], .agg #[.int .i64 0, .int .i64 0, .string ⟨#[]⟩]]) (by simp [results, Tryz.results31, go_sem, k0, k1, k2, k3, k4]) rfl ?_;rw [HRR.out];exact ⟨Qr.Nz.ok a, A, n, c, rfl, HLf.out.weak (fun b _ hq => hq.out (by omega)), HR.out.2.2⟩
end Go.Proofs.YtglgjaomneljbaaGreatDoor
namespace Go.Proofs.YtglgjaomneljbaaGreatDoor
open Go.RowKit
theorem wO {w : World} {X : Nat} {o : Obj} (q : ∃ u0 u1, w.heap[X]? = some (.cells #[u0, u1] 25 (0, 0))) : ∃ u0 u1, (w.alloc o).heap[X]? = some (.cells #[u0, u1] 25 (0, 0)) := kH q
theorem qJ {w u : World} {X : Nat} (hb : Below w.heap.size w u) (q : ∃ u0 u1, w.heap[X]? = some (.cells #[u0, u1] 25 (0, 0))) : ∃ u0 u1, u.heap[X]? = some (.cells #[u0, u1] 25 (0, 0)) := uf hb q
theorem kZ {w : World} {X : Nat} {a b : Value} (q : ∃ u0 u1, w.heap[X]? = some (.cells #[u0, u1] 25 (0, 0))) : ∃ u0 u1, ((w.setCell ⟨X, 0, none⟩ a).setCell ⟨X, 1, none⟩ b).heap[X]? = some (.cells #[u0, u1] 25 (0, 0)) := jR q
theorem qB {w : World} {X Y : Nat} {a b c : Value} (q : ∃ u0 u1, w.heap[Y]? = some (.cells #[u0, u1] 25 (0, 0))) (h : X ≠ Y) : ∃ u0 u1, (((w.setCell ⟨X, 0, none⟩ a).setCell ⟨X, 1, none⟩ b).setCell ⟨X, 2, none⟩ c).heap[Y]? = some (.cells #[u0, u1] 25 (0, 0)) := q.elim fun _ q => q.elim fun _ q => ⟨_, _, zR q h _ _ _⟩
theorem vY {w : World} {X : Nat} {o : Obj} (q : ∃ u0 u1 u2, w.heap[X]? = some (.cells #[u0, u1, u2] 35 (0, 0))) : ∃ u0 u1 u2, (w.alloc o).heap[X]? = some (.cells #[u0, u1, u2] 35 (0, 0)) := q.elim fun _ q => q.elim fun _ q => q.elim fun _ q => ⟨_, _, _, zH q _⟩
theorem zw {w u : World} {X : Nat} (hb : Below w.heap.size w u) (q : ∃ u0 u1 u2, w.heap[X]? = some (.cells #[u0, u1, u2] 35 (0, 0))) : ∃ u0 u1 u2, u.heap[X]? = some (.cells #[u0, u1, u2] 35 (0, 0)) := q.elim fun _ q => q.elim fun _ q => q.elim fun _ q => ⟨_, _, _, zA hb (zC q) q⟩
theorem zBQ {w : World} {X : Nat} {a b c : Value} (q : ∃ u0 u1 u2, w.heap[X]? = some (.cells #[u0, u1, u2] 35 (0, 0))) : ∃ u0 u1 u2, (((w.setCell ⟨X, 0, none⟩ a).setCell ⟨X, 1, none⟩ b).setCell ⟨X, 2, none⟩ c).heap[X]? = some (.cells #[u0, u1, u2] 35 (0, 0)) := q.elim fun _ q => q.elim fun _ q => q.elim fun _ q => ⟨_, _, _, zf q _ _ _⟩
theorem qA {w : World} {X Y : Nat} {a b : Value} (q : ∃ u0 u1 u2, w.heap[Y]? = some (.cells #[u0, u1, u2] 35 (0, 0))) (h : X ≠ Y) : ∃ u0 u1 u2, ((w.setCell ⟨X, 0, none⟩ a).setCell ⟨X, 1, none⟩ b).heap[Y]? = some (.cells #[u0, u1, u2] 35 (0, 0)) := q.elim fun _ q => q.elim fun _ q => q.elim fun _ q => ⟨_, _, _, zM q h _ _⟩
end Go.Proofs.YtglgjaomneljbaaGreatDoor
namespace Go.Proofs.YtglgjaomneljbaaGreatDoor
set_option maxHeartbeats 1000000
set_option maxRecDepth 100000
open Go.RowKit
namespace Qr
def MeetL (Q : Nat -> Prop) (w : World) (k : Int) (kids : Fo) (k' : Int) (kids' : Fo) (e : Ending) (w' : World) : Prop :=
 ∃ G m c, e = .returned (.tuple #[.agg #[.int .i8 (if Ty.agreeT k kids k' kids' then Ty.mK k k' else 0), .slice G m c], .bool (Ty.agreeT k kids k' kids')]) /\
  Ck.Ly (Ck.Cut Q w.heap.size w.heap.size) w' (if Ty.agreeT k kids k' kids' then (Ty.mK k k', Ty.mT k kids k' kids') else (0, .nil)) G m c /\ Below w.heap.size w w'
theorem MeetL.gen {Q : Nat -> Prop} {w w' : World} {k : Int} {kids : Fo} {k' : Int} {kids' : Fo} {e : Ending} (h : MeetL Q w k kids k' kids' e w') : ∃ (t : Ck.T2) (G : Option Addr) (m c : Nat), t = (if Ty.agreeT k kids k' kids' then (Ty.mK k k', Ty.mT k kids k' kids') else (0, .nil)) /\ e = .returned (.tuple #[.agg #[.int .i8 t.1, .slice G m c], .bool (Ty.agreeT k kids k' kids')]) /\ Ck.Ly (Ck.Cut Q w.heap.size w.heap.size) w' t G m c /\ Below w.heap.size w w' := by
 obtain ⟨G, m, c, h1, h2, h3⟩ := h;refine ⟨_, G, m, c, rfl, ?_, h2, h3⟩;rw [h1];cases Ty.agreeT k kids k' kids' <;> rfl
def MtPost (Q : Nat -> Prop) (w : World) (ok : Bool) (t : Ck.T2) (e : Ending) (w' : World) : Prop :=
 ∃ (s : Ck.T2) (G : Option Addr) (m c : Nat), e = .returned (.tuple #[.agg #[.int .i8 s.1, .slice G m c], .bool ok]) /\ Ck.Ly (Ck.Cut Q w.heap.size w.heap.size) w' s G m c /\ (ok = true -> s = t) /\ Below w.heap.size w w'
end Qr
theorem zBv (m : Int) (hm : (m == 0) = false) (k : Int) (kids : Fo) (A : Option Addr) (n c : Nat) (k' : Int) (kids' : Fo) (A' : Option Addr) (n' c' : Nat) (w : World) (hIs : Ty.Is w k kids A n c) (hIs' : Ty.Is w k' kids' A' n' c') :
  Calls Tryz.prog 33 #[.agg #[.int .i8 k, .slice A n c], .agg #[.int .i8 k', .slice A' n' c'], .int .i64 m] w fun e w' => e = .returned (.bool (Ty.sameT k kids k' kids')) /\ Below w.heap.size w w' := by
 have HB2 := k0_ (zW w (.cells #[.int .i8 k, .slice A n c] 25) (.cells #[.int .i8 k', .slice A' n' c'] 25));obtain ⟨h0, h1⟩ := zS w (.cells #[.int .i8 k, .slice A n c] 25) (.cells #[.int .i8 k', .slice A' n' c'] 25);have CA := k0_ (fun (W : World) (hb : Below w.heap.size w W) => uE k kids A n c k' kids' A' n' c' W (hIs.below hb) (hIs'.below hb));generalize Ty.sameT k kids k' kids' = B at *;clear hIs hIs'
 go_enter Tryz.func33, Tryz.ntmps33
 go_upto_region 1 with fail
 generalize (w.alloc (.cells #[.int .i8 k, .slice A n c] 25)).alloc (.cells #[.int .i8 k', .slice A' n' c'] 25) = w1 at *;obtain ⟨x0, x1, -, -, xl⟩ := zF h0;obtain ⟨y0, y1, -, -, yl⟩ := zF h1;clear h0 h1
 go_wp2_with fail
 refine (CA.out _ HB2.out).mono ?_;rintro e w2 ⟨rfl, hb⟩;have HB3 := kt_ HB2 hb;clear hb x0 x1 xl y0 y1 yl
 go_wp2_with fail
 go_ret
 exact ⟨rfl, HB3.out⟩
theorem zAV (m : Int) (hm : (m == 0) = false) (Q : Nat -> Prop) (kd : Int) (a : Ck.T2) (A : Option Addr) (n c : Nat) (w : World) (hkd : 3 <= kd /\ kd <= 5) (hL : Ck.Ly Q w a A n c) (hok : Ty.okT a.1 a.2 = true) :
  Calls Tryz.prog 60 #[.int .i8 kd, .agg #[.int .i8 a.1, .slice A n c], .int .i64 m] w (Cg.AsPost Q w (St.ops.asO kd a) (St.ops.asl kd a) (St.ops.asr kd a)) := by
 by_cases hk : a.1 = kd
 ·obtain ⟨k, kids⟩ := a
  dsimp only at hk hok ⊢;subst hk;obtain ⟨a1, a2, p1, f1, a3, a4, p2, f2, rfl, o1, o2⟩ := Ty.vk hok hkd.1;have hn := hL.is.n_eq;simp only [Ty.len] at hn;subst hn;obtain ⟨bb, oo, B1, c1, B2, c2, rfl, hQ, x0, x1, x2, x3, L1, L2⟩ := hL.parts;have e1 : St.ops.asO k (k, .node a1 a2 p1 f1 (.node a3 a4 p2 f2 .nil)) = true := by show (k == k) = true; simp
  have e2 : St.ops.asl k (k, .node a1 a2 p1 f1 (.node a3 a4 p2 f2 .nil)) = (p1, f1) := by show (if k = k then _ else _) = _; rw [if_pos rfl]; rfl
  have e3 : St.ops.asr k (k, .node a1 a2 p1 f1 (.node a3 a4 p2 f2 .nil)) = (p2, f2) := by show (if k = k then _ else _) = _; rw [if_pos rfl]; rfl
  rw [e1, e2, e3];have hB3 := qV w (.cells #[.int .i8 k, .slice (some ⟨bb, oo, none⟩) 2 c] 25) (.cells #[.int .i8 0, .slice none 0 0] 25) (.cells #[.int .i8 0, .slice none 0 0] 25);obtain ⟨h0, h1, h2⟩ := qj w (.cells #[.int .i8 k, .slice (some ⟨bb, oo, none⟩) 2 c] 25) (.cells #[.int .i8 0, .slice none 0 0] 25) (.cells #[.int .i8 0, .slice none 0 0] 25);have HL1 := k0_ (((L1.weak (Q' := Ck.Cut Q w.heap.size (w.heap.size + 3)) (fun b hl hq => .inl ⟨hq, hl⟩)).later hB3));have HL2 := k0_ (((L2.weak (Q' := Ck.Cut Q w.heap.size (w.heap.size + 3)) (fun b hl hq => .inl ⟨hq, hl⟩)).later hB3));have x0 := zB x0 hB3;have x1 := zB x1 hB3;have x2 := zB x2 hB3;have x3 := zB x3 hB3;have HB3 := k0_ hB3;clear e1 e2 e3 hok hL hQ L1 L2 hB3 o1 o2 hkd;generalize Ty.len f1 = m1 at *;generalize Ty.len f2 = m2 at *;have ek : (k != k) = false := by simp
  go_enter Tryz.func60, Tryz.ntmps60
  go_upto_region 1 with fail
  generalize ((w.alloc (.cells #[.int .i8 k, .slice (some ⟨bb, oo, none⟩) 2 c] 25)).alloc (.cells #[.int .i8 0, .slice none 0 0] 25)).alloc (.cells #[.int .i8 0, .slice none 0 0] 25) = w1 at *;obtain ⟨r0, r1, -, -, rl⟩ := zF h0;have H1 := k0_ h1;have H2 := k0_ h2;obtain ⟨y0, y1, y2, y3, yl⟩ := zF h1;obtain ⟨z0, z1, z2, z3, zl⟩ := zF h2;clear h0 h1 h2
  go_wp2_with fail
  go_region
  have Z4 := k0_ (zM (zL H1.out (.int .i8 p1) (.slice B1 m1 c1)) (show w.heap.size + 1 + 1 ≠ w.heap.size + 1 by omega) (.int .i8 p2) (.slice B2 m2 c2));have Z5 := k0_ (zL (zM H2.out (show w.heap.size + 1 ≠ w.heap.size + 1 + 1 by omega) (.int .i8 p1) (.slice B1 m1 c1)) (.int .i8 p2) (.slice B2 m2 c2));have HBF := k0_ (zG (zG HB3.out (show w.heap.size <= w.heap.size + 1 by omega) (.int .i8 p1) (.slice B1 m1 c1)) (show w.heap.size <= w.heap.size + 1 + 1 by omega) (.int .i8 p2) (.slice B2 m2 c2));have HJ1 := k0_ ((HL1.out.set2 (X := w.heap.size + 1) (fun b h => h.ne (by omega) (by omega)) (.int .i8 p1) (.slice B1 m1 c1)).set2 (X := w.heap.size + 1 + 1) (fun b h => h.ne (by omega) (by omega)) (.int .i8 p2) (.slice B2 m2 c2));have HJ2 := k0_ ((HL2.out.set2 (X := w.heap.size + 1) (fun b h => h.ne (by omega) (by omega)) (.int .i8 p1) (.slice B1 m1 c1)).set2 (X := w.heap.size + 1 + 1) (fun b h => h.ne (by omega) (by omega)) (.int .i8 p2) (.slice B2 m2 c2));generalize ((((w1.setCell ⟨w.heap.size + 1, 0, none⟩ (.int .i8 p1)).setCell ⟨w.heap.size + 1, 1, none⟩ (.slice B1 m1 c1)).setCell ⟨w.heap.size + 1 + 1, 0, none⟩ (.int .i8 p2)).setCell ⟨w.heap.size + 1 + 1, 1, none⟩ (.slice B2 m2 c2)) = w6 at *;have K4 : Hid (w6.drew.heap[w.heap.size + 1]? = some (.cells #[.int .i8 p1, .slice B1 m1 c1] 25 (0, 0))) := k0_ Z4.out;have K5 : Hid (w6.drew.heap[w.heap.size + 1 + 1]? = some (.cells #[.int .i8 p2, .slice B2 m2 c2] 25 (0, 0))) := k0_ Z5.out;have HJ1 := k0_ (HJ1.out.later (Below.refl _ _).drew);have HJ2 := k0_ (HJ2.out.later (Below.refl _ _).drew);have HBF := k0_ (HBF.out.drew);clear Z4 Z5 H1 H2 HL1 HL2 HB3 r0 r1 rl x0 x1 x2 x3 y0 y1 y2 y3 yl z0 z1 z2 z3 zl;generalize w6.drew = w7 at *;obtain ⟨k0, k1, -, -, -⟩ := zF K4.out;obtain ⟨k2, k3, -, -, -⟩ := zF K5.out
  go_wp2_with fail
  refine bodyPost_ret (v := .tuple #[.agg #[.int .i8 p1, .slice B1 m1 c1], .agg #[.int .i8 p2, .slice B2 m2 c2], .bool true]) (by simp [results, Tryz.results60, go_sem, k0, k1, k2, k3]) rfl ⟨B1, m1, c1, B2, m2, c2, rfl, HJ1.out.weak (fun b _ h => h.out (by omega)), HJ2.out.weak (fun b _ h => h.out (by omega)), HBF.out⟩
 ·have e1 : St.ops.asO kd a = false := by show (a.1 == kd) = false; simpa using hk
  have e2 : St.ops.asl kd a = (0, .nil) := by show (if a.1 = kd then _ else _) = _; rw [if_neg hk]
  have e3 : St.ops.asr kd a = (0, .nil) := by show (if a.1 = kd then _ else _) = _; rw [if_neg hk]
  rw [e1, e2, e3];have hB3 := qV w (.cells #[.int .i8 a.1, .slice A n c] 25) (.cells #[.int .i8 0, .slice none 0 0] 25) (.cells #[.int .i8 0, .slice none 0 0] 25);obtain ⟨h0, h1, h2⟩ := qj w (.cells #[.int .i8 a.1, .slice A n c] 25) (.cells #[.int .i8 0, .slice none 0 0] 25) (.cells #[.int .i8 0, .slice none 0 0] 25);have HB3 := k0_ hB3;have ek : (a.1 != kd) = true := by simpa using hk
  clear e1 e2 e3 hok hL hB3 hkd hk
  go_enter Tryz.func60, Tryz.ntmps60
  go_upto_region 1 with fail
  generalize ((w.alloc (.cells #[.int .i8 a.1, .slice A n c] 25)).alloc (.cells #[.int .i8 0, .slice none 0 0] 25)).alloc (.cells #[.int .i8 0, .slice none 0 0] 25) = w1 at *;obtain ⟨r0, r1, -, -, rl⟩ := zF h0;have H1 := k0_ h1;have H2 := k0_ h2;obtain ⟨y0, y1, y2, y3, yl⟩ := zF h1;obtain ⟨z0, z1, z2, z3, zl⟩ := zF h2;clear h0 h1 h2;have Z4 := k0_ (zM (zL H1.out (.int .i8 0) (.slice none 0 0)) (show w.heap.size + 1 + 1 ≠ w.heap.size + 1 by omega) (.int .i8 0) (.slice none 0 0));have Z5 := k0_ (zL (zM H2.out (show w.heap.size + 1 ≠ w.heap.size + 1 + 1 by omega) (.int .i8 0) (.slice none 0 0)) (.int .i8 0) (.slice none 0 0));have HBF := k0_ (zG (zG HB3.out (show w.heap.size <= w.heap.size + 1 by omega) (.int .i8 0) (.slice none 0 0)) (show w.heap.size <= w.heap.size + 1 + 1 by omega) (.int .i8 0) (.slice none 0 0))
  go_wp2_with fail
  generalize ((((w1.setCell ⟨w.heap.size + 1, 0, none⟩ (.int .i8 0)).setCell ⟨w.heap.size + 1, 1, none⟩ (.slice none 0 0)).setCell ⟨w.heap.size + 1 + 1, 0, none⟩ (.int .i8 0)).setCell ⟨w.heap.size + 1 + 1, 1, none⟩ (.slice none 0 0)) = w6 at *;obtain ⟨k0, k1, -, -, -⟩ := zF Z4.out;obtain ⟨k2, k3, -, -, -⟩ := zF Z5.out;refine bodyPost_ret (v := .tuple #[.agg #[.int .i8 0, .slice none 0 0], .agg #[.int .i8 0, .slice none 0 0], .bool false]) (by simp [results, Tryz.results60, go_sem, k0, k1, k2, k3]) rfl ⟨none, 0, 0, none, 0, 0, rfl, Ck.Ly.zero _ _, Ck.Ly.zero _ _, HBF.out⟩
theorem zDE (md : Int) (hm : (md == 0) = false) (Q : Nat -> Prop) (a : Ck.T2) (A : Option Addr) (n c : Nat) (b : Ck.T2) (A' : Option Addr) (n' c' : Nat) (w : World) (hL : Ck.Ly Q w a A n c) (hL' : Ck.Ly Q w b A' n' c') :
  Calls Tryz.prog 61 #[.agg #[.int .i8 a.1, .slice A n c], .agg #[.int .i8 b.1, .slice A' n' c'], .int .i64 md] w (Qr.MtPost Q w (Ty.sameT a.1 a.2 b.1 b.2) a) := by
 have hB3 := qV w (.cells #[.int .i8 a.1, .slice A n c] 25) (.cells #[.int .i8 b.1, .slice A' n' c'] 25) (.cells #[.int .i8 0, .slice none 0 0] 25);obtain ⟨h0, h1, h2⟩ := qj w (.cells #[.int .i8 a.1, .slice A n c] 25) (.cells #[.int .i8 b.1, .slice A' n' c'] 25) (.cells #[.int .i8 0, .slice none 0 0] 25);have CA := k0_ (fun (W : World) (hb : Below w.heap.size w W) => uE a.1 a.2 A n c b.1 b.2 A' n' c' W (hL.is.below hb) (hL'.is.below hb));have hb2 := zW w (.cells #[.int .i8 a.1, .slice A n c] 25) (.cells #[.int .i8 b.1, .slice A' n' c'] 25);have hb1 := zO ((w.alloc (.cells #[.int .i8 a.1, .slice A n c] 25)).alloc (.cells #[.int .i8 b.1, .slice A' n' c'] 25)) (.cells #[.int .i8 0, .slice none 0 0] 25);have HL := k0_ ((hL.weak (Q' := Ck.Cut Q w.heap.size (w.heap.size + 3)) (fun b hl hq => .inl ⟨hq, hl⟩)).later hb2);generalize Ty.sameT a.1 a.2 b.1 b.2 = B at *;obtain ⟨g0, g1⟩ := zS w (.cells #[.int .i8 a.1, .slice A n c] 25) (.cells #[.int .i8 b.1, .slice A' n' c'] 25);have hz : (((w.alloc (.cells #[.int .i8 a.1, .slice A n c] 25)).alloc (.cells #[.int .i8 b.1, .slice A' n' c'] 25)).alloc (.cells #[.int .i8 0, .slice none 0 0] 25)).heap.size = w.heap.size + 3 := by simp
 have hzb : ((w.alloc (.cells #[.int .i8 a.1, .slice A n c] 25)).alloc (.cells #[.int .i8 b.1, .slice A' n' c'] 25)).heap.size = w.heap.size + 2 := by simp
 have HK := k0_ (fun (W : World) (hb : Below ((w.alloc (.cells #[.int .i8 a.1, .slice A n c] 25)).alloc (.cells #[.int .i8 b.1, .slice A' n' c'] 25)).heap.size ((w.alloc (.cells #[.int .i8 a.1, .slice A n c] 25)).alloc (.cells #[.int .i8 b.1, .slice A' n' c'] 25)) W) => (show W.cell? ⟨w.heap.size, 0, none⟩ = some (.int .i8 a.1) /\ W.cell? ⟨w.heap.size, 1, none⟩ = some (.slice A n c) /\ W.cell? ⟨w.heap.size + 1, 0, none⟩ = some (.int .i8 b.1) /\ W.cell? ⟨w.heap.size + 1, 1, none⟩ = some (.slice A' n' c') from by
  obtain ⟨r0, r1, -, -, -⟩ := zF (zA hb (zC g0) g0);obtain ⟨s0, s1, -, -, -⟩ := zF (zA hb (zC g1) g1)
  exact ⟨r0, r1, s0, s1⟩))
 have hfrom := k0_ (fun (W : World) (hb : Below ((w.alloc (.cells #[.int .i8 a.1, .slice A n c] 25)).alloc (.cells #[.int .i8 b.1, .slice A' n' c'] 25)).heap.size ((w.alloc (.cells #[.int .i8 a.1, .slice A n c] 25)).alloc (.cells #[.int .i8 b.1, .slice A' n' c'] 25)) W) => hb2.trans (hb.mono hb2.size));generalize hwb : (w.alloc (.cells #[.int .i8 a.1, .slice A n c] 25)).alloc (.cells #[.int .i8 b.1, .slice A' n' c'] 25) = wb at *;generalize hw1 : wb.alloc (.cells #[.int .i8 0, .slice none 0 0] 25) = w1 at *;have HB1 := k0_ hb1;have HZ := k0_ hz;have HZB := k0_ hzb;have H2 := k0_ h2;have HW := k0_ (And.intro hwb hw1);clear hL hL' hB3 h0 h1 h2 g0 g1 hb1 hb2 hz hzb hwb hw1
 go_enter Tryz.func61, Tryz.ntmps61
 go_upto_region 1 with fail
 rw [HW.out.1, HW.out.2];clear HW
 go_upto_region 3 with fail
 refine zI 19 rfl [15, 16, 17, 18, 7] (by kernel_rfl) (by kernel_rfl) (by kernel_rfl) (fun listed a' w' => a'.defers = [] /\ a'.tmps.size = 19 /\ a'.eval (.tmp 3) = .pointer (some ⟨w.heap.size, 0, none⟩) /\ a'.eval (.tmp 4) = .pointer (some ⟨w.heap.size + 1, 0, none⟩) /\ a'.eval (.tmp 6) = .pointer (some ⟨w.heap.size + 1 + 1, 0, none⟩) /\ (listed[0]? = some true -> (a'.eval (.tmp 15) = .agg #[.int .i8 a.1, .slice A n c])) /\ (listed[1]? = some true -> (a'.eval (.tmp 16) = .agg #[.int .i8 a.1, .slice A n c])) /\ (listed[2]? = some true -> (a'.eval (.tmp 17) = .agg #[.int .i8 b.1, .slice A' n' c'])) /\ (listed[3]? = some true -> (a'.eval (.tmp 18) = .bool B)) /\ (listed[4]? = some true -> (w'.heap[w.heap.size + 1 + 1]? = some (.cells #[.int .i8 a.1, .slice A n c] 25 (0, 0))) /\ (Ck.Ly (Ck.Cut Q w.heap.size (w.heap.size + 3)) w' a A n c)) /\ (listed[5]? = some true -> (a'.eval (.tmp 7) = .bool B)) /\ (∃ u0 u1, w'.heap[w.heap.size + 1 + 1]? = some (.cells #[u0, u1] 25 (0, 0))) /\ Below wb.heap.size wb w') (fun _ _ _ h => h.1) ?_ ?_ ?_
 ·have hz0 := HZ.out
  refine ⟨rfl, rfl, rfl, rfl, rfl, (fun h => ?_), (fun h => ?_), (fun h => ?_), (fun h => ?_), (fun h => ?_), (fun h => ?_), ⟨_, _, H2.out⟩, HB1.out.drew⟩ <;> simp at h
 ·rintro listed a' w' i o ⟨hdf, hsz, x3, x4, x6, y0, y1, y2, y3, y4, y5, hB0, hbw⟩ hz hsz0 ho hi hp
  have hi13 : i < 6 := by
   rcases Nat.lt_or_ge i 6 with q | q
   ·exact q
   ·exact jY
  rcases (by omega : i = 0 \/ i = 1 \/ i = 2 \/ i = 3 \/ i = 4 \/ i = 5) with rfl | rfl | rfl | rfl | rfl | rfl
  ·obtain rfl := Option.some.inj ho
   refine zN ho rfl (jf 15 rfl (v := .agg #[.int .i8 a.1, .slice A n c]) ?_ ?_)
   ·obtain ⟨c0, c1, c2, c3⟩ := HK.out w' hbw
    exact zCV
   ·exact ⟨pd hdf, ps hsz, pn x3, pn x4, pn x6, (fun _ => pS hsz), (kE y1), (kE y2), (kE y3), (kF y4 (fun q => ⟨q.1, q.2⟩)), (kE y5), hB0, hbw⟩
  ·obtain rfl := Option.some.inj ho
   refine zN ho rfl (jf 16 rfl (v := .agg #[.int .i8 a.1, .slice A n c]) ?_ ?_)
   ·obtain ⟨c0, c1, c2, c3⟩ := HK.out w' hbw
    exact zCV
   ·exact ⟨pd hdf, ps hsz, pn x3, pn x4, pn x6, (kE y0), (fun _ => pS hsz), (kE y2), (kE y3), (kF y4 (fun q => ⟨q.1, q.2⟩)), (kE y5), hB0, hbw⟩
  ·obtain rfl := Option.some.inj ho
   refine zN ho rfl (jf 17 rfl (v := .agg #[.int .i8 b.1, .slice A' n' c']) ?_ ?_)
   ·obtain ⟨c0, c1, c2, c3⟩ := HK.out w' hbw
    exact zCV
   ·exact ⟨pd hdf, ps hsz, pn x3, pn x4, pn x6, (kE y0), (kE y1), (fun _ => pS hsz), (kE y3), (kF y4 (fun q => ⟨q.1, q.2⟩)), (kE y5), hB0, hbw⟩
  ·obtain rfl := Option.some.inj ho
   have v1 := hpv hp 1 (by simp);have ww1 := (y1 v1);have v2 := hpv hp 2 (by simp);have ww2 := (y2 v2);refine zN ho rfl (wZ 18 rfl (f := 59) (args := #[.agg #[.int .i8 a.1, .slice A n c], .agg #[.int .i8 b.1, .slice A' n' c']]) ?_ (CA.out w' (hfrom.out w' hbw)) fun e u hg => ?_)
   ·exact zCV
   ·obtain ⟨he, hb⟩ := hg
    refine ⟨.bool B, he, ?_⟩;have hbs := hbw.size;have hz1 := HZ.out;have hzb := HZB.out;have hzz : w.heap.size + 3 <= w'.heap.size := by obtain ⟨_, _, q⟩ := hB0; have := zC q; omega
    have hbs2 := hb.size;exact ⟨pd hdf, ps hsz, pn x3, pn x4, pn x6, (kE y0), (kE y1), (kE y2), (fun _ => pS hsz), (kF y4 (fun q => ⟨(zA hb (zC q.1) q.1), (Ck.Ly.later q.2 hb)⟩)), (kE y5), (qJ hb hB0), hbw.trans (hb.mono hbw.size)⟩
  ·obtain rfl := Option.some.inj ho
   have v0 := hpv hp 0 (by simp);have ww0 := (y0 v0);obtain ⟨u0, u1, hbox⟩ := id hB0;obtain ⟨bc0, bc1, bf0, bf1, -⟩ := zF hbox;refine zN ho rfl (zT rfl (w2 := ((w'.setCell ⟨w.heap.size + 1 + 1, 0, none⟩ (.int .i8 a.1)).setCell ⟨w.heap.size + 1 + 1, 1, none⟩ (.slice A n c))) ?_ ?_)
   ·exact zCV
   ·have hsa : (((w'.setCell ⟨w.heap.size + 1 + 1, 0, none⟩ (.int .i8 a.1)).setCell ⟨w.heap.size + 1 + 1, 1, none⟩ (.slice A n c))).heap.size = w'.heap.size := by simp
    have hbs := hbw.size;have hz1 := HZ.out;have hzb := HZB.out;have hzz : w.heap.size + 3 <= w'.heap.size := by obtain ⟨_, _, q⟩ := hB0; have := zC q; omega
    exact ⟨hdf, hsz, x3, x4, x6, (kF y0 id), (kF y1 id), (kF y2 id), (kF y3 id), (fun _ => ⟨zL hbox _ _, (HL.out.later hbw).set2 (fun b hq => hq.ne (by omega) (by omega)) _ _⟩), (kF y5 id), ⟨_, _, zL hbox _ _⟩, zG hbw (by omega) _ _⟩
  ·obtain rfl := Option.some.inj ho
   refine zN ho rfl (jf 7 rfl (v := .bool B) ?_ ?_)
   ·have v3 := hpv hp 3 (by simp)
    have ww3 := (y3 v3);exact zCV
   ·have v3 := hpv hp 3 (by simp)
    exact ⟨pd hdf, ps hsz, pn x3, pn x4, pn x6, (kE y0), (kE y1), (kE y2), (kE y3), (kF y4 (fun q => ⟨q.1, q.2⟩)), (fun _ => pS hsz), hB0, hbw⟩
 ·rintro listed u w' t ht hu ⟨-, -, -, -, -, y0, y1, y2, y3, y4, y5, hB0, hbw⟩ hall
  have v4 := hall 4 (by decide);have v5 := hall 5 (by decide);have HBX := k0_ (hfrom.out w' hbw);have hx := ((y4 v4).1);have hl := ((y4 v4).2);have e7 := ((y5 v5));rw [hu 7 (by decide) (by decide)] at e7;clear y0 y1 y2 y3 y4 y5 v4 v5 hall hu;clear hbw;simp only [over, List.setIfInBounds_toArray, List.set_cons_succ, List.set_cons_zero] at ht;subst ht;obtain ⟨k0, k1, -, -, -⟩ := zF hx
  go_wp2_with fail
  refine ⟨rfl, .tuple #[.agg #[.int .i8 a.1, .slice A n c], .bool B], by simp [results, Tryz.results61, go_sem, k0, k1, e7], ?_⟩;exact ⟨a, A, n, c, rfl, hl.weak (fun b _ h => h.out (by omega)), (fun _ => rfl), HBX.out⟩
end Go.Proofs.YtglgjaomneljbaaGreatDoor
namespace Go.Proofs.YtglgjaomneljbaaGreatDoor
open Go.RowKit
theorem K2 {l : Array Bool} {i j : Nat} {A B : Prop} (y : l[j]? = some true -> A) (f : A -> B := by ((repeat' with_reducible refine And.imp ?_ ?_) <;> first | with_reducible exact id | with_reducible exact fun q => pn q | with_reducible exact fun q => z8 q | with_reducible exact fun q => Ck.Ly.later q hba | with_reducible exact fun q => Ck.Ly.later q hb | with_reducible exact fun q => Ck.EAt.below q hba | with_reducible exact fun q => Ck.EAt.below q hb | with_reducible exact fun q => zH q _ | with_reducible exact fun q => zA hb (zC q) q | with_reducible exact wO | with_reducible exact vY | with_reducible exact qJ hb | with_reducible exact zw hb | ((with_reducible refine fun q => Ck.Ly.set2 q ?_ _ _); exact fun b hq => hq.ne (by omega) (by omega)) | ((with_reducible refine fun q => Ck.Ly.zh q ?_ _ _ _); exact fun b hq => hq.ne (by omega) (by omega)) | ((with_reducible refine fun q => zM q ?_ _ _); omega) | ((with_reducible refine fun q => zR q ?_ _ _ _); omega))) (h : i ≠ j := by decide) : (l.setIfInBounds i true)[j]? = some true -> B := kF y f h
end Go.Proofs.YtglgjaomneljbaaGreatDoor
