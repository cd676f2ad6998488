import Derived.Test.YtlfcbmobgbcgnaaGreatDoorM19
import Derived.Test.YtlfcbmobgbcgnaaGreatDoorM18
import Derived.Test.YtlfcbmobgbcgnaaGreatDoorM15
import Derived.Test.YtlfcbmobgbcgnaaGreatDoorM7
namespace Go.Proofs.YtlfcbmobgbcgnaaGreatDoor
open Go.RowKit
namespace Qr
open Ck
def tyO : R → T2
 | .ok a => a
 | .bad _ _ _ => (0, .nil)
def eO : R → Int
 | .ok _ => 0
 | .bad E _ _ => E
def pO : R → Int
 | .ok _ => 0
 | .bad _ p _ => p
def xO : R → ByteArray
 | .ok _ => ⟨#[]⟩
 | .bad _ _ x => x
def Nz (r : R) : Prop := ∀ E p x, r = .bad E p x → E ≠ 0
def Post (Q : Nat → Prop) (w : World) (r : R) (e : Ending) (w' : World) : Prop :=
 Nz r ∧ ∃ G m c, e = .returned (.tuple #[.agg #[.int .i8 (tyO r).1, .slice G m c], .agg #[.int .i64 (eO r), .int .i64 (pO r), .string (xO r)]]) ∧ Ly (Cut Q w.heap.size w.heap.size) w' (tyO r) G m c ∧ Below w.heap.size w w'
theorem Nz.ok (a : T2) : Nz (.ok a) := fun _ _ _ e => by cases e
theorem Nz.fault (h : Hd) {E : Int} (hE : E ≠ 0) : Nz (fault h E) := fun _ _ _ e => by injection e with e; rw [← e]; exact hE
theorem Post.from {Q : Nat → Prop} {w u w' : World} {r : R} {e : Ending} (h : Post Q u r e w') (hb : Below w.heap.size w u) (hq : ∀ b, b < u.heap.size → Q b → Cut Q w.heap.size w.heap.size b) : Post Q w r e w' := by
 obtain ⟨h0, G, m, c, h1, h2, h3⟩ := h
 exact ⟨h0, G, m, c, h1, h2.weak (fun b _ q => q.elim (fun q => hq b q.2 q.1) (fun q => .inr (Nat.le_trans hb.size q))), hb.trans (h3.mono hb.size)⟩
theorem Post.flt {Q : Nat → Prop} {w w' : World} {h : Hd} {E : Int} {e : Ending} (hp : Post Q w (fault h E) e w') : ∃ G m c, e = .returned (.tuple #[.agg #[.int .i8 0, .slice G m c], .agg #[.int .i64 E, .int .i64 h.pos, .string ⟨#[]⟩]]) ∧ Ly (Cut Q w.heap.size w.heap.size) w' (0, .nil) G m c ∧ Below w.heap.size w w' := by
 obtain ⟨-, G, m, c, h1, h2, h3⟩ := hp
 exact ⟨G, m, c, h1, h2, h3⟩
theorem Post.gen {Q : Nat → Prop} {w w' : World} {r : R} {e : Ending} (hp : Post Q w r e w') : ∃ (a : T2) (E p : Int) (x : ByteArray) (G : Option Addr) (m c : Nat), (tyO r = a ∧ eO r = E ∧ pO r = p ∧ xO r = x) ∧ e = .returned (.tuple #[.agg #[.int .i8 a.1, .slice G m c], .agg #[.int .i64 E, .int .i64 p, .string x]]) ∧ Ly (Cut Q w.heap.size w.heap.size) w' a G m c ∧ Below w.heap.size w w' := by
 obtain ⟨-, G, m, c, h1, h2, h3⟩ := hp
 exact ⟨_, _, _, _, G, m, c, ⟨rfl, rfl, rfl, rfl⟩, h1, h2, h3⟩
theorem R.qg {r : R} {a : T2} {E p : Int} {x : ByteArray} (hn : Nz r) (h : tyO r = a ∧ eO r = E ∧ pO r = p ∧ xO r = x) : (E = 0 → r = .ok a ∧ p = 0 ∧ x = ⟨#[]⟩) ∧ (E ≠ 0 → r = .bad E p x ∧ a = (0, .nil)) := by
 obtain ⟨h1, h2, h3, h4⟩ := h
 cases r with
 | ok b => exact ⟨fun _ => ⟨by rw [← h1]; rfl, h3.symm, h4.symm⟩, fun q => absurd h2.symm q⟩
 | bad E' p' x' =>
  have := hn E' p' x' rfl
  refine ⟨fun q => absurd (h2.trans q) this, fun _ => ⟨?_, h1.symm⟩⟩
  rw [← h2, ← h3, ← h4]; rfl
end Qr
theorem zf {u : World} {X : Nat} {x0 x1 x2 : Value} {t : TypeId} (h : u.heap[X]? = some (.cells #[x0, x1, x2] t (0, 0))) (a b c : Value) : (((u.setCell ⟨X, 0, none⟩ a).setCell ⟨X, 1, none⟩ b).setCell ⟨X, 2, none⟩ c).heap[X]? = some (.cells #[a, b, c] t (0, 0)) := by
 simp [World.setCell, Array.getElem?_modify, h]
theorem zP {u : World} {X Y : Nat} {o : Obj} (h : u.heap[Y]? = some o) (hne : X ≠ Y) (a b c : Value) : (((u.setCell ⟨X, 0, none⟩ a).setCell ⟨X, 1, none⟩ b).setCell ⟨X, 2, none⟩ c).heap[Y]? = some o := by
 simp [World.setCell, Array.getElem?_modify, h, hne]
theorem qE {N X : Nat} {w u : World} (h : Below N w u) (hX : N ≤ X) (a b c : Value) : Below N w (((u.setCell ⟨X, 0, none⟩ a).setCell ⟨X, 1, none⟩ b).setCell ⟨X, 2, none⟩ c) := ((h.setCell (p := ⟨X, 0, none⟩) hX _).setCell (p := ⟨X, 1, none⟩) hX _).setCell (p := ⟨X, 2, none⟩) hX _
theorem Ck.Ly.zk {Q : Nat → Prop} {w : World} {a : Ck.T2} {G : Option Addr} {m c : Nat} (h : Ck.Ly Q w a G m c) {X : Nat} (hX : ∀ b, Q b → b ≠ X) (v0 v1 v2 : Value) : Ck.Ly Q (((w.setCell ⟨X, 0, none⟩ v0).setCell ⟨X, 1, none⟩ v1).setCell ⟨X, 2, none⟩ v2) a G m c := ((h.set hX _ _).set hX _ _).set hX _ _
theorem cells3 {w : World} {b : Nat} {v0 v1 v2 : Value} {t : TypeId} (h : w.heap[b]? = some (.cells #[v0, v1, v2] t (0, 0))) :
  w.cell? ⟨b, 0, none⟩ = some v0 ∧ w.cell? ⟨b, 1, none⟩ = some v1 ∧ w.cell? ⟨b, 2, none⟩ = some v2 ∧
  w.frozen? ⟨b, 0, none⟩ = false ∧ w.frozen? ⟨b, 1, none⟩ = false ∧ w.frozen? ⟨b, 2, none⟩ = false ∧ b < w.heap.size := by
 refine ⟨?_, ?_, ?_, ?_, ?_, ?_, zC h⟩ <;> simp [World.cell?, World.frozen?, h]
theorem zQ {u w : World} {X Y : Nat} {x0 x1 y0 y1 y2 : Value} {t s : TypeId} (hX : u.heap[X]? = some (.cells #[x0, x1] t (0, 0))) (hY : u.heap[Y]? = some (.cells #[y0, y1, y2] s (0, 0))) (hne : X ≠ Y) (hb : Below w.heap.size w u) (h1 : w.heap.size ≤ X) (h2 : w.heap.size ≤ Y) (a b c d e : Value) :
  let v := ((((u.setCell ⟨X, 0, none⟩ a).setCell ⟨X, 1, none⟩ b).setCell ⟨Y, 0, none⟩ c).setCell ⟨Y, 1, none⟩ d).setCell ⟨Y, 2, none⟩ e
  v.heap[X]? = some (.cells #[a, b] t (0, 0)) ∧ v.heap[Y]? = some (.cells #[c, d, e] s (0, 0)) ∧ Below w.heap.size w v :=
 ⟨zP (zM hX a b) hne.symm _ _ _, zf (zK hY hne a b) _ _ _, qE (zG hb h1 _ _) h2 _ _ _⟩
end Go.Proofs.YtlfcbmobgbcgnaaGreatDoor
namespace Go.Proofs.YtlfcbmobgbcgnaaGreatDoor
set_option maxHeartbeats 1000000
set_option maxRecDepth 100000
open Go.RowKit
theorem qY (k : Int) (w : World) : Calls Tryz.prog 32 #[.int .i8 k] w fun e w' => e = .returned (.agg #[.int .i8 k, .slice none 0 0]) ∧ Below w.heap.size w w' := by
 have HB := k0_ (zS w (.cells #[.int .i8 k, .slice none 0 0] 25))
 go_enter Tryz.func32, Tryz.ntmps32
 go_wp2_with fail
 refine bodyPost_ret (v := .agg #[.int .i8 k, .slice none 0 0]) (by simp [results, Tryz.results32, go_sem, *]) rfl ⟨rfl, HB.out⟩
theorem jq (Q : Nat → Prop) (k : Int) (hk : -128 ≤ k ∧ k ≤ 127) (a : Ck.T2) (A : Option Addr) (n c : Nat) (b : Ck.T2) (A' : Option Addr) (n' c' : Nat) (w : World) (hL : Ck.Ly Q w a A n c) (hL' : Ck.Ly Q w b A' n' c') :
  Calls Tryz.prog 35 #[.int .i8 k, .agg #[.int .i8 a.1, .slice A n c], .agg #[.int .i8 b.1, .slice A' n' c']] w (Ck.Gives Q w (Ck.mk2 k a b)) := by
 have hB3 := qV w (.cells #[.int .i8 a.1, .slice A n c] 25) (.cells #[.int .i8 b.1, .slice A' n' c'] 25) (.cells #[.int .i8 0, .slice none 0 0] 25)
 obtain ⟨h0, h1, h2⟩ := qi w (.cells #[.int .i8 a.1, .slice A n c] 25) (.cells #[.int .i8 b.1, .slice A' n' c'] 25) (.cells #[.int .i8 0, .slice none 0 0] 25)
 have HL := k0_ ((hL.weak (Q' := Ck.Cut Q w.heap.size (w.heap.size + 3)) (fun b hl hq => .inl ⟨hq, hl⟩)).later hB3)
 have HL' := k0_ ((hL'.weak (Q' := Ck.Cut Q w.heap.size (w.heap.size + 3)) (fun b hl hq => .inl ⟨hq, hl⟩)).later hB3)
 have hz : (((w.alloc (.cells #[.int .i8 a.1, .slice A n c] 25)).alloc (.cells #[.int .i8 b.1, .slice A' n' c'] 25)).alloc (.cells #[.int .i8 0, .slice none 0 0] 25)).heap.size = w.heap.size + 3 := by simp
 have HB3 := k0_ hB3
 have H2 := k0_ h2
 clear hL hL' hB3 h2
 go_enter Tryz.func35, Tryz.ntmps35
 go_upto_region 1 with fail
 generalize ((w.alloc (.cells #[.int .i8 a.1, .slice A n c] 25)).alloc (.cells #[.int .i8 b.1, .slice A' n' c'] 25)).alloc (.cells #[.int .i8 0, .slice none 0 0] 25) = w1 at *
 have HZ := k0_ hz
 have HNE := k0_ (fun (b : Nat) (hq : Ck.Cut Q w.heap.size (w.heap.size + 3) b) => hq.ne (X := w.heap.size + 1 + 1) (by omega) (by omega))
 have HU := k0_ (HL.out.set2 HNE.out (.int .i8 k) (.slice (some ⟨w1.heap.size, 0, none⟩) 2 2))
 have HU' := k0_ (HL'.out.set2 HNE.out (.int .i8 k) (.slice (some ⟨w1.heap.size, 0, none⟩) 2 2))
 have h2u := zM H2.out (.int .i8 k) (.slice (some ⟨w1.heap.size, 0, none⟩) 2 2)
 have hsz : ((w1.setCell ⟨w.heap.size + 1 + 1, 0, none⟩ (.int .i8 k)).setCell ⟨w.heap.size + 1 + 1, 1, none⟩ (.slice (some ⟨w1.heap.size, 0, none⟩) 2 2)).heap.size = w1.heap.size := by simp
 have hbu := zG HB3.out (show w.heap.size ≤ w.heap.size + 1 + 1 by omega) (.int .i8 k) (.slice (some ⟨w1.heap.size, 0, none⟩) 2 2)
 have HFIN := k0_ (fun (u : World) (hu : u.heap.size = w1.heap.size) (h2u : u.heap[w.heap.size + 1 + 1]? = some (.cells #[.int .i8 k, .slice (some ⟨w1.heap.size, 0, none⟩) 2 2] 25 (0, 0))) (hbu : Below w.heap.size w u) (HU : Ck.Ly (Ck.Cut Q w.heap.size (w.heap.size + 3)) u a A n c) (HU' : Ck.Ly (Ck.Cut Q w.heap.size (w.heap.size + 3)) u b A' n' c') =>
  (show (u.alloc (.cells #[.int .i8 a.1, .slice A n c, .int .i8 b.1, .slice A' n' c'] 25)).heap[w.heap.size + 1 + 1]? = some (.cells #[.int .i8 k, .slice (some ⟨w1.heap.size, 0, none⟩) 2 2] 25 (0, 0)) ∧ Ck.Ly (Ck.Cut Q w.heap.size (w.heap.size + 3)) (u.alloc (.cells #[.int .i8 a.1, .slice A n c, .int .i8 b.1, .slice A' n' c'] 25)) (Ck.mk2 k a b) (some ⟨w1.heap.size, 0, none⟩) 2 2 ∧ Below w.heap.size w (u.alloc (.cells #[.int .i8 a.1, .slice A n c, .int .i8 b.1, .slice A' n' c'] 25)) from by
   have hb4 := zS u (.cells #[.int .i8 a.1, .slice A n c, .int .i8 b.1, .slice A' n' c'] 25)
   have hr := zD u (.cells #[.int .i8 a.1, .slice A n c, .int .i8 b.1, .slice A' n' c'] 25)
   rw [hu] at hr
   exact ⟨zA hb4 (zC h2u) h2u, Ck.Ly.two hr (.inr (by have := HZ.out; omega)) (HU.later hb4) (HU'.later hb4) k hk, hbu.trans (hb4.mono hbu.size)⟩))
 have HF := k0_ (HFIN.out _ hsz h2u hbu HU.out HU'.out)
 obtain ⟨x0, x1, -, -, xl⟩ := zF h0
 obtain ⟨y0, y1, -, -, yl⟩ := zF h1
 obtain ⟨z0, z1, z2, z3, zl⟩ := zF H2.out
 clear h0 h1 h2u hsz hbu hz HU HU' HFIN HL HL'
 go_wp2_with fail
 generalize ((w1.setCell ⟨w.heap.size + 1 + 1, 0, none⟩ (.int .i8 k)).setCell ⟨w.heap.size + 1 + 1, 1, none⟩ (.slice (some ⟨w1.heap.size, 0, none⟩) 2 2)).alloc (.cells #[.int .i8 a.1, .slice A n c, .int .i8 b.1, .slice A' n' c'] 25) = w2 at *
 obtain ⟨k0, k1, -, -, -⟩ := zF HF.out.1
 refine bodyPost_ret (v := .agg #[.int .i8 k, .slice (some ⟨w1.heap.size, 0, none⟩) 2 2]) (by simp [results, Tryz.results35, go_sem, k0, k1]) rfl ⟨_, 2, 2, rfl, HF.out.2.1.weak (fun b _ hq => hq.out (by omega)), HF.out.2.2⟩
theorem zy (Q : Nat → Prop) (h : Hd) (p : Pl) (E : Int) (hE : E ≠ 0) (w : World) :
  Calls Tryz.prog 37 #[.int .i64 E, .agg (tC_ h p)] w (Qr.Post Q w (Ck.fault h E)) := by
 try unfold tC_
 have HB3 := k0_ (qV w (.cells (tC_ h p) 28) (.cells #[.int .i8 0, .slice none 0 0] 25) (.cells #[.int .i64 0, .int .i64 0, .string ⟨#[]⟩] 35))
 obtain ⟨h0, h1, h2⟩ := qi w (.cells (tC_ h p) 28) (.cells #[.int .i8 0, .slice none 0 0] 25) (.cells #[.int .i64 0, .int .i64 0, .string ⟨#[]⟩] 35)
 go_enter Tryz.func37, Tryz.ntmps37
 go_upto_region 1 with fail
 generalize ((w.alloc (.cells (tC_ h p) 28)).alloc (.cells #[.int .i8 0, .slice none 0 0] 25)).alloc (.cells #[.int .i64 0, .int .i64 0, .string ⟨#[]⟩] 35) = w1 at *
 obtain ⟨q0, q1, q2, q3, q4, q5, q6, q7, q8, q9, q10, ql⟩ := zI h0
 obtain ⟨x0, x1, x2, x3, xl⟩ := zF h1
 obtain ⟨y0, y1, y2, y3, y4, y5, yl⟩ := cells3 h2
 have HR := k0_ (zQ h1 h2 (show w.heap.size + 1 ≠ w.heap.size + 1 + 1 by omega) HB3.out (by omega) (by omega) (.int .i8 0) (.slice none 0 0) (.int .i64 E) (.int .i64 h.pos) (.string ⟨#[]⟩))
 clear h0 h1 h2
 go_wp2_with fail
 go_region
 have HR2 := k0_ (And.intro (show (((((w1.setCell ⟨w.heap.size + 1, 0, none⟩ (.int .i8 0)).setCell ⟨w.heap.size + 1, 1, none⟩ (.slice none 0 0)).setCell ⟨w.heap.size + 1 + 1, 0, none⟩ (.int .i64 E)).setCell ⟨w.heap.size + 1 + 1, 1, none⟩ (.int .i64 h.pos)).setCell ⟨w.heap.size + 1 + 1, 2, none⟩ (.string ⟨#[]⟩)).drew.heap[w.heap.size + 1]? = _ from HR.out.1) (And.intro (show (((((w1.setCell ⟨w.heap.size + 1, 0, none⟩ (.int .i8 0)).setCell ⟨w.heap.size + 1, 1, none⟩ (.slice none 0 0)).setCell ⟨w.heap.size + 1 + 1, 0, none⟩ (.int .i64 E)).setCell ⟨w.heap.size + 1 + 1, 1, none⟩ (.int .i64 h.pos)).setCell ⟨w.heap.size + 1 + 1, 2, none⟩ (.string ⟨#[]⟩)).drew.heap[w.heap.size + 1 + 1]? = _ from HR.out.2.1) HR.out.2.2.drew))
 clear HR q0 q1 q2 q3 q4 q5 q6 q7 q8 q9 q10 ql x0 x1 x2 x3 xl y0 y1 y2 y3 y4 y5 yl
 generalize (((((w1.setCell ⟨w.heap.size + 1, 0, none⟩ (.int .i8 0)).setCell ⟨w.heap.size + 1, 1, none⟩ (.slice none 0 0)).setCell ⟨w.heap.size + 1 + 1, 0, none⟩ (.int .i64 E)).setCell ⟨w.heap.size + 1 + 1, 1, none⟩ (.int .i64 h.pos)).setCell ⟨w.heap.size + 1 + 1, 2, none⟩ (.string ⟨#[]⟩)).drew = w2 at *
 obtain ⟨k0, k1, -, -, -⟩ := zF HR2.out.1
 obtain ⟨k2, k3, k4, -, -, -, -⟩ := cells3 HR2.out.2.1
 go_wp2_with fail
 refine bodyPost_ret (v := .tuple #[.agg #[.int .i8 0, .slice none 0 0], .agg #[.int .i64 E, .int .i64 h.pos, .string ⟨#[]⟩]]) (by simp [results, Tryz.results37, go_sem, k0, k1, k2, k3, k4]) rfl ⟨Qr.Nz.fault h hE, none, 0, 0, rfl, Ck.Ly.zero _ _, HR2.out.2.2⟩
namespace Qr
theorem zBj (h : Hd) {a : Ck.T2} (ha : Ty.okT a.1 a.2 = true) : Ck.lift h (.ok a) = if 8192 < Ty.nod a.2 then Ck.fault h 32 else if 200 < Ty.dpt a.2 then Ck.fault h 31 else .ok a := by
 have hc : Ck.chk a = if 8192 < Ty.nod a.2 then 32 else if 200 < Ty.dpt a.2 then 31 else 0 := by
  unfold Ck.chk Ty.chk Ty.nod Ty.dpt
  unfold Ty.okT at ha
  by_cases h1 : 8192 < Ty.nodes a.2 + 1
  ·rw [if_pos h1, if_pos (show 8192 < min (Ty.nodes a.2 + 1) 8193 by omega)]
  ·rw [if_neg h1, if_neg (show ¬ 8192 < min (Ty.nodes a.2 + 1) 8193 by omega), if_neg h1]
   by_cases h2 : 200 < Ty.dep a.2 + 1
   ·rw [if_pos h2, if_pos (show 200 < min (Ty.dep a.2 + 1) 201 by omega)]
   ·rw [if_neg h2, if_neg (show ¬ 200 < min (Ty.dep a.2 + 1) 201 by omega), if_pos ha]
 show (if Ck.chk a = 0 then Ck.R.ok a else .bad (Ck.chk a) h.pos Ck.e0) = _
 rw [hc]
 by_cases h1 : 8192 < Ty.nod a.2
 ·rw [if_pos h1, if_pos h1]; rfl
 ·rw [if_neg h1, if_neg h1]
  by_cases h2 : 200 < Ty.dpt a.2
  ·rw [if_pos h2, if_pos h2]; rfl
  ·rw [if_neg h2, if_neg h2]; rfl
end Qr
theorem jA (Q : Nat → Prop) (h : Hd) (p : Pl) (a : Ck.T2) (A : Option Addr) (n c : Nat) (w : World) (hL : Ck.Ly Q w a A n c) (ha : Ty.okT a.1 a.2 = true) :
  Calls Tryz.prog 34 #[.agg #[.int .i8 a.1, .slice A n c], .agg (tC_ h p)] w (Qr.Post Q w (Ck.lift h (.ok a))) := by
 try unfold tC_
 rw [Qr.zBj h ha]
 have hB4 := jT w (.cells #[.int .i8 a.1, .slice A n c] 25) (.cells (tC_ h p) 28) (.cells #[.int .i8 0, .slice none 0 0] 25) (.cells #[.int .i64 0, .int .i64 0, .string ⟨#[]⟩] 35)
 obtain ⟨h0, h1, h2, h3⟩ := jv w (.cells #[.int .i8 a.1, .slice A n c] 25) (.cells (tC_ h p) 28) (.cells #[.int .i8 0, .slice none 0 0] 25) (.cells #[.int .i64 0, .int .i64 0, .string ⟨#[]⟩] 35)
 have CN := k0_ (fun (W : World) (hb : Below w.heap.size w W) => jO a.1 a.2 A n c W (hL.is.below hb))
 have CD := k0_ (fun (W : World) (hb : Below w.heap.size w W) => jo a.1 a.2 A n c W (hL.is.below hb))
 have CF := k0_ (fun (E : Int) (hE : E ≠ 0) (W : World) => zy (fun b => Q b ∧ b < w.heap.size) h p E hE W)
 have HL := k0_ ((hL.weak (Q' := fun b => Q b ∧ b < w.heap.size) (fun b hl hq => ⟨hq, hl⟩)).later hB4)
 have i1 : ((Ty.nod a.2 : Nat) : Int) ≤ 8193 := by unfold Ty.nod; omega
 have i2 : ((Ty.dpt a.2 : Nat) : Int) ≤ 201 := by unfold Ty.dpt; split <;> omega
 have HB4 := k0_ hB4
 have H0 := k0_ h0
 have H1 := k0_ h1
 have H2 := k0_ h2
 have H3 := k0_ h3
 have hz : ((((w.alloc (.cells #[.int .i8 a.1, .slice A n c] 25)).alloc (.cells (tC_ h p) 28)).alloc (.cells #[.int .i8 0, .slice none 0 0] 25)).alloc (.cells #[.int .i64 0, .int .i64 0, .string ⟨#[]⟩] 35)).heap.size = w.heap.size + 4 := by simp
 have HZ := k0_ hz
 generalize Ty.nod a.2 = N at *
 generalize Ty.dpt a.2 = DD at *
 obtain ⟨R, hR⟩ : ∃ R, R = (if 8192 < N then Ck.fault h 32 else if 200 < DD then Ck.fault h 31 else .ok a) := ⟨_, rfl⟩
 rw [← hR]
 have HRR := k0_ hR
 clear hR
 clear hL ha hB4 h0 h1 h2 h3 hz
 go_enter Tryz.func34, Tryz.ntmps34
 go_upto_region 1 with fail
 generalize (((w.alloc (.cells #[.int .i8 a.1, .slice A n c] 25)).alloc (.cells (tC_ h p) 28)).alloc (.cells #[.int .i8 0, .slice none 0 0] 25)).alloc (.cells #[.int .i64 0, .int .i64 0, .string ⟨#[]⟩] 35) = w1 at *
 obtain ⟨x0, x1, -, -, xl⟩ := zF H0.out
 go_wp2_with fail
 refine (CN.out _ HB4.out).mono ?_
 rintro e w2 ⟨rfl, hb2⟩
 have HB2 := kt_ HB4 hb2
 have H0 := kp_ hb2 H0
 have H1 := kp_ hb2 H1
 have H2 := kp_ hb2 H2
 have H3 := kp_ hb2 H3
 have HL := Ck.kl_ HL hb2
 have HZ := k0_ (show w.heap.size + 4 ≤ w2.heap.size by have h1 := HZ.out; have h2 := hb2.size; omega)
 clear hb2 x0 x1 xl
 by_cases hn : 8192 < N
 ·have hn2 : ((N : Int) > 8192) := by omega
  have HRR := k0_ (HRR.out.trans (if_pos hn))
  clear hn
  obtain ⟨q0, q1, q2, q3, q4, q5, q6, q7, q8, q9, q10, ql⟩ := zI H1.out
  have CFF := k0_ (CF.out 32 (by decide) w2)
  go_wp2_with fail
  refine CFF.out.mono ?_
  rintro e wf hp
  obtain ⟨Gf, mf, cf, rfl, hlf, hbf⟩ := hp.flt
  have HBf := kt_ HB2 hbf
  have H2 := kp_ hbf H2
  have H3 := kp_ hbf H3
  have HR := k0_ (zQ H2.out H3.out (show w.heap.size + 1 + 1 ≠ w.heap.size + 1 + 1 + 1 by omega) HBf.out (by omega) (by omega) (.int .i8 0) (.slice Gf mf cf) (.int .i64 32) (.int .i64 h.pos) (.string ⟨#[]⟩))
  have HLf := k0_ ((Ck.Ly.weak (Q' := Ck.Cut Q w.heap.size (w.heap.size + 4)) hlf (fun b _ hq => hq.elim (fun q => .inl q.1) (fun q => .inr (Nat.le_trans HZ.out q)))))
  have HLf := k0_ ((HLf.out.set2 (X := w.heap.size + 1 + 1) (fun b hq => hq.ne (by omega) (by omega)) (.int .i8 0) (.slice Gf mf cf)).zk (X := w.heap.size + 1 + 1 + 1) (fun b hq => hq.ne (by omega) (by omega)) (.int .i64 32) (.int .i64 h.pos) (.string ⟨#[]⟩))
  clear hlf hbf q0 q1 q2 q3 q4 q5 q6 q7 q8 q9 q10 ql
  obtain ⟨x0, x1, x2, x3, xl⟩ := zF H2.out
  obtain ⟨y0, y1, y2, y3, y4, y5, yl⟩ := cells3 H3.out
  go_wp2_with fail
  clear x0 x1 x2 x3 xl y0 y1 y2 y3 y4 y5 yl
  generalize (((((wf.setCell ⟨w.heap.size + 1 + 1, 0, none⟩ (.int .i8 0)).setCell ⟨w.heap.size + 1 + 1, 1, none⟩ (.slice Gf mf cf)).setCell ⟨w.heap.size + 1 + 1 + 1, 0, none⟩ (.int .i64 32)).setCell ⟨w.heap.size + 1 + 1 + 1, 1, none⟩ (.int .i64 h.pos)).setCell ⟨w.heap.size + 1 + 1 + 1, 2, none⟩ (.string ⟨#[]⟩)) = wz at *
  obtain ⟨k0, k1, -, -, -⟩ := zF HR.out.1
  obtain ⟨k2, k3, k4, -, -, -, -⟩ := cells3 HR.out.2.1
  refine bodyPost_ret (v := .tuple #[.agg #[.int .i8 0, .slice Gf mf cf], .agg #[.int .i64 32, .int .i64 h.pos, .string ⟨#[]⟩]]) (by simp [results, Tryz.results34, go_sem, k0, k1, k2, k3, k4]) rfl ?_
  rw [HRR.out]
  exact ⟨Qr.Nz.fault h (by decide), Gf, mf, cf, rfl, HLf.out.weak (fun b _ hq => hq.out (by omega)), HR.out.2.2⟩
 ·have hn2 : ¬ ((N : Int) > 8192) := by omega
  have HRR := k0_ (HRR.out.trans (if_neg hn))
  clear hn
  obtain ⟨x0, x1, -, -, xl⟩ := zF H0.out
  go_wp2_with fail
  refine (CD.out _ HB2.out).mono ?_
  rintro e w3 ⟨rfl, hb3⟩
  have HB2 := kt_ HB2 hb3
  have H0 := kp_ hb3 H0
  have H1 := kp_ hb3 H1
  have H2 := kp_ hb3 H2
  have H3 := kp_ hb3 H3
  have HL := Ck.kl_ HL hb3
  have HZ := kz_ HZ hb3
  clear hb3 x0 x1 xl
  by_cases hd : 200 < DD
  ·have hd2 : ((DD : Int) > 200) := by omega
   have HRR := k0_ (HRR.out.trans (if_pos hd))
   clear hd
   obtain ⟨q0, q1, q2, q3, q4, q5, q6, q7, q8, q9, q10, ql⟩ := zI H1.out
   have CFF := k0_ (CF.out 31 (by decide) w3)
   go_wp2_with fail
   refine CFF.out.mono ?_
   rintro e wf hp
   obtain ⟨Gf, mf, cf, rfl, hlf, hbf⟩ := hp.flt
   have HBf := kt_ HB2 hbf
   have H2 := kp_ hbf H2
   have H3 := kp_ hbf H3
   have HR := k0_ (zQ H2.out H3.out (show w.heap.size + 1 + 1 ≠ w.heap.size + 1 + 1 + 1 by omega) HBf.out (by omega) (by omega) (.int .i8 0) (.slice Gf mf cf) (.int .i64 31) (.int .i64 h.pos) (.string ⟨#[]⟩))
   have HLf := k0_ ((Ck.Ly.weak (Q' := Ck.Cut Q w.heap.size (w.heap.size + 4)) hlf (fun b _ hq => hq.elim (fun q => .inl q.1) (fun q => .inr (Nat.le_trans HZ.out q)))))
   have HLf := k0_ ((HLf.out.set2 (X := w.heap.size + 1 + 1) (fun b hq => hq.ne (by omega) (by omega)) (.int .i8 0) (.slice Gf mf cf)).zk (X := w.heap.size + 1 + 1 + 1) (fun b hq => hq.ne (by omega) (by omega)) (.int .i64 31) (.int .i64 h.pos) (.string ⟨#[]⟩))
   clear hlf hbf q0 q1 q2 q3 q4 q5 q6 q7 q8 q9 q10 ql
   obtain ⟨x0, x1, x2, x3, xl⟩ := zF H2.out
   obtain ⟨y0, y1, y2, y3, y4, y5, yl⟩ := cells3 H3.out
   go_wp2_with fail
   clear x0 x1 x2 x3 xl y0 y1 y2 y3 y4 y5 yl
   generalize (((((wf.setCell ⟨w.heap.size + 1 + 1, 0, none⟩ (.int .i8 0)).setCell ⟨w.heap.size + 1 + 1, 1, none⟩ (.slice Gf mf cf)).setCell ⟨w.heap.size + 1 + 1 + 1, 0, none⟩ (.int .i64 31)).setCell ⟨w.heap.size + 1 + 1 + 1, 1, none⟩ (.int .i64 h.pos)).setCell ⟨w.heap.size + 1 + 1 + 1, 2, none⟩ (.string ⟨#[]⟩)) = wz at *
   obtain ⟨k0, k1, -, -, -⟩ := zF HR.out.1
   obtain ⟨k2, k3, k4, -, -, -, -⟩ := cells3 HR.out.2.1
   refine bodyPost_ret (v := .tuple #[.agg #[.int .i8 0, .slice Gf mf cf], .agg #[.int .i64 31, .int .i64 h.pos, .string ⟨#[]⟩]]) (by simp [results, Tryz.results34, go_sem, k0, k1, k2, k3, k4]) rfl ?_
   rw [HRR.out]
   exact ⟨Qr.Nz.fault h (by decide), Gf, mf, cf, rfl, HLf.out.weak (fun b _ hq => hq.out (by omega)), HR.out.2.2⟩
  ·have hd2 : ¬ ((DD : Int) > 200) := by omega
   have HRR := k0_ (HRR.out.trans (if_neg hd))
   clear hd
   obtain ⟨x0, x1, -, -, xl⟩ := zF H0.out
   have HR := k0_ (zQ H2.out H3.out (show w.heap.size + 1 + 1 ≠ w.heap.size + 1 + 1 + 1 by omega) HB2.out (by omega) (by omega) (.int .i8 a.1) (.slice A n c) (.int .i64 0) (.int .i64 0) (.string ⟨#[]⟩))
   have HLf := k0_ ((HL.out.weak (Q' := Ck.Cut Q w.heap.size (w.heap.size + 4)) (fun b _ hq => .inl hq)))
   have HLf := k0_ ((HLf.out.set2 (X := w.heap.size + 1 + 1) (fun b hq => hq.ne (by omega) (by omega)) (.int .i8 a.1) (.slice A n c)).zk (X := w.heap.size + 1 + 1 + 1) (fun b hq => hq.ne (by omega) (by omega)) (.int .i64 0) (.int .i64 0) (.string ⟨#[]⟩))
   obtain ⟨z0, z1, z2, z3, zl⟩ := zF H2.out
   obtain ⟨y0, y1, y2, y3, y4, y5, yl⟩ := cells3 H3.out
   go_wp2_with fail
   clear x0 x1 xl z0 z1 z2 z3 zl y0 y1 y2 y3 y4 y5 yl
   generalize (((((w3.setCell ⟨w.heap.size + 1 + 1, 0, none⟩ (.int .i8 a.1)).setCell ⟨w.heap.size + 1 + 1, 1, none⟩ (.slice A n c)).setCell ⟨w.heap.size + 1 + 1 + 1, 0, none⟩ (.int .i64 0)).setCell ⟨w.heap.size + 1 + 1 + 1, 1, none⟩ (.int .i64 0)).setCell ⟨w.heap.size + 1 + 1 + 1, 2, none⟩ (.string ⟨#[]⟩)) = wz at *
   obtain ⟨k0, k1, -, -, -⟩ := zF HR.out.1
   obtain ⟨k2, k3, k4, -, -, -, -⟩ := cells3 HR.out.2.1
   refine bodyPost_ret (v := .tuple #[.agg #[.int .i8 a.1, .slice A n c], .agg #[.int .i64 0, .int .i64 0, .string ⟨#[]⟩]]) (by simp [results, Tryz.results34, go_sem, k0, k1, k2, k3, k4]) rfl ?_
   rw [HRR.out]
   exact ⟨Qr.Nz.ok a, A, n, c, rfl, HLf.out.weak (fun b _ hq => hq.out (by omega)), HR.out.2.2⟩
end Go.Proofs.YtlfcbmobgbcgnaaGreatDoor
namespace Go.Proofs.YtlfcbmobgbcgnaaGreatDoor
open Go.RowKit
theorem wF {w : World} {X : Nat} {o : Obj} (q : ∃ u0 u1, w.heap[X]? = some (.cells #[u0, u1] 25 (0, 0))) : ∃ u0 u1, (w.alloc o).heap[X]? = some (.cells #[u0, u1] 25 (0, 0)) := vv q
theorem qJ {w u : World} {X : Nat} (hb : Below w.heap.size w u) (q : ∃ u0 u1, w.heap[X]? = some (.cells #[u0, u1] 25 (0, 0))) : ∃ u0 u1, u.heap[X]? = some (.cells #[u0, u1] 25 (0, 0)) := uN hb q
theorem kL {w : World} {X : Nat} {a b : Value} (q : ∃ u0 u1, w.heap[X]? = some (.cells #[u0, u1] 25 (0, 0))) : ∃ u0 u1, ((w.setCell ⟨X, 0, none⟩ a).setCell ⟨X, 1, none⟩ b).heap[X]? = some (.cells #[u0, u1] 25 (0, 0)) := jM q
theorem qB {w : World} {X Y : Nat} {a b c : Value} (q : ∃ u0 u1, w.heap[Y]? = some (.cells #[u0, u1] 25 (0, 0))) (h : X ≠ Y) : ∃ u0 u1, (((w.setCell ⟨X, 0, none⟩ a).setCell ⟨X, 1, none⟩ b).setCell ⟨X, 2, none⟩ c).heap[Y]? = some (.cells #[u0, u1] 25 (0, 0)) := q.elim fun _ q => q.elim fun _ q => ⟨_, _, zP q h _ _ _⟩
theorem vT {w : World} {X : Nat} {o : Obj} (q : ∃ u0 u1 u2, w.heap[X]? = some (.cells #[u0, u1, u2] 35 (0, 0))) : ∃ u0 u1 u2, (w.alloc o).heap[X]? = some (.cells #[u0, u1, u2] 35 (0, 0)) := q.elim fun _ q => q.elim fun _ q => q.elim fun _ q => ⟨_, _, _, zH q _⟩
theorem zu {w u : World} {X : Nat} (hb : Below w.heap.size w u) (q : ∃ u0 u1 u2, w.heap[X]? = some (.cells #[u0, u1, u2] 35 (0, 0))) : ∃ u0 u1 u2, u.heap[X]? = some (.cells #[u0, u1, u2] 35 (0, 0)) := q.elim fun _ q => q.elim fun _ q => q.elim fun _ q => ⟨_, _, _, zA hb (zC q) q⟩
theorem zBB {w : World} {X : Nat} {a b c : Value} (q : ∃ u0 u1 u2, w.heap[X]? = some (.cells #[u0, u1, u2] 35 (0, 0))) : ∃ u0 u1 u2, (((w.setCell ⟨X, 0, none⟩ a).setCell ⟨X, 1, none⟩ b).setCell ⟨X, 2, none⟩ c).heap[X]? = some (.cells #[u0, u1, u2] 35 (0, 0)) := q.elim fun _ q => q.elim fun _ q => q.elim fun _ q => ⟨_, _, _, zf q _ _ _⟩
theorem qA {w : World} {X Y : Nat} {a b : Value} (q : ∃ u0 u1 u2, w.heap[Y]? = some (.cells #[u0, u1, u2] 35 (0, 0))) (h : X ≠ Y) : ∃ u0 u1 u2, ((w.setCell ⟨X, 0, none⟩ a).setCell ⟨X, 1, none⟩ b).heap[Y]? = some (.cells #[u0, u1, u2] 35 (0, 0)) := q.elim fun _ q => q.elim fun _ q => q.elim fun _ q => ⟨_, _, _, zK q h _ _⟩
end Go.Proofs.YtlfcbmobgbcgnaaGreatDoor
namespace Go.Proofs.YtlfcbmobgbcgnaaGreatDoor
open Go.RowKit
theorem K2 {l : Array Bool} {i j : Nat} {A B : Prop} (y : l[j]? = some true → A) (f : A → B := by ((repeat' with_reducible refine And.imp ?_ ?_) <;> first | with_reducible exact id | with_reducible exact fun q => pn q | with_reducible exact fun q => z8 q | with_reducible exact fun q => Ck.Ly.later q hba | with_reducible exact fun q => Ck.Ly.later q hb | with_reducible exact fun q => Ck.EAt.below q hba | with_reducible exact fun q => Ck.EAt.below q hb | with_reducible exact fun q => zH q _ | with_reducible exact fun q => zA hb (zC q) q | with_reducible exact wF | with_reducible exact vT | with_reducible exact qJ hb | with_reducible exact zu hb | ((with_reducible refine fun q => Ck.Ly.set2 q ?_ _ _); exact fun b hq => hq.ne (by omega) (by omega)) | ((with_reducible refine fun q => Ck.Ly.zk q ?_ _ _ _); exact fun b hq => hq.ne (by omega) (by omega)) | ((with_reducible refine fun q => zK q ?_ _ _); omega) | ((with_reducible refine fun q => zP q ?_ _ _ _); omega))) (h : i ≠ j := by decide) : (l.setIfInBounds i true)[j]? = some true → B := kF y f h
end Go.Proofs.YtlfcbmobgbcgnaaGreatDoor
