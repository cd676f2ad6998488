import Derived.Test.YtlfcbmobgbcgnaaGreatDoorDd2
import Derived.Test.YtlfcbmobgbcgnaaGreatDoorKc
import Derived.Test.YtlfcbmobgbcgnaaGreatDoorM17
import Derived.WalkSmall
import Derived.Test.YtlfcbmobgbcgnaaGreatDoorM13
import Derived.Deep.RegionHeld3
import Derived.Test.YtlfcbmobgbcgnaaGreatDoorM15
import Derived.Test.YtlfcbmobgbcgnaaGreatDoorM7
namespace Go.Proofs.YtlfcbmobgbcgnaaGreatDoor
set_option maxHeartbeats 2000000
set_option maxRecDepth 100000
open Go.RowKit
theorem zCO (rv : Cg.Rv) (Q : Nat → Prop) (h : Hd) (p : Pl) (a : Ck.T2) (A : Option Addr) (n c : Nat) (b : Ck.T2) (A' : Option Addr) (n' c' : Nat) (w : World) (hL : Ck.Ly Q w a A n c) (hL' : Ck.Ly Q w b A' n' c') (hS : Shapes w) (hag : rv.D.ag a b = false) :
  Calls Tryz.prog 127 #[.agg (rF_ rv), .agg (tC_ h p), .agg #[.int .i8 a.1, .slice A n c], .agg #[.int .i8 b.1, .slice A' n' c']] w (Ck.Gave w 91 h.pos Ck.e0) := by
 try unfold tC_
 try unfold rF_
 have HB5 := k0_ (kH w (.cells (rF_ rv) 45) (.cells (tC_ h p) 28) (.cells #[.int .i8 a.1, .slice A n c] 25) (.cells #[.int .i8 b.1, .slice A' n' c'] 25) (.cells #[.int .i8 0, .slice none 0 0] 25))
 have CW := k0_ (fun (W : World) (hb : Below w.heap.size w W) => xW rv h p a.1 a.2 A n c b.1 b.2 A' n' c' W (hL.later hb).is (hL'.later hb).is (hS.below hb) hag)
 clear hL hL' hS hag
 go_enter Tryz.func127, Tryz.ntmps127
 go_wp2_with fail
 refine (CW.out _ HB5.out).mono ?_
 rintro e w6 hg
 have HG := k0_ (Ck.Gave.from (w := w) hg HB5.out)
 obtain ⟨g, rfl, -⟩ := hg
 go_wp2_with fail
 exact ⟨rfl, HG.out⟩
theorem zB5 (rv : Cg.Rv) (Q : Nat → Prop) (h : Hd) (p : Pl) (a : Ck.T2) (A : Option Addr) (n c : Nat) (b : Ck.T2) (A' : Option Addr) (n' c' : Nat) (w : World) (hL : Ck.Ly Q w a A n c) (hL' : Ck.Ly Q w b A' n' c') (hS : Shapes w) (hag : rv.D.ag a b = true) :
  Calls Tryz.prog 127 #[.agg (rF_ rv), .agg (tC_ h p), .agg #[.int .i8 a.1, .slice A n c], .agg #[.int .i8 b.1, .slice A' n' c']] w (Ck.Gives Q w (rv.D.mt a b)) := by
 try unfold tC_
 try unfold rF_
 have HB5 := k0_ (kH w (.cells (rF_ rv) 45) (.cells (tC_ h p) 28) (.cells #[.int .i8 a.1, .slice A n c] 25) (.cells #[.int .i8 b.1, .slice A' n' c'] 25) (.cells #[.int .i8 0, .slice none 0 0] 25))
 have CW := k0_ (fun (W : World) (hb : Below w.heap.size w W) => yn rv h p a.1 a.2 A n c b.1 b.2 A' n' c' W (hL.later hb).is (hL'.later hb).is (hS.below hb) hag)
 obtain ⟨h0, -, h2, h3, h4⟩ := wV w (.cells (rF_ rv) 45) (.cells (tC_ h p) 28) (.cells #[.int .i8 a.1, .slice A n c] 25) (.cells #[.int .i8 b.1, .slice A' n' c'] 25) (.cells #[.int .i8 0, .slice none 0 0] 25)
 have hcf := rv.cft
 have CM := k0_ (fun (W : World) (hb : Below w.heap.size w W) => rv.mtC (fun b => Q b ∧ b < w.heap.size) a A n c b A' n' c' W ((hL.weak (fun b hl hq => ⟨hq, hl⟩)).later hb) ((hL'.weak (fun b hl hq => ⟨hq, hl⟩)).later hb) hag (hS.below hb))
 have H0 := k0_ h0
 have H2 := k0_ h2
 have H3 := k0_ h3
 have H4 := k0_ h4
 clear hL hL' hS hag h0 h2 h3 h4
 go_enter Tryz.func127, Tryz.ntmps127
 go_wp2_with fail
 refine (CW.out _ HB5.out).mono ?_
 rintro e w6 ⟨rfl, hb6⟩
 have HB6 := kt_ HB5 hb6
 have H0 := kp_ hb6 H0
 have H2 := kp_ hb6 H2
 have H3 := kp_ hb6 H3
 have H4 := kp_ hb6 H4
 have hz6 := hb6.size
 simp only [World.size_alloc] at hz6
 clear hb6
 obtain ⟨r0, r1, r2, r3, -, -, -, -, rl⟩ := zh H0.out
 obtain ⟨x0, x1, -, -, xl⟩ := zF H2.out
 obtain ⟨y0, y1, -, -, yl⟩ := zF H3.out
 go_wp2_with fail
 refine (CM.out _ HB6.out).mono ?_
 rintro e w7 ⟨G, m, cg, rfl, hR, hb7⟩
 have HB7 := kt_ HB6 hb7
 have HL := k0_ (Ck.Ly.weak (Q' := Ck.Cut Q w.heap.size (w.heap.size + 5)) (a := rv.D.mt a b) (w := w7) hR (fun b _ h => Or.elim h (fun h => .inl h.1) (fun h => .inr (by omega))))
 have H4 := kp_ hb7 H4
 clear hR hb7 r0 r1 r2 r3 rl x0 x1 xl y0 y1 yl
 obtain ⟨x0, x1, f0, f1, xl⟩ := zF H4.out
 have HNE := k0_ (fun (b : Nat) (hq : Ck.Cut Q w.heap.size (w.heap.size + 5) b) => hq.ne (X := w.heap.size + 1 + 1 + 1 + 1) (by omega) (by omega))
 go_wp2_with fail
 refine bodyPost_ret (v := .agg #[.int .i8 (rv.D.mt a b).1, .slice G m cg]) (by simp [results, Tryz.results127, go_sem, *]) rfl ⟨G, m, cg, rfl, ?_, ?_⟩
 ·exact (HL.out.set2 HNE.out _ _).weak fun b _ hq => hq.out (by omega)
 ·exact zH HB7.out (by omega) _ _
theorem wu (s : ByteArray) (w : World) : Calls Tryz.prog 128 #[.string s] w fun e w' => e = .returned (.agg #[.int .i8 (Ck.opAns s).1, .slice none 0 0]) ∧ Below w.heap.size w w' := by
 have HB1 := k0_ (zf w (.cells #[.int .i8 0, .slice none 0 0] 25))
 have CO := k0_ (fun (k : Int) (W : World) => qQ k none 0 0 W)
 have H1 := k0_ (zD w (.cells #[.int .i8 0, .slice none 0 0] 25))
 cases h60 : (s.toList == [60]) with
 | true =>
  have hR : (Ck.opAns s).1 = 2 := by unfold Ck.opAns; rw [h60]; rfl
  rw [hR]
  clear hR
  go_enter Tryz.func128, Tryz.ntmps128
  go_wp2_with fail
  refine (CO.out 2 _).mono ?_
  rintro e w2 ⟨rfl, hb2⟩
  obtain ⟨x0, x1, f0, f1, xl⟩ := zF (zA hb2 (zC H1.out) H1.out)
  have HB2 := kt_ HB1 hb2
  clear hb2 h60
  exact zFj
 | false =>
  cases h61 : (s.toList == [61]) with
  | true =>
   have hR : (Ck.opAns s).1 = 2 := by unfold Ck.opAns; rw [h60, h61]; rfl
   rw [hR]
   clear hR
   go_enter Tryz.func128, Tryz.ntmps128
   go_wp2_with fail
   refine (CO.out 2 _).mono ?_
   rintro e w2 ⟨rfl, hb2⟩
   obtain ⟨x0, x1, f0, f1, xl⟩ := zF (zA hb2 (zC H1.out) H1.out)
   have HB2 := kt_ HB1 hb2
   clear hb2 h60 h61
   exact zFj
  | false =>
   have hR : (Ck.opAns s).1 = 1 := by unfold Ck.opAns; rw [h60, h61]; rfl
   rw [hR]
   clear hR
   go_enter Tryz.func128, Tryz.ntmps128
   go_wp2_with fail
   refine (CO.out 1 _).mono ?_
   rintro e w2 ⟨rfl, hb2⟩
   obtain ⟨x0, x1, f0, f1, xl⟩ := zF (zA hb2 (zC H1.out) H1.out)
   have HB2 := kt_ HB1 hb2
   clear hb2 h60 h61
   go_wp2_with fail
   exact bodyPost_ret (v := .agg #[.int .i8 1, .slice none 0 0]) (by simp [results, Tryz.results128, go_sem, *]) rfl ⟨rfl, zH HB2.out (Nat.le_refl _) _ _⟩
theorem Ck.vK : ∀ (l : Ck.Env) (x : ByteArray) (i : Nat), i ≤ l.length → (∀ j y, i ≤ j → l[j]? = some y → (y.1.toList == x.toList) = false) → Ck.fnd l x = Ck.fnd (l.take i) x
 | [], x, i, _, _ => by simp
 | b :: l, x, 0, _, h => by
  have h1 := Ck.vK l x 0 (Nat.zero_le _) (fun j y hj hy => h (j + 1) y (by omega) (by rw [List.getElem?_cons_succ]; exact hy))
  have h2 := h 0 b (Nat.le_refl _) rfl
  simp only [List.take_zero] at h1 ⊢
  unfold Ck.fnd
  rw [h1]
  simp [Ck.fnd, h2]
 | b :: l, x, i + 1, hi, h => by
  have h1 := Ck.vK l x i (by simp only [List.length_cons] at hi; omega) (fun j y hj hy => h (j + 1) y (by omega) (by rw [List.getElem?_cons_succ]; exact hy))
  rw [List.take_succ_cons]
  unfold Ck.fnd
  rw [h1]
theorem Ck.ug {l : Ck.Env} {x : ByteArray} {i : Nat} {y : ByteArray × Ck.T2} (hy : l[i]? = some y) (he : (y.1.toList == x.toList) = true) (h : ∀ j z, i + 1 ≤ j → l[j]? = some z → (z.1.toList == x.toList) = false) : Ck.fnd l x = some y.2 := by
 have hi : i < l.length := by rcases Nat.lt_or_ge i l.length with q | q; exact q; rw [List.getElem?_eq_none q] at hy; cases hy
 rw [Ck.vK l x (i + 1) (by omega) h, List.take_add_one, hy]
 have hs : ∀ m : Ck.Env, Ck.fnd (m ++ [y]) x = some y.2 := by
  intro m
  induction m with
  | nil => simp [Ck.fnd, he]
  | cons b m ih => simp only [List.cons_append]; unfold Ck.fnd; rw [ih]
 exact hs _
theorem Ck.uf {l : Ck.Env} {x : ByteArray} (h : ∀ (j : Nat) (z : ByteArray × Ck.T2), l[j]? = some z → (z.1.toList == x.toList) = false) : Ck.fnd l x = none := by
 rw [Ck.vK l x 0 (Nat.zero_le _) (fun j y _ hy => h j y hy), List.take_zero]; rfl
theorem uw (Q : Nat → Prop) (h : Hd) (p : Pl) (l : Ck.Env) (A : Option Addr) (n c : Nat) (w : World) (hE : Ck.EAt Q w l A n c) (hnm : h.name.size ≤ 281474976710656) :
  Calls Tryz.prog 87 #[.agg (tC_ h p), .slice A n c] w (Ck.Post Q w (match Ck.fnd l h.name with | some a => .ok a | none => .bad 41 h.pos h.name)) := by
 try unfold tC_
 have HB1 := k0_ (ze w (.cells (tC_ h p) 28) (.cells #[.int .i8 0, .slice none 0 0] 25))
 obtain ⟨h0, h1⟩ := zT w (.cells (tC_ h p) 28) (.cells #[.int .i8 0, .slice none 0 0] 25)
 have HX := k0_ h0
 have HY := k0_ h1
 have HE := k0_ hE
 have hn := hE.n_eq
 have HN := k0_ hn
 have hnc := hE.n_le
 have hcm := hE.c_le
 have i5 : (n : Int) ≤ 9223372036854775807 := by unfold maxLen at hcm; omega
 have HCL := k0_ (fun W => xV h.name hnm W)
 obtain ⟨R, hR⟩ : ∃ R, R = (match Ck.fnd l h.name with | some a => Ck.R.ok a | none => Ck.R.bad 41 h.pos h.name) := ⟨_, rfl⟩
 rw [← hR]
 have HR := k0_ hR
 clear h0 h1 hE hn hR
 go_enter Tryz.func87, Tryz.ntmps87
 go_upto_region 1 with fail
 generalize (w.alloc (.cells (tC_ h p) 28)).alloc (.cells #[.int .i8 0, .slice none 0 0] 25) = w1 at *
 go_wp2_with fail
 go_loopw [5] (fun v5 wr => ∃ i : Nat, v5 = .int .i64 ((i : Int) - 1) ∧ i ≤ n ∧ (∀ (j : Nat) (y : ByteArray × Ck.T2), i ≤ j → l[j]? = some y → (y.1.toList == h.name.toList) = false) ∧ Below w1.heap.size w1 wr) (fun v _ => (intOf v + 1).toNat)
 case atStart =>
  exact zEn
 case round =>
  obtain ⟨i, rfl, hin, hno, hb⟩ := hrel
  cases i with
  | zero =>
   have hf : Ck.fnd l h.name = none := Ck.uf fun j z hz => hno j z (Nat.zero_le _) hz
   have HF := k0_ hf
   have HBR := kt_ HB1 hb
   obtain ⟨q0, q1, q2, q3, q4, q5, q6, q7, q8, q9, q10, ql⟩ := zJ (zA hb (zC HX.out) HX.out)
   have HQ1 := k0_ q1
   have HQ9 := k0_ q9
   have HFIN := k0_ (fun (u : World) (hbu : Below wr.heap.size wr u) => (show Ck.Post Q w R (.panicked [{ v := .iface 53 (.pointer (some ⟨u.heap.size, 0, none⟩)), recovered := false }]) (u.alloc (.cells #[.int .i64 41, .int .i64 h.pos, .string h.name] 72)) from by
    rw [HR.out, HF.out]
    exact ⟨u.heap.size, rfl, zD u _, Nat.le_trans HBR.out.size hbu.size, (HBR.out.trans (hbu.mono HBR.out.size)).alloc (Nat.le_trans HBR.out.size hbu.size) _⟩))
   clear hno hf hb q0 q2 q3 q4 q5 q6 q7 q8 q10
   go_wp2_with fail
   have D0 : Below wr.heap.size wr wr.drew := (Below.refl _ _).drew
   go_region_with (first
    | (go_at_call 124; (with_reducible refine (HCL.out _).mono ?_); rintro e u ⟨rfl, hbu⟩; have D1 := D0.trans (hbu.mono D0.size); have e9 := zB HQ9.out D1; have HFU := k0_ (HFIN.out u D1); clear hbu)
    | (with_reducible (refine (show bodyPost _ _ _ (.panic _) _ _ from ?_)); refine xL (P := Tryz.prog) (w := wr) ?_))
   all_goals exact ⟨rfl, HFU.out⟩
  | succ j =>
   have hj : j < l.length := by have := HN.out; omega
   obtain ⟨y, hy⟩ : ∃ y, l[j]? = some y := ⟨l[j]'hj, List.getElem?_eq_getElem hj⟩
   obtain ⟨b, o, G, m, k, hA, c0, c1, c2, hL⟩ := HE.out.at hy
   have hbw := HB1.out.trans (hb.mono HB1.out.size)
   have c0 := zB c0 hbw
   have c1 := zB c1 hbw
   have c2 := zB c2 hbw
   have hL := (hL.weak (Q' := Ck.Cut Q w.heap.size (w.heap.size + 2)) fun b hb hq => .inl ⟨hq, hb⟩).later hbw
   clear hbw
   obtain ⟨q0, q1, q2, q3, q4, q5, q6, q7, q8, q9, q10, ql⟩ := zJ (zA hb (zC HX.out) HX.out)
   have HY2 := kp_ hb HY
   have HBR := kt_ HB1 hb
   have HB := k0_ hb
   have HL := k0_ hL
   have HNO := k0_ hno
   have HYY := k0_ hy
   have e1 : ((j + 1 : Nat) : Int) - 1 = (j : Int) := by omega
   rw [e1]
   have j1 : (0 : Int) ≤ j := by omega
   have j2 : (j : Int) < n := by omega
   have j3 : (0 : Int) ≤ j ∧ (j : Int) < n := by omega
   clear hno hb hL hy e1 hj
   subst hA
   cases hq : (y.1.toList == h.name.toList)
   ·have HQ := k0_ hq
    go_wp2_with fail
    go_quiet (fail)
    have HB3 := k0_ (show Below w1.heap.size w1 (wr.drewN nq) from HB.out.trans ((below_drewN (Below.refl wr.heap.size wr) nq).mono HB.out.size))
    generalize wr.drewN nq = w3 at *
    go_wp2_with fail
    go_roundw
    case rel =>
     refine ⟨j, by go_num, by omega, fun i' y' hi' hy' => ?_, HB3.out⟩
     exact zFy
    case measure => simp [intOf]
   ·have HQ := k0_ hq
    go_wp2_with fail
    go_quiet (fail)
    have HD3 := k0_ (below_drewN (Below.refl wr.heap.size wr) nq)
    have HB3 := k0_ (show Below w1.heap.size w1 (wr.drewN nq) from HB.out.trans (HD3.out.mono HB.out.size))
    have c1 := zB c1 HD3.out
    have c2 := zB c2 HD3.out
    have HL3 := k0_ (HL.out.later HD3.out)
    have HY3 := k0_ (zA HD3.out (zC HY2.out) HY2.out)
    generalize wr.drewN nq = w3 at *
    obtain ⟨x0, x1, f0, f1, xl⟩ := zF HY3.out
    have HF := k0_ (Ck.ug HYY.out HQ.out fun i' z hi' hz' => HNO.out i' z hi' hz')
    have HB4 := k0_ (HB1.out.trans (HB3.out.mono HB1.out.size))
    have HBL := k0_ (fun (b : Nat) (hq : Ck.Cut Q w.heap.size (w.heap.size + 2) b) => hq.ne (X := w.heap.size + 1) (by omega) (by omega))
    go_wp2_with fail
    refine bodyPost_ret (v := .agg #[.int .i8 y.2.1, .slice G m k]) (by simp [results, Tryz.results87, go_sem, *]) rfl ?_
    rw [HR.out, HF.out]
    refine ⟨G, m, k, rfl, ?_, zH HB4.out (by omega) _ _⟩
    exact (HL3.out.set2 HBL.out _ _).weak fun b _ hq => hq.out (by omega)
end Go.Proofs.YtlfcbmobgbcgnaaGreatDoor
namespace Go.Proofs.YtlfcbmobgbcgnaaGreatDoor
namespace Cg
open Ck
theorem zDB (D : Ops) (F : Hd → Tm → Env → R) (h : Hd) (kids : Tm) (l : Env) (hk : h.kind = 0) : raw D F h kids l = (match fnd l h.name with | some a => .ok a | none => .bad 41 h.pos h.name) := by
 unfold raw
 rw [if_pos hk]
 all_goals (cases fnd l h.name <;> rfl)
theorem zDA (D : Ops) (F : Hd → Tm → Env → R) (h : Hd) (kids : Tm) (l : Env) (hk : h.kind = 1) : raw D F h kids l = .ok (1, .nil) := by
 unfold raw
 simp [hk]
theorem zD3 (D : Ops) (F : Hd → Tm → Env → R) (h : Hd) (kids : Tm) (l : Env) (hk : h.kind = 2) : raw D F h kids l = .ok (2, .nil) := by
 unfold raw
 simp [hk]
theorem zD2 (D : Ops) (F : Hd → Tm → Env → R) (h : Hd) (kids : Tm) (l : Env) (hk : h.kind = 3) : raw D F h kids l = .ok (2, .nil) := by
 unfold raw
 simp [hk]
theorem zD1 (D : Ops) (F : Hd → Tm → Env → R) (h : Hd) (kids : Tm) (l : Env) (hk : h.kind = 4) : raw D F h kids l = bnd (F (k1 kids).1 (k1 kids).2 (l ++ [(h.name, TT h)])) fun b => .ok (mk2 3 (TT h) b) := by
 unfold raw
 simp [hk]
theorem zD0 (D : Ops) (F : Hd → Tm → Env → R) (h : Hd) (kids : Tm) (l : Env) (hk : h.kind = 5) : raw D F h kids l = bnd (F (k1 kids).1 (k1 kids).2 (l ++ [(h.name, mk2 3 (TT h) (UU h)), (h.arg, TT h)])) fun b => if D.ag b (UU h) = true then .ok (mk2 3 (TT h) (UU h)) else fault h 91 := by
 unfold raw
 simp [hk]
theorem zEi (D : Ops) (F : Hd → Tm → Env → R) (h : Hd) (kids : Tm) (l : Env) (hk : h.kind = 6) : raw D F h kids l = bnd (F (k1 kids).1 (k1 kids).2 l) fun a => bnd (F (k2 kids).1 (k2 kids).2 l) fun b => over D h a b (0, .nil) := by
 unfold raw
 simp [hk]
theorem zCz (D : Ops) (F : Hd → Tm → Env → R) (h : Hd) (kids : Tm) (l : Env) (hk : h.kind = 7) : raw D F h kids l = bnd (F (k1 kids).1 (k1 kids).2 l) fun a => if D.ag a (TT h) = true then F (k2 kids).1 (k2 kids).2 (l ++ [(h.name, TT h)]) else fault h 91 := by
 unfold raw
 simp [hk]
theorem zEh (D : Ops) (F : Hd → Tm → Env → R) (h : Hd) (kids : Tm) (l : Env) (hk : h.kind = 8) : raw D F h kids l = bnd (F (k1 kids).1 (k1 kids).2 l) fun a => bnd (F (k2 kids).1 (k2 kids).2 l) fun b => bnd (F (k3 kids).1 (k3 kids).2 l) fun c => over D h a b c := by
 unfold raw
 simp [hk]
theorem zEg (D : Ops) (F : Hd → Tm → Env → R) (h : Hd) (kids : Tm) (l : Env) (hk : h.kind = 9) : raw D F h kids l = bnd (F (k1 kids).1 (k1 kids).2 l) fun a => bnd (F (k2 kids).1 (k2 kids).2 l) fun b => over D h a b (0, .nil) := by
 unfold raw
 simp [hk]
theorem zD9 (D : Ops) (F : Hd → Tm → Env → R) (h : Hd) (kids : Tm) (l : Env) (hk : h.kind = 10) : raw D F h kids l = bnd (F (k1 kids).1 (k1 kids).2 l) fun a => over D h a (0, .nil) (0, .nil) := by
 unfold raw
 simp [hk]
theorem zD8 (D : Ops) (F : Hd → Tm → Env → R) (h : Hd) (kids : Tm) (l : Env) (hk : h.kind = 11) : raw D F h kids l = bnd (F (k1 kids).1 (k1 kids).2 l) fun a => over D h a (0, .nil) (0, .nil) := by
 unfold raw
 simp [hk]
theorem zD7 (D : Ops) (F : Hd → Tm → Env → R) (h : Hd) (kids : Tm) (l : Env) (hk : h.kind = 12) : raw D F h kids l = bnd (F (k1 kids).1 (k1 kids).2 l) fun a => over D h a (0, .nil) (0, .nil) := by
 unfold raw
 simp [hk]
theorem zD6 (D : Ops) (F : Hd → Tm → Env → R) (h : Hd) (kids : Tm) (l : Env) (hk : h.kind = 13) : raw D F h kids l = bnd (F (k1 kids).1 (k1 kids).2 l) fun a => over D h a (0, .nil) (0, .nil) := by
 unfold raw
 simp [hk]
theorem zAP (D : Ops) (F : Hd → Tm → Env → R) (h : Hd) (kids : Tm) (l : Env) (hk : h.kind = 14) : raw D F h kids l = bnd (F (k1 kids).1 (k1 kids).2 l) fun a => if D.asO 5 a = true then bnd (F (k2 kids).1 (k2 kids).2 (l ++ [(h.name, D.asl 5 a)])) fun b => bnd (F (k3 kids).1 (k3 kids).2 (l ++ [(h.arg, D.asr 5 a)])) fun c => meet D h b c else fault h 90 := by
 unfold raw
 simp [hk]
theorem zD5 (D : Ops) (F : Hd → Tm → Env → R) (h : Hd) (kids : Tm) (l : Env) (hk : h.kind = 15) : raw D F h kids l = bnd (F (k1 kids).1 (k1 kids).2 l) fun a => bnd (F (k2 kids).1 (k2 kids).2 l) fun b => over D h a b (0, .nil) := by
 unfold raw
 simp [hk]
theorem zD4 (D : Ops) (F : Hd → Tm → Env → R) (h : Hd) (kids : Tm) (l : Env) (hk : h.kind = 16) : raw D F h kids l = bnd (F (k1 kids).1 (k1 kids).2 l) fun a => over D h a (0, .nil) (0, .nil) := by
 unfold raw
 simp [hk]
theorem zAd (D : Ops) (h : Hd) (a b c : T2) (hk : h.kind = 6) : over D h a b c = if D.asO 3 a = true then (if D.ag b (D.asl 3 a) = true then .ok (D.asr 3 a) else fault h 91) else fault h 90 := by
 unfold over
 simp [hk]
theorem zAc (D : Ops) (h : Hd) (a b c : T2) (hk : h.kind = 8) : over D h a b c = if D.ag a (2, .nil) = true then meet D h b c else fault h 91 := by
 unfold over
 simp [hk]
theorem zAb (D : Ops) (h : Hd) (a b c : T2) (hk : h.kind = 9) : over D h a b c = .ok (mk2 4 a b) := by
 unfold over
 simp [hk]
theorem wK (D : Ops) (h : Hd) (a b c : T2) (hk : h.kind = 10) : over D h a b c = if D.asO 4 a = true then .ok (D.asl 4 a) else fault h 90 := by
 unfold over
 simp [hk]
theorem wJ (D : Ops) (h : Hd) (a b c : T2) (hk : h.kind = 11) : over D h a b c = if D.asO 4 a = true then .ok (D.asr 4 a) else fault h 90 := by
 unfold over
 simp [hk]
theorem wI (D : Ops) (h : Hd) (a b c : T2) (hk : h.kind = 12) : over D h a b c = if D.asO 5 (TT h) = true then (if D.ag a (D.asl 5 (TT h)) = true then .ok (mk2 5 (D.asl 5 (TT h)) (D.asr 5 (TT h))) else fault h 91) else fault h 90 := by
 unfold over
 simp [hk]
theorem wH (D : Ops) (h : Hd) (a b c : T2) (hk : h.kind = 13) : over D h a b c = if D.asO 5 (TT h) = true then (if D.ag a (D.asr 5 (TT h)) = true then .ok (mk2 5 (D.asl 5 (TT h)) (D.asr 5 (TT h))) else fault h 91) else fault h 90 := by
 unfold over
 simp [hk]
theorem wG (D : Ops) (h : Hd) (a b c : T2) (hk : h.kind = 15) : over D h a b c = if D.ag a (1, .nil) = true then (if D.ag b (1, .nil) = true then .ok (opAns h.name) else fault h 91) else fault h 91 := by
 unfold over
 simp [hk]
theorem wF (D : Ops) (h : Hd) (a b c : T2) (hk : h.kind = 16) : over D h a b c = if D.ag a (TT h) = true then .ok (TT h) else fault h 91 := by
 unfold over
 simp [hk]
end Cg
end Go.Proofs.YtlfcbmobgbcgnaaGreatDoor
namespace Go.Proofs.YtlfcbmobgbcgnaaGreatDoor
open Go.RowKit
structure BareRel (w wx : World) (B R : Nat) (a : Hd) (q : Pl) : Prop where
 bx : wx.heap[B]? = some (.cells (tC_ a q) 28 (0, 0))
 rx : wx.heap[R]? = some (.cells #[.int .i8 0, .string ⟨#[]⟩, .string ⟨#[]⟩, .int .i64 0, .int .i8 0, .slice none 0 0, .int .i8 0, .slice none 0 0, .int .i64 0, .int .i64 0, .slice none 0 0] 28 (0, 0))
 below : Below w.heap.size w wx
 gt : w.heap.size < B
 ne : R ≠ B
structure BareRel2 (w wx : World) (B R : Nat) (a : Hd) (q q2 : Pl) : Prop where
 rel : BareRel w wx B R a q2
 ty : Ty.Is (mask (fun b => decide (B < b)) wx) a.tk a.tkids q2.TA q2.tn q2.tc
 tu : Ty.Is (mask (fun b => decide (B < b)) wx) a.uk a.ukids q2.UA q2.un q2.uc
 A : q2.A = q.A
 n : q2.n = q.n
 c : q2.c = q.c
theorem BareRel.names {w u : World} {B R : Nat} {a : Hd} {q : Pl} (hB : u.heap[B]? = some (.cells (tC_ a q) 28 (0, 0))) (hR : u.heap[R]? = some (.cells #[.int .i8 0, .string ⟨#[]⟩, .string ⟨#[]⟩, .int .i64 0, .int .i8 0, .slice none 0 0, .int .i8 0, .slice none 0 0, .int .i64 0, .int .i64 0, .slice none 0 0] 28 (0, 0))) (hb : Below w.heap.size w u) (hg : w.heap.size < B) (hne : R ≠ B) :
  BareRel w ((u.setCell ⟨B, 1, none⟩ (.string a.name)).setCell ⟨B, 2, none⟩ (.string a.arg)) B R a q := by
 try unfold tC_
 refine ⟨?_, ?_, (hb.setCell (p := ⟨B, 1, none⟩) (Nat.le_of_lt hg) _).setCell (p := ⟨B, 2, none⟩) (Nat.le_of_lt hg) _, hg, hne⟩
 ·simp [World.setCell, Array.getElem?_modify, hB]
 ·rw [Below.heap_setCell _ _ _ R hne, Below.heap_setCell _ _ _ R hne]; exact hR
theorem BareRel.types {w u v : World} {B R : Nat} {a : Hd} {q : Pl} {G1 G2 : Option Addr} {m1 c1 m2 c2 n1 n2 : Nat} (hB : v.heap[B]? = some (.cells (tC_ a q) 28 (0, 0))) (hR : v.heap[R]? = some (.cells #[.int .i8 0, .string ⟨#[]⟩, .string ⟨#[]⟩, .int .i64 0, .int .i8 0, .slice none 0 0, .int .i8 0, .slice none 0 0, .int .i64 0, .int .i64 0, .slice none 0 0] 28 (0, 0))) (hb : Below w.heap.size w v) (hg : w.heap.size < B) (hne : R ≠ B)
  (h1 : Ty.Is (mask (fun b => decide (n1 ≤ b)) u) a.tk a.tkids G1 m1 c1) (hn1 : B < n1) (huv : Below u.heap.size u v) (h2 : Ty.Is (mask (fun b => decide (n2 ≤ b)) v) a.uk a.ukids G2 m2 c2) (hn2 : B < n2) :
  BareRel2 w ((((v.setCell ⟨B, 4, none⟩ (.int .i8 a.tk)).setCell ⟨B, 5, none⟩ (.slice G1 m1 c1)).setCell ⟨B, 6, none⟩ (.int .i8 a.uk)).setCell ⟨B, 7, none⟩ (.slice G2 m2 c2)) B R a q ⟨G1, m1, c1, G2, m2, c2, q.A, q.n, q.c⟩ := by
 try unfold tC_
 have hoth : ∀ (b o : Nat) (x : Value), b ≠ B → v.cell? ⟨b, o, none⟩ = some x → ((((v.setCell ⟨B, 4, none⟩ (.int .i8 a.tk)).setCell ⟨B, 5, none⟩ (.slice G1 m1 c1)).setCell ⟨B, 6, none⟩ (.int .i8 a.uk)).setCell ⟨B, 7, none⟩ (.slice G2 m2 c2)).cell? ⟨b, o, none⟩ = some x := by
  intro b o x hbB hx
  rw [World.cell?_setCell_other _ _ _ _ (fun e => hbB (by injection e with e; exact e.symm)), World.cell?_setCell_other _ _ _ _ (fun e => hbB (by injection e with e; exact e.symm)), World.cell?_setCell_other _ _ _ _ (fun e => hbB (by injection e with e; exact e.symm)), World.cell?_setCell_other _ _ _ _ (fun e => hbB (by injection e with e; exact e.symm))]
  exact hx
 refine ⟨⟨?_, ?_, (((hb.setCell (p := ⟨B, 4, none⟩) (Nat.le_of_lt hg) _).setCell (p := ⟨B, 5, none⟩) (Nat.le_of_lt hg) _).setCell (p := ⟨B, 6, none⟩) (Nat.le_of_lt hg) _).setCell (p := ⟨B, 7, none⟩) (Nat.le_of_lt hg) _, hg, hne⟩, ?_, ?_, rfl, rfl, rfl⟩
 ·simp [World.setCell, Array.getElem?_modify, hB]
 ·rw [Below.heap_setCell _ _ _ R hne, Below.heap_setCell _ _ _ R hne, Below.heap_setCell _ _ _ R hne, Below.heap_setCell _ _ _ R hne]; exact hR
 ·refine h1.kept (jH fun b o x hP hx => ?_)
  have hP' : n1 ≤ b := by simpa using hP
  exact ⟨by simp; omega, hoth b o x (by omega) (by rw [huv.cell (p := ⟨b, o, none⟩) (Ty.zR hx)]; exact hx)⟩
 ·refine h2.kept (jH fun b o x hP hx => ?_)
  have hP' : n2 ≤ b := by simpa using hP
  exact ⟨by simp; omega, hoth b o x (by omega) hx⟩
attribute [local go_sem ↓] Go.wp_at_zero Go.wp_at_succ
end Go.Proofs.YtlfcbmobgbcgnaaGreatDoor
namespace Go.Proofs.YtlfcbmobgbcgnaaGreatDoor
open Go.RowKit
def Tm.zero : Hd := ⟨0, ⟨#[]⟩, ⟨#[]⟩, 0, 0, .nil, 0, .nil, 0, 0⟩
def RowEl (w : World) (g : Nat) (h : Hd) (p : Pl) : Prop :=
 w.cell? ⟨g, 0, none⟩ = some (.int .i8 h.kind) ∧ w.cell? ⟨g, 1, none⟩ = some (.string h.name) ∧ w.cell? ⟨g, 2, none⟩ = some (.string h.arg) ∧ w.cell? ⟨g, 3, none⟩ = some (.int .i64 h.num) ∧ w.cell? ⟨g, 4, none⟩ = some (.int .i8 h.tk) ∧
 w.cell? ⟨g, 5, none⟩ = some (.slice p.TA p.tn p.tc) ∧ w.cell? ⟨g, 6, none⟩ = some (.int .i8 h.uk) ∧ w.cell? ⟨g, 7, none⟩ = some (.slice p.UA p.un p.uc) ∧ w.cell? ⟨g, 8, none⟩ = some (.int .i64 h.label) ∧ w.cell? ⟨g, 9, none⟩ = some (.int .i64 h.pos) ∧
 w.cell? ⟨g, 10, none⟩ = some (.slice p.A p.n p.c)
theorem RowEl.below {w w' : World} {g : Nat} {h : Hd} {p : Pl} (hr : RowEl w g h p) (hb : Below w.heap.size w w') : RowEl w' g h p := by
 have hl := Ty.zR hr.1
 have hc := fun o => (vV hb).1 g o hl
 unfold RowEl at *
 rw [hc, hc, hc, hc, hc, hc, hc, hc, hc, hc, hc]
 exact hr
end Go.Proofs.YtlfcbmobgbcgnaaGreatDoor
namespace Go.Proofs.YtlfcbmobgbcgnaaGreatDoor
open Go.RowKit
namespace Tm
def reH (h h' : Hd) : Bool := (h.kind == h'.kind) && ((!hasName h.kind || (h.name.toList == h'.name.toList)) && ((!hasArg h.kind || (h.arg.toList == h'.arg.toList)) && ((!hasNum h.kind || (h.num == h'.num)) &&
  ((!hasType h.kind || Ty.leT h.tk h.tkids h'.tk h'.tkids) && (!hasTo h.kind || Ty.leT h.uk h.ukids h'.uk h'.ukids)))))
theorem yf {h : Hd} {n : Nat} (ho : headOk h n = true) : tysOk h = true := by
 unfold headOk at ho
 rw [Bool.and_eq_true] at ho
 exact ho.2
end Tm
end Go.Proofs.YtlfcbmobgbcgnaaGreatDoor
namespace Go.Proofs.YtlfcbmobgbcgnaaGreatDoor
namespace Ty
theorem zBJ {k : Int} {n m : Nat} (h : okK k n = true) (h' : okK k m = true) : n = m := by
 unfold okK at h h'
 split at h
 ·rename_i e; rw [if_pos e] at h'; simp at h h'; omega
 ·rename_i e
  rw [if_neg e] at h'
  split at h
  ·rename_i e2; rw [if_pos e2] at h'; simp at h h'; omega
  ·cases h
theorem zBC {k : Int} {kids : Fo} (h : okT k kids = true) (h1 : nodes kids + 1 ≤ 8192) (h2 : dep kids + 1 ≤ 200) : chk k kids = 0 := by
 unfold okT at h
 unfold chk
 rw [if_neg (by omega), if_neg (by omega), if_pos h]
theorem zDP : ∀ f g : Fo, okF f = true → okF g = true → len f = len g → agF f g = true → okF (mF f g) = true ∧ len (mF f g) = len f
 | .nil, _, _, _, _, _ => ⟨rfl, rfl⟩
 | .node _ _ _ _ _, .nil, _, _, h, _ => by simp only [len] at h; omega
 | .node _ _ k kids r, .node _ _ m mids s, h1, h2, h3, h4 => by
  simp only [okF, Bool.and_eq_true, len] at h1 h2 h3
  simp only [agF, Bool.and_eq_true, Bool.or_eq_true, beq_iff_eq] at h4
  obtain ⟨a, b⟩ := zDP r s h1.2 h2.2 (by omega) h4.2
  simp only [mF, okF, Bool.and_eq_true, len, b, and_true]
  refine ⟨?_, a⟩
  by_cases z1 : k = 0
  ·rw [if_pos z1, if_pos z1]; exact h2.1
  by_cases z2 : m = 0
  ·rw [if_neg z1, if_neg z1, if_pos z2]; exact h1.1
  rw [if_neg z1, if_neg z1, if_neg z2]
  rcases h4.1 with (q | q) | ⟨q, c⟩
  ·exact absurd q z1
  ·exact absurd q z2
  subst q
  obtain ⟨x, y⟩ := zDP kids mids h1.1.2 h2.1.2 (zBJ h1.1.1 h2.1.1) c
  exact ⟨by rw [y]; exact h1.1.1, x⟩
theorem zFT {k : Int} {kids : Fo} {m : Int} {mids : Fo} (h : okT k kids = true) (h' : okT m mids = true) (ha : agT k kids m mids = true) : okT (mK k m) (mT k kids m mids) = true := by
 unfold mK mT
 by_cases z1 : k = 0
 ·rw [if_pos z1, if_pos z1]; exact h'
 by_cases z2 : m = 0
 ·rw [if_neg z1, if_neg z1, if_pos z2]; exact h
 rw [if_neg z1, if_neg z1, if_neg z2]
 unfold agT at ha
 simp only [Bool.or_eq_true, Bool.and_eq_true, beq_iff_eq] at ha
 rcases ha with (q | q) | ⟨q, c⟩
 ·exact absurd q z1
 ·exact absurd q z2
 subst q
 unfold okT at h h' ⊢
 rw [Bool.and_eq_true] at h h' ⊢
 obtain ⟨x, y⟩ := zDP kids mids h.2 h'.2 (zBJ h.1 h'.1) c
 exact ⟨by rw [y]; exact h.1, x⟩
end Ty
end Go.Proofs.YtlfcbmobgbcgnaaGreatDoor
namespace Go.Proofs.YtlfcbmobgbcgnaaGreatDoor
namespace Ck
def le2 (a b : T2) : Prop := chk a = 0 ∧ chk b = 0 ∧ Ty.leT a.1 a.2 b.1 b.2 = true
theorem le2.refl {a : T2} (h : chk a = 0) : le2 a a := ⟨h, h, by unfold Ty.leT; simp [Ty.yX]⟩
def eLe : Env → Env → Prop
 | [], [] => True
 | b' :: l', b :: l => (b'.1.toList = b.1.toList ∧ le2 b'.2 b.2) ∧ eLe l' l
 | _, _ => False
theorem eLe.snoc : ∀ {l' l : Env} {x' x : ByteArray} {a' a : T2}, eLe l' l → x'.toList = x.toList → le2 a' a → eLe (l' ++ [(x', a')]) (l ++ [(x, a)])
 | [], [], _, _, _, _, _, h1, h2 => ⟨⟨h1, h2⟩, trivial⟩
 | _ :: _, _ :: _, _, _, _, _, h, h1, h2 => ⟨h.1, eLe.snoc h.2 h1 h2⟩
 | [], _ :: _, _, _, _, _, h, _, _ => h.elim
 | _ :: _, [], _, _, _, _, h, _, _ => h.elim
theorem jg {h : Hd} {a : T2} (hc : chk a = 0) : lift h (.ok a) = .ok a := by simp [lift, hc]
theorem qX {h : Hd} {n : Nat} (ho : Tm.headOk h n = true) (hk : Tm.hasType h.kind = true) : chk (TT h) = 0 := by
 have := Tm.yf ho
 unfold Tm.tysOk at this
 rw [hk] at this
 simp only [Bool.not_true, Bool.false_or, Bool.and_eq_true, beq_iff_eq] at this
 exact this.1
theorem zA6 {h : Hd} {n : Nat} (ho : Tm.headOk h n = true) (hk : Tm.hasTo h.kind = true) : chk (UU h) = 0 := by
 have := Tm.yf ho
 unfold Tm.tysOk at this
 rw [hk] at this
 simp only [Bool.not_true, Bool.false_or, Bool.and_eq_true, beq_iff_eq] at this
 exact this.2
structure HdLe (h' h : Hd) : Prop where
 kind : h'.kind = h.kind
 name : Tm.hasName h.kind = true → h'.name.toList = h.name.toList
 arg : Tm.hasArg h.kind = true → h'.arg.toList = h.arg.toList
 tt : Tm.hasType h.kind = true → le2 (TT h') (TT h)
 uu : Tm.hasTo h.kind = true → le2 (UU h') (UU h)
theorem HdLe.of {h' h : Hd} {n m : Nat} (e : Tm.reH h' h = true) (h1 : Tm.headOk h' n = true) (h2 : Tm.headOk h m = true) : HdLe h' h := by
 unfold Tm.reH at e
 simp only [Bool.and_eq_true, beq_iff_eq] at e
 obtain ⟨ek, en, ea, -, et, eu⟩ := e
 rw [ek] at en ea et eu
 refine ⟨ek, fun q => ?_, fun q => ?_, fun q => ?_, fun q => ?_⟩
 ·rw [q] at en; simpa using en
 ·rw [q] at ea; simpa using ea
 ·rw [q] at et
  exact ⟨qX h1 (by rw [ek]; exact q), qX h2 q, by rw [Bool.not_true, Bool.false_or] at et; exact et⟩
 ·rw [q] at eu
  exact ⟨zA6 h1 (by rw [ek]; exact q), zA6 h2 q, by rw [Bool.not_true, Bool.false_or] at eu; exact eu⟩
end Ck
end Go.Proofs.YtlfcbmobgbcgnaaGreatDoor
namespace Go.Proofs.YtlfcbmobgbcgnaaGreatDoor
set_option maxHeartbeats 4000000
set_option maxRecDepth 100000
open Go.RowKit
namespace Ck
theorem xX : ∀ t : Tm, castF t = Tm.anyF castT t
 | .nil => rfl
 | .node h kids r => by
  simp only [castF, Tm.anyF, castT]
  rw [xX r]
end Ck
theorem zEP (args : Array Value) (W : World) : (callFunc 48 args).run Tryz.prog W = .ok (.enter 48 args) W := by simp [go_sem]
theorem zB8 (K : Nat) : ∀ (h : Hd) (kids : Tm) (p : Pl) (w : World), Tm.nodes kids < K → Tm.Is w h kids p →
  Calls Tryz.prog 48 #[.agg (tC_ h p)] w fun e w' => e = .returned (.bool (Ck.castT h kids)) ∧ Below w.heap.size w w' := by
 try unfold tC_
 induction K with
 | zero => intro _ _ _ _ hK; omega
 | succ K ih =>
  intro h kids p w hK hIs
  have hB0 : Below w.heap.size w (w.alloc (.cells (tC_ h p) 28)) := (Below.refl _ _).alloc (Nat.le_refl _) _
  have hI := hIs.below hB0
  have CC := k0_ (jl 48 Ck.castT kids p.A p.n p.c _ hI.lies hI.fit.n_eq hI.fit.n_le hI.fit.c_le zEP (fun h1 k1 q W h2 h3 _ => ih h1 k1 q W (by omega) h3))
  rw [← Ck.xX] at CC
  obtain ⟨b0, hb0⟩ : ∃ b, (h.kind == 17) = b := ⟨_, rfl⟩
  obtain ⟨R, hR⟩ : ∃ b, Ck.castF kids = b := ⟨_, rfl⟩
  have hres : Ck.castT h kids = (b0 || R) := by unfold Ck.castT; rw [hb0, hR]
  rw [hres]
  rw [hR] at CC
  clear ih hIs hI hres hR
  cases b0
  all_goals
   go_enter Tryz.func48, Tryz.ntmps48
   go_wp2_with fail
   first
    | (go_ret
       exact ⟨rfl, hB0⟩)
    | (refine CC.out.mono ?_
       rintro e w2 ⟨rfl, hb⟩
       go_wp2_with fail
       go_ret
       exact ⟨rfl, hB0.trans (hb.mono hB0.size)⟩)
namespace Ck
def refu (h : Hd) (kids : Tm) : Int := if Tm.chk h kids ≠ 0 then Tm.chk h kids else if castT h kids = true then 30 else 0
end Ck
namespace Ck
def refO (h : Hd) (kids : Tm) : Option (Int × Int) := if refu h kids = 0 then none else some (refu h kids, 0)
end Ck
theorem wh (h : Hd) (kids : Tm) (p : Pl) (w : World) (hIs : Tm.Is w h kids p) (hG : TGlob w) :
  Calls Tryz.prog 21 #[.agg (tC_ h p)] w (Cg.RefPost w (Ck.refO h kids)) := by
 try unfold tC_
 have hB0 : Below w.heap.size w (w.alloc (.cells (tC_ h p) 28)) := (Below.refl _ _).alloc (Nat.le_refl _) _
 have HC := k0_ (fun (W : World) (hb : Below w.heap.size w W) => zAD h kids p W (hIs.below hb) (hG.below hb))
 have HH := k0_ (fun (W : World) (hb : Below w.heap.size w W) => zB8 (Tm.nodes kids + 1) h kids p W (Nat.lt_succ_self _) (hIs.below hb))
 have HB0 := k0_ hB0
 have HX := k0_ (zD w (.cells (tC_ h p) 28))
 clear hIs hG hB0
 by_cases h0 : Tm.chk h kids = 0
 ·rw [h0] at HC
  cases hc : Ck.castT h kids
  ·have hr : Ck.refO h kids = none := by
    have hu : Ck.refu h kids = 0 := by unfold Ck.refu; rw [if_neg (by simpa using h0), if_neg (by rw [hc]; decide)]
    unfold Ck.refO; rw [if_pos hu]
   rw [hr]
   rw [hc] at HH
   clear hc hr h0
   go_enter Tryz.func21, Tryz.ntmps21
   go_wp2_with fail
   refine (HC.out _ HB0.out).mono ?_
   rintro e w2 ⟨rfl, hb2⟩
   have HB2 := kt_ HB0 hb2
   obtain ⟨q0, q1, q2, q3, q4, q5, q6, q7, q8, q9, q10, ql⟩ := zJ (zA hb2 (zC HX.out) HX.out)
   clear hb2
   go_wp2_with fail
   refine (HH.out _ HB2.out).mono ?_
   rintro e w3 ⟨rfl, hb3⟩
   have HB3 := kt_ HB2 hb3
   clear hb3 q0 q1 q2 q3 q4 q5 q6 q7 q8 q9 q10 ql
   go_wp2_with fail
   go_ret
   exact ⟨rfl, HB3.out⟩
  ·have hr : Ck.refO h kids = some (30, 0) := by
    have hu : Ck.refu h kids = 30 := by unfold Ck.refu; rw [if_neg (by simpa using h0), if_pos hc]
    unfold Ck.refO; rw [hu]; rfl
   rw [hr]
   rw [hc] at HH
   clear hc hr h0
   go_enter Tryz.func21, Tryz.ntmps21
   go_wp2_with fail
   refine (HC.out _ HB0.out).mono ?_
   rintro e w2 ⟨rfl, hb2⟩
   have HB2 := kt_ HB0 hb2
   obtain ⟨q0, q1, q2, q3, q4, q5, q6, q7, q8, q9, q10, ql⟩ := zJ (zA hb2 (zC HX.out) HX.out)
   clear hb2
   go_wp2_with fail
   refine (HH.out _ HB2.out).mono ?_
   rintro e w3 ⟨rfl, hb3⟩
   have HB3 := kt_ HB2 hb3
   have HB4 := k0_ (HB3.out.alloc HB3.out.size (.cells #[.int .i64 30, .int .i64 0, .string ⟨#[]⟩] 72))
   have HF := k0_ (zD w3 (.cells #[.int .i64 30, .int .i64 0, .string ⟨#[]⟩] 72))
   clear hb3 q0 q1 q2 q3 q4 q5 q6 q7 q8 q9 q10 ql
   go_wp2_with fail
   go_ret
   exact ⟨w3.heap.size, rfl, HF.out, HB3.out.size, HB4.out⟩
 ·have hr : Ck.refO h kids = some (((Tm.chk h kids : Nat) : Int), 0) := by
   have hu : Ck.refu h kids = Tm.chk h kids := by unfold Ck.refu; rw [if_pos (by simpa using h0)]
   unfold Ck.refO; rw [hu, if_neg (by omega)]
  rw [hr]
  have hcn : (((Tm.chk h kids : Nat) : Int) == 0) = false := by simp; omega
  generalize Tm.chk h kids = C at *
  clear hr h0
  go_enter Tryz.func21, Tryz.ntmps21
  go_wp2_with fail
  refine (HC.out _ HB0.out).mono ?_
  rintro e w2 ⟨rfl, hb2⟩
  have HB2 := kt_ HB0 hb2
  have HB4 := k0_ (HB2.out.alloc HB2.out.size (.cells #[.int .i64 C, .int .i64 0, .string ⟨#[]⟩] 72))
  have HF := k0_ (zD w2 (.cells #[.int .i64 C, .int .i64 0, .string ⟨#[]⟩] 72))
  clear hb2
  go_wp2_with fail
  go_ret
  exact ⟨w2.heap.size, rfl, HF.out, HB2.out.size, HB4.out⟩
theorem zCP (p : Option Addr) (w : World) : (Instr.typeAssert (.iface 53 (.pointer p)) 20 53 true).run Tryz.prog w = .ok (.tuple #[.pointer p, .bool true]) w := by kernel_rfl
theorem zDk (w : World) : (Instr.typeAssert .nilIface 20 53 true).run Tryz.prog w = .ok (.tuple #[.pointer none, .bool false]) w := by kernel_rfl
theorem xH (P R : Nat) (g : Addr) (x0 x1 z : Value) (w : World) (h0 : w.cell? ⟨P, 0, none⟩ = some x0) (h1 : w.cell? ⟨P, 1, none⟩ = some x1) (hr : w.cell? ⟨R, 0, none⟩ = some z)
  (hPR : P ≠ R) (f0 : w.frozen? ⟨P, 0, none⟩ = false) (f1 : w.frozen? ⟨P, 1, none⟩ = false) (fr : w.frozen? ⟨R, 0, none⟩ = false) :
  CallsD Tryz.prog 26 #[.pointer (some ⟨P, 0, none⟩), .pointer (some ⟨R, 0, none⟩)] (.panicking [{ v := .iface 53 (.pointer (some g)), recovered := false }]) w fun e u' w' =>
   e = .returned (.tuple #[]) ∧ u' = .panicking [{ v := .iface 53 (.pointer (some g)), recovered := true }] ∧ w' = ((w.setCell ⟨P, 0, none⟩ (.int .i8 0)).setCell ⟨P, 1, none⟩ (.slice none 0 0)).setCell ⟨R, 0, none⟩ (.iface 53 (.pointer (some g))) := by
 have e1 := zCP
 have k1 : (w.setCell ⟨P, 0, none⟩ (.int .i8 0)).cell? ⟨P, 1, none⟩ = some x1 := by
  rw [World.cell?_setCell_other _ _ _ _ (fun e => by injection e with e1 e2; omega)]; exact h1
 have kr : ((w.setCell ⟨P, 0, none⟩ (.int .i8 0)).setCell ⟨P, 1, none⟩ (.slice none 0 0)).cell? ⟨R, 0, none⟩ = some z := by
  rw [World.cell?_setCell_other _ _ _ _ (fun e => by injection e with e1 e2; omega), World.cell?_setCell_other _ _ _ _ (fun e => by injection e with e1 e2; omega)]; exact hr
 refine callsD_of_wpS Tryz.func26 rfl fun c₀ cs hu => ?_
 apply wpS_seq
 apply wpS_region
 simp [wpOpsS, go_sem, recoverD, hu, Tryz.ntmps26, Exit.thenS]
 refine wpS_of_wp ?_
 change Code.wp _ _ _ { tmps := #[.pointer (some ⟨P, 0, none⟩), .pointer (some ⟨R, 0, none⟩), .iface 53 (.pointer (some g)), undef, undef, .iface 53 (.pointer (some g)), undef, undef, undef, undef, undef, undef, undef, undef, undef, undef, undef, undef], defers := [] } w
 clear hu
 go_wp2_with fail
 exact ⟨rfl, _, rfl, .tuple #[], by simp [results, Tryz.results26], rfl, rfl, rfl⟩
theorem wm (p r : Addr) (w : World) :
  CallsD Tryz.prog 26 #[.pointer (some p), .pointer (some r)] .returning w fun e u' w' => e = .returned (.tuple #[]) ∧ u' = .returning ∧ w' = w := by
 have e1 := zDk
 have e2 := zBN
 refine callsD_of_wpS Tryz.func26 rfl fun c₀ cs hu => ?_
 apply wpS_seq
 apply wpS_region
 simp [wpOpsS, go_sem, recoverD, hu, Tryz.ntmps26, Exit.thenS]
 refine wpS_of_wp ?_
 change Code.wp _ _ _ { tmps := #[.pointer (some p), .pointer (some r), .nilIface, undef, undef, .nilIface, undef, undef, undef, undef, undef, undef, undef, undef, undef, undef, undef, undef], defers := [] } w
 go_wp2_with fail
 exact ⟨rfl, .returning, by cases c₀; simp_all, .tuple #[], by simp [results, Tryz.results26], rfl, rfl, rfl⟩
end Go.Proofs.YtlfcbmobgbcgnaaGreatDoor
