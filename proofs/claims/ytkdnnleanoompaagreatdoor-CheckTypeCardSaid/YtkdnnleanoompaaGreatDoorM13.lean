import Derived.Test.YtkdnnleanoompaaGreatDoorM15
import Derived.Test.YtkdnnleanoompaaGreatDoorKc
namespace Go.Proofs.YtkdnnleanoompaaGreatDoor
open Go.RowKit
theorem zGV {P : Prop} (h : P := by
 refine bodyPost_ret (v := .tuple #[.agg #[.int .i8 0, .slice none 0 0], .agg #[.int .i8 0, .slice none 0 0], .bool false]) (by simp [results, Tryz.results15, go_sem, *]) rfl ⟨none, 0, 0, none, 0, 0, rfl, (fun u _ => Ty.kD u), (fun u _ => Ty.kD u), ?_⟩
 exact jf HB2.out (Nat.le_add_right _ _) (by omega) _ _ _ _) : P := h
theorem zGH {P : Prop} (h : P := by
 exact zEO (jD HIA.out fun b h => h.imp id (fun h => by have := HSZ.out; omega)) (jD HIB.out fun b h => h.imp id (fun h => by have := HSZ.out; omega)) HNE.out (.inr (by have := D.size; have := HSZ.out; omega)) HR.out) : P := h
theorem zFD {P : Prop} (h : P := by
 rw [World.cell?_setCell_other _ _ _ _ (fun e => hne (by injection e)), World.cell?_setCell_other _ _ _ _ (fun e => hne (by injection e))]
 exact hc) : P := h
theorem zFC {P : Prop} (h : P := by
 exact (HB3.out.setCell (p := ⟨w.heap.size + 1 + 1, 0, none⟩) (by simp; omega) _).setCell (p := ⟨w.heap.size + 1 + 1, 1, none⟩) (by simp; omega) _) : P := h
theorem zFB {P : Prop} (h : P := by
 exact (HB2.out.setCell (p := ⟨w.heap.size + 1 + 1, 0, none⟩) (by simp; omega) _).setCell (p := ⟨w.heap.size + 1 + 1, 1, none⟩) (by simp; omega) _) : P := h
theorem vI (w : World) (o1 o2 o3 : Obj) : (((w.alloc o1).alloc o2).alloc o3).heap[w.heap.size]? = some o1 /\ (((w.alloc o1).alloc o2).alloc o3).heap[w.heap.size + 1]? = some o2 /\ (((w.alloc o1).alloc o2).alloc o3).heap[w.heap.size + 1 + 1]? = some o3 /\ (((w.alloc o1).alloc o2).alloc o3).heap.size = w.heap.size + 3 := by
 obtain ⟨h1, h2, h3⟩ := vH w o1 o2;refine ⟨zG h1 _, zG h2 _, ?_, by simp⟩;have := zD ((w.alloc o1).alloc o2) o3
 rwa [h3] at this
theorem zA1 {w : World} {b : Nat} {cs : Array Value} {t : TypeId} (h : w.heap[b]? = some (.cells cs t (0, 0))) : ∀ o, w.frozen? ⟨b, o, none⟩ = false := fun o => by simp [World.frozen?, h]
theorem jW (w : World) (o1 o2 o3 : Obj) : Below w.heap.size w (((w.alloc o1).alloc o2).alloc o3) := (((Below.refl _ _).alloc (Nat.le_refl _) _).alloc (by simp) _).alloc (by simp; omega) _
set_option maxHeartbeats 2000000 in
set_option maxRecDepth 100000 in
theorem zCJ (k : Int) (kids : Fo) (A : Option Addr) (n c : Nat) (k' : Int) (kids' : Fo) (A' : Option Addr) (n' c' : Nat) (w : World) (hIs : Ty.Is w k kids A n c) (hIs' : Ty.Is w k' kids' A' n' c') (ho : Ty.okT k kids = true) (ho' : Ty.okT k' kids' = true) (hs : Ty.nodes kids <= 8192) (hs' : Ty.nodes kids' <= 8192) (hag : Ty.agT k kids k' kids' = true) :
  Calls Tryz.prog 40 #[.agg #[.int .i8 k, .slice A n c], .agg #[.int .i8 k', .slice A' n' c']] w fun e w' => ∃ G m c2, e = .returned (.agg #[.int .i8 (Ty.mK k k'), .slice G m c2]) /\ Ty.IsP (fun b => w.heap.size <= b) w' (Ty.mK k k') (Ty.mT k kids k' kids') G m c2 /\ Below w.heap.size w w' := by
 obtain ⟨hA0, hA1, hA2, hsz⟩ := vI w (.cells #[.int .i8 k, .slice A n c] 25) (.cells #[.int .i8 k', .slice A' n' c'] 25) (.cells #[.int .i8 0, .slice none 0 0] 25);have hB1 := jW w (.cells #[.int .i8 k, .slice A n c] 25) (.cells #[.int .i8 k', .slice A' n' c'] 25) (.cells #[.int .i8 0, .slice none 0 0] 25);generalize hw1 : ((w.alloc (.cells #[.int .i8 k, .slice A n c] 25)).alloc (.cells #[.int .i8 k', .slice A' n' c'] 25)).alloc (.cells #[.int .i8 0, .slice none 0 0] 25) = w1 at *;have HW1 := k0_ hw1;have HSZ := k0_ hsz;have HB1 := k0_ hB1;have HX := k0_ hA0;have HY := k0_ hA1;have HZ := k0_ hA2;have HC := k0_ (yA (Ty.nodes kids + 1) k kids A n c w1 (Nat.lt_succ_self _) (hIs.below hB1) hs);have HR := k0_ (And.intro hIs.lo hIs.hi);have HI' := k0_ hIs'.inP;have HT := k0_ (fun (A2 : Option Addr) (c2 p q lo hi n0 : Nat) (W : World) h1 h2 => zBu (Ty.nodes kids + 1) k kids A2 c2 k' kids' A' n' c' p q lo hi n0 W (Nat.lt_succ_self _) h1 h2 ho ho' hs' hag);clear hA0 hA1 hA2 hsz hB1 hw1 hIs hIs' ho ho' hs hs' hag;obtain ⟨x0, x1, _, _, hxl⟩ := zF HX.out
 go_enter Tryz.func40, Tryz.ntmps40
 go_upto_region 1 with fail
 rw [HW1.out]
 go_wp2_with fail
 refine HC.out.mono ?_;rintro e u ⟨G, cg, rfl, hc1, hc2, hsep, hb⟩;have hb5 : Below u.heap.size u (u.alloc (.cells #[.int .i8 k, .slice G (Ty.len kids) cg] 25)) := (Below.refl _ _).alloc (Nat.le_refl _) _;have hP := zD u (.cells #[.int .i8 k, .slice G (Ty.len kids) cg] 25);have hu5 : u.heap.size + 1 = (u.alloc (.cells #[.int .i8 k, .slice G (Ty.len kids) cg] 25)).heap.size := by simp
 have HU5 := k0_ hu5;have hbb := hb.trans (hb5.mono hb.size);have HB5 := kt_ HB1 hbb;have HBB := k0_ hbb;have HY5 := kp_ hbb HY;have HZ5 := kp_ hbb HZ;have hu1 := hb.size
 have HO := k0_ (show Own (u.alloc (.cells #[.int .i8 k, .slice G (Ty.len kids) cg] 25)) k kids G cg u.heap.size 0 w1.heap.size u.heap.size w.heap.size from
  ⟨(zF hP).1, (zF hP).2.1, zA1 hP, HR.out, hc1, hc2, hsep.keep fun b _ h2 => hb5.block b h2, hu1, by omega, .inr (Nat.le_refl _), HB1.out.size, by have := HB1.out.size; omega⟩)
 have HU1 := k0_ hu1;clear hb hb5 hP hu5 hbb hc1 hc2 hsep x0 x1 hxl hu1
 go_upto_region 2 with fail
 generalize hw5 : u.alloc (.cells #[.int .i8 k, .slice G (Ty.len kids) cg] 25) = w5 at *;have HC2 := k0_ (HT.out G cg u.heap.size 0 w1.heap.size u.heap.size w.heap.size w5 HO.out (HI'.out.to fun b o v hP hc => ⟨hP, by rw [HB5.out.cell (p := ⟨b, o, none⟩) hP]; exact hc⟩));obtain ⟨y0, y1, _, _, hyl⟩ := zF HY5.out;clear hw5
 go_wp2_with fail
 refine HC2.out.mono ?_;rintro e w6 ⟨rfl, ht, G2, c2, z0, z1, hi⟩;have HZ6 := k0_ ((ht.block (w.heap.size + 1 + 1) (zC HZ5.out) (.inl (by have := HSZ.out; omega)) (by have := HSZ.out; have := HU1.out; omega)).trans HZ5.out);have HB6 := k0_ (HB5.out.trans (ht.below HB1.out.size (by have := HB1.out.size; have := HU1.out; omega) HB5.out.size));have HTS := k0_ ht.size;have HI := k0_ hi;obtain ⟨r0, r1, r2, r3, hrl⟩ := zF HZ6.out;clear ht hi y0 y1 hyl
 go_wp2_with fail
 refine bodyPost_ret (v := .agg #[.int .i8 (Ty.mK k k'), .slice G2 (Ty.len (Ty.mT k kids k' kids')) c2]) (by simp [results, Tryz.results40, go_sem, *]) rfl ⟨G2, _, c2, rfl, ?_, ?_⟩
 ·refine HI.out.to fun b o v hP hc => ⟨by have := HSZ.out; have := HU1.out; have := HU5.out; rcases hP with hP | hP <;> omega, ?_⟩
  have hne : w.heap.size + 1 + 1 ≠ b := by have := HSZ.out; have := HU1.out; have := HU5.out; rcases hP with hP | hP <;> omega
  exact zFD
 ·exact (HB6.out.setCell (p := ⟨w.heap.size + 1 + 1, 0, none⟩) (by simp; omega) _).setCell (p := ⟨w.heap.size + 1 + 1, 1, none⟩) (by simp; omega) _
theorem zAJ {k : Int} {kids : Fo} {k' : Int} {kids' : Fo} (h : Ty.agreeT k kids k' kids' = true) : (Ty.okT k kids = true /\ Ty.nodes kids <= 8192) /\ (Ty.okT k' kids' = true /\ Ty.nodes kids' <= 8192) /\ Ty.agT k kids k' kids' = true := by
 unfold Ty.agreeT at h;simp only [Bool.and_eq_true, beq_iff_eq] at h;have h1 := Ty.ze h.1.1;have h2 := Ty.ze h.1.2;exact ⟨⟨h1.1, by omega⟩, ⟨h2.1, by omega⟩, h.2⟩
end Go.Proofs.YtkdnnleanoompaaGreatDoor
namespace Go.Proofs.YtkdnnleanoompaaGreatDoor
set_option maxHeartbeats 4000000
set_option maxRecDepth 100000
open Go.RowKit
def AsPostP (w : World) (ok : Bool) (l r : Int × Fo) (e : Ending) (w' : World) : Prop :=
 ∃ G1 m1 c1 G2 m2 c2, e = .returned (.tuple #[.agg #[.int .i8 l.1, .slice G1 m1 c1], .agg #[.int .i8 r.1, .slice G2 m2 c2], .bool ok]) /\ Lone (fun b => w.heap.size <= b) w' l.1 l.2 G1 m1 c1 /\ Lone (fun b => w.heap.size <= b) w' r.1 r.2 G2 m2 c2 /\ Below w.heap.size w w'
theorem zF5 (kd k : Int) (kids : Fo) (A : Option Addr) (n c : Nat) (w : World) (hIs : Ty.Is w k kids A n c) (hS : Shapes w) :
  Calls Tryz.prog 15 #[.int .i8 kd, .agg #[.int .i8 k, .slice A n c]] w (AsPostP w (Ty.asOk kd k kids) (Ty.asL kd k kids) (Ty.asR kd k kids)) := by
 have hB0 : Below w.heap.size w (((w.alloc (.cells #[.int .i8 k, .slice A n c] 25)).alloc (.cells #[.int .i8 0, .slice none 0 0] 25)).alloc (.cells #[.int .i8 0, .slice none 0 0] 25)) := (((Below.refl _ _).alloc (Nat.le_refl _) _).alloc (by simp) _).alloc (by simp; omega) _;obtain ⟨r0, r1, r2⟩ := vH w (.cells #[.int .i8 k, .slice A n c] 25) (.cells #[.int .i8 0, .slice none 0 0] 25);have h0 := zG r0 (.cells #[.int .i8 0, .slice none 0 0] 25);have h1 := zG r1 (.cells #[.int .i8 0, .slice none 0 0] 25);have h2 := zD ((w.alloc (.cells #[.int .i8 k, .slice A n c] 25)).alloc (.cells #[.int .i8 0, .slice none 0 0] 25)) (.cells #[.int .i8 0, .slice none 0 0] 25);rw [r2] at h2;generalize hw1 : (((w.alloc (.cells #[.int .i8 k, .slice A n c] 25)).alloc (.cells #[.int .i8 0, .slice none 0 0] 25)).alloc (.cells #[.int .i8 0, .slice none 0 0] 25)) = w1 at *;have HW1 := k0_ hw1;have HB0 := k0_ hB0;have HC := k0_ (jg k kids A n c w1 (hIs.below hB0) (hS.below hB0));have HI := k0_ hIs;have H0 := k0_ h0;have H1 := k0_ h1;have H2 := k0_ h2;obtain ⟨b0, b1, _, _, hb0⟩ := zF h0;clear r0 r1 r2 h0 h1 h2 hw1 hB0 hIs hS
 by_cases hc0 : Ty.chk k kids = 0
 case neg =>
  have hno : Ty.asOk kd k kids = false := by unfold Ty.asOk; simp [hc0]
  obtain ⟨e1, e2⟩ := Ty.zAI hno;rw [hno, e1, e2];have hcn : (((Ty.chk k kids : Nat) : Int) != 0) = true := by simp; omega
  generalize Ty.chk k kids = C at *;clear hno e1 e2 hc0
  go_enter Tryz.func15, Tryz.ntmps15
  go_wp2_with fail
  rw [HW1.out]
  go_wp2_with fail
  refine HC.out.mono ?_;rintro e w2 ⟨rfl, hb⟩;obtain ⟨d0, d1, df0, df1, hd0⟩ := zF (zA hb (zC H1.out) H1.out);obtain ⟨g0, g1, gf0, gf1, hg0⟩ := zF (zA hb (zC H2.out) H2.out);have HB2 := kt_ HB0 hb;clear hb
  go_wp2_with fail
  exact zGV
 have hok := (Ty.ze hc0).1;have hr := Ty.vL hok;have hsm := (Ty.ze hc0).2.1;rw [hc0] at HC
 by_cases hA : k = kd /\ 3 <= k
 ·obtain ⟨rfl, h3⟩ := hA
  obtain ⟨a1, a2, p1, f1, a3, a4, p2, f2, rfl, o1, o2⟩ := Ty.jE hok h3;obtain ⟨e1, e2, e3⟩ := Ty.zEL h3 (by omega) hc0;rw [e1, e2, e3];have hn := HI.out.n_eq;simp only [Ty.len] at hn;subst hn;simp only [Ty.nodes] at hsm;have hL := Ty.yD (HI.out.below HB0.out).lies;obtain ⟨bb, oo, B1, c1, B2, c2, rfl, x0, x1, x2, x3, i1, i2⟩ := hL;have hr2 : k = 3 \/ k = 4 \/ k = 5 := by omega
  have C1 := k0_ (fun (u : World) (hE : Below w1.heap.size w1 u) => yF (Ty.nodes f1 + 1) p1 f1 B1 _ c1 u (by omega) (i1.below hE) (by omega));have C2 := k0_ (fun (u : World) (hE : Below w1.heap.size w1 u) => yF (Ty.nodes f2 + 1) p2 f2 B2 _ c2 u (by omega) (i2.below hE) (by omega));have X0 := k0_ x0;have X1 := k0_ x1;have X2 := k0_ x2;have X3 := k0_ x3;clear e1 e2 e3 hok hr h3 hc0 o1 o2 hsm i1 i2 x0 x1 x2 x3;generalize Ty.len f1 = m1 at *;generalize Ty.len f2 = m2 at *;rcases hr2 with rfl | rfl | rfl
  all_goals
   have e1 := fun W => zO 3 3 3 3 W
   have e2 := fun W => zO 4 4 3 3 W
   have e3 := fun W => zO 4 4 4 4 W
   have e4 := fun W => zO 5 5 3 3 W
   have e5 := fun W => zO 5 5 4 4 W
   have e6 := fun W => zO 5 5 5 5 W
   go_enter Tryz.func15, Tryz.ntmps15
   go_wp2_with fail
   rw [HW1.out]
   go_wp2_with fail
   refine HC.out.mono ?_;rintro e w2 ⟨rfl, hb⟩;have HD1 := kp_ hb H1;have HD2 := kp_ hb H2;have HD0 := kp_ hb H0;obtain ⟨b0, b1, _, _, hb0⟩ := zF HD0.out;have x0 := (qB X0.out hb);have x1 := (qB X1.out hb);have x2 := (qB X2.out hb);have x3 := (qB X3.out hb);have HBW := k0_ hb;clear hb
   go_wp2_with fail
   have E1 : Below w1.heap.size w1 w2.drew := HBW.out.drew
   go_region_law (first
    | (go_simp; go_at_call 39; (with_reducible refine (C1.out _ E1).mono ?_); rintro e u1 ⟨G1, n1, q1, rfl, hn1, hb1⟩; have HU1 := k0_ hb1; have HN1 := k0_ hn1; have E2 := E1.trans (hb1.mono E1.size); have b0 := qB (show w2.drew.cell? _ = _ from b0) hb1; have b1 := qB (show w2.drew.cell? _ = _ from b1) hb1; have x2 := qB (show w2.drew.cell? _ = _ from x2) hb1; have x3 := qB (show w2.drew.cell? _ = _ from x3) hb1; clear hn1 hb1; go_wp2_with fail)
    | (go_simp; go_at_call 39; (with_reducible refine (C2.out _ E2).mono ?_); rintro e u2 ⟨G2, n2, q2, rfl, hn2, hb2⟩; have HU2 := k0_ hb2; have HN2 := k0_ hn2; have E3 := E2.trans (hb2.mono E2.size); obtain ⟨d0, d1, df0, df1, hd0⟩ := zF (zA (E1.trans ((HU1.out.trans (hb2.mono HU1.out.size)).mono E1.size)) (zC H1.out) H1.out); obtain ⟨g0, g1, gf0, gf1, hg0⟩ := zF (zA (E1.trans ((HU1.out.trans (hb2.mono HU1.out.size)).mono E1.size)) (zC H2.out) H2.out); clear hn2 hb2; go_wp2_with fail))
   all_goals
    go_wp2_with fail
    have hz1 : w1.heap.size = w.heap.size + 3 := by rw [← HW1.out]; simp
    have hz2 := E1.size;have hz3 := E2.size;refine bodyPost_ret (v := .tuple #[.agg #[.int .i8 p1, .slice G1 n1 q1], .agg #[.int .i8 p2, .slice G2 n2 q2], .bool true]) (by simp [results, Tryz.results15, go_sem, *]) rfl ⟨G1, n1, q1, G2, n2, q2, rfl, ?_, ?_, ?_⟩
    ·exact HN1.out.to fun b o v hb hc => ⟨Nat.le_trans (show w.heap.size <= w1.heap.size by omega) (by first | exact Nat.le_trans hz2 hb | exact Nat.le_trans hz3 hb), xg (P := fun b => w1.heap.size <= b) (by omega) (by omega) b o v (show w1.heap.size <= b from Nat.le_trans hz2 hb) (qB hc HU2.out)⟩
    ·exact HN2.out.to fun b o v hb hc => ⟨Nat.le_trans (show w.heap.size <= w1.heap.size by omega) (by first | exact Nat.le_trans hz2 hb | exact Nat.le_trans hz3 hb), xg (P := fun b => w1.heap.size <= b) (by omega) (by omega) b o v (show w1.heap.size <= b from Nat.le_trans hz3 hb) hc⟩
    ·exact jf (HB0.out.trans (E3.mono HB0.out.size)) (Nat.le_add_right _ _) (by omega) _ _ _ _
 ·by_cases hB : k = 0 /\ 3 <= kd /\ kd <= 5
  ·obtain ⟨rfl, h3, h5⟩ := hB
   obtain rfl := Ty.jU hok (by omega);obtain ⟨e1, e2, e3⟩ := Ty.zBp h3 h5;rw [e1, e2, e3];have hr2 : kd = 3 \/ kd = 4 \/ kd = 5 := by omega
   clear e1 e2 e3 hok hr h3 h5 hc0 hsm hA;rcases hr2 with rfl | rfl | rfl
   all_goals
    have e1 := fun W => zO 3 0 3 3 W
    have e2 := fun W => zO 3 0 4 4 W
    have e3 := fun W => zO 3 0 5 5 W
    have e4 := fun W => zO 4 0 3 3 W
    have e5 := fun W => zO 4 0 4 4 W
    have e6 := fun W => zO 4 0 5 5 W
    have f1 := fun W => zO 5 0 3 3 W
    have f2 := fun W => zO 5 0 4 4 W
    have f3 := fun W => zO 5 0 5 5 W
    have g1 := fun W => zO 3 0 3 0 W
    have g2 := fun W => zO 4 0 3 0 W
    have g3 := fun W => zO 4 0 4 0 W
    have g4 := fun W => zO 5 0 3 0 W
    have g5 := fun W => zO 5 0 4 0 W
    have g6 := fun W => zO 5 0 5 0 W
    go_enter Tryz.func15, Tryz.ntmps15
    go_wp2_with fail
    rw [HW1.out]
    go_wp2_with fail
    refine HC.out.mono ?_;rintro e w2 ⟨rfl, hb⟩;obtain ⟨b0, b1, _, _, hb0⟩ := zF (zA hb (zC H0.out) H0.out);obtain ⟨d0, d1, df0, df1, hd0⟩ := zF (zA hb (zC H1.out) H1.out);obtain ⟨q0, q1, gf0, gf1, hg0⟩ := zF (zA hb (zC H2.out) H2.out);have HB2 := kt_ HB0 hb;clear hb
    go_wp2_with fail
    clear e1 e2 e3 e4 e5 e6 f1 f2 f3 g1 g2 g3 g4 g5 g6;refine bodyPost_ret (v := .tuple #[.agg #[.int .i8 0, .slice none 0 0], .agg #[.int .i8 0, .slice none 0 0], .bool true]) (by simp [results, Tryz.results15, go_sem, *]) rfl ⟨none, 0, 0, none, 0, 0, rfl, (fun u _ => Ty.kD u), (fun u _ => Ty.kD u), ?_⟩;exact jf HB2.out (Nat.le_add_right _ _) (by omega) _ _ _ _
  ·have hno : Ty.asOk kd k kids = false := by
    unfold Ty.asOk
    by_cases q1 : 3 <= kd /\ kd <= 5
    ·have n1 : k ≠ kd := fun e => hA ⟨e, by omega⟩
     have n2 : k ≠ 0 := fun e => hB ⟨e, q1⟩
     simp [n1, n2]
    ·simp; omega
   obtain ⟨e1, e2⟩ := Ty.zAI hno;rw [hno, e1, e2]
   have mk : ∀ (x y : Int), (3 <= x /\ x <= 5 /\ (y = x \/ y = 0)) -> ∀ W, (binOp .eql 75 (.agg #[.int .i8 kd, .int .i8 k]) (.agg #[.int .i8 x, .int .i8 y])).run Tryz.prog W = .ok (.bool false) W := fun x y hxy W => by
    rw [zO]; simp; omega
   have f1 := mk 3 3 (by omega);have f2 := mk 4 4 (by omega);have f3 := mk 5 5 (by omega);have f4 := mk 3 0 (by omega);have f5 := mk 4 0 (by omega);have f6 := mk 5 0 (by omega);clear mk hno e1 e2 hc0 hA hB hok hr hsm
   go_enter Tryz.func15, Tryz.ntmps15
   go_wp2_with fail
   rw [HW1.out]
   go_wp2_with fail
   refine HC.out.mono ?_;rintro e w2 ⟨rfl, hb⟩;obtain ⟨b0, b1, _, _, hb0⟩ := zF (zA hb (zC H0.out) H0.out);obtain ⟨d0, d1, df0, df1, hd0⟩ := zF (zA hb (zC H1.out) H1.out);obtain ⟨q0, q1, gf0, gf1, hg0⟩ := zF (zA hb (zC H2.out) H2.out);have HB2 := kt_ HB0 hb;clear hb
   go_wp2_with fail
   clear f1 f2 f3 f4 f5 f6;exact zGV
def MeetTellsP (w : World) (k : Int) (kids : Fo) (k' : Int) (kids' : Fo) (e : Ending) (w' : World) : Prop :=
 ∃ G m c, e = .returned (.tuple #[.agg #[.int .i8 (if Ty.agreeT k kids k' kids' then Ty.mK k k' else 0), .slice G m c], .bool (Ty.agreeT k kids k' kids')]) /\
  Lone (fun b => w.heap.size <= b) w' (if Ty.agreeT k kids k' kids' then Ty.mK k k' else 0) (if Ty.agreeT k kids k' kids' then Ty.mT k kids k' kids' else .nil) G m c /\ Below w.heap.size w w'
theorem zAu (k : Int) (kids : Fo) (A : Option Addr) (n c : Nat) (k' : Int) (kids' : Fo) (A' : Option Addr) (n' c' : Nat) (w : World) (hIs : Ty.Is w k kids A n c) (hIs' : Ty.Is w k' kids' A' n' c') (hS : Shapes w) :
  Calls Tryz.prog 17 #[.agg #[.int .i8 k, .slice A n c], .agg #[.int .i8 k', .slice A' n' c']] w (MeetTellsP w k kids k' kids') := by
 obtain ⟨hA0, hA1, hA2, hsz⟩ := vI w (.cells #[.int .i8 k, .slice A n c] 25) (.cells #[.int .i8 k', .slice A' n' c'] 25) (.cells #[.int .i8 0, .slice none 0 0] 25);have hB1 := jW w (.cells #[.int .i8 k, .slice A n c] 25) (.cells #[.int .i8 k', .slice A' n' c'] 25) (.cells #[.int .i8 0, .slice none 0 0] 25);generalize hw1 : ((w.alloc (.cells #[.int .i8 k, .slice A n c] 25)).alloc (.cells #[.int .i8 k', .slice A' n' c'] 25)).alloc (.cells #[.int .i8 0, .slice none 0 0] 25) = w1 at *;have HW1 := k0_ hw1;have HB1 := k0_ hB1;have HX := k0_ hA0;have HY := k0_ hA1;have HZ := k0_ hA2;have HC := k0_ (xw k kids A n c k' kids' A' n' c' w1 (hIs.below hB1) (hIs'.below hB1) (hS.below hB1));have HQ := k0_ (zAJ (k := k) (kids := kids) (k' := k') (kids' := kids'));have HI := k0_ hIs;have HI' := k0_ hIs';clear hA0 hA1 hA2 hsz hB1 hw1 hIs hIs' hS;obtain ⟨x0, x1, _, _, hxl⟩ := zF HX.out;obtain ⟨y0, y1, _, _, hyl⟩ := zF HY.out;cases hR : Ty.agreeT k kids k' kids'
 ·rw [hR] at HC
  have hp : ∀ (e : Ending) (w' : World), (∃ G m c, e = .returned (.tuple #[.agg #[.int .i8 0, .slice G m c], .bool false]) /\ Lone (fun b => w.heap.size <= b) w' 0 .nil G m c /\ Below w.heap.size w w') -> MeetTellsP w k kids k' kids' e w' := fun e w' h => by unfold MeetTellsP; rw [hR]; exact h
  refine Calls.mono ?_ hp;clear hp hR HQ
  go_enter Tryz.func17, Tryz.ntmps17
  go_upto_region 1 with fail
  rw [HW1.out]
  go_wp2_with fail
  refine HC.out.mono ?_;rintro e w2 ⟨rfl, hb⟩;have HB2 := kt_ HB1 hb;have HZ2 := kp_ hb HZ;obtain ⟨r0, r1, r2, r3, hrl⟩ := zF HZ2.out;clear hb x0 x1 hxl y0 y1 hyl
  go_wp2_with fail
  refine bodyPost_ret (v := .tuple #[.agg #[.int .i8 0, .slice none 0 0], .bool false]) (by simp [results, Tryz.results17, go_sem, *]) rfl ⟨none, 0, 0, rfl, fun u _ => ⟨trivial, rfl, Nat.le_refl _, Nat.zero_le _, by decide, by decide⟩, ?_⟩;exact zFB
 ·rw [hR] at HC
  obtain ⟨⟨o1, s1⟩, ⟨o2, s2⟩, ha⟩ := HQ.out hR;have HM := k0_ (fun (W : World) (hb : Below w.heap.size w W) => zCJ k kids A n c k' kids' A' n' c' W (HI.out.below hb) (HI'.out.below hb) o1 o2 s1 s2 ha);have hp : ∀ (e : Ending) (w' : World), (∃ G m c, e = .returned (.tuple #[.agg #[.int .i8 (Ty.mK k k'), .slice G m c], .bool true]) /\ Lone (fun b => w.heap.size <= b) w' (Ty.mK k k') (Ty.mT k kids k' kids') G m c /\ Below w.heap.size w w') -> MeetTellsP w k kids k' kids' e w' := fun e w' h => by unfold MeetTellsP; rw [hR]; exact h
  refine Calls.mono ?_ hp;generalize Ty.mK k k' = MK at *;generalize Ty.mT k kids k' kids' = MT at *;clear hp hR HQ o1 s1 o2 s2 ha
  go_enter Tryz.func17, Tryz.ntmps17
  go_upto_region 1 with fail
  rw [HW1.out]
  go_wp2_with fail
  refine HC.out.mono ?_;rintro e w2 ⟨rfl, hb⟩;have HB2 := kt_ HB1 hb;have HX2 := kp_ hb HX;have HY2 := kp_ hb HY;have HZ2 := kp_ hb HZ;clear hb x0 x1 hxl y0 y1 hyl;obtain ⟨x0, x1, _, _, hxl⟩ := zF HX2.out;obtain ⟨y0, y1, _, _, hyl⟩ := zF HY2.out
  go_wp2_with fail
  refine (HM.out _ HB2.out).mono ?_;rintro e w3 ⟨G, m, cg, rfl, hi, hb⟩;have HB3 := kt_ HB2 hb;have HZ3 := kp_ hb HZ2;have HJ := k0_ hi;obtain ⟨r0, r1, r2, r3, hrl⟩ := zF HZ3.out;clear hb x0 x1 hxl y0 y1 hyl hi
  go_wp2_with fail
  refine bodyPost_ret (v := .tuple #[.agg #[.int .i8 MK, .slice G m cg], .bool true]) (by simp [results, Tryz.results17, go_sem, *]) rfl ⟨G, m, cg, rfl, ?_, ?_⟩
  ·intro u hu
   refine (HJ.out.to (P' := fun _ => True) fun b o v hP hc => ⟨trivial, hu b o v (show w.heap.size <= b by have := HB2.out.size; have hP' : w2.heap.size <= b := hP; omega) ?_⟩).is;have hne : w.heap.size + 1 + 1 ≠ b := by have := zC HZ2.out; have hP' : w2.heap.size <= b := hP; omega
   exact zFD
  ·exact zFC
end Go.Proofs.YtkdnnleanoompaaGreatDoor
namespace Go.Proofs.YtkdnnleanoompaaGreatDoor
open Go.RowKit
theorem zy {w1 W : World} {b o r o1 o2 : Nat} {v x y : Value} {ob : Obj} (h : w1.cell? ⟨b, o, none⟩ = some v) (hb : Below w1.heap.size w1 W) (hne : r ≠ b) : (((W.setCell ⟨r, o1, none⟩ x).setCell ⟨r, o2, none⟩ y).alloc ob).cell? ⟨b, o, none⟩ = some v := by
 have h2 : ((W.setCell ⟨r, o1, none⟩ x).setCell ⟨r, o2, none⟩ y).cell? ⟨b, o, none⟩ = some v := by
  rw [World.cell?_setCell_other _ _ _ _ (fun e => hne (by injection e)), World.cell?_setCell_other _ _ _ _ (fun e => hne (by injection e))];exact zB h hb
 exact zB h2 ((Below.refl _ _).alloc (Nat.le_refl _) _)
theorem zAK {P : Nat -> Prop} {w : World} {a b : Nat} {k : Int} {f r : Fo} {bb oo : Nat} {i : Nat} (h : Ty.LiesP P w (.node a b k f r) (some ⟨bb, oo, none⟩) i) : P bb := by
 obtain ⟨b', o', _, _, e, hP, -⟩ := h;injection e with e; injection e with e1 e2; rw [e1]; exact hP
theorem qA {P : Nat -> Prop} {w w' : World} {k : Int} {kids : Fo} {A : Option Addr} {n c : Nat} (h : Ty.IsP P w k kids A n c) (hb : Below w.heap.size w w') : Ty.IsP P w' k kids A n c :=
 h.to fun b o v hP hc => ⟨hP, by rw [hb.cell (p := ⟨b, o, none⟩) (Ty.zR hc)]; exact hc⟩
theorem jD {P P' : Nat -> Prop} {w : World} {k : Int} {kids : Fo} {A : Option Addr} {n c : Nat} (h : Ty.IsP P w k kids A n c) (hp : ∀ b, P b -> P' b) : Ty.IsP P' w k kids A n c := h.to fun b _ _ hP hc => ⟨hp b hP, hc⟩
theorem ji {P : Nat -> Prop} {w : World} {k : Int} {kids : Fo} {A : Option Addr} {n c r o1 o2 : Nat} (h : Ty.IsP P w k kids A n c) (hr : ∀ b, P b -> r ≠ b) (x y : Value) : Ty.IsP P ((w.setCell ⟨r, o1, none⟩ x).setCell ⟨r, o2, none⟩ y) k kids A n c :=
 h.to fun b o v hP hc => ⟨hP, by rw [World.cell?_setCell_other _ _ _ _ (fun e => hr b hP (by injection e)), World.cell?_setCell_other _ _ _ _ (fun e => hr b hP (by injection e))]; exact hc⟩
theorem zEO {Q : Nat -> Prop} {u : World} {r a1 a2 a3 a4 : Nat} {k k1 k2 : Int} {f1 f2 : Fo} {A B : Option Addr} {n1 c1 n2 c2 : Nat} {x y : Value} (h1 : Ty.IsP Q u k1 f1 A n1 c1) (h2 : Ty.IsP Q u k2 f2 B n2 c2) (hr : ∀ b, Q b -> r ≠ b) (hQ : Q u.heap.size) (hk : -128 <= k /\ k <= 127) :
  Ty.IsP Q (((u.setCell ⟨r, 0, none⟩ x).setCell ⟨r, 1, none⟩ y).alloc (.cells #[.int .i8 k1, .slice A n1 c1, .int .i8 k2, .slice B n2 c2] 25)) k (.node a1 a2 k1 f1 (.node a3 a4 k2 f2 .nil)) (some ⟨u.heap.size, 0, none⟩) 2 2 := by
 have hn := zD ((u.setCell ⟨r, 0, none⟩ x).setCell ⟨r, 1, none⟩ y) (.cells #[.int .i8 k1, .slice A n1 c1, .int .i8 k2, .slice B n2 c2] 25);rw [show ((u.setCell ⟨r, 0, none⟩ x).setCell ⟨r, 1, none⟩ y).heap.size = u.heap.size by simp [World.setCell]] at hn;have g1 := qA (ji (o1 := 0) (o2 := 1) h1 hr x y) ((Below.refl _ _).alloc (Nat.le_refl _) (.cells #[.int .i8 k1, .slice A n1 c1, .int .i8 k2, .slice B n2 c2] 25));have g2 := qA (ji (o1 := 0) (o2 := 1) h2 hr x y) ((Below.refl _ _).alloc (Nat.le_refl _) (.cells #[.int .i8 k1, .slice A n1 c1, .int .i8 k2, .slice B n2 c2] 25));obtain ⟨c0, c1', c2', c3, -⟩ := qL hn;refine ⟨⟨u.heap.size, 0, A, c1, rfl, hQ, ⟨h1.lo, h1.hi⟩, by simpa using c0, by rw [← h1.n_eq]; simpa using c1', by rw [← h1.n_eq]; exact h1.n_le, h1.c_le, g1.lies, ?_⟩, rfl, Nat.le_refl _, by unfold maxLen; omega, hk.1, hk.2⟩;exact ⟨u.heap.size, 0, B, c2, rfl, hQ, ⟨h2.lo, h2.hi⟩, by simpa using c2', by rw [← h2.n_eq]; simpa using c3, by rw [← h2.n_eq]; exact h2.n_le, h2.c_le, g2.lies, trivial⟩
set_option maxHeartbeats 4000000 in
set_option maxRecDepth 100000 in
theorem zCA (K : Nat) : ∀ (k : Int) (kids : Fo) (A : Option Addr) (n c : Nat) (k' : Int) (kids' : Fo) (A' : Option Addr) (n' c' : Nat) (P : Nat -> Prop) (w : World), Ty.nodes kids < K -> Ty.IsP P w k kids A n c -> Ty.IsP P w k' kids' A' n' c' -> (∀ b, P b -> b < w.heap.size) ->
  Ty.okT k kids = true -> Ty.okT k' kids' = true -> Ty.agT k kids k' kids' = true ->
  Calls Tryz.prog 117 #[.agg #[.int .i8 k, .slice A n c], .agg #[.int .i8 k', .slice A' n' c']] w fun e w' => ∃ G m c2, e = .returned (.agg #[.int .i8 (Ty.mK k k'), .slice G m c2]) /\ Ty.IsP (fun b => P b \/ w.heap.size + 3 <= b) w' (Ty.mK k k') (Ty.mT k kids k' kids') G m c2 /\ Below w.heap.size w w' := by
 induction K with
 | zero => intro _ _ _ _ _ _ _ _ _ _ _ _ h; omega
 | succ K ih =>
  intro k kids A n c k' kids' A' n' c' P w hK hIs hIs' hPP ho ho' hag;have i5 : (n : Int) <= 9223372036854775807 := by have h1 := hIs.n_le; have h2 := hIs.c_le; unfold maxLen at h2; omega
  obtain ⟨hA0, hA1, hA2, hsz⟩ := vI w (.cells #[.int .i8 k, .slice A n c] 25) (.cells #[.int .i8 k', .slice A' n' c'] 25) (.cells #[.int .i8 0, .slice none 0 0] 25);have hB1 := jW w (.cells #[.int .i8 k, .slice A n c] 25) (.cells #[.int .i8 k', .slice A' n' c'] 25) (.cells #[.int .i8 0, .slice none 0 0] 25);generalize hw1 : ((w.alloc (.cells #[.int .i8 k, .slice A n c] 25)).alloc (.cells #[.int .i8 k', .slice A' n' c'] 25)).alloc (.cells #[.int .i8 0, .slice none 0 0] 25) = w1 at *;have HW1 := k0_ hw1;have HB1 := k0_ hB1;have HX := k0_ hA0;have HY := k0_ hA1;have HZ := k0_ hA2;have HSZ := k0_ hsz;have HI := k0_ (qA hIs hB1);have HI' := k0_ (qA hIs' hB1);have IH := k0_ ih;have HPP := k0_ hPP;have HNE := k0_ (show ∀ b, P b \/ w.heap.size + 3 <= b -> w.heap.size + 1 + 1 ≠ b from fun b h e => by rcases h with h | h; have := hPP b h; omega; omega);have HEND := k0_ (fun (W : World) (hb : Below w.heap.size w W) (x y : Value) => (hb.setCell (p := ⟨w.heap.size + 1 + 1, 0, none⟩) (by simp; omega) x).setCell (p := ⟨w.heap.size + 1 + 1, 1, none⟩) (by simp; omega) y);clear hA0 hA1 hA2 hsz hB1 hw1 hIs hIs' ih hPP;obtain ⟨x0, x1, _, _, hxl⟩ := zF HX.out;obtain ⟨y0, y1, _, _, hyl⟩ := zF HY.out;obtain ⟨r0, r1, r2, r3, hrl⟩ := zF HZ.out
  by_cases hk0 : k = 0
  ·subst hk0
   clear ho ho' hag
   go_enter Tryz.func117, Tryz.ntmps117
   go_upto_region 1 with fail
   rw [HW1.out]
   go_wp2_with fail
   refine bodyPost_ret (v := .agg #[.int .i8 k', .slice A' n' c']) (by simp [results, Tryz.results117, go_sem, *]) rfl ⟨A', n', c', rfl, ?_, HEND.out _ HB1.out _ _⟩;exact ji (jD HI'.out fun b h => .inl h) HNE.out _ _
  have hz : (k == 0) = false := by simpa using hk0
  by_cases hk0' : k' = 0
  ·subst hk0'
   have HK0 := k0_ hk0;rw [Ty.yC _ hk0, Ty.yf _ _ hk0];clear ho ho' hag hk0
   go_enter Tryz.func117, Tryz.ntmps117
   go_upto_region 1 with fail
   rw [HW1.out]
   go_wp2_with fail
   refine bodyPost_ret (v := .agg #[.int .i8 k, .slice A n c]) (by simp [results, Tryz.results117, go_sem, *]) rfl ⟨A, n, c, rfl, ?_, HEND.out _ HB1.out _ _⟩;exact ji (jD HI.out fun b h => .inl h) HNE.out _ _
  obtain rfl : k = k' := by
   by_cases e : k = k'
   ·exact e
   ·rw [Ty.uO _ _ hk0 hk0' e] at hag; cases hag
  rw [Ty.yC _ hk0];rw [Ty.xE _ _ hk0] at hag
  by_cases hlow : k <= 2
  ·obtain rfl := Ty.jU ho hlow
   obtain rfl := Ty.jU ho' hlow;obtain rfl : n = 0 := HI.out.n_eq;have hm : Ty.mT k .nil k .nil = .nil := by rw [Ty.wZ _ _ hk0 hk0]; rfl
   rw [hm];clear ho ho' hag hlow hk0 hk0' hm
   go_enter Tryz.func117, Tryz.ntmps117
   go_upto_region 1 with fail
   rw [HW1.out]
   go_wp2_with fail
   refine bodyPost_ret (v := .agg #[.int .i8 k, .slice A 0 c]) (by simp [results, Tryz.results117, go_sem, *]) rfl ⟨A, 0, c, rfl, ?_, HEND.out _ HB1.out _ _⟩;exact ji (jD HI.out fun b h => .inl h) HNE.out _ _
  obtain ⟨a1, a2, p1, f1, a3, a4, p2, f2, rfl, o1, o2⟩ := Ty.jE ho (by omega);obtain ⟨a1', a2', p1', f1', a3', a4', p2', f2', rfl, o1', o2'⟩ := Ty.jE ho' (by omega)
  have hag2 : Ty.agT p1 f1 p1' f1' = true /\ Ty.agT p2 f2 p2' f2' = true := by
   unfold Ty.agT
   simpa [Ty.agF] using hag
  have hm : Ty.mT k (.node a1 a2 p1 f1 (.node a3 a4 p2 f2 .nil)) k (.node a1' a2' p1' f1' (.node a3' a4' p2' f2' .nil)) = .node a1 a2 (Ty.mK p1 p1') (Ty.mT p1 f1 p1' f1') (.node a3 a4 (Ty.mK p2 p2') (Ty.mT p2 f2 p2' f2') .nil) := by
   rw [Ty.wZ _ _ hk0 hk0]; rfl
  rw [hm];have HR := k0_ (And.intro HI.out.lo HI.out.hi);obtain rfl : n = 2 := HI.out.n_eq;obtain rfl : n' = 2 := HI'.out.n_eq;simp only [Ty.nodes] at hK;obtain ⟨bb, oo, B1, c1, B2, c2, rfl, z0, z1, z2, z3, i1, i2⟩ := Ty.LiesP.two HI.out.lies;obtain ⟨bb', oo', B1', c1', B2', c2', rfl, u0, u1, u2, u3, i1', i2'⟩ := Ty.LiesP.two HI'.out.lies;have hbb : w.heap.size + 1 + 1 ≠ bb := by have := HPP.out _ (zAK HI.out.lies); omega
  have hbb' : w.heap.size + 1 + 1 ≠ bb' := by have := HPP.out _ (zAK HI'.out.lies); omega
  have HZ2 := k0_ (And.intro hbb hbb');clear hbb hbb';have hz' : (k == 0) = false := hz;have HAA := k0_ (fun (W : World) (hb : Below w1.heap.size w1 W) => IH.out p1 f1 B1 _ c1 p1' f1' B1' _ c1' P W (by omega) (qA i1 hb) (qA i1' hb) (fun b h => Nat.lt_of_lt_of_le (HPP.out b h) (Nat.le_trans HB1.out.size hb.size)) o1 o1' hag2.1);have HBB := k0_ (fun (W : World) (hb : Below w1.heap.size w1 W) => IH.out p2 f2 B2 _ c2 p2' f2' B2' _ c2' P W (by omega) (qA i2 hb) (qA i2' hb) (fun b h => Nat.lt_of_lt_of_le (HPP.out b h) (Nat.le_trans HB1.out.size hb.size)) o2 o2' hag2.2);have D := (Below.refl w1.heap.size w1).drew
  have HK3 := k0_ (fun (W : World) (hb : Below w1.heap.size w1 W) (x y : Value) (ob : Obj) => (show (((W.setCell ⟨w.heap.size + 1 + 1, 0, none⟩ x).setCell ⟨w.heap.size + 1 + 1, 1, none⟩ y).alloc ob).cell? ⟨w.heap.size, 0, none⟩ = some (.int .i8 k) /\ (((W.setCell ⟨w.heap.size + 1 + 1, 0, none⟩ x).setCell ⟨w.heap.size + 1 + 1, 1, none⟩ y).alloc ob).cell? ⟨w.heap.size, 1, none⟩ = some (.slice (some ⟨bb, oo, none⟩) 2 c) /\ (((W.setCell ⟨w.heap.size + 1 + 1, 0, none⟩ x).setCell ⟨w.heap.size + 1 + 1, 1, none⟩ y).alloc ob).cell? ⟨w.heap.size + 1, 1, none⟩ = some (.slice (some ⟨bb', oo', none⟩) 2 c') /\
   (((W.setCell ⟨w.heap.size + 1 + 1, 0, none⟩ x).setCell ⟨w.heap.size + 1 + 1, 1, none⟩ y).alloc ob).cell? ⟨bb, oo, none⟩ = some (.int .i8 p1) /\ (((W.setCell ⟨w.heap.size + 1 + 1, 0, none⟩ x).setCell ⟨w.heap.size + 1 + 1, 1, none⟩ y).alloc ob).cell? ⟨bb, oo + 1, none⟩ = some (.slice B1 (Ty.len f1) c1) /\ (((W.setCell ⟨w.heap.size + 1 + 1, 0, none⟩ x).setCell ⟨w.heap.size + 1 + 1, 1, none⟩ y).alloc ob).cell? ⟨bb, oo + 2, none⟩ = some (.int .i8 p2) /\ (((W.setCell ⟨w.heap.size + 1 + 1, 0, none⟩ x).setCell ⟨w.heap.size + 1 + 1, 1, none⟩ y).alloc ob).cell? ⟨bb, oo + 3, none⟩ = some (.slice B2 (Ty.len f2) c2) /\
   (((W.setCell ⟨w.heap.size + 1 + 1, 0, none⟩ x).setCell ⟨w.heap.size + 1 + 1, 1, none⟩ y).alloc ob).cell? ⟨bb', oo', none⟩ = some (.int .i8 p1') /\ (((W.setCell ⟨w.heap.size + 1 + 1, 0, none⟩ x).setCell ⟨w.heap.size + 1 + 1, 1, none⟩ y).alloc ob).cell? ⟨bb', oo' + 1, none⟩ = some (.slice B1' (Ty.len f1') c1') /\ (((W.setCell ⟨w.heap.size + 1 + 1, 0, none⟩ x).setCell ⟨w.heap.size + 1 + 1, 1, none⟩ y).alloc ob).cell? ⟨bb', oo' + 2, none⟩ = some (.int .i8 p2') /\ (((W.setCell ⟨w.heap.size + 1 + 1, 0, none⟩ x).setCell ⟨w.heap.size + 1 + 1, 1, none⟩ y).alloc ob).cell? ⟨bb', oo' + 3, none⟩ = some (.slice B2' (Ty.len f2') c2') from
   ⟨zy x0 hb (by omega), zy x1 hb (by omega), zy y1 hb (by omega), zy z0 hb HZ2.out.1, zy z1 hb HZ2.out.1, zy z2 hb HZ2.out.1, zy z3 hb HZ2.out.1, zy u0 hb HZ2.out.2, zy u1 hb HZ2.out.2, zy u2 hb HZ2.out.2, zy u3 hb HZ2.out.2⟩))
  have HK := k0_ (fun (W : World) (hb : Below w1.heap.size w1 W) => (show W.cell? ⟨w.heap.size, 0, none⟩ = some (.int .i8 k) /\ W.cell? ⟨w.heap.size, 1, none⟩ = some (.slice (some ⟨bb, oo, none⟩) 2 c) /\ W.cell? ⟨w.heap.size + 1, 1, none⟩ = some (.slice (some ⟨bb', oo', none⟩) 2 c') /\
   W.cell? ⟨bb, oo, none⟩ = some (.int .i8 p1) /\ W.cell? ⟨bb, oo + 1, none⟩ = some (.slice B1 (Ty.len f1) c1) /\ W.cell? ⟨bb, oo + 2, none⟩ = some (.int .i8 p2) /\ W.cell? ⟨bb, oo + 3, none⟩ = some (.slice B2 (Ty.len f2) c2) /\
   W.cell? ⟨bb', oo', none⟩ = some (.int .i8 p1') /\ W.cell? ⟨bb', oo' + 1, none⟩ = some (.slice B1' (Ty.len f1') c1') /\ W.cell? ⟨bb', oo' + 2, none⟩ = some (.int .i8 p2') /\ W.cell? ⟨bb', oo' + 3, none⟩ = some (.slice B2' (Ty.len f2') c2') from
   ⟨zB x0 hb, zB x1 hb, zB y1 hb, zB z0 hb, zB z1 hb, zB z2 hb, zB z3 hb, zB u0 hb, zB u1 hb, zB u2 hb, zB u3 hb⟩))
  generalize Ty.mK p1 p1' = MK1 at *;generalize Ty.mT p1 f1 p1' f1' = MT1 at *;generalize Ty.mK p2 p2' = MK2 at *;generalize Ty.mT p2 f2 p2' f2' = MT2 at *;generalize Ty.len f1 = m1 at *;generalize Ty.len f2 = m2 at *;generalize Ty.len f1' = m1' at *;generalize Ty.len f2' = m2' at *;clear ho ho' hag hag2 hlow hk0 hk0' hm hK i1 i2 i1' i2' o1 o2 o1' o2' HI HI' IH
  go_enter Tryz.func117, Tryz.ntmps117
  go_upto_region 1 with fail
  rw [HW1.out]
  go_upto_region 5 with fail
  go_region_held3 (fun W => W.cell? ⟨w.heap.size, 0, none⟩ = some (.int .i8 k) /\ W.cell? ⟨w.heap.size, 1, none⟩ = some (.slice (some ⟨bb, oo, none⟩) 2 c) /\ W.cell? ⟨w.heap.size + 1, 1, none⟩ = some (.slice (some ⟨bb', oo', none⟩) 2 c') /\ W.cell? ⟨bb, oo, none⟩ = some (.int .i8 p1) /\ W.cell? ⟨bb, oo + 1, none⟩ = some (.slice B1 m1 c1) /\ W.cell? ⟨bb, oo + 2, none⟩ = some (.int .i8 p2) /\ W.cell? ⟨bb, oo + 3, none⟩ = some (.slice B2 m2 c2) /\ W.cell? ⟨bb', oo', none⟩ = some (.int .i8 p1') /\ W.cell? ⟨bb', oo' + 1, none⟩ = some (.slice B1' m1' c1') /\ W.cell? ⟨bb', oo' + 2, none⟩ = some (.int .i8 p2') /\ W.cell? ⟨bb', oo' + 3, none⟩ = some (.slice B2' m2' c2'))
   (first | exact HK.out _ D | exact HK.out _ (D.alloc D.size _) | exact HK3.out _ D _ _ _)
   (first
    | (go_at_call 117; (with_reducible refine (HAA.out _ D).mono ?_); rintro e uA ⟨GA, nA, eA, rfl, hiA, hb⟩; have hsA := D.size; have HBX := k0_ (zA (D.trans (hb.mono D.size)) (zC HZ.out) HZ.out); (first | have hiB := qA hiB hb | skip); have hiA := jD hiA (P' := fun b => P b \/ w1.heap.size + 3 <= b) (fun b h => h.imp id (fun h => Nat.le_trans (Nat.add_le_add_right hsA 3) h)); have HIA := k0_ hiA; (first | have HIB := k0_ hiB | skip); have D := D.trans (hb.mono D.size); obtain ⟨r0, r1, r2, r3, hrl⟩ := zF HBX.out; clear hb hsA)
    | (go_at_call 117; (with_reducible refine (HBB.out _ D).mono ?_); rintro e uB ⟨GB, nB, eB, rfl, hiB, hb⟩; have hsA := D.size; have HBX := k0_ (zA (D.trans (hb.mono D.size)) (zC HZ.out) HZ.out); (first | have hiA := qA hiA hb | skip); have hiB := jD hiB (P' := fun b => P b \/ w1.heap.size + 3 <= b) (fun b h => h.imp id (fun h => Nat.le_trans (Nat.add_le_add_right hsA 3) h)); have HIB := k0_ hiB; (first | have HIA := k0_ hiA | skip); have D := D.trans (hb.mono D.size); obtain ⟨r0, r1, r2, r3, hrl⟩ := zF HBX.out; clear hb hsA))
  all_goals
   first
    | (go_wp2_with fail
       refine bodyPost_ret (v := .agg #[.int .i8 k, .slice (some ⟨uB.heap.size, 0, none⟩) 2 2]) (by simp [results, Tryz.results117, go_sem, *]) rfl ⟨some ⟨uB.heap.size, 0, none⟩, 2, 2, rfl, ?_, ?_⟩
       ·exact zGH
       ·exact (HEND.out _ (HB1.out.trans (D.mono HB1.out.size)) _ _).alloc (by have := D.size; have := HB1.out.size; simp [World.setCell]; omega) _)
    | (go_wp2_with fail
       refine bodyPost_ret (v := .agg #[.int .i8 k, .slice (some ⟨uA.heap.size, 0, none⟩) 2 2]) (by simp [results, Tryz.results117, go_sem, *]) rfl ⟨some ⟨uA.heap.size, 0, none⟩, 2, 2, rfl, ?_, ?_⟩
       ·exact zGH
       ·exact (HEND.out _ (HB1.out.trans (D.mono HB1.out.size)) _ _).alloc (by have := D.size; have := HB1.out.size; simp [World.setCell]; omega) _)
end Go.Proofs.YtkdnnleanoompaaGreatDoor
