/-
  order.meet, order.Meet. agree.As, order.Meet once more: what they hand back lies in new memory.
-/
import Derived.Test.YtknhoagicdfikaaGreatDoorM13
import Derived.Test.YtknhoagicdfikaaGreatDoorM11
namespace Go.Proofs.YtknhoagicdfikaaGreatDoor
open Go.RowKit

theorem three_new (w : World) (o1 o2 o3 : Obj) : (((w.alloc o1).alloc o2).alloc o3).heap[w.heap.size]? = some o1 ∧ (((w.alloc o1).alloc o2).alloc o3).heap[w.heap.size + 1]? = some o2 ∧ (((w.alloc o1).alloc o2).alloc o3).heap[w.heap.size + 1 + 1]? = some o3 ∧ (((w.alloc o1).alloc o2).alloc o3).heap.size = w.heap.size + 3 := by
  obtain ⟨h1, h2, h3⟩ := two_new w o1 o2
  refine ⟨heap_old h1 _, heap_old h2 _, ?_, by simp⟩
  have := heap_new ((w.alloc o1).alloc o2) o3
  rwa [h3] at this
theorem frozen_none {w : World} {b : Nat} {cs : Array Value} {t : TypeId} (h : w.heap[b]? = some (.cells cs t (0, 0))) : ∀ o, w.frozen? ⟨b, o, none⟩ = false := fun o => by simp [World.frozen?, h]
theorem below_three (w : World) (o1 o2 o3 : Obj) : Below w.heap.size w (((w.alloc o1).alloc o2).alloc o3) := (((Below.refl _ _).alloc (Nat.le_refl _) _).alloc (by simp) _).alloc (by simp; omega) _

set_option maxHeartbeats 2000000 in
set_option maxRecDepth 100000 in
theorem omeet_any (k : Int) (kids : Fo) (A : Option Addr) (n c : Nat) (k' : Int) (kids' : Fo) (A' : Option Addr) (n' c' : Nat) (w : World) (hIs : Ty.Is w k kids A n c) (hIs' : Ty.Is w k' kids' A' n' c') (hs : Ty.chk k kids = 0) (hs' : Ty.chk k' kids' = 0) (hSh : Shapes w) (hag : Ty.agT k kids k' kids' = true) :
    Calls Tryz.prog 47 #[.agg #[.int .i8 k, .slice A n c], .agg #[.int .i8 k', .slice A' n' c']] w fun e w' => ∃ G m c2, e = .returned (.agg #[.int .i8 (Ty.mK k k'), .slice G m c2]) ∧ Ty.IsP (fun b => w.heap.size ≤ b) w' (Ty.mK k k') (Ty.mT k kids k' kids') G m c2 ∧ Below w.heap.size w w' := by
  obtain ⟨hA0, hA1, hA2, hsz⟩ := three_new w (.cells #[.int .i8 k, .slice A n c] 25) (.cells #[.int .i8 k', .slice A' n' c'] 25) (.cells #[.int .i8 0, .slice none 0 0] 25)
  have hB1 := below_three w (.cells #[.int .i8 k, .slice A n c] 25) (.cells #[.int .i8 k', .slice A' n' c'] 25) (.cells #[.int .i8 0, .slice none 0 0] 25)
  generalize hw1 : ((w.alloc (.cells #[.int .i8 k, .slice A n c] 25)).alloc (.cells #[.int .i8 k', .slice A' n' c'] 25)).alloc (.cells #[.int .i8 0, .slice none 0 0] 25) = w1 at *
  have HW1 := Lib.hid hw1
  have HSZ := Lib.hid hsz
  have HB1 := Lib.hid hB1
  have HX := Lib.hid hA0
  have HY := Lib.hid hA1
  have HZ := Lib.hid hA2
  have ho := (Ty.chk_ok hs).1
  have ho' := (Ty.chk_ok hs').1
  have HC := Lib.hid (ccopy_any k kids A n c w1 (hIs.below hB1) (hSh.below hB1) hs)
  have HSH := Lib.hid hSh
  have HR := Lib.hid (And.intro hIs.lo hIs.hi)
  have HI' := Lib.hid hIs'.inP
  have HT := Lib.hid (fun (A2 : Option Addr) (c2 p q lo hi n0 : Nat) (W : World) h1 h2 => tmeet_any (Ty.nodes kids + 1) k kids A2 c2 k' kids' A' n' c' p q lo hi n0 W (Nat.lt_succ_self _) h1 h2 ho ho' hs' hag)
  clear hA0 hA1 hA2 hsz hB1 hw1 hIs hIs' ho ho' hs hs' hag hSh
  obtain ⟨x0, x1, _, _, hxl⟩ := own2 HX.out
  go_enter Tryz.func47, Tryz.ntmps47
  go_upto_region 1 with fail
  rw [HW1.out]
  go_wp2_with fail
  refine HC.out.mono ?_
  rintro e u ⟨G, cg, rfl, hc1, hc2, hsep, hb⟩
  have hb5 : Below u.heap.size u (u.alloc (.cells #[.int .i8 k, .slice G (Ty.len kids) cg] 25)) := (Below.refl _ _).alloc (Nat.le_refl _) _
  have hP := heap_new u (.cells #[.int .i8 k, .slice G (Ty.len kids) cg] 25)
  have hu5 : u.heap.size + 1 = (u.alloc (.cells #[.int .i8 k, .slice G (Ty.len kids) cg] 25)).heap.size := by simp
  have HU5 := Lib.hid hu5
  have hbb := hb.trans (hb5.mono hb.size)
  have HB5 := Lib.hid (HB1.out.trans (hbb.mono HB1.out.size))
  have HBB := Lib.hid hbb
  have HY5 := Lib.hid (heap_below hbb (heap_lt HY.out) HY.out)
  have HZ5 := Lib.hid (heap_below hbb (heap_lt HZ.out) HZ.out)
  have hu1 := hb.size
  have HO := Lib.hid (show Own (u.alloc (.cells #[.int .i8 k, .slice G (Ty.len kids) cg] 25)) k kids G cg u.heap.size 0 w1.heap.size u.heap.size w.heap.size from
    ⟨(own2 hP).1, (own2 hP).2.1, frozen_none hP, HR.out, hc1, hc2, hsep.keep fun b _ h2 => hb5.block b h2, hu1, by omega, .inr (Nat.le_refl _), HB1.out.size, by have := HB1.out.size; omega, HSH.out.below HB5.out, HSH.out.1⟩)
  have HU1 := Lib.hid hu1
  clear hb hb5 hP hu5 hbb hc1 hc2 hsep x0 x1 hxl hu1
  go_upto_region 2 with fail
  generalize hw5 : u.alloc (.cells #[.int .i8 k, .slice G (Ty.len kids) cg] 25) = w5 at *
  have HC2 := Lib.hid (HT.out G cg u.heap.size 0 w1.heap.size u.heap.size w.heap.size w5 HO.out (HI'.out.to fun b o v hP hc => ⟨hP, by rw [HB5.out.cell (p := ⟨b, o, none⟩) hP]; exact hc⟩))
  obtain ⟨y0, y1, _, _, hyl⟩ := own2 HY5.out
  clear hw5
  go_wp2_with fail
  refine HC2.out.mono ?_
  rintro e w6 ⟨rfl, ht, G2, c2, z0, z1, hi⟩
  have HZ6 := Lib.hid ((ht.block (w.heap.size + 1 + 1) (heap_lt HZ5.out) (.inl (by have := HSZ.out; omega)) (by have := HSZ.out; have := HU1.out; omega)).trans HZ5.out)
  have HB6 := Lib.hid (HB5.out.trans (ht.below HB1.out.size (by have := HB1.out.size; have := HU1.out; omega) HB5.out.size))
  have HTS := Lib.hid ht.size
  have HI := Lib.hid hi
  obtain ⟨r0, r1, r2, r3, hrl⟩ := own2 HZ6.out
  clear ht hi y0 y1 hyl
  go_wp2_with fail
  refine bodyPost_ret (v := .agg #[.int .i8 (Ty.mK k k'), .slice G2 (Ty.len (Ty.mT k kids k' kids')) c2]) (by simp [results, Tryz.results47, go_sem, *]) rfl ⟨G2, _, c2, rfl, ?_, ?_⟩
  · refine HI.out.to fun b o v hP hc => ⟨by have := HSZ.out; have := HU1.out; have := HU5.out; rcases hP with hP | hP <;> omega, ?_⟩
    have hne : w.heap.size + 1 + 1 ≠ b := by have := HSZ.out; have := HU1.out; have := HU5.out; rcases hP with hP | hP <;> omega
    rw [World.cell?_setCell_other _ _ _ _ (fun e => hne (by injection e)), World.cell?_setCell_other _ _ _ _ (fun e => hne (by injection e))]
    exact hc
  · exact (HB6.out.setCell (p := ⟨w.heap.size + 1 + 1, 0, none⟩) (by simp; omega) _).setCell (p := ⟨w.heap.size + 1 + 1, 1, none⟩) (by simp; omega) _

theorem Ty.agree_chk {k : Int} {kids : Fo} {k' : Int} {kids' : Fo} (h : Ty.agreeT k kids k' kids' = true) : Ty.chk k kids = 0 ∧ Ty.chk k' kids' = 0 := by
  unfold Ty.agreeT at h
  simp only [Bool.and_eq_true, beq_iff_eq] at h
  exact h.1
theorem agree_ok {k : Int} {kids : Fo} {k' : Int} {kids' : Fo} (h : Ty.agreeT k kids k' kids' = true) : (Ty.okT k kids = true ∧ Ty.nodes kids ≤ 8192) ∧ (Ty.okT k' kids' = true ∧ Ty.nodes kids' ≤ 8192) ∧ Ty.agT k kids k' kids' = true := by
  unfold Ty.agreeT at h
  simp only [Bool.and_eq_true, beq_iff_eq] at h
  have h1 := Ty.chk_ok h.1.1
  have h2 := Ty.chk_ok h.1.2
  exact ⟨⟨h1.1, by omega⟩, ⟨h2.1, by omega⟩, h.2⟩

end Go.Proofs.YtknhoagicdfikaaGreatDoor
namespace Go.Proofs.YtknhoagicdfikaaGreatDoor
open Go.RowKit
/-- what As leaves, in new memory -/
def AsPostP (w : World) (ok : Bool) (l r : Int × Fo) (e : Ending) (w' : World) : Prop :=
  ∃ G1 m1 c1 G2 m2 c2, e = .returned (.tuple #[.agg #[.int .i8 l.1, .slice G1 m1 c1], .agg #[.int .i8 r.1, .slice G2 m2 c2], .bool ok]) ∧ Lone (fun b => w.heap.size ≤ b) w' l.1 l.2 G1 m1 c1 ∧ Lone (fun b => w.heap.size ≤ b) w' r.1 r.2 G2 m2 c2 ∧ Below w.heap.size w w'
set_option maxHeartbeats 4000000 in
set_option maxRecDepth 100000 in
theorem asP_any (kd k : Int) (kids : Fo) (A : Option Addr) (n c : Nat) (w : World) (hIs : Ty.Is w k kids A n c) (hS : Shapes w) :
    Calls Tryz.prog 23 #[.int .i8 kd, .agg #[.int .i8 k, .slice A n c]] w (AsPostP w (Ty.asOk kd k kids) (Ty.asL kd k kids) (Ty.asR kd k kids)) := by
  have hB0 : Below w.heap.size w (((w.alloc (.cells #[.int .i8 k, .slice A n c] 25)).alloc (.cells #[.int .i8 0, .slice none 0 0] 25)).alloc (.cells #[.int .i8 0, .slice none 0 0] 25)) := (((Below.refl _ _).alloc (Nat.le_refl _) _).alloc (by simp) _).alloc (by simp; omega) _
  obtain ⟨r0, r1, r2⟩ := two_new w (.cells #[.int .i8 k, .slice A n c] 25) (.cells #[.int .i8 0, .slice none 0 0] 25)
  have h0 := heap_old r0 (.cells #[.int .i8 0, .slice none 0 0] 25)
  have h1 := heap_old r1 (.cells #[.int .i8 0, .slice none 0 0] 25)
  have h2 := heap_new ((w.alloc (.cells #[.int .i8 k, .slice A n c] 25)).alloc (.cells #[.int .i8 0, .slice none 0 0] 25)) (.cells #[.int .i8 0, .slice none 0 0] 25)
  rw [r2] at h2
  generalize hw1 : (((w.alloc (.cells #[.int .i8 k, .slice A n c] 25)).alloc (.cells #[.int .i8 0, .slice none 0 0] 25)).alloc (.cells #[.int .i8 0, .slice none 0 0] 25)) = w1 at *
  have HW1 := Lib.hid hw1
  have HB0 := Lib.hid hB0
  have HC := Lib.hid (check_any k kids A n c w1 (hIs.below hB0) (hS.below hB0))
  have HSH := Lib.hid (hS.below hB0)
  have HI := Lib.hid hIs
  have H0 := Lib.hid h0
  have H1 := Lib.hid h1
  have H2 := Lib.hid h2
  obtain ⟨b0, b1, _, _, hb0⟩ := own2 h0
  clear r0 r1 r2 h0 h1 h2 hw1 hB0 hIs hS
  by_cases hc0 : Ty.chk k kids = 0
  case neg =>
    have hno : Ty.asOk kd k kids = false := by unfold Ty.asOk; simp [hc0]
    obtain ⟨e1, e2⟩ := Ty.as_no hno
    rw [hno, e1, e2]
    have hcn : (((Ty.chk k kids : Nat) : Int) != 0) = true := by simp; omega
    generalize Ty.chk k kids = C at *
    clear hno e1 e2 hc0
    go_enter Tryz.func23, Tryz.ntmps23
    go_wp2_with fail
    rw [HW1.out]
    go_wp2_with fail
    refine HC.out.mono ?_
    rintro e w2 ⟨rfl, hb⟩
    obtain ⟨d0, d1, df0, df1, hd0⟩ := own2 (heap_below hb (heap_lt H1.out) H1.out)
    obtain ⟨g0, g1, gf0, gf1, hg0⟩ := own2 (heap_below hb (heap_lt H2.out) H2.out)
    have HB2 := Lib.hid (HB0.out.trans (hb.mono HB0.out.size))
    clear hb
    go_wp2_with fail
    refine bodyPost_ret (v := .tuple #[.agg #[.int .i8 0, .slice none 0 0], .agg #[.int .i8 0, .slice none 0 0], .bool false]) (by simp [results, Tryz.results23, go_sem, *]) rfl ⟨none, 0, 0, none, 0, 0, rfl, (fun u _ => Ty.zero_is u), (fun u _ => Ty.zero_is u), ?_⟩
    exact four_set HB2.out (Nat.le_add_right _ _) (by omega) _ _ _ _
  have hok := (Ty.chk_ok hc0).1
  have hr := Ty.okT_range hok
  have hsm := (Ty.chk_ok hc0).2.1
  rw [hc0] at HC
  by_cases hA : k = kd ∧ 3 ≤ k
  · obtain ⟨rfl, h3⟩ := hA
    obtain ⟨a1, a2, p1, f1, a3, a4, p2, f2, rfl, o1, o2⟩ := Ty.two_of hok h3
    obtain ⟨e1, e2, e3⟩ := Ty.as_yes h3 (by omega) hc0
    obtain ⟨hk1, hk2⟩ := Ty.chk_both hc0
    rw [e1, e2, e3]
    have hn := HI.out.n_eq
    simp only [Ty.len] at hn
    subst hn
    simp only [Ty.nodes] at hsm
    have hL := Ty.lies2 (HI.out.below HB0.out).lies
    obtain ⟨bb, oo, B1, c1, B2, c2, rfl, x0, x1, x2, x3, i1, i2⟩ := hL
    have hr2 : k = 3 ∨ k = 4 ∨ k = 5 := by omega
    have C1 := Lib.hid (fun (u : World) (hE : Below w1.heap.size w1 u) => ccopyL_any p1 f1 B1 _ c1 u (i1.below hE) (HSH.out.below hE) hk1)
    have C2 := Lib.hid (fun (u : World) (hE : Below w1.heap.size w1 u) => ccopyL_any p2 f2 B2 _ c2 u (i2.below hE) (HSH.out.below hE) hk2)
    have X0 := Lib.hid x0
    have X1 := Lib.hid x1
    have X2 := Lib.hid x2
    have X3 := Lib.hid x3
    clear e1 e2 e3 hok hr h3 hc0 o1 o2 hsm i1 i2 x0 x1 x2 x3
    generalize Ty.len f1 = m1 at *
    generalize Ty.len f2 = m2 at *
    rcases hr2 with rfl | rfl | rfl
    all_goals
      have e1 := fun W => eqKinds 3 3 3 3 W
      have e2 := fun W => eqKinds 4 4 3 3 W
      have e3 := fun W => eqKinds 4 4 4 4 W
      have e4 := fun W => eqKinds 5 5 3 3 W
      have e5 := fun W => eqKinds 5 5 4 4 W
      have e6 := fun W => eqKinds 5 5 5 5 W
      go_enter Tryz.func23, Tryz.ntmps23
      go_wp2_with fail
      rw [HW1.out]
      go_wp2_with fail
      refine HC.out.mono ?_
      rintro e w2 ⟨rfl, hb⟩
      have HD1 := Lib.hid (heap_below hb (heap_lt H1.out) H1.out)
      have HD2 := Lib.hid (heap_below hb (heap_lt H2.out) H2.out)
      have HD0 := Lib.hid (heap_below hb (heap_lt H0.out) H0.out)
      obtain ⟨b0, b1, _, _, hb0⟩ := own2 HD0.out
      have x0 := (keepAt' X0.out hb)
      have x1 := (keepAt' X1.out hb)
      have x2 := (keepAt' X2.out hb)
      have x3 := (keepAt' X3.out hb)
      have HBW := Lib.hid hb
      clear hb
      go_wp2_with fail
      have E1 : Below w1.heap.size w1 w2.drew := HBW.out.drew
      go_region_law (first
        | (go_simp; go_at_call 27; (with_reducible refine (C1.out _ E1).mono ?_); rintro e u1 ⟨G1, n1, q1, rfl, hn1, hb1⟩; have HU1 := Lib.hid hb1; have HN1 := Lib.hid hn1; have E2 := E1.trans (hb1.mono E1.size); have b0 := keepAt' (show w2.drew.cell? _ = _ from b0) hb1; have b1 := keepAt' (show w2.drew.cell? _ = _ from b1) hb1; have x2 := keepAt' (show w2.drew.cell? _ = _ from x2) hb1; have x3 := keepAt' (show w2.drew.cell? _ = _ from x3) hb1; clear hn1 hb1; go_wp2_with fail)
        | (go_simp; go_at_call 27; (with_reducible refine (C2.out _ E2).mono ?_); rintro e u2 ⟨G2, n2, q2, rfl, hn2, hb2⟩; have HU2 := Lib.hid hb2; have HN2 := Lib.hid hn2; have E3 := E2.trans (hb2.mono E2.size); obtain ⟨d0, d1, df0, df1, hd0⟩ := own2 (heap_below (E1.trans ((HU1.out.trans (hb2.mono HU1.out.size)).mono E1.size)) (heap_lt H1.out) H1.out); obtain ⟨g0, g1, gf0, gf1, hg0⟩ := own2 (heap_below (E1.trans ((HU1.out.trans (hb2.mono HU1.out.size)).mono E1.size)) (heap_lt H2.out) H2.out); clear hn2 hb2; go_wp2_with fail))
      all_goals
        go_wp2_with fail
        have hz1 : w1.heap.size = w.heap.size + 3 := by rw [← HW1.out]; simp
        have hz2 := E1.size
        have hz3 := E2.size
        refine bodyPost_ret (v := .tuple #[.agg #[.int .i8 p1, .slice G1 n1 q1], .agg #[.int .i8 p2, .slice G2 n2 q2], .bool true]) (by simp [results, Tryz.results23, go_sem, *]) rfl ⟨G1, n1, q1, G2, n2, q2, rfl, ?_, ?_, ?_⟩
        · exact HN1.out.to fun b o v hb hc => ⟨Nat.le_trans (show w.heap.size ≤ w1.heap.size by omega) (by first | exact Nat.le_trans hz2 hb | exact Nat.le_trans hz3 hb), four_keep (P := fun b => w1.heap.size ≤ b) (by omega) (by omega) b o v (show w1.heap.size ≤ b from Nat.le_trans hz2 hb) (keepAt' hc HU2.out)⟩
        · exact HN2.out.to fun b o v hb hc => ⟨Nat.le_trans (show w.heap.size ≤ w1.heap.size by omega) (by first | exact Nat.le_trans hz2 hb | exact Nat.le_trans hz3 hb), four_keep (P := fun b => w1.heap.size ≤ b) (by omega) (by omega) b o v (show w1.heap.size ≤ b from Nat.le_trans hz3 hb) hc⟩
        · exact four_set (HB0.out.trans (E3.mono HB0.out.size)) (Nat.le_add_right _ _) (by omega) _ _ _ _
  · by_cases hB : k = 0 ∧ 3 ≤ kd ∧ kd ≤ 5
    · obtain ⟨rfl, h3, h5⟩ := hB
      obtain rfl := Ty.none_of hok (by omega)
      obtain ⟨e1, e2, e3⟩ := Ty.as_open h3 h5
      rw [e1, e2, e3]
      have hr2 : kd = 3 ∨ kd = 4 ∨ kd = 5 := by omega
      clear e1 e2 e3 hok hr h3 h5 hc0 hsm hA
      rcases hr2 with rfl | rfl | rfl
      all_goals
        have e1 := fun W => eqKinds 3 0 3 3 W
        have e2 := fun W => eqKinds 3 0 4 4 W
        have e3 := fun W => eqKinds 3 0 5 5 W
        have e4 := fun W => eqKinds 4 0 3 3 W
        have e5 := fun W => eqKinds 4 0 4 4 W
        have e6 := fun W => eqKinds 4 0 5 5 W
        have f1 := fun W => eqKinds 5 0 3 3 W
        have f2 := fun W => eqKinds 5 0 4 4 W
        have f3 := fun W => eqKinds 5 0 5 5 W
        have g1 := fun W => eqKinds 3 0 3 0 W
        have g2 := fun W => eqKinds 4 0 3 0 W
        have g3 := fun W => eqKinds 4 0 4 0 W
        have g4 := fun W => eqKinds 5 0 3 0 W
        have g5 := fun W => eqKinds 5 0 4 0 W
        have g6 := fun W => eqKinds 5 0 5 0 W
        go_enter Tryz.func23, Tryz.ntmps23
        go_wp2_with fail
        rw [HW1.out]
        go_wp2_with fail
        refine HC.out.mono ?_
        rintro e w2 ⟨rfl, hb⟩
        obtain ⟨b0, b1, _, _, hb0⟩ := own2 (heap_below hb (heap_lt H0.out) H0.out)
        obtain ⟨d0, d1, df0, df1, hd0⟩ := own2 (heap_below hb (heap_lt H1.out) H1.out)
        obtain ⟨q0, q1, gf0, gf1, hg0⟩ := own2 (heap_below hb (heap_lt H2.out) H2.out)
        have HB2 := Lib.hid (HB0.out.trans (hb.mono HB0.out.size))
        clear hb
        go_wp2_with fail
        clear e1 e2 e3 e4 e5 e6 f1 f2 f3 g1 g2 g3 g4 g5 g6
        refine bodyPost_ret (v := .tuple #[.agg #[.int .i8 0, .slice none 0 0], .agg #[.int .i8 0, .slice none 0 0], .bool true]) (by simp [results, Tryz.results23, go_sem, *]) rfl ⟨none, 0, 0, none, 0, 0, rfl, (fun u _ => Ty.zero_is u), (fun u _ => Ty.zero_is u), ?_⟩
        exact four_set HB2.out (Nat.le_add_right _ _) (by omega) _ _ _ _
    · have hno : Ty.asOk kd k kids = false := by
        unfold Ty.asOk
        by_cases q1 : 3 ≤ kd ∧ kd ≤ 5
        · have n1 : k ≠ kd := fun e => hA ⟨e, by omega⟩
          have n2 : k ≠ 0 := fun e => hB ⟨e, q1⟩
          simp [n1, n2]
        · simp; omega
      obtain ⟨e1, e2⟩ := Ty.as_no hno
      rw [hno, e1, e2]
      have mk : ∀ (x y : Int), (3 ≤ x ∧ x ≤ 5 ∧ (y = x ∨ y = 0)) → ∀ W, (binOp .eql 87 (.agg #[.int .i8 kd, .int .i8 k]) (.agg #[.int .i8 x, .int .i8 y])).run Tryz.prog W = .ok (.bool false) W := fun x y hxy W => by
        rw [eqKinds]; simp; omega
      have f1 := mk 3 3 (by omega)
      have f2 := mk 4 4 (by omega)
      have f3 := mk 5 5 (by omega)
      have f4 := mk 3 0 (by omega)
      have f5 := mk 4 0 (by omega)
      have f6 := mk 5 0 (by omega)
      clear mk hno e1 e2 hc0 hA hB hok hr hsm
      go_enter Tryz.func23, Tryz.ntmps23
      go_wp2_with fail
      rw [HW1.out]
      go_wp2_with fail
      refine HC.out.mono ?_
      rintro e w2 ⟨rfl, hb⟩
      obtain ⟨b0, b1, _, _, hb0⟩ := own2 (heap_below hb (heap_lt H0.out) H0.out)
      obtain ⟨d0, d1, df0, df1, hd0⟩ := own2 (heap_below hb (heap_lt H1.out) H1.out)
      obtain ⟨q0, q1, gf0, gf1, hg0⟩ := own2 (heap_below hb (heap_lt H2.out) H2.out)
      have HB2 := Lib.hid (HB0.out.trans (hb.mono HB0.out.size))
      clear hb
      go_wp2_with fail
      clear f1 f2 f3 f4 f5 f6
      refine bodyPost_ret (v := .tuple #[.agg #[.int .i8 0, .slice none 0 0], .agg #[.int .i8 0, .slice none 0 0], .bool false]) (by simp [results, Tryz.results23, go_sem, *]) rfl ⟨none, 0, 0, none, 0, 0, rfl, (fun u _ => Ty.zero_is u), (fun u _ => Ty.zero_is u), ?_⟩
      exact four_set HB2.out (Nat.le_add_right _ _) (by omega) _ _ _ _

/-- what a Meet tells, in new memory -/
def MeetTellsP (w : World) (k : Int) (kids : Fo) (k' : Int) (kids' : Fo) (e : Ending) (w' : World) : Prop :=
  ∃ G m c, e = .returned (.tuple #[.agg #[.int .i8 (if Ty.agreeT k kids k' kids' then Ty.mK k k' else 0), .slice G m c], .bool (Ty.agreeT k kids k' kids')]) ∧
    Lone (fun b => w.heap.size ≤ b) w' (if Ty.agreeT k kids k' kids' then Ty.mK k k' else 0) (if Ty.agreeT k kids k' kids' then Ty.mT k kids k' kids' else .nil) G m c ∧ Below w.heap.size w w'
set_option maxHeartbeats 2000000 in
set_option maxRecDepth 100000 in
theorem oMeetP_any (k : Int) (kids : Fo) (A : Option Addr) (n c : Nat) (k' : Int) (kids' : Fo) (A' : Option Addr) (n' c' : Nat) (w : World) (hIs : Ty.Is w k kids A n c) (hIs' : Ty.Is w k' kids' A' n' c') (hS : Shapes w) :
    Calls Tryz.prog 25 #[.agg #[.int .i8 k, .slice A n c], .agg #[.int .i8 k', .slice A' n' c']] w (MeetTellsP w k kids k' kids') := by
  obtain ⟨hA0, hA1, hA2, hsz⟩ := three_new w (.cells #[.int .i8 k, .slice A n c] 25) (.cells #[.int .i8 k', .slice A' n' c'] 25) (.cells #[.int .i8 0, .slice none 0 0] 25)
  have hB1 := below_three w (.cells #[.int .i8 k, .slice A n c] 25) (.cells #[.int .i8 k', .slice A' n' c'] 25) (.cells #[.int .i8 0, .slice none 0 0] 25)
  generalize hw1 : ((w.alloc (.cells #[.int .i8 k, .slice A n c] 25)).alloc (.cells #[.int .i8 k', .slice A' n' c'] 25)).alloc (.cells #[.int .i8 0, .slice none 0 0] 25) = w1 at *
  have HW1 := Lib.hid hw1
  have HB1 := Lib.hid hB1
  have HX := Lib.hid hA0
  have HY := Lib.hid hA1
  have HZ := Lib.hid hA2
  have HC := Lib.hid (agree_any k kids A n c k' kids' A' n' c' w1 (hIs.below hB1) (hIs'.below hB1) (hS.below hB1))
  have HSH := Lib.hid hS
  have HQ := Lib.hid (agree_ok (k := k) (kids := kids) (k' := k') (kids' := kids'))
  have HI := Lib.hid hIs
  have HI' := Lib.hid hIs'
  clear hA0 hA1 hA2 hsz hB1 hw1 hIs hIs' hS
  obtain ⟨x0, x1, _, _, hxl⟩ := own2 HX.out
  obtain ⟨y0, y1, _, _, hyl⟩ := own2 HY.out
  cases hR : Ty.agreeT k kids k' kids'
  · rw [hR] at HC
    have hp : ∀ (e : Ending) (w' : World), (∃ G m c, e = .returned (.tuple #[.agg #[.int .i8 0, .slice G m c], .bool false]) ∧ Lone (fun b => w.heap.size ≤ b) w' 0 .nil G m c ∧ Below w.heap.size w w') → MeetTellsP w k kids k' kids' e w' := fun e w' h => by unfold MeetTellsP; rw [hR]; exact h
    refine Calls.mono ?_ hp
    clear hp hR HQ
    go_enter Tryz.func25, Tryz.ntmps25
    go_upto_region 1 with fail
    rw [HW1.out]
    go_wp2_with fail
    refine HC.out.mono ?_
    rintro e w2 ⟨rfl, hb⟩
    have HB2 := Lib.hid (HB1.out.trans (hb.mono HB1.out.size))
    have HZ2 := Lib.hid (heap_below hb (heap_lt HZ.out) HZ.out)
    obtain ⟨r0, r1, r2, r3, hrl⟩ := own2 HZ2.out
    clear hb x0 x1 hxl y0 y1 hyl
    go_wp2_with fail
    refine bodyPost_ret (v := .tuple #[.agg #[.int .i8 0, .slice none 0 0], .bool false]) (by simp [results, Tryz.results25, go_sem, *]) rfl ⟨none, 0, 0, rfl, fun u _ => ⟨trivial, rfl, Nat.le_refl _, Nat.zero_le _, by decide, by decide⟩, ?_⟩
    exact (HB2.out.setCell (p := ⟨w.heap.size + 1 + 1, 0, none⟩) (by simp; omega) _).setCell (p := ⟨w.heap.size + 1 + 1, 1, none⟩) (by simp; omega) _
  · rw [hR] at HC
    obtain ⟨-, -, ha⟩ := HQ.out hR
    obtain ⟨s1, s2⟩ := Ty.agree_chk hR
    have HM := Lib.hid (fun (W : World) (hb : Below w.heap.size w W) => omeet_any k kids A n c k' kids' A' n' c' W (HI.out.below hb) (HI'.out.below hb) s1 s2 (HSH.out.below hb) ha)
    have hp : ∀ (e : Ending) (w' : World), (∃ G m c, e = .returned (.tuple #[.agg #[.int .i8 (Ty.mK k k'), .slice G m c], .bool true]) ∧ Lone (fun b => w.heap.size ≤ b) w' (Ty.mK k k') (Ty.mT k kids k' kids') G m c ∧ Below w.heap.size w w') → MeetTellsP w k kids k' kids' e w' := fun e w' h => by unfold MeetTellsP; rw [hR]; exact h
    refine Calls.mono ?_ hp
    generalize Ty.mK k k' = MK at *
    generalize Ty.mT k kids k' kids' = MT at *
    clear hp hR HQ s1 s2 ha
    go_enter Tryz.func25, Tryz.ntmps25
    go_upto_region 1 with fail
    rw [HW1.out]
    go_wp2_with fail
    refine HC.out.mono ?_
    rintro e w2 ⟨rfl, hb⟩
    have HB2 := Lib.hid (HB1.out.trans (hb.mono HB1.out.size))
    have HX2 := Lib.hid (heap_below hb (heap_lt HX.out) HX.out)
    have HY2 := Lib.hid (heap_below hb (heap_lt HY.out) HY.out)
    have HZ2 := Lib.hid (heap_below hb (heap_lt HZ.out) HZ.out)
    clear hb x0 x1 hxl y0 y1 hyl
    obtain ⟨x0, x1, _, _, hxl⟩ := own2 HX2.out
    obtain ⟨y0, y1, _, _, hyl⟩ := own2 HY2.out
    go_wp2_with fail
    refine (HM.out _ HB2.out).mono ?_
    rintro e w3 ⟨G, m, cg, rfl, hi, hb⟩
    have HB3 := Lib.hid (HB2.out.trans (hb.mono HB2.out.size))
    have HZ3 := Lib.hid (heap_below hb (heap_lt HZ2.out) HZ2.out)
    have HJ := Lib.hid hi
    obtain ⟨r0, r1, r2, r3, hrl⟩ := own2 HZ3.out
    clear hb x0 x1 hxl y0 y1 hyl hi
    go_wp2_with fail
    refine bodyPost_ret (v := .tuple #[.agg #[.int .i8 MK, .slice G m cg], .bool true]) (by simp [results, Tryz.results25, go_sem, *]) rfl ⟨G, m, cg, rfl, ?_, ?_⟩
    · intro u hu
      refine (HJ.out.to (P' := fun _ => True) fun b o v hP hc => ⟨trivial, hu b o v (show w.heap.size ≤ b by have := HB2.out.size; have hP' : w2.heap.size ≤ b := hP; omega) ?_⟩).is
      have hne : w.heap.size + 1 + 1 ≠ b := by have := heap_lt HZ2.out; have hP' : w2.heap.size ≤ b := hP; omega
      rw [World.cell?_setCell_other _ _ _ _ (fun e => hne (by injection e)), World.cell?_setCell_other _ _ _ _ (fun e => hne (by injection e))]
      exact hc
    · exact (HB3.out.setCell (p := ⟨w.heap.size + 1 + 1, 0, none⟩) (by simp; omega) _).setCell (p := ⟨w.heap.size + 1 + 1, 1, none⟩) (by simp; omega) _
end Go.Proofs.YtknhoagicdfikaaGreatDoor
