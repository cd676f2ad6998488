/-
  The document's As.
-/
import Derived.Test.YtfkbdpehdabepaaDoorAg4
namespace Go.Proofs.YtfkbdpehdabepaaDoor
open Go.RowKit

set_option maxHeartbeats 4000000 in
set_option maxRecDepth 100000 in
theorem qas_any (kd k : Int) (kids : Fo) (A : Option Addr) (n c : Nat) (w : World) (hIs : Ty.Is w k kids A n c) :
    Calls Tryd.prog 7 #[.int .i8 kd, .agg #[.int .i8 k, .slice A n c]] w (AsPost w (Ty.asOk kd k kids) (Ty.asL kd k kids) (Ty.asR kd k kids)) := by
  have hB0 : Below w.heap.size w (((w.alloc (.cells #[.int .i8 k, .slice A n c] 25)).alloc (.cells #[.int .i8 0, .slice none 0 0] 25)).alloc (.cells #[.int .i8 0, .slice none 0 0] 25)) := (((Below.refl _ _).alloc (Nat.le_refl _) _).alloc (by simp) _).alloc (by simp; omega) _
  obtain ⟨r0, r1, r2⟩ := two_new w (.cells #[.int .i8 k, .slice A n c] 25) (.cells #[.int .i8 0, .slice none 0 0] 25)
  have h0 := heap_old r0 (.cells #[.int .i8 0, .slice none 0 0] 25)
  have h1 := heap_old r1 (.cells #[.int .i8 0, .slice none 0 0] 25)
  have h2 := heap_new ((w.alloc (.cells #[.int .i8 k, .slice A n c] 25)).alloc (.cells #[.int .i8 0, .slice none 0 0] 25)) (.cells #[.int .i8 0, .slice none 0 0] 25)
  rw [r2] at h2
  generalize hw1 : (((w.alloc (.cells #[.int .i8 k, .slice A n c] 25)).alloc (.cells #[.int .i8 0, .slice none 0 0] 25)).alloc (.cells #[.int .i8 0, .slice none 0 0] 25)) = w1 at *
  have HW1 := Lib.hid hw1
  have HB0 := Lib.hid hB0
  have HC := Lib.hid (ref_check k kids A n c w1 (hIs.below hB0))
  have HI := Lib.hid hIs
  have H0 := Lib.hid h0
  have H1 := Lib.hid h1
  have H2 := Lib.hid h2
  obtain ⟨b0, b1, _, _, hb0⟩ := own2 h0
  clear r0 r1 r2 h0 h1 h2 hw1 hB0 hIs
  by_cases hkd : 3 ≤ kd ∧ kd ≤ 5
  case neg =>
    have hno : Ty.asOk kd k kids = false := by unfold Ty.asOk; simp; omega
    obtain ⟨e1, e2⟩ := Ty.as_no hno
    rw [hno, e1, e2]
    have f1 : (kd != 3) = true := by simp; omega
    have f2 : (kd != 4) = true := by simp; omega
    have f3 : (kd != 5) = true := by simp; omega
    obtain ⟨d0, d1, df0, df1, hd0⟩ := own2 H1.out
    obtain ⟨g0, g1, gf0, gf1, hg0⟩ := own2 H2.out
    clear hno e1 e2 hkd HC
    go_enter Tryd.func7, Tryd.ntmps7
    go_wp2_with fail
    rw [HW1.out]
    go_wp2_with fail
    refine bodyPost_ret (v := .tuple #[.agg #[.int .i8 0, .slice none 0 0], .agg #[.int .i8 0, .slice none 0 0], .bool false]) (by simp [results, Tryd.results7, go_sem, *]) rfl ⟨none, 0, 0, none, 0, 0, rfl, Ty.zero_is _, Ty.zero_is _, ?_⟩
    exact HB0.out
  have hr2 : kd = 3 ∨ kd = 4 ∨ kd = 5 := by omega
  by_cases hc0 : Ty.chk k kids = 0
  case neg =>
    have hno : Ty.asOk kd k kids = false := by unfold Ty.asOk; simp [hc0]
    obtain ⟨e1, e2⟩ := Ty.as_no hno
    rw [hno, e1, e2]
    have hcn : (((Ty.chk k kids : Nat) : Int) != 0) = true := by simp; omega
    generalize Ty.chk k kids = C at *
    clear hno e1 e2 hc0 hkd
    rcases hr2 with rfl | rfl | rfl
    all_goals
      go_enter Tryd.func7, Tryd.ntmps7
      go_wp2_with fail
      rw [HW1.out]
      go_wp2_with fail
      refine HC.out.mono ?_
      rintro e w2 ⟨rfl, hb⟩
      obtain ⟨d0, d1, df0, df1, hd0⟩ := own2 (heap_below hb (heap_lt H1.out) H1.out)
      obtain ⟨g0, g1, gf0, gf1, hg0⟩ := own2 (heap_below hb (heap_lt H2.out) H2.out)
      have HB2 := Lib.hid (HB0.out.trans (hb.mono HB0.out.size))
      clear hb
      go_wp2_with fail
      refine bodyPost_ret (v := .tuple #[.agg #[.int .i8 0, .slice none 0 0], .agg #[.int .i8 0, .slice none 0 0], .bool false]) (by simp [results, Tryd.results7, go_sem, *]) rfl ⟨none, 0, 0, none, 0, 0, rfl, Ty.zero_is _, Ty.zero_is _, ?_⟩
      exact four_set HB2.out (Nat.le_add_right _ _) (by omega) _ _ _ _
  have hok := (Ty.chk_ok hc0).1
  rw [hc0] at HC
  by_cases hk0 : k = 0
  · subst hk0
    obtain rfl := Ty.none_of hok (by omega)
    obtain ⟨e1, e2, e3⟩ := Ty.as_open hkd.1 hkd.2
    rw [e1, e2, e3]
    clear e1 e2 e3 hok hkd hc0
    rcases hr2 with rfl | rfl | rfl
    all_goals
      go_enter Tryd.func7, Tryd.ntmps7
      go_wp2_with fail
      rw [HW1.out]
      go_wp2_with fail
      refine HC.out.mono ?_
      rintro e w2 ⟨rfl, hb⟩
      obtain ⟨b0, b1, _, _, hb0⟩ := own2 (heap_below hb (heap_lt H0.out) H0.out)
      obtain ⟨d0, d1, df0, df1, hd0⟩ := own2 (heap_below hb (heap_lt H1.out) H1.out)
      obtain ⟨g0, g1, gf0, gf1, hg0⟩ := own2 (heap_below hb (heap_lt H2.out) H2.out)
      have HB2 := Lib.hid (HB0.out.trans (hb.mono HB0.out.size))
      clear hb
      go_wp2_with fail
      refine bodyPost_ret (v := .tuple #[.agg #[.int .i8 0, .slice none 0 0], .agg #[.int .i8 0, .slice none 0 0], .bool true]) (by simp [results, Tryd.results7, go_sem, *]) rfl ⟨none, 0, 0, none, 0, 0, rfl, Ty.zero_is _, Ty.zero_is _, ?_⟩
      exact four_set HB2.out (Nat.le_add_right _ _) (by omega) _ _ _ _
  have hz : (k == 0) = false := by simpa using hk0
  by_cases hkk : k = kd
  · subst hkk
    obtain ⟨a1, a2, p1, f1, a3, a4, p2, f2, rfl, o1, o2⟩ := Ty.two_of hok hkd.1
    obtain ⟨e1, e2, e3⟩ := Ty.as_yes hkd.1 hkd.2 hc0
    rw [e1, e2, e3]
    have hn := HI.out.n_eq
    simp only [Ty.len] at hn
    subst hn
    obtain ⟨bb, oo, B1, c1, B2, c2, rfl, x0, x1, x2, x3, i1, i2⟩ := Ty.lies2 HI.out.lies
    have hne2 : (k != k) = false := by simp
    have I1 := Lib.hid i1
    have I2 := Lib.hid i2
    have X0 := Lib.hid (keepAt' x0 HB0.out)
    have X1 := Lib.hid (keepAt' x1 HB0.out)
    have X2 := Lib.hid (keepAt' x2 HB0.out)
    have X3 := Lib.hid (keepAt' x3 HB0.out)
    clear e1 e2 e3 hok hkd hc0 o1 o2 i1 i2 x0 x1 x2 x3 hk0
    generalize Ty.len f1 = m1 at *
    generalize Ty.len f2 = m2 at *
    rcases hr2 with rfl | rfl | rfl
    all_goals
      go_enter Tryd.func7, Tryd.ntmps7
      go_wp2_with fail
      rw [HW1.out]
      go_wp2_with fail
      refine HC.out.mono ?_
      rintro e w2 ⟨rfl, hb⟩
      obtain ⟨b0, b1, _, _, hb0⟩ := own2 (heap_below hb (heap_lt H0.out) H0.out)
      obtain ⟨d0, d1, df0, df1, hd0⟩ := own2 (heap_below hb (heap_lt H1.out) H1.out)
      obtain ⟨g0, g1, gf0, gf1, hg0⟩ := own2 (heap_below hb (heap_lt H2.out) H2.out)
      have x0 := keepAt' X0.out hb
      have x1 := keepAt' X1.out hb
      have x2 := keepAt' X2.out hb
      have x3 := keepAt' X3.out hb
      have HB2 := Lib.hid (HB0.out.trans (hb.mono HB0.out.size))
      have HBW := Lib.hid hb
      clear hb
      go_wp2_with fail
      go_region
      all_goals
        go_wp2_with fail
        have hz1 : w1.heap.size = w.heap.size + 3 := by rw [← HW1.out]; simp
        refine bodyPost_ret (v := .tuple #[.agg #[.int .i8 p1, .slice B1 m1 c1], .agg #[.int .i8 p2, .slice B2 m2 c2], .bool true]) (by simp [results, Tryd.results7, go_sem, *]) rfl ⟨B1, m1, c1, B2, m2, c2, rfl, ?_, ?_, ?_⟩
        · exact I1.out.below (four_set HB2.out.drew (Nat.le_add_right _ _) (by omega) _ _ _ _)
        · exact I2.out.below (four_set HB2.out.drew (Nat.le_add_right _ _) (by omega) _ _ _ _)
        · exact four_set HB2.out.drew (Nat.le_add_right _ _) (by omega) _ _ _ _
  · have hno : Ty.asOk kd k kids = false := by unfold Ty.asOk; simp [hkk, hk0]
    obtain ⟨e1, e2⟩ := Ty.as_no hno
    rw [hno, e1, e2]
    have hkk2 : (k != kd) = true := by simpa using hkk
    clear hno e1 e2 hc0 hkd hok hkk hk0
    rcases hr2 with rfl | rfl | rfl
    all_goals
      go_enter Tryd.func7, Tryd.ntmps7
      go_wp2_with fail
      rw [HW1.out]
      go_wp2_with fail
      refine HC.out.mono ?_
      rintro e w2 ⟨rfl, hb⟩
      obtain ⟨b0, b1, _, _, hb0⟩ := own2 (heap_below hb (heap_lt H0.out) H0.out)
      obtain ⟨d0, d1, df0, df1, hd0⟩ := own2 (heap_below hb (heap_lt H1.out) H1.out)
      obtain ⟨g0, g1, gf0, gf1, hg0⟩ := own2 (heap_below hb (heap_lt H2.out) H2.out)
      have HB2 := Lib.hid (HB0.out.trans (hb.mono HB0.out.size))
      clear hb
      go_wp2_with fail
      refine bodyPost_ret (v := .tuple #[.agg #[.int .i8 0, .slice none 0 0], .agg #[.int .i8 0, .slice none 0 0], .bool false]) (by simp [results, Tryd.results7, go_sem, *]) rfl ⟨none, 0, 0, none, 0, 0, rfl, Ty.zero_is _, Ty.zero_is _, ?_⟩
      exact four_set HB2.out (Nat.le_add_right _ _) (by omega) _ _ _ _
end Go.Proofs.YtfkbdpehdabepaaDoor
