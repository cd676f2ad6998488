/-
  The document's Meet; the law's kind and met.
-/
import Derived.Test.YtfkbdpehdabepaaDoorOr7
namespace Go.Proofs.YtfkbdpehdabepaaDoor
open Go.RowKit

set_option maxHeartbeats 2000000 in
set_option maxRecDepth 100000 in
theorem qMeet_any (k : Int) (kids : Fo) (A : Option Addr) (n c : Nat) (k' : Int) (kids' : Fo) (A' : Option Addr) (n' c' : Nat) (w : World) (hIs : Ty.Is w k kids A n c) (hIs' : Ty.Is w k' kids' A' n' c') :
    Calls Tryd.prog 16 #[.agg #[.int .i8 k, .slice A n c], .agg #[.int .i8 k', .slice A' n' c']] w (MeetTells w k kids k' kids') := by
  obtain ⟨hA0, hA1, hA2, hsz⟩ := three_new w (.cells #[.int .i8 k, .slice A n c] 25) (.cells #[.int .i8 k', .slice A' n' c'] 25) (.cells #[.int .i8 0, .slice none 0 0] 25)
  have hB1 := below_three w (.cells #[.int .i8 k, .slice A n c] 25) (.cells #[.int .i8 k', .slice A' n' c'] 25) (.cells #[.int .i8 0, .slice none 0 0] 25)
  generalize hw1 : ((w.alloc (.cells #[.int .i8 k, .slice A n c] 25)).alloc (.cells #[.int .i8 k', .slice A' n' c'] 25)).alloc (.cells #[.int .i8 0, .slice none 0 0] 25) = w1 at *
  have HW1 := Lib.hid hw1
  have HB1 := Lib.hid hB1
  have HX1 := Lib.hid hA0
  have HY1 := Lib.hid hA1
  have HZ1 := Lib.hid hA2
  have CA := Lib.hid (fun (W : World) (hb : Below w.heap.size w W) => ref_check k kids A n c W (hIs.below hb))
  have CB := Lib.hid (fun (W : World) (hb : Below w.heap.size w W) => ref_check k' kids' A' n' c' W (hIs'.below hb))
  have CG := Lib.hid (fun (W : World) (hb : Below w.heap.size w W) => qagree_any k kids A n c k' kids' A' n' c' W (hIs.below hb) (hIs'.below hb))
  have HQ := Lib.hid (agree_ok (k := k) (kids := kids) (k' := k') (kids' := kids'))
  have HM := Lib.hid (fun (W : World) (hb : Below w.heap.size w W) h1 h2 h3 => qmeet_any (Ty.nodes kids + 1) k kids A n c k' kids' A' n' c' (fun b => b < w.heap.size) W (Nat.lt_succ_self _) (IsP_below hIs.inP hb) (IsP_below hIs'.inP hb) (fun b h => Nat.lt_of_lt_of_le h hb.size) h1 h2 h3)
  have HSZ := Lib.hid hsz
  clear hA0 hA1 hA2 hsz hB1 hw1 hIs hIs'
  by_cases h0 : Ty.chk k kids = 0
  · by_cases h1 : Ty.chk k' kids' = 0
    · rw [h0] at CA
      rw [h1] at CB
      cases hR : Ty.agreeT k kids k' kids'
      · rw [hR] at CG
        have hp : ∀ (e : Ending) (w' : World), (∃ G m c, e = .returned (.tuple #[.agg #[.int .i8 0, .slice G m c], .bool false]) ∧ Ty.Is w' 0 .nil G m c ∧ Below w.heap.size w w') → MeetTells w k kids k' kids' e w' := fun e w' h => by unfold MeetTells; rw [hR]; exact h
        refine Calls.mono ?_ hp
        clear hp hR HQ h0 h1 HM
        go_enter Tryd.func16, Tryd.ntmps16
        go_upto_region 1 with fail
        rw [HW1.out]
        obtain ⟨x0, x1, x2, x3, hxl⟩ := own2 HX1.out
        go_wp2_with fail
        refine (CA.out _ HB1.out).mono ?_
        rintro e w2 ⟨rfl, hb⟩
        have HB2 := Lib.hid (HB1.out.trans (hb.mono HB1.out.size))
        have HX2 := Lib.hid (heap_below hb (heap_lt HX1.out) HX1.out)
        have HY2 := Lib.hid (heap_below hb (heap_lt HY1.out) HY1.out)
        have HZ2 := Lib.hid (heap_below hb (heap_lt HZ1.out) HZ1.out)
        clear hb
        clear x0 x1 x2 x3 hxl
        obtain ⟨y0, y1, y2, y3, hyl⟩ := own2 HY2.out
        go_wp2_with fail
        refine (CB.out _ HB2.out).mono ?_
        rintro e w3 ⟨rfl, hb⟩
        have HB3 := Lib.hid (HB2.out.trans (hb.mono HB2.out.size))
        have HX3 := Lib.hid (heap_below hb (heap_lt HX2.out) HX2.out)
        have HY3 := Lib.hid (heap_below hb (heap_lt HY2.out) HY2.out)
        have HZ3 := Lib.hid (heap_below hb (heap_lt HZ2.out) HZ2.out)
        clear hb
        clear y0 y1 y2 y3 hyl
        obtain ⟨x0, x1, x2, x3, hxl⟩ := own2 HX3.out
        obtain ⟨y0, y1, y2, y3, hyl⟩ := own2 HY3.out
        go_wp2_with fail
        refine (CG.out _ HB3.out).mono ?_
        rintro e w4 ⟨rfl, hb⟩
        have HB4 := Lib.hid (HB3.out.trans (hb.mono HB3.out.size))
        have HX4 := Lib.hid (heap_below hb (heap_lt HX3.out) HX3.out)
        have HY4 := Lib.hid (heap_below hb (heap_lt HY3.out) HY3.out)
        have HZ4 := Lib.hid (heap_below hb (heap_lt HZ3.out) HZ3.out)
        clear hb
        clear x0 x1 x2 x3 hxl y0 y1 y2 y3 hyl
        obtain ⟨z0, z1, z2, z3, hzl⟩ := own2 HZ4.out
        go_wp2_with fail
        refine bodyPost_ret (v := .tuple #[.agg #[.int .i8 0, .slice none 0 0], .bool false]) (by simp [results, Tryd.results16, go_sem, *]) rfl ⟨none, 0, 0, rfl, ⟨trivial, rfl, Nat.le_refl _, Nat.zero_le _, by decide, by decide⟩, ?_⟩
        exact (HB4.out.setCell (p := ⟨w.heap.size + 1 + 1, 0, none⟩) (by simp; omega) _).setCell (p := ⟨w.heap.size + 1 + 1, 1, none⟩) (by simp; omega) _
      · rw [hR] at CG
        obtain ⟨⟨o1, s1⟩, ⟨o2, s2⟩, ha⟩ := HQ.out hR
        have HMM := Lib.hid (fun (W : World) (hb : Below w.heap.size w W) => HM.out W hb o1 o2 ha)
        have hp : ∀ (e : Ending) (w' : World), (∃ G m c, e = .returned (.tuple #[.agg #[.int .i8 (Ty.mK k k'), .slice G m c], .bool true]) ∧ Ty.Is w' (Ty.mK k k') (Ty.mT k kids k' kids') G m c ∧ Below w.heap.size w w') → MeetTells w k kids k' kids' e w' := fun e w' h => by unfold MeetTells; rw [hR]; exact h
        refine Calls.mono ?_ hp
        clear HM
        generalize Ty.mK k k' = MK at *
        generalize Ty.mT k kids k' kids' = MT at *
        clear hp hR HQ h0 h1 o1 s1 o2 s2 ha
        go_enter Tryd.func16, Tryd.ntmps16
        go_upto_region 1 with fail
        rw [HW1.out]
        obtain ⟨x0, x1, x2, x3, hxl⟩ := own2 HX1.out
        go_wp2_with fail
        refine (CA.out _ HB1.out).mono ?_
        rintro e w2 ⟨rfl, hb⟩
        have HB2 := Lib.hid (HB1.out.trans (hb.mono HB1.out.size))
        have HX2 := Lib.hid (heap_below hb (heap_lt HX1.out) HX1.out)
        have HY2 := Lib.hid (heap_below hb (heap_lt HY1.out) HY1.out)
        have HZ2 := Lib.hid (heap_below hb (heap_lt HZ1.out) HZ1.out)
        clear hb
        clear x0 x1 x2 x3 hxl
        obtain ⟨y0, y1, y2, y3, hyl⟩ := own2 HY2.out
        go_wp2_with fail
        refine (CB.out _ HB2.out).mono ?_
        rintro e w3 ⟨rfl, hb⟩
        have HB3 := Lib.hid (HB2.out.trans (hb.mono HB2.out.size))
        have HX3 := Lib.hid (heap_below hb (heap_lt HX2.out) HX2.out)
        have HY3 := Lib.hid (heap_below hb (heap_lt HY2.out) HY2.out)
        have HZ3 := Lib.hid (heap_below hb (heap_lt HZ2.out) HZ2.out)
        clear hb
        clear y0 y1 y2 y3 hyl
        obtain ⟨x0, x1, x2, x3, hxl⟩ := own2 HX3.out
        obtain ⟨y0, y1, y2, y3, hyl⟩ := own2 HY3.out
        go_wp2_with fail
        refine (CG.out _ HB3.out).mono ?_
        rintro e w4 ⟨rfl, hb⟩
        have HB4 := Lib.hid (HB3.out.trans (hb.mono HB3.out.size))
        have HX4 := Lib.hid (heap_below hb (heap_lt HX3.out) HX3.out)
        have HY4 := Lib.hid (heap_below hb (heap_lt HY3.out) HY3.out)
        have HZ4 := Lib.hid (heap_below hb (heap_lt HZ3.out) HZ3.out)
        clear hb
        clear x0 x1 x2 x3 hxl y0 y1 y2 y3 hyl
        obtain ⟨x0, x1, x2, x3, hxl⟩ := own2 HX4.out
        obtain ⟨y0, y1, y2, y3, hyl⟩ := own2 HY4.out
        go_wp2_with fail
        refine (HMM.out _ HB4.out).mono ?_
        rintro e w5 ⟨G, m, cg, rfl, hi, hb⟩
        have HB5 := Lib.hid (HB4.out.trans (hb.mono HB4.out.size))
        have HX5 := Lib.hid (heap_below hb (heap_lt HX4.out) HX4.out)
        have HY5 := Lib.hid (heap_below hb (heap_lt HY4.out) HY4.out)
        have HZ5 := Lib.hid (heap_below hb (heap_lt HZ4.out) HZ4.out)
        clear hb
        have HJ := Lib.hid hi
        clear x0 x1 x2 x3 hxl y0 y1 y2 y3 hyl
        obtain ⟨z0, z1, z2, z3, hzl⟩ := own2 HZ5.out
        clear hi
        go_wp2_with fail
        refine bodyPost_ret (v := .tuple #[.agg #[.int .i8 MK, .slice G m cg], .bool true]) (by simp [results, Tryd.results16, go_sem, *]) rfl ⟨G, m, cg, rfl, ?_, ?_⟩
        · exact (IsP_sets HJ.out (fun b h e => by have := HB4.out.size; have := heap_lt HZ4.out; rcases h with h | h <;> omega) _ _).is
        · exact (HB5.out.setCell (p := ⟨w.heap.size + 1 + 1, 0, none⟩) (by simp; omega) _).setCell (p := ⟨w.heap.size + 1 + 1, 1, none⟩) (by simp; omega) _
    · have hR : Ty.agreeT k kids k' kids' = false := by unfold Ty.agreeT; simp [h1]
      have hp : ∀ (e : Ending) (w' : World), (∃ G m c, e = .returned (.tuple #[.agg #[.int .i8 0, .slice G m c], .bool false]) ∧ Ty.Is w' 0 .nil G m c ∧ Below w.heap.size w w') → MeetTells w k kids k' kids' e w' := fun e w' h => by unfold MeetTells; rw [hR]; exact h
      refine Calls.mono ?_ hp
      rw [h0] at CA
      have hc : (((Ty.chk k' kids' : Nat) : Int) != 0) = true := by simp; omega
      generalize Ty.chk k' kids' = C at *
      clear hp hR HQ h0 h1 HM CG
      go_enter Tryd.func16, Tryd.ntmps16
      go_upto_region 1 with fail
      rw [HW1.out]
      obtain ⟨x0, x1, x2, x3, hxl⟩ := own2 HX1.out
      go_wp2_with fail
      refine (CA.out _ HB1.out).mono ?_
      rintro e w2 ⟨rfl, hb⟩
      have HB2 := Lib.hid (HB1.out.trans (hb.mono HB1.out.size))
      have HX2 := Lib.hid (heap_below hb (heap_lt HX1.out) HX1.out)
      have HY2 := Lib.hid (heap_below hb (heap_lt HY1.out) HY1.out)
      have HZ2 := Lib.hid (heap_below hb (heap_lt HZ1.out) HZ1.out)
      clear hb
      clear x0 x1 x2 x3 hxl
      obtain ⟨y0, y1, y2, y3, hyl⟩ := own2 HY2.out
      go_wp2_with fail
      refine (CB.out _ HB2.out).mono ?_
      rintro e w3 ⟨rfl, hb⟩
      have HB3 := Lib.hid (HB2.out.trans (hb.mono HB2.out.size))
      have HX3 := Lib.hid (heap_below hb (heap_lt HX2.out) HX2.out)
      have HY3 := Lib.hid (heap_below hb (heap_lt HY2.out) HY2.out)
      have HZ3 := Lib.hid (heap_below hb (heap_lt HZ2.out) HZ2.out)
      clear hb
      clear y0 y1 y2 y3 hyl
      obtain ⟨z0, z1, z2, z3, hzl⟩ := own2 HZ3.out
      go_wp2_with fail
      refine bodyPost_ret (v := .tuple #[.agg #[.int .i8 0, .slice none 0 0], .bool false]) (by simp [results, Tryd.results16, go_sem, *]) rfl ⟨none, 0, 0, rfl, ⟨trivial, rfl, Nat.le_refl _, Nat.zero_le _, by decide, by decide⟩, ?_⟩
      exact (HB3.out.setCell (p := ⟨w.heap.size + 1 + 1, 0, none⟩) (by simp; omega) _).setCell (p := ⟨w.heap.size + 1 + 1, 1, none⟩) (by simp; omega) _
  · have hR : Ty.agreeT k kids k' kids' = false := by unfold Ty.agreeT; simp [h0]
    have hp : ∀ (e : Ending) (w' : World), (∃ G m c, e = .returned (.tuple #[.agg #[.int .i8 0, .slice G m c], .bool false]) ∧ Ty.Is w' 0 .nil G m c ∧ Below w.heap.size w w') → MeetTells w k kids k' kids' e w' := fun e w' h => by unfold MeetTells; rw [hR]; exact h
    refine Calls.mono ?_ hp
    have hc : (((Ty.chk k kids : Nat) : Int) != 0) = true := by simp; omega
    generalize Ty.chk k kids = C at *
    clear hp hR HQ h0 HM CG CB
    go_enter Tryd.func16, Tryd.ntmps16
    go_upto_region 1 with fail
    rw [HW1.out]
    obtain ⟨x0, x1, x2, x3, hxl⟩ := own2 HX1.out
    go_wp2_with fail
    refine (CA.out _ HB1.out).mono ?_
    rintro e w2 ⟨rfl, hb⟩
    have HB2 := Lib.hid (HB1.out.trans (hb.mono HB1.out.size))
    have HX2 := Lib.hid (heap_below hb (heap_lt HX1.out) HX1.out)
    have HY2 := Lib.hid (heap_below hb (heap_lt HY1.out) HY1.out)
    have HZ2 := Lib.hid (heap_below hb (heap_lt HZ1.out) HZ1.out)
    clear hb
    clear x0 x1 x2 x3 hxl
    obtain ⟨z0, z1, z2, z3, hzl⟩ := own2 HZ2.out
    go_wp2_with fail
    refine bodyPost_ret (v := .tuple #[.agg #[.int .i8 0, .slice none 0 0], .bool false]) (by simp [results, Tryd.results16, go_sem, *]) rfl ⟨none, 0, 0, rfl, ⟨trivial, rfl, Nat.le_refl _, Nat.zero_le _, by decide, by decide⟩, ?_⟩
    exact (HB2.out.setCell (p := ⟨w.heap.size + 1 + 1, 0, none⟩) (by simp; omega) _).setCell (p := ⟨w.heap.size + 1 + 1, 1, none⟩) (by simp; omega) _

set_option maxHeartbeats 2000000 in
set_option maxRecDepth 100000 in
theorem kind_any (K : Nat) : ∀ (k : Int) (kids : Fo) (A : Option Addr) (n c : Nat) (k' : Int) (kids' : Fo) (A' : Option Addr) (n' c' : Nat) (w : World), Ty.nodes kids < K → Ty.Is w k kids A n c → Ty.Is w k' kids' A' n' c' →
    Calls Tryd.prog 17 #[.agg #[.int .i8 k, .slice A n c], .agg #[.int .i8 k', .slice A' n' c']] w fun e w' => e = .returned (.bool (Ty.eqT k kids k' kids')) ∧ Below w.heap.size w w' := by
  induction K with
  | zero => intro _ _ _ _ _ _ _ _ _ _ _ h; omega
  | succ K ih =>
    intro k kids A n c k' kids' A' n' c' w hK hIs hIs'
    have i5 : (n : Int) ≤ 9223372036854775807 := by have h1 := hIs.n_le; have h2 := hIs.c_le; unfold maxLen at h2; omega
    obtain ⟨hB0, hR0, hR1⟩ := two_boxes w k A n c k' A' n' c'
    have HI := Lib.hid hIs
    have HI' := Lib.hid hIs'
    have IH := Lib.hid ih
    clear ih hIs hIs'
    obtain ⟨b0, b1, _, _, hb0⟩ := own2 hR0
    obtain ⟨d0, d1, _, _, hd0⟩ := own2 hR1
    by_cases hkk : k = k'
    · by_cases hnn : n = n'
      · subst hkk
        subst hnn
        rw [show Ty.eqT k kids k kids' = Ty.eqF kids kids' by unfold Ty.eqT; simp]
        have hk2 : (k != k) = false := by simp
        obtain ⟨R, hR⟩ : ∃ R, Ty.eqF kids kids' = R := ⟨_, rfl⟩
        rw [hR]
        have HR := Lib.hid hR
        have hlies2 := HI'.out.lies.below hB0
        have hst := Over.start (HI.out.lies.below hB0) HI.out.n_eq
        have hst2 : Over2 w _ A' n 0 kids' := ⟨by have := HI'.out.n_eq; omega, hlies2⟩
        have hn2 : ((n : Int) != (n : Int)) = false := by simp
        clear hR0 hR1 hR hlies2
        generalize hw1 : (w.alloc (.cells #[.int .i8 k, .slice A n c] 25)).alloc (.cells #[.int .i8 k, .slice A' n c'] 25) = w1 at *
        have HS := Lib.hid hst
        have HS2 := Lib.hid hst2
        have HW := Lib.hid hw1
        clear hst hst2 hw1
        go_enter Tryd.func17, Tryd.ntmps17
        go_wp2_with fail
        rw [HW.out]
        go_wp2_with fail
        go_loopw [23] (fun v23 wr => ∃ (i : Nat) (r1 r2 : Fo), v23 = .int .i64 i ∧ Over w1 wr A n (Ty.nodes kids) i r1 ∧ Over2 w wr A' n i r2 ∧ Ty.eqF r1 r2 = R) (fun v _ => n - (intOf v).toNat)
        case atStart => exact ⟨0, kids, kids', rfl, HS.out, HS2.out, HR.out⟩
        case round =>
          obtain ⟨i, r1, r2, rfl, hO, hO2, hRR⟩ := hrel
          have hbB := hB0.trans (hO.below.mono hB0.size)
          obtain ⟨e0, e1⟩ := hO.box b0 b1
          obtain ⟨g0, g1⟩ := hO.box d0 d1
          clear b0 b1 d0 d1
          cases r1 with
          | nil =>
            have hi : i = n := by have := hO.i_eq; simpa [Ty.len] using this
            have hr2 : r2 = .nil := by
              have := hO2.i_eq
              cases r2 with
              | nil => rfl
              | node _ _ _ _ _ => simp only [Ty.len] at this; omega
            subst hr2
            clear hO hO2
            simp only [Ty.eqF] at hRR
            subst hi
            subst hRR
            go_wp2_with fail
            go_ret
            exact ⟨rfl, hbB⟩
          | node a b kk kks r =>
            cases r2 with
            | nil => have q1 := hO.i_eq; have q2 := hO2.i_eq; simp only [Ty.len] at q1 q2; omega
            | node a2 b2 kk2 kks2 s =>
            have hst := fun w2 hb => Over.step (w2 := w2) hO hb
            have h1 := hO.i_eq
            have h2 := hO.lies
            have h3 := hO.sub
            have q1 := hO2.i_eq
            have q2 := hO2.lies
            simp only [Ty.len, Ty.nodes, Ty.eqF] at h1 h3 hRR q1
            obtain ⟨bb, oo, B, c9, rfl, ⟨hk1, hk2'⟩, c1', c2', hl1, hl2, hl3, hl4⟩ := h2
            obtain ⟨bb2, oo2, B2, c3, rfl, ⟨gk1, gk2⟩, x1, x2, gl1, gl2, gl3, gl4⟩ := q2
            have hcall := fun (W : World) (hb : Below wr.heap.size wr W) => IH.out kk kks B (Ty.len kks) c9 kk2 kks2 B2 (Ty.len kks2) c3 W (by omega) ⟨hl3.below hb, rfl, hl1, hl2, hk1, hk2'⟩ ⟨gl3.below hb, rfl, gl1, gl2, gk1, gk2⟩
            have HST := Lib.hid hst
            have HL := Lib.hid hl4
            have HL2 := Lib.hid gl4
            have HC := Lib.hid hcall
            have HRR := Lib.hid hRR
            have j1 : (i : Int) < n := by omega
            have j2 : (0 : Int) ≤ i ∧ (i : Int) < n := by omega
            have hBd := Lib.hid (below_drewN (Below.refl wr.heap.size wr) 1)
            clear hst hl3 hl4 gl3 gl4 hcall hO hO2 hRR
            cases hp : Ty.eqT kk kks kk2 kks2
            · have hp0 : R = false := by rw [← HRR.out]; unfold Ty.eqT at hp; rw [hp]; rfl
              rw [hp] at HC
              subst hp0
              clear hp
              go_wp2_with fail
              go_still_tail 10, (by kernel_rfl)
              change wpList _ _ _ _ _ (wr.drewN 1)
              have hbB1 := hbB.trans (hBd.out.mono hbB.size)
              have hsz : (wr.drewN 1).heap.size = wr.heap.size := rfl
              clear e0 e1 g0 g1 c1' c2' x1 x2
              generalize wr.drewN 1 = w2 at *
              go_wp2_with fail
              refine (HC.out _ hBd.out).mono ?_
              rintro e w3 ⟨rfl, hb⟩
              go_wp2_with fail
              go_ret
              exact ⟨rfl, hbB1.trans (hb.mono hbB1.size)⟩
            · have hp0 := HRR.out
              unfold Ty.eqT at hp
              rw [hp, Bool.true_and] at hp0
              have HP := Lib.hid hp0
              rw [show Ty.eqT kk kks kk2 kks2 = true from hp] at HC
              clear hp hp0
              go_wp2_with fail
              go_still_tail 10, (by kernel_rfl)
              change wpList _ _ _ _ _ (wr.drewN 1)
              have hsz : (wr.drewN 1).heap.size = wr.heap.size := rfl
              clear e0 e1 g0 g1 c1' c2' x1 x2
              generalize wr.drewN 1 = w2 at *
              go_wp2_with fail
              refine (HC.out _ hBd.out).mono ?_
              rintro e w3 ⟨rfl, hb⟩
              have hB2 : Below wr.heap.size wr w3 := hBd.out.trans (hb.mono (by omega))
              have hbb := Lib.hid (HST.out w3 hB2 HL.out)
              have hbb2 : Hid (Over2 w w3 (some ⟨bb2, oo2, none⟩) n (i + 1) s) := Lib.hid ⟨by omega, HL2.out.below hB2⟩
              clear hb hB2 hsz
              go_wp2_with fail
              go_roundw
              case rel => exact ⟨i + 1, r, s, by go_num, hbb.out, hbb2.out, HP.out⟩
              case measure => simp [intOf]; omega
      · subst hkk
        have hl : Ty.len kids ≠ Ty.len kids' := by have h1 := HI.out.n_eq; have h2 := HI'.out.n_eq; omega
        rw [show Ty.eqT k kids k kids' = false by unfold Ty.eqT; simp [Ty.eqF_ne _ _ hl]]
        have hk2 : (k != k) = false := by simp
        have hn2 : ((n : Int) != (n' : Int)) = true := by simp; omega
        clear hl hR0 hR1
        go_enter Tryd.func17, Tryd.ntmps17
        go_wp2_with fail
        go_ret
        exact ⟨rfl, hB0⟩
    · rw [show Ty.eqT k kids k' kids' = false by unfold Ty.eqT; simp [hkk]]
      have hk2 : (k != k') = true := by simpa using hkk
      clear hkk hR0 hR1
      go_enter Tryd.func17, Tryd.ntmps17
      go_wp2_with fail
      go_ret
      exact ⟨rfl, hB0⟩

end Go.Proofs.YtfkbdpehdabepaaDoor
