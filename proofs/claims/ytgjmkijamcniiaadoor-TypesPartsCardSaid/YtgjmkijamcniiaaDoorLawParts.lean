/-
  P2.7: a type and its parts. The law's walk.
-/
import Derived.Test.YtgjmkijamcniiaaDoorLawSame
import Derived.Test.YtgjmkijamcniiaaDoorLow
namespace Go.Proofs.YtgjmkijamcniiaaDoor
open Go.RowKit

theorem Ty.same_symm (k : Int) (kids : Fo) (k' : Int) (kids' : Fo) : Ty.sameT k' kids' k kids = Ty.sameT k kids k' kids' := by
  unfold Ty.sameT Ty.eqT
  rw [Ty.eqF_symm kids' kids, show (k' == k) = (k == k') by rw [Bool.eq_iff_iff]; simp only [beq_iff_eq]; exact eq_comm]
  rw [Bool.and_comm (Ty.chk k' kids' == 0)]

/-- a kid of a list of types -/
theorem Ty.kid_measure (a b : Nat) (k : Int) (kids : Fo) (r all : Fo) (hn : Ty.nodes (.node a b k kids r) ≤ Ty.nodes all) (hd : Ty.dep kids + 1 ≤ Ty.dep all) :
    (Ty.nod all ≤ Ty.nod kids → 8192 < Ty.nod all) ∧ (Ty.dpt all ≤ Ty.dpt kids → 200 < Ty.dpt all) := by
  simp only [Ty.nodes] at hn
  unfold Ty.nod Ty.dpt
  refine ⟨fun h => by omega, fun h => ?_⟩
  split at h
  · rename_i h1; rw [if_pos h1]; omega
  · rename_i h1
    rw [if_neg h1]
    split at h
    · omega
    · omega

namespace Ty
theorem chk_kid {k' : Int} {kids' : Fo} {all : Fo} (h1 : nodes kids' + 1 ≤ nodes all) (h2 : dep kids' + 1 ≤ dep all) (h3 : nodes all + 1 ≤ 8192) (h4 : dep all + 1 ≤ 200) (h5 : okT k' kids' = true) : chk k' kids' = 0 := by
  unfold chk
  rw [if_neg (by omega), if_neg (by omega)]
  exact if_pos h5
theorem ground_ground (k : Int) (kids : Fo) : gOk (gK k kids) (gKids k kids) = gOk k kids := by
  unfold gOk gK gKids
  by_cases h : chk k kids = 0
  · have hr := okT_range (chk_ok h).1
    rw [if_pos h]
    rcases hr with rfl | rfl | rfl | rfl | rfl | rfl <;> simp [h] <;> decide
  · rw [if_neg h]; simp [h]
theorem ground_same (k : Int) (kids : Fo) (h : gOk k kids = true) : sameT (gK k kids) (gKids k kids) (gK (gK k kids) (gKids k kids)) (gKids (gK k kids) (gKids k kids)) = true := by
  have h0 : chk k kids = 0 := by unfold gOk at h; simp at h; exact h.1
  have hr := okT_range (chk_ok h0).1
  have e1 : gK k kids = k := by unfold gK; rw [if_pos h0]
  have e2 : gKids k kids = if 3 ≤ k then two 0 .nil 0 .nil else .nil := by unfold gKids; simp [h0]
  rw [e1, e2]
  rcases hr with rfl | rfl | rfl | rfl | rfl | rfl <;> decide
theorem ground_depth (k : Int) (kids : Fo) : dpt (gKids k kids) ≤ 2 := by
  unfold gKids
  split
  · decide
  · decide
end Ty

/-- a round's state: the kids that are left are of what is known -/
structure KidsRel (w1 wr : World) (k : Int) (kids : Fo) (A : Option Addr) (n i : Nat) (rest : Fo) : Prop where
  over : Over w1 wr A n (Ty.nodes kids) i rest
  dp : Ty.dep rest ≤ Ty.dep kids
  kn : Ty.knownT k kids = true → Ty.okF rest = true ∧ Ty.knF rest = true

theorem KidsRel.start {w1 : World} {k : Int} {kids : Fo} {A : Option Addr} {n c : Nat} (h : Ty.Is w1 k kids A n c) : KidsRel w1 w1 k kids A n 0 kids := by
  refine ⟨Over.start h.lies h.n_eq, Nat.le_refl _, fun hk => ?_⟩
  unfold Ty.knownT at hk
  rw [Bool.and_eq_true] at hk
  have h0 : Ty.chk k kids = 0 := by simpa using hk.1
  have h1 := (Ty.chk_ok h0).1
  unfold Ty.okT at h1
  have h2 := hk.2
  unfold Ty.knT at h2
  rw [Bool.and_eq_true] at h1 h2
  exact ⟨h1.2, h2.2⟩

/-- what a round finds of the kid at hand -/
theorem KidsRel.kid {w1 wr : World} {k : Int} {kids : Fo} {A : Option Addr} {n i a b : Nat} {k' : Int} {kids' r : Fo} (h : KidsRel w1 wr k kids A n i (.node a b k' kids' r)) :
    (Ty.nod kids ≤ Ty.nod kids' → 8192 < Ty.nod kids) ∧ (Ty.dpt kids ≤ Ty.dpt kids' → 200 < Ty.dpt kids) ∧ (Ty.knownT k kids = true → Ty.knownT k' kids' = true) ∧
    (∀ w2, Below wr.heap.size wr w2 → Ty.Lies wr r A (i + 1) → KidsRel w1 w2 k kids A n (i + 1) r) := by
  have hs := h.over.sub
  have hd := h.dp
  simp only [Ty.dep] at hd
  obtain ⟨h1, h2⟩ := Ty.kid_measure a b k' kids' r kids hs (by omega)
  refine ⟨h1, h2, fun hk => ?_, fun w2 hb hl => ⟨h.over.step hb hl, by omega, fun hk => ?_⟩⟩
  · obtain ⟨k1, k2⟩ := h.kn hk
    simp only [Ty.okF, Ty.knF, Bool.and_eq_true] at k1 k2
    unfold Ty.knownT at hk
    rw [Bool.and_eq_true] at hk
    have h0 : Ty.chk k kids = 0 := by simpa using hk.1
    have h3 := Ty.chk_ok h0
    simp only [Ty.nodes] at hs
    have h4 : Ty.chk k' kids' = 0 := Ty.chk_kid (all := kids) (by omega) (by omega) h3.2.1 h3.2.2 (by unfold Ty.okT; rw [Bool.and_eq_true]; exact ⟨k1.1.1, k1.1.2⟩)
    unfold Ty.knownT Ty.knT
    rw [h4, Bool.and_eq_true, Bool.and_eq_true]
    exact ⟨rfl, k2.1.1, k2.1.2⟩
  · obtain ⟨k1, k2⟩ := h.kn hk
    simp only [Ty.okF, Ty.knF, Bool.and_eq_true] at k1 k2
    exact ⟨k1.2, k2.2⟩

theorem KidsRel.later {w1 wr : World} {k : Int} {kids : Fo} {A : Option Addr} {n i : Nat} {rest : Fo} (h : KidsRel w1 w1 k kids A n i rest) (hb : Below w1.heap.size w1 wr) : KidsRel w1 wr k kids A n i rest :=
  ⟨⟨h.over.i_eq, h.over.lies.below hb, h.over.sub, hb⟩, h.dp, h.kn⟩

set_option maxHeartbeats 8000000 in
set_option maxRecDepth 100000 in
theorem law_TypesParts (k : Int) (kids : Fo) (A : Option Addr) (n c : Nat) (k' : Int) (kids' : Fo) (A' : Option Addr) (n' c' : Nat) (w : World) (hIs : Ty.Is w k kids A n c) (hIs' : Ty.Is w k' kids' A' n' c') (hS : Shapes w) :
    Calls Tryd.prog 8 #[.agg #[.int .i8 k, .slice A n c], .agg #[.int .i8 k', .slice A' n' c']] w fun e w' => e = .returned (.bool true) ∧ Below w.heap.size w w' := by
  obtain ⟨hB0, hR0, hR1⟩ := two_boxes w k A n c k' A' n' c'
  have i5 : (n : Int) ≤ 9223372036854775807 := by have h1 := hIs.n_le; have h2 := hIs.c_le; unfold maxLen at h2; omega
  have hIs1 := hIs.below hB0
  have hIs2 := hIs'.below hB0
  have hS1 := hS.below hB0
  clear hIs hIs' hS
  obtain ⟨b0, b1, _, _, hb0⟩ := own2 hR0
  obtain ⟨d0, d1, _, _, hd0⟩ := own2 hR1
  clear hR0 hR1
  generalize hw1 : (w.alloc (.cells #[.int .i8 k, .slice A n c] 25)).alloc (.cells #[.int .i8 k', .slice A' n' c'] 25) = w1 at *
  have HW1 := Lib.hid hw1
  clear hw1
  have CC := Lib.hid (fun (W : World) (hb : Below w1.heap.size w1 W) => check_any k kids A n c W (hIs1.below hb) (hS1.below hb))
  have CAB := Lib.hid (fun (W : World) (hb : Below w1.heap.size w1 W) => same_any k kids A n c k' kids' A' n' c' W (hIs1.below hb) (hIs2.below hb) (hS1.below hb))
  have CBA := Lib.hid (fun (W : World) (hb : Below w1.heap.size w1 W) => same_any k' kids' A' n' c' k kids A n c W (hIs2.below hb) (hIs1.below hb) (hS1.below hb))
  have CAA := Lib.hid (fun (W : World) (hb : Below w1.heap.size w1 W) => same_any k kids A n c k kids A n c W (hIs1.below hb) (hIs1.below hb) (hS1.below hb))
  have CG := Lib.hid (fun (W : World) (hb : Below w1.heap.size w1 W) => ground_any k kids A n c W (hIs1.below hb) (hS1.below hb))
  have CGG := Lib.hid (fun (W : World) (hb : Below w1.heap.size w1 W) (kg : Int) (gks : Fo) (G : Option Addr) (m cg : Nat) (hg : Ty.Is W kg gks G m cg) => ground_any kg gks G m cg W hg (hS1.below hb))
  have CSG := Lib.hid (fun (W : World) (hb : Below w1.heap.size w1 W) (kg : Int) (gks : Fo) (G : Option Addr) (m cg : Nat) (hg : Ty.Is W kg gks G m cg) (kh : Int) (hks : Fo) (Hh : Option Addr) (mh ch : Nat) (hh : Ty.Is W kh hks Hh mh ch) => same_any kg gks G m cg kh hks Hh mh ch W hg hh (hS1.below hb))
  have CW := Lib.hid (fun (W : World) (hb : Below w1.heap.size w1 W) => wakes_any W (hS1.below hb))
  have CN := Lib.hid (fun (W : World) (hb : Below w1.heap.size w1 W) => nodes_any k kids A n c W (hIs1.below hb))
  have CD := Lib.hid (fun (W : World) (hb : Below w1.heap.size w1 W) => depth_any k kids A n c W (hIs1.below hb))
  have CK := Lib.hid (fun (W : World) (hb : Below w1.heap.size w1 W) => known_fn k kids A n c W (hIs1.below hb) (hS1.below hb))
  have CKK := Lib.hid (fun (W : World) (hb : Below w1.heap.size w1 W) (kk : Int) (kks : Fo) (B : Option Addr) (m cg : Nat) (hg : Ty.Is W kk kks B m cg) => known_fn kk kks B m cg W hg (hS1.below hb))
  have hst := KidsRel.start hIs1
  have HST := Lib.hid hst
  rw [Ty.same_symm] at CBA
  rw [Ty.same_self] at CAA
  have D0 : Below w1.heap.size w1 w1 := Below.refl _ _
  have hgo : Ty.gOk k kids = ((Ty.chk k kids == 0) && (k != 0)) := rfl
  have HG1 := Lib.hid (Ty.ground_ground k kids)
  have HG2 := Lib.hid (Ty.ground_same k kids)
  have HG3 := Lib.hid (Ty.ground_depth k kids)
  have hck : (((Ty.chk k kids : Nat) : Int) == 0) = (Ty.chk k kids == 0) := by rw [Bool.eq_iff_iff]; simp
  clear hIs1 hIs2 hS1 hst
  generalize hOK : (Ty.chk k kids == 0) = OK at *
  generalize hFB : Ty.gOk k kids = FB at *
  have HGO := Lib.hid hgo
  have HFB := Lib.hid hFB
  generalize hT : Ty.sameT k kids k' kids' = T at *
  generalize hCk : ((Ty.chk k kids : Nat) : Int) = C at *
  have hTT : (T != T) = false := by cases T <;> rfl
  have hOO : (OK != OK) = false := by cases OK <;> rfl
  clear hgo hT hCk hOK hFB
  go_enter Tryd.func8, Tryd.ntmps8
  go_wp2_with fail
  rw [HW1.out]
  refine (CC.out _ D0).mono ?_
  rintro e u0 ⟨rfl, hb⟩
  have D1 : Below w1.heap.size w1 u0 := hb
  obtain ⟨f0, f1, f2, f3⟩ := keep4 b0 b1 d0 d1 D1
  clear hb
  go_wp2_with fail
  have E1 : Below w1.heap.size w1 u0.drew := D1.drew
  go_region_held3 (fun w' => w'.cell? ⟨w.heap.size, 0, none⟩ = some (.int .i8 k) ∧ w'.cell? ⟨w.heap.size, 1, none⟩ = some (.slice A n c) ∧ w'.cell? ⟨w.heap.size + 1, 0, none⟩ = some (.int .i8 k') ∧ w'.cell? ⟨w.heap.size + 1, 1, none⟩ = some (.slice A' n' c'))
    (first | exact keep4 b0 b1 d0 d1 E4 | exact keep4 b0 b1 d0 d1 E3 | exact keep4 b0 b1 d0 d1 E2 | exact keep4 b0 b1 d0 d1 E1)
    (first
      | (go_at_call 26; (with_reducible refine (CAA.out _ E1).mono ?_); rintro e u1 ⟨rfl, hb⟩; have E2 := E1.trans (hb.mono E1.size); clear hb)
      | (go_at_call 26; (with_reducible refine (CAB.out _ E2).mono ?_); rintro e u2 ⟨rfl, hb⟩; have E3 := E2.trans (hb.mono E2.size); clear hb)
      | (go_at_call 26; (with_reducible refine (CBA.out _ E3).mono ?_); rintro e u3 ⟨rfl, hb⟩; have E4 := E3.trans (hb.mono E3.size); clear hb))
  obtain ⟨f0, f1, f2, f3⟩ := keep4 b0 b1 d0 d1 E4
  clear hTT hOO
  go_wp2_with fail
  refine (CG.out _ E4).mono ?_
  rintro e u4 hg4
  obtain ⟨G, m, cg, rfl, hIg, -, hb⟩ := hg4
  have F1 := E4.trans (hb.mono E4.size)
  rw [HFB.out]
  obtain ⟨f0, f1, f2, f3⟩ := keep4 b0 b1 d0 d1 F1
  have HIG := Lib.hid hIg
  clear hb hIg
  generalize hgk : Ty.gK k kids = gk at *
  generalize hgs : Ty.gKids k kids = gs at *
  clear hgk hgs
  go_wp2_with fail
  have HI6 := Lib.hid (HIG.out.alloc (.cells #[.int .i8 gk, .slice G m cg] 25))
  have F2 := F1.alloc F1.size (.cells #[.int .i8 gk, .slice G m cg] 25)
  have hG6 := heap_new u4 (.cells #[.int .i8 gk, .slice G m cg] 25)
  have HG6 := Lib.hid hG6
  clear hG6
  refine (CGG.out _ F2 gk gs G m cg HI6.out).mono ?_
  rintro e u5 hg5
  obtain ⟨G2, m2, cg2, rfl, hIg2, -, hb⟩ := hg5
  have F3 := F2.trans (hb.mono F2.size)
  rw [HG1.out]
  have HG7 := Lib.hid (heap_below hb (heap_lt HG6.out) HG6.out)
  have HIGb := Lib.hid (HI6.out.below hb)
  have HIG2 := Lib.hid hIg2
  obtain ⟨f0, f1, f2, f3⟩ := keep4 b0 b1 d0 d1 F3
  clear hb hIg2
  generalize hgk2 : Ty.gK gk gs = gk2 at *
  generalize hgs2 : Ty.gKids gk gs = gs2 at *
  clear hgk2 hgs2
  have hl5 := Ty.cell_lt f0
  obtain ⟨j0, j1, _, _, hjl⟩ := own2 HG7.out
  go_upto_region 6 with fail
  go_cut [64] (fun s wx => s = .bool false ∧ Below w1.heap.size w1 wx)
  case first =>
    cases OK
    all_goals
      cases hkz : (k != 0)
      all_goals
        have hFB := HGO.out
        rw [hkz] at hFB
        simp only [Bool.and_true, Bool.and_false] at hFB
        subst hFB
        go_wp2_with fail
    · go_meet
      exact ⟨rfl, F3.alloc F3.size _⟩
    · go_meet
      exact ⟨rfl, F3.alloc F3.size _⟩
    · go_meet
      exact ⟨rfl, F3.alloc F3.size _⟩
    · refine (CSG.out _ (F3.alloc F3.size _) gk gs G m cg (HIGb.out.alloc _) gk2 gs2 G2 m2 cg2 (HIG2.out.alloc _)).mono ?_
      rintro e u6 ⟨rfl, hb⟩
      rw [HG2.out (by first | rfl | trivial)]
      have F4 := (F3.alloc F3.size (.cells #[.int .i8 gk2, .slice G2 m2 cg2] 25)).trans (hb.mono (by have := F3.size; simp; omega))
      have HGc := Lib.hid ((HIGb.out.alloc (.cells #[.int .i8 gk2, .slice G2 m2 cg2] 25)).below hb)
      obtain ⟨g0, g1, _, _, hgl⟩ := own2 (heap_below hb (by simp; have := heap_lt HG7.out; omega) (heap_old HG7.out (.cells #[.int .i8 gk2, .slice G2 m2 cg2] 25)))
      clear hb
      go_wp2_with fail
      refine (depth_any gk gs G m cg _ HGc.out).mono ?_
      rintro e u7 ⟨rfl, hb⟩
      have F5 := F4.trans (hb.mono F4.size)
      have hdg : ((Ty.dpt gs : Nat) : Int) ≤ 2 := by have := HG3.out; omega
      have hdg2 : decide ((2 : Int) < ((Ty.dpt gs : Nat) : Int)) = false := by simp; omega
      clear hb g0 g1
      go_wp2_with fail
      go_meet
      exact ⟨rfl, F5⟩
  case rest =>
    obtain ⟨rfl, F5⟩ := hcut
    obtain ⟨f0, f1, f2, f3⟩ := keep4 b0 b1 d0 d1 F5
    have HKR := Lib.hid (HST.out.later F5)
    clear hjl j0 j1 hl5 f2 f3 F3 F2 F1 E4 E3 E2 E1 D1
    go_wp2_with fail
    go_loopw [10] (fun v10 wr => ∃ (i : Nat) (rest : Fo), v10 = .int .i64 i ∧ KidsRel w1 wr k kids A n i rest) (fun v _ => n - (intOf v).toNat)
    case atStart => exact ⟨0, kids, rfl, HKR.out⟩
    case round =>
      obtain ⟨i, rest, rfl, hR⟩ := hrel
      have hbB := hR.over.below
      obtain ⟨x0, x1, x2, x3⟩ := keep4 b0 b1 d0 d1 hbB
      have hWb := Lib.hid (hB0.trans (hbB.mono hB0.size))
      clear f0 f1 x2 x3
      cases rest with
      | nil =>
        have hi : i = n := by have := hR.over.i_eq; simpa [Ty.len] using this
        clear hR
        subst hi
        go_wp2_with fail
        refine (CW.out _ hbB).mono ?_
        rintro e v1 ⟨rfl, hb⟩
        go_wp2_with fail
        go_ret
        exact ⟨rfl, hWb.out.trans (hb.mono hWb.out.size)⟩
      | node a b kk kks r =>
        have h1 := hR.over.i_eq
        have h2 := hR.over.lies
        simp only [Ty.len] at h1
        have j1 : (i : Int) < n := by omega
        by_cases hfive : (i : Int) < 5
        · obtain ⟨m1, m2, m3, m4⟩ := hR.kid
          obtain ⟨bb, oo, B, c9, rfl, ⟨hk1, hk2⟩, c1', c2', hl1, hl2, hl3, hl4⟩ := h2
          have HM4 := Lib.hid m4
          have HL := Lib.hid hl4
          have HKk := Lib.hid (show Ty.Is wr kk kks B (Ty.len kks) c9 from ⟨hl3, rfl, hl1, hl2, hk1, hk2⟩)
          have HM3 := Lib.hid m3
          have hxl := Ty.cell_lt x0
          clear hR m3 m4 hl3 hl4
          by_cases nn : ((Ty.nod kids : Nat) : Int) ≤ ((Ty.nod kks : Nat) : Int)
          all_goals
            by_cases dd : ((Ty.dpt kids : Nat) : Int) ≤ ((Ty.dpt kks : Nat) : Int)
            all_goals
              have hn1 : ((Ty.nod kids : Nat) : Int) ≤ ((Ty.nod kks : Nat) : Int) → decide (((Ty.nod kids : Nat) : Int) ≤ 8192) = false := fun h => by have := m1 (by omega); simp; omega
              have hd1 : ((Ty.dpt kids : Nat) : Int) ≤ ((Ty.dpt kks : Nat) : Int) → decide (((Ty.dpt kids : Nat) : Int) ≤ 200) = false := fun h => by have := m2 (by omega); simp; omega
              first | (have hnn : decide (((Ty.nod kids : Nat) : Int) ≤ ((Ty.nod kks : Nat) : Int)) = true := decide_eq_true nn) | (have hnn : decide (((Ty.nod kids : Nat) : Int) ≤ ((Ty.nod kks : Nat) : Int)) = false := decide_eq_false nn)
              first | (have hdd : decide (((Ty.dpt kids : Nat) : Int) ≤ ((Ty.dpt kks : Nat) : Int)) = true := decide_eq_true dd) | (have hdd : decide (((Ty.dpt kids : Nat) : Int) ≤ ((Ty.dpt kks : Nat) : Int)) = false := decide_eq_false dd)
              try have hn2 := hn1 nn
              try have hd2 := hd1 dd
              clear hn1 hd1 m1 m2 nn dd
              go_wp2_with fail
              have hY := heap_new wr (.cells #[.int .i8 kk, .slice B (Ty.len kks) c9] 25)
              have FW := hbB.alloc hbB.size (.cells #[.int .i8 kk, .slice B (Ty.len kks) c9] 25)
              have HKW := Lib.hid (HKk.out.alloc (.cells #[.int .i8 kk, .slice B (Ty.len kks) c9] 25))
              have HBW := Lib.hid ((Below.refl wr.heap.size wr).alloc (Nat.le_refl _) (.cells #[.int .i8 kk, .slice B (Ty.len kks) c9] 25))
              obtain ⟨x0', x1', _, _⟩ := keep4 b0 b1 d0 d1 FW
              obtain ⟨y0, y1, _, _, hyl⟩ := own2 hY
              clear hY
              generalize hYY : wr.heap.size = Y at *
              have HYY := Lib.hid hYY
              clear hYY
              generalize wr.alloc (.cells #[.int .i8 kk, .slice B (Ty.len kks) c9] 25) = W at *
              have CN' := Lib.hid (fun (u : World) (hE : Below W.heap.size W u) => CN.out u (FW.trans (hE.mono FW.size)))
              have CD' := Lib.hid (fun (u : World) (hE : Below W.heap.size W u) => CD.out u (FW.trans (hE.mono FW.size)))
              have CNk := Lib.hid (fun (u : World) (hE : Below W.heap.size W u) => nodes_any kk kks B (Ty.len kks) c9 u (HKW.out.below hE))
              have CDk := Lib.hid (fun (u : World) (hE : Below W.heap.size W u) => depth_any kk kks B (Ty.len kks) c9 u (HKW.out.below hE))
              have CK' := Lib.hid (fun (u : World) (hE : Below W.heap.size W u) => CK.out u (FW.trans (hE.mono FW.size)))
              have CKk := Lib.hid (fun (u : World) (hE : Below W.heap.size W u) => CKK.out u (FW.trans (hE.mono FW.size)) kk kks B (Ty.len kks) c9 (HKW.out.below hE))
              have HHH := Lib.hid FW
              generalize ((Ty.nod kids : Nat) : Int) = NA at *
              generalize ((Ty.nod kks : Nat) : Int) = NK at *
              generalize ((Ty.dpt kids : Nat) : Int) = DA at *
              generalize ((Ty.dpt kks : Nat) : Int) = DK at *
              clear x0 x1 hxl FW
              have X0 := later_cell x0'
              have X1 := later_cell x1'
              have Y0 := later_cell y0
              have Y1 := later_cell y1
              refine wp_region_low (by kernel_rfl) (by kernel_rfl) ?_
              repeat
                first
                  | go_big_quiet_skip
                  | (go_big_quiet_want
                     go_big_quiet_op
                     first
                       | go_big_quiet_on
                       | (refine ⟨_, fun _ => rfl, ?_⟩
                          go_big_quiet_on)
                       | (apply Exists.intro
                          refine ⟨fun h => ?_, ?_⟩
                          · first
                              | (go_at_call 15; with_reducible exact call_low h (CN'.out h.u h.low))
                              | (go_at_call 15; with_reducible exact call_low h (CNk.out h.u h.low))
                              | (go_at_call 17; with_reducible exact call_low h (CD'.out h.u h.low))
                              | (go_at_call 17; with_reducible exact call_low h (CDk.out h.u h.low))
                          go_big_quiet_on))
              refine wpQuiet_nil ?_
              rintro _ ⟨⟨v1, E⟩, rfl⟩
              clear X0 X1 Y0 Y1
              obtain ⟨z0, z1, z2, z3⟩ := keep4 x0' x1' y0 y1 E
              clear x0' x1'
              go_wp2_with fail
              refine (CK'.out _ E).mono ?_
              rintro e z ⟨rfl, hb⟩
              obtain ⟨z0, z1, z2, z3⟩ := keep4 z0 z1 z2 z3 hb
              have E := E.trans (hb.mono E.size)
              clear hb y0 y1
              cases hK : Ty.knownT k kids
              · go_wp2_with fail
                go_roundw
                case rel => exact ⟨i + 1, r, by go_num, HM4.out _ (HBW.out.trans (E.mono (Nat.le_of_lt hyl))) HL.out⟩
                case measure => simp [intOf]; omega
              · have hKk := HM3.out hK
                have CKt := CKk.out
                rw [hKk] at CKt
                have CKT := Lib.hid CKt
                clear CKt hKk hK
                go_wp2_with fail
                refine (CKT.out _ E).mono ?_
                rintro e z' ⟨rfl, hb⟩
                have E := E.trans (hb.mono E.size)
                clear hb
                go_wp2_with fail
                go_roundw
                case rel => exact ⟨i + 1, r, by go_num, HM4.out _ (HBW.out.trans (E.mono (Nat.le_of_lt hyl))) HL.out⟩
                case measure => simp [intOf]; omega
        · clear hR h2
          have j2 : (5 : Int) ≤ i := by omega
          go_wp2_with fail
          refine (CW.out _ hbB).mono ?_
          rintro e v1 ⟨rfl, hb⟩
          go_wp2_with fail
          go_ret
          exact ⟨rfl, hWb.out.trans (hb.mono hWb.out.size)⟩
end Go.Proofs.YtgjmkijamcniiaaDoor
