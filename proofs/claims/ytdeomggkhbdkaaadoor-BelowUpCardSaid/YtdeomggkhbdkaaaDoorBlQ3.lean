/-
  The document's table by how great the two types are; its Below, Pos, Neg.
-/
import Derived.Test.YtdeomggkhbdkaaaDoorBlQ2
import Derived.Test.YtdeomggkhbdkaaaDoorBl4
namespace Go.Proofs.YtdeomggkhbdkaaaDoor
open Go.RowKit

theorem q0_step (k : Int) (kids : Fo) (k' : Int) (kids' : Fo) (h0 : Ty.chk k kids = 0) (h0' : Ty.chk k' kids' = 0)
    (hL : k ≠ 0 → k' = 0 → RQ 23 k kids k (if 3 ≤ k then Ty.two 0 .nil 0 .nil else .nil) (Ty.loT k kids))
    (hP : ∀ (a b : Nat) (k1 : Int) (f1 : Fo) (c d : Nat) (k2 : Int) (f2 : Fo) (a' b' : Nat) (k1' : Int) (f1' : Fo) (c' d' : Nat) (k2' : Int) (f2' : Fo), kids = .node a b k1 f1 (.node c d k2 f2 .nil) → kids' = .node a' b' k1' f1' (.node c' d' k2' f2' .nil) → k = k' →
      RQ 23 k1' f1' k1 f1 (Ty.relT 0 k1' f1' k1 f1) ∧ RQ 23 k1 f1 k1' f1' (Ty.relT 0 k1 f1 k1' f1') ∧ RQ 23 k2 f2 k2' f2' (Ty.relT 0 k2 f2 k2' f2')) :
    RQ 23 k kids k' kids' (Ty.relT 0 k kids k' kids') := by
  intro A n c A' n' c' w hIs hIs'
  have ho := (Ty.chk_ok h0).1
  have ho' := (Ty.chk_ok h0').1
  rcases Ty.cases_two ho ho' with ⟨rfl, rfl, rfl, rfl⟩ | ⟨rfl, h1, rfl⟩ | ⟨h1, rfl, rfl⟩ | ⟨h1, h2, h3⟩ | ⟨h1, rfl, rfl, rfl⟩ | ⟨rfl, h3, a, b, k1, f1, c1, d, k2, f2, a', b', k1', f1', c1', d', k2', f2', rfl, rfl, o1, o2, o1', o2'⟩
  · rw [Ty.rel_zero]
    exact q0_plain 0 A n c 0 A' n' c' w true (.inl ⟨rfl, rfl, rfl⟩)
  · rw [Ty.rel_enter _ _ _ h1]
    exact q0_plain 0 A n c k' A' n' c' w _ (.inr (.inl ⟨rfl, h1, rfl⟩))
  · rw [Ty.rel_leave _ _ _ h1, show (((0 : Nat) == 1) || Ty.loT k kids) = Ty.loT k kids from rfl]
    exact q0_leave k kids A n c A' n' c' w _ hIs h0 h1 (hL h1 rfl)
  · rw [Ty.rel_ne _ _ _ h1 h2 h3]
    exact q0_plain k A n c k' A' n' c' w false (.inr (.inr (.inl ⟨h1, h2, h3, rfl⟩)))
  · rw [Ty.rel_base]
    have hr : k = 1 ∨ k = 2 := by
      have hq := Ty.okT_range ho
      have h3 : k ≠ 3 ∧ k ≠ 4 ∧ k ≠ 5 := by
        unfold Ty.okT Ty.okK at ho
        refine ⟨?_, ?_, ?_⟩ <;> (rintro rfl; simp [Ty.len] at ho)
      omega
    exact q0_plain k A n c k A' n' c' w true (.inr (.inr (.inr ⟨h1, rfl, hr, rfl⟩)))
  · obtain ⟨q1, q2, q3⟩ := hP _ _ _ _ _ _ _ _ _ _ _ _ _ _ _ _ rfl rfl rfl
    have hr := Ty.okT_range ho
    rw [Ty.rel_two _ (by omega)]
    by_cases hk : k = 3
    · subst hk
      rw [if_pos rfl, show Ty.sw 0 = 0 from rfl]
      exact q0_fun _ _ _ _ k1 f1 k2 f2 _ _ _ _ k1' f1' k2' f2' A n c A' n' c' w _ _ hIs hIs' q1 q3
    · rw [if_neg hk]
      exact q0_two k (by omega) _ _ _ _ k1 f1 k2 f2 _ _ _ _ k1' f1' k2' f2' A n c A' n' c' w _ _ hIs hIs' q2 q3
theorem q1_step (k : Int) (kids : Fo) (k' : Int) (kids' : Fo) (h0 : Ty.chk k kids = 0) (h0' : Ty.chk k' kids' = 0)
    (hP : ∀ (a b : Nat) (k1 : Int) (f1 : Fo) (c d : Nat) (k2 : Int) (f2 : Fo) (a' b' : Nat) (k1' : Int) (f1' : Fo) (c' d' : Nat) (k2' : Int) (f2' : Fo), kids = .node a b k1 f1 (.node c d k2 f2 .nil) → kids' = .node a' b' k1' f1' (.node c' d' k2' f2' .nil) → k = k' →
      RQ 27 k1' f1' k1 f1 (Ty.relT 2 k1' f1' k1 f1) ∧ RQ 25 k1 f1 k1' f1' (Ty.relT 1 k1 f1 k1' f1') ∧ RQ 25 k2 f2 k2' f2' (Ty.relT 1 k2 f2 k2' f2')) :
    RQ 25 k kids k' kids' (Ty.relT 1 k kids k' kids') := by
  intro A n c A' n' c' w hIs hIs'
  have ho := (Ty.chk_ok h0).1
  have ho' := (Ty.chk_ok h0').1
  rcases Ty.cases_two ho ho' with ⟨rfl, rfl, rfl, rfl⟩ | ⟨rfl, h1, rfl⟩ | ⟨h1, rfl, rfl⟩ | ⟨h1, h2, h3⟩ | ⟨h1, rfl, rfl, rfl⟩ | ⟨rfl, h3, a, b, k1, f1, c1, d, k2, f2, a', b', k1', f1', c1', d', k2', f2', rfl, rfl, o1, o2, o1', o2'⟩
  · rw [Ty.rel_zero]
    exact q1_plain 0 A n c 0 A' n' c' w true (.inl ⟨rfl, rfl, rfl⟩)
  · rw [Ty.rel_enter _ _ _ h1]
    exact q1_plain 0 A n c k' A' n' c' w _ (.inr (.inl ⟨rfl, h1, rfl⟩))
  · rw [Ty.rel_leave _ _ _ h1]
    exact q1_plain k A n c 0 A' n' c' w _ (.inr (.inr (.inr (.inr ⟨h1, rfl, rfl⟩))))
  · rw [Ty.rel_ne _ _ _ h1 h2 h3]
    exact q1_plain k A n c k' A' n' c' w false (.inr (.inr (.inl ⟨h1, h2, h3, rfl⟩)))
  · rw [Ty.rel_base]
    have hr : k = 1 ∨ k = 2 := by
      have hq := Ty.okT_range ho
      have h3 : k ≠ 3 ∧ k ≠ 4 ∧ k ≠ 5 := by
        unfold Ty.okT Ty.okK at ho
        refine ⟨?_, ?_, ?_⟩ <;> (rintro rfl; simp [Ty.len] at ho)
      omega
    exact q1_plain k A n c k A' n' c' w true (.inr (.inr (.inr (.inl ⟨h1, rfl, hr, rfl⟩))))
  · obtain ⟨q1, q2, q3⟩ := hP _ _ _ _ _ _ _ _ _ _ _ _ _ _ _ _ rfl rfl rfl
    have hr := Ty.okT_range ho
    rw [Ty.rel_two _ (by omega)]
    by_cases hk : k = 3
    · subst hk
      rw [if_pos rfl, show Ty.sw 1 = 2 from rfl]
      exact q1_fun _ _ _ _ k1 f1 k2 f2 _ _ _ _ k1' f1' k2' f2' A n c A' n' c' w _ _ hIs hIs' q1 q3
    · rw [if_neg hk]
      exact q1_two k (by omega) _ _ _ _ k1 f1 k2 f2 _ _ _ _ k1' f1' k2' f2' A n c A' n' c' w _ _ hIs hIs' q2 q3
theorem q2_step (k : Int) (kids : Fo) (k' : Int) (kids' : Fo) (h0 : Ty.chk k kids = 0) (h0' : Ty.chk k' kids' = 0)
    (hL : k ≠ 0 → k' = 0 → RQ 27 k kids k (if 3 ≤ k then Ty.two 0 .nil 0 .nil else .nil) (Ty.loT k kids))
    (hP : ∀ (a b : Nat) (k1 : Int) (f1 : Fo) (c d : Nat) (k2 : Int) (f2 : Fo) (a' b' : Nat) (k1' : Int) (f1' : Fo) (c' d' : Nat) (k2' : Int) (f2' : Fo), kids = .node a b k1 f1 (.node c d k2 f2 .nil) → kids' = .node a' b' k1' f1' (.node c' d' k2' f2' .nil) → k = k' →
      RQ 25 k1' f1' k1 f1 (Ty.relT 1 k1' f1' k1 f1) ∧ RQ 27 k1 f1 k1' f1' (Ty.relT 2 k1 f1 k1' f1') ∧ RQ 27 k2 f2 k2' f2' (Ty.relT 2 k2 f2 k2' f2')) :
    RQ 27 k kids k' kids' (Ty.relT 2 k kids k' kids') := by
  intro A n c A' n' c' w hIs hIs'
  have ho := (Ty.chk_ok h0).1
  have ho' := (Ty.chk_ok h0').1
  rcases Ty.cases_two ho ho' with ⟨rfl, rfl, rfl, rfl⟩ | ⟨rfl, h1, rfl⟩ | ⟨h1, rfl, rfl⟩ | ⟨h1, h2, h3⟩ | ⟨h1, rfl, rfl, rfl⟩ | ⟨rfl, h3, a, b, k1, f1, c1, d, k2, f2, a', b', k1', f1', c1', d', k2', f2', rfl, rfl, o1, o2, o1', o2'⟩
  · rw [Ty.rel_zero]
    exact q2_plain 0 A n c 0 A' n' c' w true (.inl ⟨rfl, rfl, rfl⟩)
  · rw [Ty.rel_enter _ _ _ h1]
    exact q2_plain 0 A n c k' A' n' c' w _ (.inr (.inl ⟨rfl, h1, rfl⟩))
  · rw [Ty.rel_leave _ _ _ h1, show (((2 : Nat) == 1) || Ty.loT k kids) = Ty.loT k kids from rfl]
    exact q2_leave k kids A n c A' n' c' w _ hIs h0 h1 (hL h1 rfl)
  · rw [Ty.rel_ne _ _ _ h1 h2 h3]
    exact q2_plain k A n c k' A' n' c' w false (.inr (.inr (.inl ⟨h1, h2, h3, rfl⟩)))
  · rw [Ty.rel_base]
    have hr : k = 1 ∨ k = 2 := by
      have hq := Ty.okT_range ho
      have h3 : k ≠ 3 ∧ k ≠ 4 ∧ k ≠ 5 := by
        unfold Ty.okT Ty.okK at ho
        refine ⟨?_, ?_, ?_⟩ <;> (rintro rfl; simp [Ty.len] at ho)
      omega
    exact q2_plain k A n c k A' n' c' w true (.inr (.inr (.inr ⟨h1, rfl, hr, rfl⟩)))
  · obtain ⟨q1, q2, q3⟩ := hP _ _ _ _ _ _ _ _ _ _ _ _ _ _ _ _ rfl rfl rfl
    have hr := Ty.okT_range ho
    rw [Ty.rel_two _ (by omega)]
    by_cases hk : k = 3
    · subst hk
      rw [if_pos rfl, show Ty.sw 2 = 1 from rfl]
      exact q2_fun _ _ _ _ k1 f1 k2 f2 _ _ _ _ k1' f1' k2' f2' A n c A' n' c' w _ _ hIs hIs' q1 q3
    · rw [if_neg hk]
      exact q2_two k (by omega) _ _ _ _ k1 f1 k2 f2 _ _ _ _ k1' f1' k2' f2' A n c A' n' c' w _ _ hIs hIs' q2 q3
theorem qrel_all (K : Nat) : ∀ (k : Int) (kids : Fo) (k' : Int) (kids' : Fo), great k kids k' kids' < K → Ty.chk k kids = 0 → Ty.chk k' kids' = 0 →
    RQ 23 k kids k' kids' (Ty.relT 0 k kids k' kids') ∧ RQ 25 k kids k' kids' (Ty.relT 1 k kids k' kids') ∧ RQ 27 k kids k' kids' (Ty.relT 2 k kids k' kids') := by
  induction K with
  | zero => intro _ _ _ _ h; omega
  | succ K ih =>
    intro k kids k' kids' hK h0 h0'
    have ho := (Ty.chk_ok h0).1
    have ho' := (Ty.chk_ok h0').1
    have hL : k ≠ 0 → k' = 0 → RQ 23 k kids k (if 3 ≤ k then Ty.two 0 .nil 0 .nil else .nil) (Ty.loT k kids) ∧ RQ 27 k kids k (if 3 ≤ k then Ty.two 0 .nil 0 .nil else .nil) (Ty.loT k kids) := by
      intro hk hk'
      subst hk'
      obtain rfl := Ty.none_of ho' (by omega)
      obtain ⟨q0, -, q2⟩ := ih k kids k (if 3 ≤ k then Ty.two 0 .nil 0 .nil else .nil) (by have := great_ground h0 hk; omega) h0 (chk_ground h0)
      rw [Ty.rel_ground (.inl rfl) ho hk] at q0
      rw [Ty.rel_ground (.inr rfl) ho hk] at q2
      exact ⟨q0, q2⟩
    have hP : ∀ (a b : Nat) (k1 : Int) (f1 : Fo) (c d : Nat) (k2 : Int) (f2 : Fo) (a' b' : Nat) (k1' : Int) (f1' : Fo) (c' d' : Nat) (k2' : Int) (f2' : Fo), kids = .node a b k1 f1 (.node c d k2 f2 .nil) → kids' = .node a' b' k1' f1' (.node c' d' k2' f2' .nil) → k = k' →
        (RQ 23 k1' f1' k1 f1 (Ty.relT 0 k1' f1' k1 f1) ∧ RQ 25 k1' f1' k1 f1 (Ty.relT 1 k1' f1' k1 f1) ∧ RQ 27 k1' f1' k1 f1 (Ty.relT 2 k1' f1' k1 f1)) ∧
        (RQ 23 k1 f1 k1' f1' (Ty.relT 0 k1 f1 k1' f1') ∧ RQ 25 k1 f1 k1' f1' (Ty.relT 1 k1 f1 k1' f1') ∧ RQ 27 k1 f1 k1' f1' (Ty.relT 2 k1 f1 k1' f1')) ∧
        (RQ 23 k2 f2 k2' f2' (Ty.relT 0 k2 f2 k2' f2') ∧ RQ 25 k2 f2 k2' f2' (Ty.relT 1 k2 f2 k2' f2') ∧ RQ 27 k2 f2 k2' f2' (Ty.relT 2 k2 f2 k2' f2')) := by
      intro a b k1 f1 c d k2 f2 a' b' k1' f1' c' d' k2' f2' e e' _
      subst e e'
      obtain ⟨g1, g2⟩ := chk_kids h0
      obtain ⟨g1', g2'⟩ := chk_kids h0'
      have hM : 2 * max (Ty.nodes (.node a b k1 f1 (.node c d k2 f2 .nil))) (Ty.nodes (.node a' b' k1' f1' (.node c' d' k2' f2' .nil))) ≤ K := by
        unfold great at hK
        omega
      simp only [Ty.nodes] at hM
      refine ⟨ih _ _ _ _ (Nat.lt_of_lt_of_le (great_lt (N := max (Ty.nodes f1 + 1 + (Ty.nodes f2 + 1 + 0)) (Ty.nodes f1' + 1 + (Ty.nodes f2' + 1 + 0))) (by omega) (by omega)) hM) g1' g1, ih _ _ _ _ (Nat.lt_of_lt_of_le (great_lt (N := max (Ty.nodes f1 + 1 + (Ty.nodes f2 + 1 + 0)) (Ty.nodes f1' + 1 + (Ty.nodes f2' + 1 + 0))) (by omega) (by omega)) hM) g1 g1', ih _ _ _ _ (Nat.lt_of_lt_of_le (great_lt (N := max (Ty.nodes f1 + 1 + (Ty.nodes f2 + 1 + 0)) (Ty.nodes f1' + 1 + (Ty.nodes f2' + 1 + 0))) (by omega) (by omega)) hM) g2 g2'⟩
    refine ⟨q0_step k kids k' kids' h0 h0' (fun e e' => (hL e e').1) (fun a b k1 f1 c d k2 f2 a' b' k1' f1' c' d' k2' f2' e e' e'' => ?_),
      q1_step k kids k' kids' h0 h0' (fun a b k1 f1 c d k2 f2 a' b' k1' f1' c' d' k2' f2' e e' e'' => ?_),
      q2_step k kids k' kids' h0 h0' (fun e e' => (hL e e').2) (fun a b k1 f1 c d k2 f2 a' b' k1' f1' c' d' k2' f2' e e' e'' => ?_)⟩
    · obtain ⟨q1, q2, q3⟩ := hP a b k1 f1 c d k2 f2 a' b' k1' f1' c' d' k2' f2' e e' e''
      exact ⟨q1.1, q2.1, q3.1⟩
    · obtain ⟨q1, q2, q3⟩ := hP a b k1 f1 c d k2 f2 a' b' k1' f1' c' d' k2' f2' e e' e''
      exact ⟨q1.2.2, q2.2.1, q3.2.1⟩
    · obtain ⟨q1, q2, q3⟩ := hP a b k1 f1 c d k2 f2 a' b' k1' f1' c' d' k2' f2' e e' e''
      exact ⟨q1.2.1, q2.2.2, q3.2.2⟩

set_option maxHeartbeats 4000000 in
set_option maxRecDepth 100000 in
theorem qright8_any (k : Int) (kids : Fo) (A : Option Addr) (n c : Nat) (k' : Int) (kids' : Fo) (A' : Option Addr) (n' c' : Nat) (w : World) (hIs : Ty.Is w k kids A n c) (hIs' : Ty.Is w k' kids' A' n' c') :
    Calls Tryd.prog 22 #[.agg #[.int .i8 k, .slice A n c], .agg #[.int .i8 k', .slice A' n' c']] w fun e w' => e = .returned (.bool ((Ty.chk k kids == 0) && (Ty.chk k' kids' == 0))) ∧ Below w.heap.size w w' := by
  obtain ⟨hB0, hR0, hR1⟩ := two_boxes w k A n c k' A' n' c'
  generalize hw1 : (w.alloc (.cells #[.int .i8 k, .slice A n c] 25)).alloc (.cells #[.int .i8 k', .slice A' n' c'] 25) = w1 at *
  have HW1 := Lib.hid hw1
  have HB1 := Lib.hid hB0
  have HX1 := Lib.hid hR0
  have HY1 := Lib.hid hR1
  obtain ⟨b0, b1, _, _, hb0⟩ := own2 hR0
  obtain ⟨c0, c1, _, _, hc0⟩ := own2 hR1
  clear hw1 hB0 hR0 hR1
  have HM := Lib.hid (ref_check k kids A n c w1 (hIs.below HB1.out))
  have HN := Lib.hid (fun (W : World) (hb : Below w1.heap.size w1 W) => ref_check k' kids' A' n' c' W (hIs'.below (HB1.out.trans (hb.mono HB1.out.size))))
  clear hIs hIs' c0 c1 hc0
  by_cases h0 : Ty.chk k kids = 0
  · rw [h0] at HM
    rw [h0]
    have hck : (((Ty.chk k' kids' : Nat) : Int) == 0) = (Ty.chk k' kids' == 0) := by rw [Bool.eq_iff_iff]; simp
    have HCK := Lib.hid hck
    generalize (Ty.chk k' kids' == 0) = OK at *
    generalize ((Ty.chk k' kids' : Nat) : Int) = C at *
    clear hck h0
    go_enter Tryd.func22, Tryd.ntmps22
    go_upto_region 1 with fail
    rw [HW1.out]
    go_wp2_with fail
    refine HM.out.mono ?_
    rintro e w3 ⟨rfl, hb⟩
    have HB3 := Lib.hid hb
    obtain ⟨d0, d1, _, _, _⟩ := own2 (heap_below hb (heap_lt HY1.out) HY1.out)
    clear hb b0 b1 hb0
    have hck := HCK.out
    go_wp2_with fail
    refine (HN.out _ HB3.out).mono ?_
    rintro e w4 ⟨rfl, hb⟩
    go_wp2_with fail
    go_ret
    exact ⟨rfl, HB1.out.trans ((HB3.out.trans (hb.mono HB3.out.size)).mono HB1.out.size)⟩
  · have hc : (((Ty.chk k kids : Nat) : Int) == 0) = false := by simp; omega
    rw [show (Ty.chk k kids == 0) = false by simpa using h0]
    generalize Ty.chk k kids = C at *
    clear h0 HN
    go_enter Tryd.func22, Tryd.ntmps22
    go_upto_region 1 with fail
    rw [HW1.out]
    go_wp2_with fail
    refine HM.out.mono ?_
    rintro e w3 ⟨rfl, hb⟩
    go_wp2_with fail
    go_ret
    exact ⟨rfl, HB1.out.trans (hb.mono HB1.out.size)⟩

set_option maxHeartbeats 4000000 in
set_option maxRecDepth 100000 in
theorem qbelow0_any (k : Int) (kids : Fo) (A : Option Addr) (n c : Nat) (k' : Int) (kids' : Fo) (A' : Option Addr) (n' c' : Nat) (w : World) (hIs : Ty.Is w k kids A n c) (hIs' : Ty.Is w k' kids' A' n' c') :
    Calls Tryd.prog 8 #[.agg #[.int .i8 k, .slice A n c], .agg #[.int .i8 k', .slice A' n' c']] w fun e w' => e = .returned (.bool (Ty.belowT 0 k kids k' kids')) ∧ Below w.heap.size w w' := by
  obtain ⟨hB0, hR0, hR1⟩ := two_boxes w k A n c k' A' n' c'
  generalize hw1 : (w.alloc (.cells #[.int .i8 k, .slice A n c] 25)).alloc (.cells #[.int .i8 k', .slice A' n' c'] 25) = w1 at *
  have HW1 := Lib.hid hw1
  have HB1 := Lib.hid hB0
  have HX1 := Lib.hid hR0
  have HY1 := Lib.hid hR1
  obtain ⟨b0, b1, _, _, hb0⟩ := own2 hR0
  obtain ⟨c0, c1, _, _, hc0⟩ := own2 hR1
  clear hw1 hB0 hR0 hR1
  have HM := Lib.hid (qright8_any k kids A n c k' kids' A' n' c' w1 (hIs.below HB1.out) (hIs'.below HB1.out))
  have HN := Lib.hid (fun (W : World) (hb : Below w1.heap.size w1 W) (h0 : Ty.chk k kids = 0) (h1 : Ty.chk k' kids' = 0) => (qrel_all _ k kids k' kids' (Nat.lt_succ_self _) h0 h1).1 A n c A' n' c' W (hIs.below (HB1.out.trans (hb.mono HB1.out.size))) (hIs'.below (HB1.out.trans (hb.mono HB1.out.size))))
  rw [show Ty.belowT 0 k kids k' kids' = (((Ty.chk k kids == 0) && (Ty.chk k' kids' == 0)) && Ty.relT 0 k kids k' kids') from rfl]
  clear hIs hIs' c0 c1 hc0
  cases hq : ((Ty.chk k kids == 0) && (Ty.chk k' kids' == 0))
  · rw [hq] at HM
    clear HN hq
    go_enter Tryd.func8, Tryd.ntmps8
    go_upto_region 1 with fail
    rw [HW1.out]
    obtain ⟨d0, d1, _, _, _⟩ := own2 HY1.out
    go_wp2_with fail
    refine HM.out.mono ?_
    rintro e w3 ⟨rfl, hb⟩
    go_wp2_with fail
    go_ret
    exact ⟨rfl, HB1.out.trans (hb.mono HB1.out.size)⟩
  · rw [hq] at HM
    have h01 := hq
    rw [Bool.and_eq_true, beq_iff_eq, beq_iff_eq] at h01
    have HN2 := Lib.hid (fun (W : World) (hb : Below w1.heap.size w1 W) => HN.out W hb h01.1 h01.2)
    generalize Ty.relT 0 k kids k' kids' = R at *
    clear HN hq h01
    go_enter Tryd.func8, Tryd.ntmps8
    go_upto_region 1 with fail
    rw [HW1.out]
    obtain ⟨d0, d1, _, _, _⟩ := own2 HY1.out
    go_wp2_with fail
    refine HM.out.mono ?_
    rintro e w3 ⟨rfl, hb⟩
    have HB3 := Lib.hid hb
    obtain ⟨x0, x1, _, _, _⟩ := own2 (heap_below hb (heap_lt HX1.out) HX1.out)
    obtain ⟨y0, y1, _, _, _⟩ := own2 (heap_below hb (heap_lt HY1.out) HY1.out)
    clear hb b0 b1 hb0 d0 d1
    go_wp2_with fail
    refine (HN2.out _ HB3.out).mono ?_
    rintro e w4 ⟨rfl, hb⟩
    go_wp2_with fail
    go_ret
    exact ⟨rfl, HB1.out.trans ((HB3.out.trans (hb.mono HB3.out.size)).mono HB1.out.size)⟩
set_option maxHeartbeats 4000000 in
set_option maxRecDepth 100000 in
theorem qbelow1_any (k : Int) (kids : Fo) (A : Option Addr) (n c : Nat) (k' : Int) (kids' : Fo) (A' : Option Addr) (n' c' : Nat) (w : World) (hIs : Ty.Is w k kids A n c) (hIs' : Ty.Is w k' kids' A' n' c') :
    Calls Tryd.prog 10 #[.agg #[.int .i8 k, .slice A n c], .agg #[.int .i8 k', .slice A' n' c']] w fun e w' => e = .returned (.bool (Ty.belowT 1 k kids k' kids')) ∧ Below w.heap.size w w' := by
  obtain ⟨hB0, hR0, hR1⟩ := two_boxes w k A n c k' A' n' c'
  generalize hw1 : (w.alloc (.cells #[.int .i8 k, .slice A n c] 25)).alloc (.cells #[.int .i8 k', .slice A' n' c'] 25) = w1 at *
  have HW1 := Lib.hid hw1
  have HB1 := Lib.hid hB0
  have HX1 := Lib.hid hR0
  have HY1 := Lib.hid hR1
  obtain ⟨b0, b1, _, _, hb0⟩ := own2 hR0
  obtain ⟨c0, c1, _, _, hc0⟩ := own2 hR1
  clear hw1 hB0 hR0 hR1
  have HM := Lib.hid (qright8_any k kids A n c k' kids' A' n' c' w1 (hIs.below HB1.out) (hIs'.below HB1.out))
  have HN := Lib.hid (fun (W : World) (hb : Below w1.heap.size w1 W) (h0 : Ty.chk k kids = 0) (h1 : Ty.chk k' kids' = 0) => (qrel_all _ k kids k' kids' (Nat.lt_succ_self _) h0 h1).2.1 A n c A' n' c' W (hIs.below (HB1.out.trans (hb.mono HB1.out.size))) (hIs'.below (HB1.out.trans (hb.mono HB1.out.size))))
  rw [show Ty.belowT 1 k kids k' kids' = (((Ty.chk k kids == 0) && (Ty.chk k' kids' == 0)) && Ty.relT 1 k kids k' kids') from rfl]
  clear hIs hIs' c0 c1 hc0
  cases hq : ((Ty.chk k kids == 0) && (Ty.chk k' kids' == 0))
  · rw [hq] at HM
    clear HN hq
    go_enter Tryd.func10, Tryd.ntmps10
    go_upto_region 1 with fail
    rw [HW1.out]
    obtain ⟨d0, d1, _, _, _⟩ := own2 HY1.out
    go_wp2_with fail
    refine HM.out.mono ?_
    rintro e w3 ⟨rfl, hb⟩
    go_wp2_with fail
    go_ret
    exact ⟨rfl, HB1.out.trans (hb.mono HB1.out.size)⟩
  · rw [hq] at HM
    have h01 := hq
    rw [Bool.and_eq_true, beq_iff_eq, beq_iff_eq] at h01
    have HN2 := Lib.hid (fun (W : World) (hb : Below w1.heap.size w1 W) => HN.out W hb h01.1 h01.2)
    generalize Ty.relT 1 k kids k' kids' = R at *
    clear HN hq h01
    go_enter Tryd.func10, Tryd.ntmps10
    go_upto_region 1 with fail
    rw [HW1.out]
    obtain ⟨d0, d1, _, _, _⟩ := own2 HY1.out
    go_wp2_with fail
    refine HM.out.mono ?_
    rintro e w3 ⟨rfl, hb⟩
    have HB3 := Lib.hid hb
    obtain ⟨x0, x1, _, _, _⟩ := own2 (heap_below hb (heap_lt HX1.out) HX1.out)
    obtain ⟨y0, y1, _, _, _⟩ := own2 (heap_below hb (heap_lt HY1.out) HY1.out)
    clear hb b0 b1 hb0 d0 d1
    go_wp2_with fail
    refine (HN2.out _ HB3.out).mono ?_
    rintro e w4 ⟨rfl, hb⟩
    go_wp2_with fail
    go_ret
    exact ⟨rfl, HB1.out.trans ((HB3.out.trans (hb.mono HB3.out.size)).mono HB1.out.size)⟩
set_option maxHeartbeats 4000000 in
set_option maxRecDepth 100000 in
theorem qbelow2_any (k : Int) (kids : Fo) (A : Option Addr) (n c : Nat) (k' : Int) (kids' : Fo) (A' : Option Addr) (n' c' : Nat) (w : World) (hIs : Ty.Is w k kids A n c) (hIs' : Ty.Is w k' kids' A' n' c') :
    Calls Tryd.prog 12 #[.agg #[.int .i8 k, .slice A n c], .agg #[.int .i8 k', .slice A' n' c']] w fun e w' => e = .returned (.bool (Ty.belowT 2 k kids k' kids')) ∧ Below w.heap.size w w' := by
  obtain ⟨hB0, hR0, hR1⟩ := two_boxes w k A n c k' A' n' c'
  generalize hw1 : (w.alloc (.cells #[.int .i8 k, .slice A n c] 25)).alloc (.cells #[.int .i8 k', .slice A' n' c'] 25) = w1 at *
  have HW1 := Lib.hid hw1
  have HB1 := Lib.hid hB0
  have HX1 := Lib.hid hR0
  have HY1 := Lib.hid hR1
  obtain ⟨b0, b1, _, _, hb0⟩ := own2 hR0
  obtain ⟨c0, c1, _, _, hc0⟩ := own2 hR1
  clear hw1 hB0 hR0 hR1
  have HM := Lib.hid (qright8_any k kids A n c k' kids' A' n' c' w1 (hIs.below HB1.out) (hIs'.below HB1.out))
  have HN := Lib.hid (fun (W : World) (hb : Below w1.heap.size w1 W) (h0 : Ty.chk k kids = 0) (h1 : Ty.chk k' kids' = 0) => (qrel_all _ k kids k' kids' (Nat.lt_succ_self _) h0 h1).2.2 A n c A' n' c' W (hIs.below (HB1.out.trans (hb.mono HB1.out.size))) (hIs'.below (HB1.out.trans (hb.mono HB1.out.size))))
  rw [show Ty.belowT 2 k kids k' kids' = (((Ty.chk k kids == 0) && (Ty.chk k' kids' == 0)) && Ty.relT 2 k kids k' kids') from rfl]
  clear hIs hIs' c0 c1 hc0
  cases hq : ((Ty.chk k kids == 0) && (Ty.chk k' kids' == 0))
  · rw [hq] at HM
    clear HN hq
    go_enter Tryd.func12, Tryd.ntmps12
    go_upto_region 1 with fail
    rw [HW1.out]
    obtain ⟨d0, d1, _, _, _⟩ := own2 HY1.out
    go_wp2_with fail
    refine HM.out.mono ?_
    rintro e w3 ⟨rfl, hb⟩
    go_wp2_with fail
    go_ret
    exact ⟨rfl, HB1.out.trans (hb.mono HB1.out.size)⟩
  · rw [hq] at HM
    have h01 := hq
    rw [Bool.and_eq_true, beq_iff_eq, beq_iff_eq] at h01
    have HN2 := Lib.hid (fun (W : World) (hb : Below w1.heap.size w1 W) => HN.out W hb h01.1 h01.2)
    generalize Ty.relT 2 k kids k' kids' = R at *
    clear HN hq h01
    go_enter Tryd.func12, Tryd.ntmps12
    go_upto_region 1 with fail
    rw [HW1.out]
    obtain ⟨d0, d1, _, _, _⟩ := own2 HY1.out
    go_wp2_with fail
    refine HM.out.mono ?_
    rintro e w3 ⟨rfl, hb⟩
    have HB3 := Lib.hid hb
    obtain ⟨x0, x1, _, _, _⟩ := own2 (heap_below hb (heap_lt HX1.out) HX1.out)
    obtain ⟨y0, y1, _, _, _⟩ := own2 (heap_below hb (heap_lt HY1.out) HY1.out)
    clear hb b0 b1 hb0 d0 d1
    go_wp2_with fail
    refine (HN2.out _ HB3.out).mono ?_
    rintro e w4 ⟨rfl, hb⟩
    go_wp2_with fail
    go_ret
    exact ⟨rfl, HB1.out.trans ((HB3.out.trans (hb.mono HB3.out.size)).mono HB1.out.size)⟩
end Go.Proofs.YtdeomggkhbdkaaaDoor
