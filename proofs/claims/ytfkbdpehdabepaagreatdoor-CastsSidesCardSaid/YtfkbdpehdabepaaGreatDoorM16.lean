/-
  tell: from a known type to ?, from ? to a known type. below, positively, negatively: by how great the two types are; ask; Below, Pos, Neg. below.Pos, below.Neg, where below.Below is not at hand.
-/
import Derived.Test.YtfkbdpehdabepaaGreatDoorM13
import Derived.Deep.DeepCutAuto
import Derived.Test.YtfkbdpehdabepaaGreatDoorBl3
namespace Go.Proofs.YtfkbdpehdabepaaGreatDoor
open Go.RowKit

set_option maxHeartbeats 4000000 in
set_option maxRecDepth 100000 in
theorem tell_leave (fl fe fa fp : FuncId) (hcf : CF fl) (k : Int) (kids : Fo) (A : Option Addr) (n c : Nat) (A' : Option Addr) (n' c' : Nat) (w : World) (r : Bool)
    (hIs : Ty.Is w k kids A n c) (hS : Shapes w) (h0 : Ty.chk k kids = 0) (hk : k ≠ 0) (hL : RC fl k kids k (if 3 ≤ k then Ty.two 0 .nil 0 .nil else .nil) r) :
    Calls Tryz.prog 134 #[.agg #[.int .i8 k, .slice A n c, .int .i8 0, .slice A' n' c'], .agg #[.func (Fn.func fl) #[] #[], .func (Fn.func fe) #[] #[], .func (Fn.func fa) #[] #[], .func (Fn.func fp) #[] #[]]] w fun e w' => e = .returned (.bool r) ∧ Below w.heap.size w w' := by
  obtain ⟨hR0, hR1, -⟩ := two_new w (.cells #[.int .i8 k, .slice A n c, .int .i8 0, .slice A' n' c'] 94) (.cells #[.func (Fn.func fl) #[] #[], .func (Fn.func fe) #[] #[], .func (Fn.func fa) #[] #[], .func (Fn.func fp) #[] #[]] 117)
  have hB := tell_boxes w (.cells #[.int .i8 k, .slice A n c, .int .i8 0, .slice A' n' c'] 94) (.cells #[.func (Fn.func fl) #[] #[], .func (Fn.func fe) #[] #[], .func (Fn.func fa) #[] #[], .func (Fn.func fp) #[] #[]] 117)
  generalize hw1 : (w.alloc (.cells #[.int .i8 k, .slice A n c, .int .i8 0, .slice A' n' c'] 94)).alloc (.cells #[.func (Fn.func fl) #[] #[], .func (Fn.func fe) #[] #[], .func (Fn.func fa) #[] #[], .func (Fn.func fp) #[] #[]] 117) = w1 at *
  have HW1 := Lib.hid hw1
  have HX1 := Lib.hid hR0
  have HY1 := Lib.hid hR1
  obtain ⟨b0, b1, b2, b3, -, -, -, -, hb0⟩ := own4 hR0
  clear hw1 hR0 hR1
  go_enter Tryz.func134, Tryz.ntmps134
  go_wp2_with fail
  rw [HW1.out]
  go_quiet (fail)
  have HB2 := Lib.hid (below_drewN hB nq)
  have hD := below_drewN (Below.refl w1.heap.size w1) nq
  have HX2 := Lib.hid (heap_below hD (heap_lt HX1.out) HX1.out)
  have HY2 := Lib.hid (heap_below hD (heap_lt HY1.out) HY1.out)
  clear hB hD b0 b1 b2 b3 hb0
  generalize w1.drewN nq = w2 at *
  have e1 : (k == 0) = false := by simpa using hk
  have g1 : Ty.gK k kids = k := by unfold Ty.gK; rw [if_pos h0]
  have g2 : Ty.gOk k kids = true := by unfold Ty.gOk; simp [h0, hk]
  have g3 : Ty.gKids k kids = if 3 ≤ k then Ty.two 0 .nil 0 .nil else .nil := by unfold Ty.gKids; simp [h0]
  have CG := Lib.hid (ground_any k kids A n c w2 (hIs.below HB2.out) (hS.below HB2.out))
  have HI := Lib.hid hIs
  have HS := Lib.hid hS
  have HL := Lib.hid hL
  have HG := Lib.hid (And.intro g1 (And.intro g2 g3))
  have hcf' := hcf
  unfold CF at hcf'
  clear hIs hS hL h0 hk g1 g2 g3 hcf
  obtain ⟨b0, b1, b2, b3, -, -, -, -, hb0⟩ := own4 HX2.out
  go_wp2_with fail
  refine CG.out.mono ?_
  rintro e w3 ⟨G, m, cg, rfl, hI, -, hb⟩
  obtain ⟨g1, g2, g3⟩ := HG.out
  rw [g1, g3] at hI
  rw [g1, g2]
  have hb4 : Below w3.heap.size w3 (w3.alloc (.cells #[.int .i8 k, .slice G m cg] 25)) := (Below.refl _ _).alloc (Nat.le_refl _) _
  have hX3 := heap_below hb (heap_lt HX2.out) HX2.out
  have hY3 := heap_below hb (heap_lt HY2.out) HY2.out
  have HX4 := Lib.hid (heap_below hb4 (heap_lt hX3) hX3)
  have HY4 := Lib.hid (heap_below hb4 (heap_lt hY3) hY3)
  have HZ4 := Lib.hid (heap_new w3 (.cells #[.int .i8 k, .slice G m cg] 25))
  have HB4 := Lib.hid (HB2.out.trans ((hb.trans (hb4.mono hb.size)).mono HB2.out.size))
  have CL := Lib.hid (HL.out A n c G m cg _ (HI.out.below HB4.out) (hI.below hb4) (HS.out.below HB4.out))
  clear hb hb4 hX3 hY3 hI b0 b1 b2 b3 hb0 CG HX2 HY2 HB2 HG g1 g2 g3
  go_upto_region 6 with fail
  generalize w3.alloc (.cells #[.int .i8 k, .slice G m cg] 25) = w4 at *
  obtain ⟨b0, b1, b2, b3, -, -, -, -, hb0⟩ := own4 HX4.out
  obtain ⟨c0, c1, c2, c3, -, -, -, -, hc0⟩ := own4 HY4.out
  obtain ⟨z0, z1, _, _, hzl⟩ := own2 HZ4.out
  go_wp2_with fail
  refine CL.out.mono ?_
  rintro e w5 ⟨rfl, hb⟩
  go_wp2_with fail
  go_ret
  exact ⟨rfl, HB4.out.trans (hb.mono HB4.out.size)⟩

set_option maxHeartbeats 4000000 in
set_option maxRecDepth 100000 in
theorem tell_enter (fl fe fa fp : FuncId) (hcf : CF fe) (A : Option Addr) (n c : Nat) (k' : Int) (kids' : Fo) (A' : Option Addr) (n' c' : Nat) (w : World) (r : Bool)
    (hIs : Ty.Is w 0 .nil A n c) (hIs' : Ty.Is w k' kids' A' n' c') (hS : Shapes w) (hk : k' ≠ 0) (hE : RC fe 0 .nil k' kids' r) :
    Calls Tryz.prog 134 #[.agg #[.int .i8 0, .slice A n c, .int .i8 k', .slice A' n' c'], .agg #[.func (Fn.func fl) #[] #[], .func (Fn.func fe) #[] #[], .func (Fn.func fa) #[] #[], .func (Fn.func fp) #[] #[]]] w fun e w' => e = .returned (.bool r) ∧ Below w.heap.size w w' := by
  obtain ⟨hR0, hR1, -⟩ := two_new w (.cells #[.int .i8 0, .slice A n c, .int .i8 k', .slice A' n' c'] 94) (.cells #[.func (Fn.func fl) #[] #[], .func (Fn.func fe) #[] #[], .func (Fn.func fa) #[] #[], .func (Fn.func fp) #[] #[]] 117)
  have hB := tell_boxes w (.cells #[.int .i8 0, .slice A n c, .int .i8 k', .slice A' n' c'] 94) (.cells #[.func (Fn.func fl) #[] #[], .func (Fn.func fe) #[] #[], .func (Fn.func fa) #[] #[], .func (Fn.func fp) #[] #[]] 117)
  generalize hw1 : (w.alloc (.cells #[.int .i8 0, .slice A n c, .int .i8 k', .slice A' n' c'] 94)).alloc (.cells #[.func (Fn.func fl) #[] #[], .func (Fn.func fe) #[] #[], .func (Fn.func fa) #[] #[], .func (Fn.func fp) #[] #[]] 117) = w1 at *
  have HW1 := Lib.hid hw1
  have HX1 := Lib.hid hR0
  have HY1 := Lib.hid hR1
  obtain ⟨b0, b1, b2, b3, -, -, -, -, hb0⟩ := own4 hR0
  clear hw1 hR0 hR1
  go_enter Tryz.func134, Tryz.ntmps134
  go_wp2_with fail
  rw [HW1.out]
  go_quiet (fail)
  have HB2 := Lib.hid (below_drewN hB nq)
  have hD := below_drewN (Below.refl w1.heap.size w1) nq
  have HX2 := Lib.hid (heap_below hD (heap_lt HX1.out) HX1.out)
  have HY2 := Lib.hid (heap_below hD (heap_lt HY1.out) HY1.out)
  clear hB hD b0 b1 b2 b3 hb0
  generalize w1.drewN nq = w2 at *
  have e1 : (k' == 0) = false := by simpa using hk
  have CE := Lib.hid (hE A n c A' n' c' w2 (hIs.below HB2.out) (hIs'.below HB2.out) (hS.below HB2.out))
  have hcf' := hcf
  unfold CF at hcf'
  clear hIs hIs' hS hE hk hcf
  obtain ⟨b0, b1, b2, b3, -, -, -, -, hb0⟩ := own4 HX2.out
  obtain ⟨c0, c1, c2, c3, -, -, -, -, hc0⟩ := own4 HY2.out
  go_wp2_with fail
  refine CE.out.mono ?_
  rintro e w5 ⟨rfl, hb⟩
  go_wp2_with fail
  go_ret
  exact ⟨rfl, HB2.out.trans (hb.mono HB2.out.size)⟩
end Go.Proofs.YtfkbdpehdabepaaGreatDoor
namespace Go.Proofs.YtfkbdpehdabepaaGreatDoor
open Go.RowKit

/-- what tell tells of these two, its fields being these functions -/
def RT (fl fe fa fp : FuncId) (k : Int) (kids : Fo) (k' : Int) (kids' : Fo) (r : Bool) : Prop :=
  ∀ (A : Option Addr) (n c : Nat) (A' : Option Addr) (n' c' : Nat) (w : World), Ty.Is w k kids A n c → Ty.Is w k' kids' A' n' c' → Shapes w →
    Calls Tryz.prog 134 #[.agg #[.int .i8 k, .slice A n c, .int .i8 k', .slice A' n' c'], .agg #[.func (Fn.func fl) #[] #[], .func (Fn.func fe) #[] #[], .func (Fn.func fa) #[] #[], .func (Fn.func fp) #[] #[]]] w fun e w' => e = .returned (.bool r) ∧ Below w.heap.size w w'
theorem cf_b1 : CF 102 := fun args W => by simp [go_sem]
theorem cf_b2 : CF 103 := fun args W => by simp [go_sem]
theorem cf_never : CF 136 := fun args W => by simp [go_sem]
theorem cf_always : CF 135 := fun args W => by simp [go_sem]
theorem rc_never (k : Int) (kids : Fo) (k' : Int) (kids' : Fo) : RC 136 k kids k' kids' false := by
  intro A n c A' n' c' w _ _ _
  have hB : Below w.heap.size w (w.alloc (.cells #[.int .i8 k, .slice A n c, .int .i8 k', .slice A' n' c'] 94)) := (Below.refl _ _).alloc (Nat.le_refl _) _
  go_enter Tryz.func136, Tryz.ntmps136
  go_wp2_with fail
  go_ret
  exact ⟨rfl, hB⟩
theorem rc_always (k : Int) (kids : Fo) (k' : Int) (kids' : Fo) : RC 135 k kids k' kids' true := by
  intro A n c A' n' c' w _ _ _
  have hB : Below w.heap.size w (w.alloc (.cells #[.int .i8 k, .slice A n c, .int .i8 k', .slice A' n' c'] 94)) := (Below.refl _ _).alloc (Nat.le_refl _) _
  go_enter Tryz.func135, Tryz.ntmps135
  go_wp2_with fail
  go_ret
  exact ⟨rfl, hB⟩
set_option maxHeartbeats 1000000 in
set_option maxRecDepth 100000 in
theorem rc_b1 {k : Int} {kids : Fo} {k' : Int} {kids' : Fo} {r : Bool} (h : RT 135 136 103 102 k kids k' kids' r) : RC 102 k kids k' kids' r := by
  intro A n c A' n' c' w hIs hIs' hS
  have hB : Below w.heap.size w (w.alloc (.cells #[.int .i8 k, .slice A n c, .int .i8 k', .slice A' n' c'] 94)) := (Below.refl _ _).alloc (Nat.le_refl _) _
  have HB := Lib.hid hB
  have HC := Lib.hid (h A n c A' n' c' _ (hIs.below hB) (hIs'.below hB) (hS.below hB))
  clear hIs hIs' hS h hB
  go_enter Tryz.func102, Tryz.ntmps102
  go_wp2_with fail
  refine HC.out.mono ?_
  rintro e w3 ⟨rfl, hb⟩
  go_wp2_with fail
  go_ret
  exact ⟨rfl, HB.out.trans (hb.mono HB.out.size)⟩
set_option maxHeartbeats 1000000 in
set_option maxRecDepth 100000 in
theorem rc_b2 {k : Int} {kids : Fo} {k' : Int} {kids' : Fo} {r : Bool} (h : RT 103 135 102 103 k kids k' kids' r) : RC 103 k kids k' kids' r := by
  intro A n c A' n' c' w hIs hIs' hS
  have hB : Below w.heap.size w (w.alloc (.cells #[.int .i8 k, .slice A n c, .int .i8 k', .slice A' n' c'] 94)) := (Below.refl _ _).alloc (Nat.le_refl _) _
  have HB := Lib.hid hB
  have HC := Lib.hid (h A n c A' n' c' _ (hIs.below hB) (hIs'.below hB) (hS.below hB))
  clear hIs hIs' hS h hB
  go_enter Tryz.func103, Tryz.ntmps103
  go_wp2_with fail
  refine HC.out.mono ?_
  rintro e w3 ⟨rfl, hb⟩
  go_wp2_with fail
  go_ret
  exact ⟨rfl, HB.out.trans (hb.mono HB.out.size)⟩
/-- one row of the table -/
theorem rt_step (m : Nat) (fl fe fa fp : FuncId) (hcl : CF fl) (hce : CF fe) (hca : CF fa) (hcp : CF fp) (k : Int) (kids : Fo) (k' : Int) (kids' : Fo) (h0 : Ty.chk k kids = 0) (h0' : Ty.chk k' kids' = 0)
    (hL : k ≠ 0 → k' = 0 → RC fl k kids k (if 3 ≤ k then Ty.two 0 .nil 0 .nil else .nil) ((m == 1) || Ty.loT k kids))
    (hE : k = 0 → k' ≠ 0 → RC fe k kids k' kids' (m == 2))
    (hP : ∀ (a b : Nat) (k1 : Int) (f1 : Fo) (c d : Nat) (k2 : Int) (f2 : Fo) (a' b' : Nat) (k1' : Int) (f1' : Fo) (c' d' : Nat) (k2' : Int) (f2' : Fo), kids = .node a b k1 f1 (.node c d k2 f2 .nil) → kids' = .node a' b' k1' f1' (.node c' d' k2' f2' .nil) → k = k' →
      RC fa k1' f1' k1 f1 (Ty.relT (Ty.sw m) k1' f1' k1 f1) ∧ RC fp k1 f1 k1' f1' (Ty.relT m k1 f1 k1' f1') ∧ RC fp k2 f2 k2' f2' (Ty.relT m k2 f2 k2' f2')) :
    RT fl fe fa fp k kids k' kids' (Ty.relT m k kids k' kids') := by
  intro A n c A' n' c' w hIs hIs' hS
  have ho := (Ty.chk_ok h0).1
  have ho' := (Ty.chk_ok h0').1
  rcases Ty.cases_two ho ho' with ⟨rfl, rfl, rfl, rfl⟩ | ⟨rfl, h1, rfl⟩ | ⟨h1, rfl, rfl⟩ | ⟨h1, h2, h3⟩ | ⟨h1, rfl, rfl, rfl⟩ | ⟨rfl, h3, a, b, k1, f1, c1, d, k2, f2, a', b', k1', f1', c1', d', k2', f2', rfl, rfl, o1, o2, o1', o2'⟩
  · rw [Ty.rel_zero]
    exact tell_plain fl fe fa fp 0 A n c 0 A' n' c' w true (.inl ⟨rfl, rfl, rfl⟩)
  · rw [Ty.rel_enter _ _ _ h1]
    exact tell_enter fl fe fa fp hce A n c k' kids' A' n' c' w _ hIs hIs' hS h1 (hE rfl h1)
  · rw [Ty.rel_leave _ _ _ h1]
    exact tell_leave fl fe fa fp hcl k kids A n c A' n' c' w _ hIs hS h0 h1 (hL h1 rfl)
  · rw [Ty.rel_ne _ _ _ h1 h2 h3]
    exact tell_plain fl fe fa fp k A n c k' A' n' c' w false (.inr (.inl ⟨h1, h2, h3, rfl⟩))
  · rw [Ty.rel_base]
    have hr : k ≠ 3 ∧ k ≠ 4 ∧ k ≠ 5 := by
      unfold Ty.okT Ty.okK at ho
      refine ⟨?_, ?_, ?_⟩ <;> (rintro rfl; simp [Ty.len] at ho)
    exact tell_plain fl fe fa fp k A n c k A' n' c' w true (.inr (.inr ⟨h1, rfl, hr.1, hr.2.1, hr.2.2, rfl⟩))
  · obtain ⟨q1, q2, q3⟩ := hP _ _ _ _ _ _ _ _ _ _ _ _ _ _ _ _ rfl rfl rfl
    have hr := Ty.okT_range ho
    rw [Ty.rel_two _ (by omega)]
    by_cases hk : k = 3
    · subst hk
      rw [if_pos rfl]
      exact tell_fun fl fe fa fp hca hcp _ _ _ _ k1 f1 k2 f2 _ _ _ _ k1' f1' k2' f2' A n c A' n' c' w _ _ hIs hIs' hS q1 q3
    · rw [if_neg hk]
      exact tell_two fl fe fa fp hcp k (by omega) _ _ _ _ k1 f1 k2 f2 _ _ _ _ k1' f1' k2' f2' A n c A' n' c' w _ _ hIs hIs' hS q2 q3
theorem chk_kids {k : Int} {a b c d : Nat} {k1 k2 : Int} {f1 f2 : Fo} (h : Ty.chk k (.node a b k1 f1 (.node c d k2 f2 .nil)) = 0) : Ty.chk k1 f1 = 0 ∧ Ty.chk k2 f2 = 0 := by
  obtain ⟨h1, h2, h3⟩ := Ty.chk_ok h
  unfold Ty.okT at h1
  simp only [Ty.okF, Bool.and_eq_true] at h1
  simp only [Ty.nodes, Ty.dep] at h2 h3
  exact ⟨Ty.chk_of (by unfold Ty.okT; rw [Bool.and_eq_true]; exact ⟨h1.2.1.1, h1.2.1.2⟩) (by omega) (by omega), Ty.chk_of (by unfold Ty.okT; rw [Bool.and_eq_true]; exact ⟨h1.2.2.1.1, h1.2.2.1.2⟩) (by omega) (by omega)⟩
theorem chk_ground {k : Int} {kids : Fo} (h : Ty.chk k kids = 0) : Ty.chk k (if 3 ≤ k then Ty.two 0 .nil 0 .nil else .nil) = 0 := by
  have hr := Ty.okT_range (Ty.chk_ok h).1
  rcases hr with rfl | rfl | rfl | rfl | rfl | rfl <;> decide
theorem nodes_ground {k : Int} {kids : Fo} (h : Ty.chk k kids = 0) : Ty.nodes (if 3 ≤ k then Ty.two 0 .nil 0 .nil else .nil) ≤ Ty.nodes kids := by
  by_cases h3 : 3 ≤ k
  · rw [if_pos h3]
    obtain ⟨a, b, k1, f1, c, d, k2, f2, rfl, -, -⟩ := Ty.two_of (Ty.chk_ok h).1 h3
    unfold Ty.two
    simp only [Ty.nodes]
    omega
  · rw [if_neg h3]
    exact Nat.zero_le _
/-- how great two types are together: a type and ? are greater than the type and its ground -/
def great (k : Int) (kids : Fo) (k' : Int) (kids' : Fo) : Nat := 2 * max (Ty.nodes kids) (Ty.nodes kids') + (if k' = 0 ∧ k ≠ 0 then 1 else 0)
theorem great_ground {k : Int} {kids : Fo} (h : Ty.chk k kids = 0) (hk : k ≠ 0) : great k kids k (if 3 ≤ k then Ty.two 0 .nil 0 .nil else .nil) < great k kids 0 .nil := by
  have h1 := nodes_ground h
  generalize (if 3 ≤ k then Ty.two 0 .nil 0 .nil else .nil) = g at *
  have e1 : ¬ (k = 0 ∧ k ≠ 0) := fun e => hk e.1
  have e2 : (0 : Int) = 0 ∧ k ≠ 0 := ⟨rfl, hk⟩
  unfold great
  rw [if_neg e1, if_pos e2]
  simp only [Ty.nodes]
  omega
theorem great_lt {N : Nat} {k1 k2 : Int} {f1 f2 : Fo} (h1 : Ty.nodes f1 < N) (h2 : Ty.nodes f2 < N) : great k1 f1 k2 f2 < 2 * N := by
  unfold great
  split <;> omega
set_option maxHeartbeats 4000000 in
set_option maxRecDepth 100000 in
theorem ask_any (f : FuncId) (hcf : CF f) (k : Int) (kids : Fo) (A : Option Addr) (n c : Nat) (k' : Int) (kids' : Fo) (A' : Option Addr) (n' c' : Nat) (w : World) (r : Bool) (hIs : Ty.Is w k kids A n c) (hIs' : Ty.Is w k' kids' A' n' c') (hS : Shapes w)
    (h : Ty.chk k kids = 0 → Ty.chk k' kids' = 0 → RC f k kids k' kids' r) :
    Calls Tryz.prog 101 #[.func (Fn.func f) #[] #[], .agg #[.int .i8 k, .slice A n c], .agg #[.int .i8 k', .slice A' n' c']] w fun e w' => e = .returned (.bool ((Ty.chk k kids == 0) && (Ty.chk k' kids' == 0) && r)) ∧ Below w.heap.size w w' := by
  obtain ⟨hB0, hR0, hR1⟩ := two_boxes w k A n c k' A' n' c'
  generalize hw1 : (w.alloc (.cells #[.int .i8 k, .slice A n c] 25)).alloc (.cells #[.int .i8 k', .slice A' n' c'] 25) = w1 at *
  have HW1 := Lib.hid hw1
  have HM := Lib.hid (check_any k kids A n c w1 (hIs.below hB0) (hS.below hB0))
  have HN := Lib.hid (fun (W : World) (hb : Below w.heap.size w W) => check_any k' kids' A' n' c' W (hIs'.below hb) (hS.below hb))
  have R0 := Lib.hid hR0
  have R1 := Lib.hid hR1
  have HB0 := Lib.hid hB0
  obtain ⟨b0, b1, _, _, hb0⟩ := own2 hR0
  have hcf' := hcf
  unfold CF at hcf'
  by_cases h0 : Ty.chk k kids = 0
  · rw [h0] at HM
    by_cases h1 : Ty.chk k' kids' = 0
    · have HK := Lib.hid (fun (W : World) (hb : Below w.heap.size w W) => h h0 h1 A n c A' n' c' W (hIs.below hb) (hIs'.below hb) (hS.below hb))
      rw [h1] at HN
      rw [h0, h1]
      clear h h0 h1 hIs hIs' hS hR0 hR1 hB0 hcf hw1
      go_enter Tryz.func101, Tryz.ntmps101
      go_upto_region 1 with fail
      rw [HW1.out]
      go_wp2_with fail
      refine HM.out.mono ?_
      rintro e w3 ⟨rfl, hb⟩
      have HB1 := Lib.hid (HB0.out.trans (hb.mono HB0.out.size))
      have HX := Lib.hid (heap_below hb (heap_lt R0.out) R0.out)
      have HY := Lib.hid (heap_below hb (heap_lt R1.out) R1.out)
      clear hb b0 b1 hb0
      obtain ⟨d0, d1, _, _, _⟩ := own2 HY.out
      go_wp2_with fail
      refine (HN.out _ HB1.out).mono ?_
      rintro e w4 ⟨rfl, hb⟩
      have HB2 := Lib.hid (HB1.out.trans (hb.mono HB1.out.size))
      obtain ⟨b0, b1, _, _, _⟩ := own2 (heap_below hb (heap_lt HX.out) HX.out)
      obtain ⟨e0, e1, _, _, _⟩ := own2 (heap_below hb (heap_lt HY.out) HY.out)
      clear hb d0 d1
      go_wp2_with fail
      refine (HK.out _ HB2.out).mono ?_
      rintro e w5 ⟨rfl, hb⟩
      go_wp2_with fail
      go_ret
      exact ⟨rfl, HB2.out.trans (hb.mono HB2.out.size)⟩
    · have hc : (((Ty.chk k' kids' : Nat) : Int) == 0) = false := by simp; omega
      rw [h0, show (Ty.chk k' kids' == 0) = false by simpa using h1]
      generalize Ty.chk k' kids' = C at *
      clear h h0 h1 hIs hIs' hS hR0 hR1 hB0 hcf hw1
      go_enter Tryz.func101, Tryz.ntmps101
      go_upto_region 1 with fail
      rw [HW1.out]
      go_wp2_with fail
      refine HM.out.mono ?_
      rintro e w3 ⟨rfl, hb⟩
      have HB1 := Lib.hid (HB0.out.trans (hb.mono HB0.out.size))
      have HY := Lib.hid (heap_below hb (heap_lt R1.out) R1.out)
      clear hb b0 b1 hb0
      obtain ⟨d0, d1, _, _, _⟩ := own2 HY.out
      go_wp2_with fail
      refine (HN.out _ HB1.out).mono ?_
      rintro e w4 ⟨rfl, hb⟩
      go_wp2_with fail
      go_ret
      exact ⟨rfl, HB1.out.trans (hb.mono HB1.out.size)⟩
  · have hc : (((Ty.chk k kids : Nat) : Int) == 0) = false := by simp; omega
    rw [show (Ty.chk k kids == 0) = false by simpa using h0]
    generalize Ty.chk k kids = C at *
    clear h h0 hIs hIs' hS hR0 hR1 hB0 hcf hw1 HN
    go_enter Tryz.func101, Tryz.ntmps101
    go_upto_region 1 with fail
    rw [HW1.out]
    go_wp2_with fail
    refine HM.out.mono ?_
    rintro e w3 ⟨rfl, hb⟩
    go_wp2_with fail
    go_ret
    exact ⟨rfl, HB0.out.trans (hb.mono HB0.out.size)⟩
end Go.Proofs.YtfkbdpehdabepaaGreatDoor
namespace Go.Proofs.YtfkbdpehdabepaaGreatDoor
open Go.RowKit
theorem rel_pn (K : Nat) : ∀ (k : Int) (kids : Fo) (k' : Int) (kids' : Fo), great k kids k' kids' < K → Ty.chk k kids = 0 → Ty.chk k' kids' = 0 →
    RC 102 k kids k' kids' (Ty.relT 1 k kids k' kids') ∧ RC 103 k kids k' kids' (Ty.relT 2 k kids k' kids') := by
  induction K with
  | zero => intro _ _ _ _ h; omega
  | succ K ih =>
    intro k kids k' kids' hK h0 h0'
    have ho := (Ty.chk_ok h0).1
    have ho' := (Ty.chk_ok h0').1
    have hL : k ≠ 0 → k' = 0 → RC 103 k kids k (if 3 ≤ k then Ty.two 0 .nil 0 .nil else .nil) (Ty.loT k kids) := by
      intro hk hk'
      subst hk'
      obtain rfl := Ty.none_of ho' (by omega)
      obtain ⟨-, q2⟩ := ih k kids k (if 3 ≤ k then Ty.two 0 .nil 0 .nil else .nil) (by have := great_ground h0 hk; omega) h0 (chk_ground h0)
      rw [Ty.rel_ground (.inr rfl) ho hk] at q2
      exact q2
    have hP : ∀ (a b : Nat) (k1 : Int) (f1 : Fo) (c d : Nat) (k2 : Int) (f2 : Fo) (a' b' : Nat) (k1' : Int) (f1' : Fo) (c' d' : Nat) (k2' : Int) (f2' : Fo), kids = .node a b k1 f1 (.node c d k2 f2 .nil) → kids' = .node a' b' k1' f1' (.node c' d' k2' f2' .nil) → k = k' →
        (RC 102 k1' f1' k1 f1 (Ty.relT 1 k1' f1' k1 f1) ∧ RC 103 k1' f1' k1 f1 (Ty.relT 2 k1' f1' k1 f1)) ∧
        (RC 102 k1 f1 k1' f1' (Ty.relT 1 k1 f1 k1' f1') ∧ RC 103 k1 f1 k1' f1' (Ty.relT 2 k1 f1 k1' f1')) ∧
        (RC 102 k2 f2 k2' f2' (Ty.relT 1 k2 f2 k2' f2') ∧ RC 103 k2 f2 k2' f2' (Ty.relT 2 k2 f2 k2' f2')) := by
      intro a b k1 f1 c d k2 f2 a' b' k1' f1' c' d' k2' f2' e e' _
      subst e e'
      obtain ⟨g1, g2⟩ := chk_kids h0
      obtain ⟨g1', g2'⟩ := chk_kids h0'
      have hM : 2 * max (Ty.nodes (.node a b k1 f1 (.node c d k2 f2 .nil))) (Ty.nodes (.node a' b' k1' f1' (.node c' d' k2' f2' .nil))) ≤ K := by
        unfold great at hK
        omega
      simp only [Ty.nodes] at hM
      refine ⟨ih _ _ _ _ (Nat.lt_of_lt_of_le (great_lt (N := max (Ty.nodes f1 + 1 + (Ty.nodes f2 + 1 + 0)) (Ty.nodes f1' + 1 + (Ty.nodes f2' + 1 + 0))) (by omega) (by omega)) hM) g1' g1, ih _ _ _ _ (Nat.lt_of_lt_of_le (great_lt (N := max (Ty.nodes f1 + 1 + (Ty.nodes f2 + 1 + 0)) (Ty.nodes f1' + 1 + (Ty.nodes f2' + 1 + 0))) (by omega) (by omega)) hM) g1 g1', ih _ _ _ _ (Nat.lt_of_lt_of_le (great_lt (N := max (Ty.nodes f1 + 1 + (Ty.nodes f2 + 1 + 0)) (Ty.nodes f1' + 1 + (Ty.nodes f2' + 1 + 0))) (by omega) (by omega)) hM) g2 g2'⟩
    refine ⟨rc_b1 (rt_step 1 _ _ _ _ cf_always cf_never cf_b2 cf_b1 k kids k' kids' h0 h0' (fun e e' => rc_always _ _ _ _) (fun _ _ => rc_never _ _ _ _) (fun a b k1 f1 c d k2 f2 a' b' k1' f1' c' d' k2' f2' e e' e'' => ?_)),
      rc_b2 (rt_step 2 _ _ _ _ cf_b2 cf_always cf_b1 cf_b2 k kids k' kids' h0 h0' (fun e e' => hL e e') (fun _ _ => rc_always _ _ _ _) (fun a b k1 f1 c d k2 f2 a' b' k1' f1' c' d' k2' f2' e e' e'' => ?_))⟩
    · obtain ⟨q1, q2, q3⟩ := hP a b k1 f1 c d k2 f2 a' b' k1' f1' c' d' k2' f2' e e' e''
      exact ⟨q1.2, q2.1, q3.1⟩
    · obtain ⟨q1, q2, q3⟩ := hP a b k1 f1 c d k2 f2 a' b' k1' f1' c' d' k2' f2' e e' e''
      exact ⟨q1.1, q2.2, q3.2⟩

set_option maxHeartbeats 1000000 in
set_option maxRecDepth 100000 in
theorem bpos_any (k : Int) (kids : Fo) (A : Option Addr) (n c : Nat) (k' : Int) (kids' : Fo) (A' : Option Addr) (n' c' : Nat) (w : World) (hIs : Ty.Is w k kids A n c) (hIs' : Ty.Is w k' kids' A' n' c') (hS : Shapes w) :
    Calls Tryz.prog 54 #[.agg #[.int .i8 k, .slice A n c], .agg #[.int .i8 k', .slice A' n' c']] w fun e w' => e = .returned (.bool (Ty.belowT 1 k kids k' kids')) ∧ Below w.heap.size w w' := by
  obtain ⟨hB, hR0, hR1⟩ := two_boxes w k A n c k' A' n' c'
  have HB := Lib.hid hB
  have HC := Lib.hid (ask_any 102 cf_b1 k kids A n c k' kids' A' n' c' _ (Ty.relT 1 k kids k' kids') (hIs.below hB) (hIs'.below hB) (hS.below hB) (fun h0 h1 => (rel_pn _ k kids k' kids' (Nat.lt_succ_self _) h0 h1).1))
  rw [show Ty.belowT 1 k kids k' kids' = ((Ty.chk k kids == 0) && (Ty.chk k' kids' == 0) && Ty.relT 1 k kids k' kids') from rfl]
  generalize ((Ty.chk k kids == 0) && (Ty.chk k' kids' == 0) && Ty.relT 1 k kids k' kids') = R at *
  clear hIs hIs' hS hR0 hR1 hB
  go_enter Tryz.func54, Tryz.ntmps54
  go_wp2_with fail
  refine HC.out.mono ?_
  rintro e w3 ⟨rfl, hb⟩
  go_wp2_with fail
  go_ret
  exact ⟨rfl, HB.out.trans (hb.mono HB.out.size)⟩
set_option maxHeartbeats 1000000 in
set_option maxRecDepth 100000 in
theorem bneg_any (k : Int) (kids : Fo) (A : Option Addr) (n c : Nat) (k' : Int) (kids' : Fo) (A' : Option Addr) (n' c' : Nat) (w : World) (hIs : Ty.Is w k kids A n c) (hIs' : Ty.Is w k' kids' A' n' c') (hS : Shapes w) :
    Calls Tryz.prog 55 #[.agg #[.int .i8 k, .slice A n c], .agg #[.int .i8 k', .slice A' n' c']] w fun e w' => e = .returned (.bool (Ty.belowT 2 k kids k' kids')) ∧ Below w.heap.size w w' := by
  obtain ⟨hB, hR0, hR1⟩ := two_boxes w k A n c k' A' n' c'
  have HB := Lib.hid hB
  have HC := Lib.hid (ask_any 103 cf_b2 k kids A n c k' kids' A' n' c' _ (Ty.relT 2 k kids k' kids') (hIs.below hB) (hIs'.below hB) (hS.below hB) (fun h0 h1 => (rel_pn _ k kids k' kids' (Nat.lt_succ_self _) h0 h1).2))
  rw [show Ty.belowT 2 k kids k' kids' = ((Ty.chk k kids == 0) && (Ty.chk k' kids' == 0) && Ty.relT 2 k kids k' kids') from rfl]
  generalize ((Ty.chk k kids == 0) && (Ty.chk k' kids' == 0) && Ty.relT 2 k kids k' kids') = R at *
  clear hIs hIs' hS hR0 hR1 hB
  go_enter Tryz.func55, Tryz.ntmps55
  go_wp2_with fail
  refine HC.out.mono ?_
  rintro e w3 ⟨rfl, hb⟩
  go_wp2_with fail
  go_ret
  exact ⟨rfl, HB.out.trans (hb.mono HB.out.size)⟩
end Go.Proofs.YtfkbdpehdabepaaGreatDoor
