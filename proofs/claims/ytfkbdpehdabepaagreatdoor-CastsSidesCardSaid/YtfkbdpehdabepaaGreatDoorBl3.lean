/-
  tell: functions, pairs, sums: part by part.
-/
import Derived.Test.YtfkbdpehdabepaaGreatDoorM13
namespace Go.Proofs.YtfkbdpehdabepaaGreatDoor
open Go.RowKit

/-- the two parts of a type that lies in memory -/
theorem two_parts {w : World} {k : Int} {a b c d : Nat} {k1 k2 : Int} {f1 f2 : Fo} {A : Option Addr} {n cc : Nat} (h : Ty.Is w k (.node a b k1 f1 (.node c d k2 f2 .nil)) A n cc) :
    ∃ bb oo B1 c1 B2 c2, A = some ⟨bb, oo, none⟩ ∧ n = 2 ∧ 2 ≤ cc ∧ cc ≤ maxLen ∧ w.cell? ⟨bb, oo, none⟩ = some (.int .i8 k1) ∧ w.cell? ⟨bb, oo + 1, none⟩ = some (.slice B1 (Ty.len f1) c1) ∧ w.cell? ⟨bb, oo + 2, none⟩ = some (.int .i8 k2) ∧ w.cell? ⟨bb, oo + 3, none⟩ = some (.slice B2 (Ty.len f2) c2) ∧
      Ty.Is w k1 f1 B1 (Ty.len f1) c1 ∧ Ty.Is w k2 f2 B2 (Ty.len f2) c2 := by
  have hn := h.n_eq
  have hc := h.n_le
  have hm := h.c_le
  obtain ⟨bb, oo, B1, c1, hA, hk1, x1, x2, l1, l2, l3, bb', oo', B2, c2, hA', hk2, y1, y2, m1, m2, m3, -⟩ := h.lies
  subst hA
  injection hA' with hA'
  injection hA' with e1 e2
  subst e1 e2
  simp only [Ty.len] at hn
  subst hn
  exact ⟨bb, oo, B1, c1, B2, c2, rfl, rfl, hc, hm, x1, x2, y1, y2, ⟨l3, rfl, l1, l2, hk1.1, hk1.2⟩, ⟨m3, rfl, m1, m2, hk2.1, hk2.2⟩⟩

set_option maxHeartbeats 4000000 in
set_option maxRecDepth 100000 in
theorem tell_fun (fl fe fa fp : FuncId) (hca : CF fa) (hcp : CF fp) (a1 a2 a3 a4 : Nat) (k1 : Int) (f1 : Fo) (k2 : Int) (f2 : Fo) (a5 a6 a7 a8 : Nat) (k1' : Int) (f1' : Fo) (k2' : Int) (f2' : Fo) (A : Option Addr) (n c : Nat) (A' : Option Addr) (n' c' : Nat) (w : World) (P R : Bool)
    (hIs : Ty.Is w 3 (.node a1 a2 k1 f1 (.node a3 a4 k2 f2 .nil)) A n c) (hIs' : Ty.Is w 3 (.node a5 a6 k1' f1' (.node a7 a8 k2' f2' .nil)) A' n' c') (hS : Shapes w) (h1 : RC fa k1' f1' k1 f1 P) (h2 : RC fp k2 f2 k2' f2' R) :
    Calls Tryz.prog 134 #[.agg #[.int .i8 3, .slice A n c, .int .i8 3, .slice A' n' c'], .agg #[.func (Fn.func fl) #[] #[], .func (Fn.func fe) #[] #[], .func (Fn.func fa) #[] #[], .func (Fn.func fp) #[] #[]]] w fun e w' => e = .returned (.bool (P && R)) ∧ Below w.heap.size w w' := by
  obtain ⟨hR0, hR1, -⟩ := two_new w (.cells #[.int .i8 3, .slice A n c, .int .i8 3, .slice A' n' c'] 94) (.cells #[.func (Fn.func fl) #[] #[], .func (Fn.func fe) #[] #[], .func (Fn.func fa) #[] #[], .func (Fn.func fp) #[] #[]] 117)
  have hB := tell_boxes w (.cells #[.int .i8 3, .slice A n c, .int .i8 3, .slice A' n' c'] 94) (.cells #[.func (Fn.func fl) #[] #[], .func (Fn.func fe) #[] #[], .func (Fn.func fa) #[] #[], .func (Fn.func fp) #[] #[]] 117)
  generalize hw1 : (w.alloc (.cells #[.int .i8 3, .slice A n c, .int .i8 3, .slice A' n' c'] 94)).alloc (.cells #[.func (Fn.func fl) #[] #[], .func (Fn.func fe) #[] #[], .func (Fn.func fa) #[] #[], .func (Fn.func fp) #[] #[]] 117) = w1 at *
  have HW1 := Lib.hid hw1
  have HX1 := Lib.hid hR0
  have HY1 := Lib.hid hR1
  obtain ⟨b0, b1, b2, b3, -, -, -, -, hb0⟩ := own4 hR0
  clear hw1 hR0 hR1
  go_enter Tryz.func134, Tryz.ntmps134
  go_wp2_with fail
  rw [HW1.out]
  go_quiet (fail)
  have HB2 := Lib.hid (below_drewN hB nq)
  have hD := below_drewN (Below.refl w1.heap.size w1) nq
  have HX2 := Lib.hid (heap_below hD (heap_lt HX1.out) HX1.out)
  have HY2 := Lib.hid (heap_below hD (heap_lt HY1.out) HY1.out)
  clear hB hD b0 b1 b2 b3 hb0
  generalize w1.drewN nq = w2 at *
  obtain ⟨bb, oo, B1, c1, B2, c2, rfl, rfl, q1, q2, x0, x1, x2, x3, hi1, hi2⟩ := two_parts (hIs.below HB2.out)
  obtain ⟨bb', oo', B1', c1', B2', c2', rfl, rfl, q1', q2', y0, y1, y2, y3, hj1, hj2⟩ := two_parts (hIs'.below HB2.out)
  have D1 := Lib.hid (fun (u : World) (hE : Below w2.heap.size w2 u) => h1 B1' _ c1' B1 _ c1 u (hj1.below hE) (hi1.below hE) (hS.below (HB2.out.trans (hE.mono HB2.out.size))))
  have D2 := Lib.hid (fun (u : World) (hE : Below w2.heap.size w2 u) => h2 B2 _ c2 B2' _ c2' u (hi2.below hE) (hj2.below hE) (hS.below (HB2.out.trans (hE.mono HB2.out.size))))
  generalize Ty.len f1 = n1 at *
  generalize Ty.len f2 = n2 at *
  generalize Ty.len f1' = n1' at *
  generalize Ty.len f2' = n2' at *
  have hca2 := hca
  unfold CF at hca2
  have hcp2 := hcp
  unfold CF at hcp2
  clear hIs hIs' hS h1 h2 hi1 hi2 hj1 hj2 hca hcp
  obtain ⟨b0, b1, b2, b3, -, -, -, -, hb0⟩ := own4 HX2.out
  obtain ⟨c0, c1', c2', c3, -, -, -, -, hc0⟩ := own4 HY2.out
  have X0 := later_cell x0
  have X1 := later_cell x1
  have X2 := later_cell x2
  have X3 := later_cell x3
  have Y0 := later_cell y0
  have Y1 := later_cell y1
  have Y2 := later_cell y2
  have Y3 := later_cell y3
  have BB0 := later_cell b0
  have BB1 := later_cell b1
  have BB2 := later_cell b2
  have BB3 := later_cell b3
  have CC2 := later_cell c2'
  have CC3 := later_cell c3
  go_wp2_with fail
  clear x0 x1 x2 x3 y0 y1 y2 y3 b0 b1 b2 b3 hb0 c0 c1' c2' c3 hc0
  cases P
  all_goals
    refine wp_region_low (by kernel_rfl) (by kernel_rfl) ?_
    repeat
      first
        | go_big_quiet_skip
        | (go_big_quiet_want
           go_big_quiet_op
           first
             | go_big_quiet_on
             | (refine ⟨_, fun _ => rfl, ?_⟩
                go_big_quiet_on)
             | (apply Exists.intro
                refine ⟨fun h => ?_, ?_⟩
                · first
                    | (with_reducible exact call_low h (D1.out h.u h.low))
                    | (with_reducible exact call_low h (D2.out h.u h.low))
                go_big_quiet_on))
    refine wpQuiet_nil ?_
    rintro w9 ⟨⟨_, E⟩, rfl⟩
    go_wp2_with fail
    go_ret
    exact ⟨rfl, HB2.out.trans (E.mono HB2.out.size)⟩

set_option maxHeartbeats 4000000 in
set_option maxRecDepth 100000 in
theorem tell_two (fl fe fa fp : FuncId) (hcp : CF fp) (k : Int) (hk : k = 4 ∨ k = 5) (a1 a2 a3 a4 : Nat) (k1 : Int) (f1 : Fo) (k2 : Int) (f2 : Fo) (a5 a6 a7 a8 : Nat) (k1' : Int) (f1' : Fo) (k2' : Int) (f2' : Fo) (A : Option Addr) (n c : Nat) (A' : Option Addr) (n' c' : Nat) (w : World) (P R : Bool)
    (hIs : Ty.Is w k (.node a1 a2 k1 f1 (.node a3 a4 k2 f2 .nil)) A n c) (hIs' : Ty.Is w k (.node a5 a6 k1' f1' (.node a7 a8 k2' f2' .nil)) A' n' c') (hS : Shapes w) (h1 : RC fp k1 f1 k1' f1' P) (h2 : RC fp k2 f2 k2' f2' R) :
    Calls Tryz.prog 134 #[.agg #[.int .i8 k, .slice A n c, .int .i8 k, .slice A' n' c'], .agg #[.func (Fn.func fl) #[] #[], .func (Fn.func fe) #[] #[], .func (Fn.func fa) #[] #[], .func (Fn.func fp) #[] #[]]] w fun e w' => e = .returned (.bool (P && R)) ∧ Below w.heap.size w w' := by
  obtain ⟨hR0, hR1, -⟩ := two_new w (.cells #[.int .i8 k, .slice A n c, .int .i8 k, .slice A' n' c'] 94) (.cells #[.func (Fn.func fl) #[] #[], .func (Fn.func fe) #[] #[], .func (Fn.func fa) #[] #[], .func (Fn.func fp) #[] #[]] 117)
  have hB := tell_boxes w (.cells #[.int .i8 k, .slice A n c, .int .i8 k, .slice A' n' c'] 94) (.cells #[.func (Fn.func fl) #[] #[], .func (Fn.func fe) #[] #[], .func (Fn.func fa) #[] #[], .func (Fn.func fp) #[] #[]] 117)
  generalize hw1 : (w.alloc (.cells #[.int .i8 k, .slice A n c, .int .i8 k, .slice A' n' c'] 94)).alloc (.cells #[.func (Fn.func fl) #[] #[], .func (Fn.func fe) #[] #[], .func (Fn.func fa) #[] #[], .func (Fn.func fp) #[] #[]] 117) = w1 at *
  have HW1 := Lib.hid hw1
  have HX1 := Lib.hid hR0
  have HY1 := Lib.hid hR1
  obtain ⟨b0, b1, b2, b3, -, -, -, -, hb0⟩ := own4 hR0
  clear hw1 hR0 hR1
  go_enter Tryz.func134, Tryz.ntmps134
  go_wp2_with fail
  rw [HW1.out]
  go_quiet (fail)
  have HB2 := Lib.hid (below_drewN hB nq)
  have hD := below_drewN (Below.refl w1.heap.size w1) nq
  have HX2 := Lib.hid (heap_below hD (heap_lt HX1.out) HX1.out)
  have HY2 := Lib.hid (heap_below hD (heap_lt HY1.out) HY1.out)
  clear hB hD b0 b1 b2 b3 hb0
  generalize w1.drewN nq = w2 at *
  obtain ⟨bb, oo, B1, c1, B2, c2, rfl, rfl, q1, q2, x0, x1, x2, x3, hi1, hi2⟩ := two_parts (hIs.below HB2.out)
  obtain ⟨bb', oo', B1', c1', B2', c2', rfl, rfl, q1', q2', y0, y1, y2, y3, hj1, hj2⟩ := two_parts (hIs'.below HB2.out)
  have D1 := Lib.hid (fun (u : World) (hE : Below w2.heap.size w2 u) => h1 B1 _ c1 B1' _ c1' u (hi1.below hE) (hj1.below hE) (hS.below (HB2.out.trans (hE.mono HB2.out.size))))
  have D2 := Lib.hid (fun (u : World) (hE : Below w2.heap.size w2 u) => h2 B2 _ c2 B2' _ c2' u (hi2.below hE) (hj2.below hE) (hS.below (HB2.out.trans (hE.mono HB2.out.size))))
  generalize Ty.len f1 = n1 at *
  generalize Ty.len f2 = n2 at *
  generalize Ty.len f1' = n1' at *
  generalize Ty.len f2' = n2' at *
  have hcp2 := hcp
  unfold CF at hcp2
  clear hIs hIs' hS h1 h2 hi1 hi2 hj1 hj2 hcp
  obtain ⟨b0, b1, b2, b3, -, -, -, -, hb0⟩ := own4 HX2.out
  obtain ⟨c0, c1', c2', c3, -, -, -, -, hc0⟩ := own4 HY2.out
  have X0 := later_cell x0
  have X1 := later_cell x1
  have X2 := later_cell x2
  have X3 := later_cell x3
  have Y0 := later_cell y0
  have Y1 := later_cell y1
  have Y2 := later_cell y2
  have Y3 := later_cell y3
  have BB0 := later_cell b0
  have BB1 := later_cell b1
  have BB2 := later_cell b2
  have BB3 := later_cell b3
  have CC2 := later_cell c2'
  have CC3 := later_cell c3
  rcases hk with rfl | rfl
  all_goals
    go_wp2_with fail
    clear x0 x1 x2 x3 y0 y1 y2 y3 b0 b1 b2 b3 hb0 c0 c1' c2' c3 hc0
    cases P
    all_goals
      refine wp_region_low (by kernel_rfl) (by kernel_rfl) ?_
      repeat
        first
          | go_big_quiet_skip
          | (go_big_quiet_want
             go_big_quiet_op
             first
               | go_big_quiet_on
               | (refine ⟨_, fun _ => rfl, ?_⟩
                  go_big_quiet_on)
               | (apply Exists.intro
                  refine ⟨fun h => ?_, ?_⟩
                  · first
                      | (with_reducible exact call_low h (D1.out h.u h.low))
                      | (with_reducible exact call_low h (D2.out h.u h.low))
                  go_big_quiet_on))
      refine wpQuiet_nil ?_
      rintro w9 ⟨⟨_, E⟩, rfl⟩
      go_wp2_with fail
      go_ret
      exact ⟨rfl, HB2.out.trans (E.mono HB2.out.size)⟩

end Go.Proofs.YtfkbdpehdabepaaGreatDoor
