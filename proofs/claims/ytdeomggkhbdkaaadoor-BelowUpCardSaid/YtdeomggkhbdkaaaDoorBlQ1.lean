/-
  The document's table: ways that call nothing; from a known type to ?.
-/
import Derived.Test.YtdeomggkhbdkaaaDoorBl0
import Derived.Test.YtdeomggkhbdkaaaDoorRefGd
import Derived.Test.YtdeomggkhbdkaaaDoorLow
import Derived.Deep.RegionHeld3
import Derived.Deep.DeepCutAuto
namespace Go.Proofs.YtdeomggkhbdkaaaDoor
open Go.RowKit

/-- what a function of two types tells of these two -/
def RQ (f : FuncId) (k : Int) (kids : Fo) (k' : Int) (kids' : Fo) (r : Bool) : Prop :=
  ∀ (A : Option Addr) (n c : Nat) (A' : Option Addr) (n' c' : Nat) (w : World), Ty.Is w k kids A n c → Ty.Is w k' kids' A' n' c' →
    Calls Tryd.prog f #[.agg #[.int .i8 k, .slice A n c], .agg #[.int .i8 k', .slice A' n' c']] w fun e w' => e = .returned (.bool r) ∧ Below w.heap.size w w'
theorem keepQ {w w2 : World} {X : Nat} {v0 v1 : Value} (h0 : w.cell? ⟨X, 0, none⟩ = some v0) (h1 : w.cell? ⟨X, 1, none⟩ = some v1) (hb : Below w.heap.size w w2) : w2.cell? ⟨X, 0, none⟩ = some v0 ∧ w2.cell? ⟨X, 1, none⟩ = some v1 :=
  ⟨by rw [hb.cell (p := ⟨X, 0, none⟩) (Ty.cell_lt h0)]; exact h0, by rw [hb.cell (p := ⟨X, 1, none⟩) (Ty.cell_lt h1)]; exact h1⟩
theorem two_keepQ {u : World} {X b o : Nat} {v v0 v1 : Value} (hX : b ≠ X) (hc : u.cell? ⟨b, o, none⟩ = some v) : ((u.setCell ⟨X, 0, none⟩ v0).setCell ⟨X, 1, none⟩ v1).cell? ⟨b, o, none⟩ = some v := by
  rw [World.cell?_of_block (w := u) (w' := (u.setCell ⟨X, 0, none⟩ v0).setCell ⟨X, 1, none⟩ v1) (by rw [Below.heap_setCell _ _ _ b hX, Below.heap_setCell _ _ _ b hX])]
  exact hc
/-- a ground stays where another block is written -/
theorem ground_keep {u : World} {X : Nat} {k : Int} {gs : Fo} {G : Option Addr} {m c : Nat} (hI : Ty.Is u k gs G m c) (hgs : gs = .nil ∨ gs = Ty.two 0 .nil 0 .nil) (hG : G = none ∨ ∃ g, G = some ⟨g, 0, none⟩ ∧ g ≠ X) (v0 v1 : Value) :
    Ty.Is ((u.setCell ⟨X, 0, none⟩ v0).setCell ⟨X, 1, none⟩ v1) k gs G m c := by
  refine ⟨?_, hI.n_eq, hI.n_le, hI.c_le, hI.lo, hI.hi⟩
  rcases hgs with rfl | rfl
  · trivial
  · have hl := hI.lies
    rcases hG with rfl | ⟨g, rfl, hg⟩
    · obtain ⟨_, _, _, _, h, _⟩ := hl
      cases h
    · obtain ⟨bb, oo, B1, c1, hA, hk1, x1, x2, l1, l2, l3, bb', oo', B2, c2, hA', hk2, y1, y2, m1, m2, m3, -⟩ := hl
      injection hA with hA
      injection hA with e1 e2
      injection hA' with hA'
      injection hA' with e3 e4
      subst e1 e2 e3 e4
      exact ⟨_, _, B1, c1, rfl, hk1, two_keepQ hg x1, two_keepQ hg x2, l1, l2, trivial, _, _, B2, c2, rfl, hk2, two_keepQ hg y1, two_keepQ hg y2, m1, m2, trivial, trivial⟩
set_option maxHeartbeats 4000000 in
set_option maxRecDepth 100000 in
theorem gd_any (k : Int) (kids : Fo) (A : Option Addr) (n c : Nat) (w : World) (hIs : Ty.Is w k kids A n c) (h0 : Ty.chk k kids = 0) :
    Calls Tryd.prog 37 #[.agg #[.int .i8 k, .slice A n c]] w fun e w' => ∃ G m cg, e = .returned (.agg #[.int .i8 k, .slice G m cg]) ∧ Ty.Is w' k (if 3 ≤ k then Ty.two 0 .nil 0 .nil else .nil) G m cg ∧ Below w.heap.size w w' := by
  have hB0 : Below w.heap.size w ((w.alloc (.cells #[.int .i8 k, .slice A n c] 25)).alloc (.cells #[.int .i8 0, .slice none 0 0] 25)) := ((Below.refl _ _).alloc (Nat.le_refl _) _).alloc (by simp) _
  obtain ⟨hR0, hR1, -⟩ := two_new w (.cells #[.int .i8 k, .slice A n c] 25) (.cells #[.int .i8 0, .slice none 0 0] 25)
  generalize hw1 : (w.alloc (.cells #[.int .i8 k, .slice A n c] 25)).alloc (.cells #[.int .i8 0, .slice none 0 0] 25) = w1 at *
  have HW1 := Lib.hid hw1
  have HB1 := Lib.hid hB0
  have HY1 := Lib.hid hR1
  have g1 : Ty.gK k kids = k := by unfold Ty.gK; rw [if_pos h0]
  have g3 : Ty.gKids k kids = if 3 ≤ k then Ty.two 0 .nil 0 .nil else .nil := by unfold Ty.gKids; simp [h0]
  have hgs : (if 3 ≤ k then Ty.two 0 .nil 0 .nil else (.nil : Fo)) = .nil ∨ (if 3 ≤ k then Ty.two 0 .nil 0 .nil else (.nil : Fo)) = Ty.two 0 .nil 0 .nil := by
    by_cases h3 : 3 ≤ k
    · rw [if_pos h3]; exact .inr rfl
    · rw [if_neg h3]; exact .inl rfl
  generalize (if 3 ≤ k then Ty.two 0 .nil 0 .nil else (.nil : Fo)) = gs at *
  have hsz : w1.heap.size = w.heap.size + 2 := by rw [← hw1]; simp
  have HSZ := Lib.hid hsz
  have HGS := Lib.hid hgs
  have CG := Lib.hid (ref_ground k kids A n c w1 (hIs.below hB0))
  have HG := Lib.hid (And.intro g1 g3)
  obtain ⟨b0, b1, _, _, hb0⟩ := own2 hR0
  clear hw1 hB0 hR0 hR1 hIs h0 g1 g3 hsz hgs
  go_enter Tryd.func37, Tryd.ntmps37
  go_upto_region 1 with fail
  rw [HW1.out]
  go_wp2_with fail
  refine CG.out.mono ?_
  rintro e w3 ⟨G, m, cg, rfl, hI, hG, hb⟩
  have HGG := Lib.hid (show G = none ∨ ∃ g, G = some ⟨g, 0, none⟩ ∧ g ≠ w.heap.size + 1 from hG.imp id (fun ⟨g, e, h1, _⟩ => ⟨g, e, by have := HSZ.out; omega⟩))
  clear hG
  obtain ⟨g1, g3⟩ := HG.out
  rw [g1, g3] at hI
  rw [g1]
  have hb4 : Below w3.heap.size w3 (w3.alloc (.cells #[.int .i8 k, .slice G m cg] 25)) := (Below.refl _ _).alloc (Nat.le_refl _) _
  have hY3 := heap_below hb (heap_lt HY1.out) HY1.out
  have HY4 := Lib.hid (heap_below hb4 (heap_lt hY3) hY3)
  have HZ4 := Lib.hid (heap_new w3 (.cells #[.int .i8 k, .slice G m cg] 25))
  have HB4 := Lib.hid (HB1.out.trans ((hb.trans (hb4.mono hb.size)).mono HB1.out.size))
  have HI4 := Lib.hid (hI.below hb4)
  clear hb hb4 hY3 hI b0 b1 hb0 CG HG g1 g3 HY1 HB1
  go_upto_region 2 with fail
  generalize w3.alloc (.cells #[.int .i8 k, .slice G m cg] 25) = w4 at *
  obtain ⟨y0, y1, f0, f1, hyl⟩ := own2 HY4.out
  obtain ⟨z0, z1, _, _, hzl⟩ := own2 HZ4.out
  have hBe : Below w.heap.size w ((w4.setCell ⟨w.heap.size + 1, 0, none⟩ (.int .i8 k)).setCell ⟨w.heap.size + 1, 1, none⟩ (.slice G m cg)) := (HB4.out.setCell (by simp) _).setCell (by simp) _
  have hIe := Lib.hid (ground_keep (X := w.heap.size + 1) HI4.out HGS.out HGG.out (.int .i8 k) (.slice G m cg))
  have hBe := Lib.hid hBe
  go_wp2_with fail
  refine bodyPost_ret (v := .agg #[.int .i8 k, .slice G m cg]) (by simp [results, Tryd.results37, go_sem, *]) rfl ⟨G, m, cg, rfl, ?_, ?_⟩
  · exact hIe.out
  · exact hBe.out

set_option maxHeartbeats 4000000 in
set_option maxRecDepth 100000 in
theorem q0_plain (k : Int) (A : Option Addr) (n c : Nat) (k' : Int) (A' : Option Addr) (n' c' : Nat) (w : World) (r : Bool) (h : (k = 0 ∧ k' = 0 ∧ r = true) ∨ (k = 0 ∧ k' ≠ 0 ∧ r = false) ∨ (k ≠ 0 ∧ k' ≠ 0 ∧ k ≠ k' ∧ r = false) ∨ (k ≠ 0 ∧ k = k' ∧ (k = 1 ∨ k = 2) ∧ r = true)) :
    Calls Tryd.prog 23 #[.agg #[.int .i8 k, .slice A n c], .agg #[.int .i8 k', .slice A' n' c']] w fun e w' => e = .returned (.bool r) ∧ Below w.heap.size w w' := by
  obtain ⟨hB0, hR0, hR1⟩ := two_boxes w k A n c k' A' n' c'
  generalize hw1 : (w.alloc (.cells #[.int .i8 k, .slice A n c] 25)).alloc (.cells #[.int .i8 k', .slice A' n' c'] 25) = w1 at *
  have HW1 := Lib.hid hw1
  have HB1 := Lib.hid hB0
  have HX1 := Lib.hid hR0
  have HY1 := Lib.hid hR1
  obtain ⟨b0, b1, _, _, hb0⟩ := own2 hR0
  obtain ⟨c0, c1, _, _, hc0⟩ := own2 hR1
  clear hw1 hB0 hR0 hR1
  go_enter Tryd.func23, Tryd.ntmps23
  go_upto_region 1 with fail
  rw [HW1.out]
  rcases h with ⟨rfl, rfl, rfl⟩ | ⟨rfl, h2, rfl⟩ | ⟨h1, h2, h3, rfl⟩ | ⟨h1, rfl, rfl | rfl, rfl⟩
  · go_wp2_with fail
    go_ret
    exact ⟨rfl, HB1.out⟩
  · have e2 : (k' == 0) = false := by simpa using h2
    go_wp2_with fail
    go_ret
    exact ⟨rfl, HB1.out⟩
  · have e1 : (k == 0) = false := by simpa using h1
    have e2 : (k' == 0) = false := by simpa using h2
    have e3 : (k != k') = true := by simpa using h3
    go_wp2_with fail
    go_ret
    exact ⟨rfl, HB1.out⟩
  · go_wp2_with fail
    go_ret
    exact ⟨rfl, HB1.out⟩
  · go_wp2_with fail
    go_ret
    exact ⟨rfl, HB1.out⟩

set_option maxHeartbeats 4000000 in
set_option maxRecDepth 100000 in
theorem q1_plain (k : Int) (A : Option Addr) (n c : Nat) (k' : Int) (A' : Option Addr) (n' c' : Nat) (w : World) (r : Bool) (h : (k = 0 ∧ k' = 0 ∧ r = true) ∨ (k = 0 ∧ k' ≠ 0 ∧ r = false) ∨ (k ≠ 0 ∧ k' ≠ 0 ∧ k ≠ k' ∧ r = false) ∨ (k ≠ 0 ∧ k = k' ∧ (k = 1 ∨ k = 2) ∧ r = true) ∨ (k ≠ 0 ∧ k' = 0 ∧ r = true)) :
    Calls Tryd.prog 25 #[.agg #[.int .i8 k, .slice A n c], .agg #[.int .i8 k', .slice A' n' c']] w fun e w' => e = .returned (.bool r) ∧ Below w.heap.size w w' := by
  obtain ⟨hB0, hR0, hR1⟩ := two_boxes w k A n c k' A' n' c'
  generalize hw1 : (w.alloc (.cells #[.int .i8 k, .slice A n c] 25)).alloc (.cells #[.int .i8 k', .slice A' n' c'] 25) = w1 at *
  have HW1 := Lib.hid hw1
  have HB1 := Lib.hid hB0
  have HX1 := Lib.hid hR0
  have HY1 := Lib.hid hR1
  obtain ⟨b0, b1, _, _, hb0⟩ := own2 hR0
  obtain ⟨c0, c1, _, _, hc0⟩ := own2 hR1
  clear hw1 hB0 hR0 hR1
  go_enter Tryd.func25, Tryd.ntmps25
  go_upto_region 1 with fail
  rw [HW1.out]
  rcases h with ⟨rfl, rfl, rfl⟩ | ⟨rfl, h2, rfl⟩ | ⟨h1, h2, h3, rfl⟩ | ⟨h1, rfl, rfl | rfl, rfl⟩ | ⟨h1, rfl, rfl⟩
  · go_wp2_with fail
    go_ret
    exact ⟨rfl, HB1.out⟩
  · have e2 : (k' == 0) = false := by simpa using h2
    go_wp2_with fail
    go_ret
    exact ⟨rfl, HB1.out⟩
  · have e1 : (k == 0) = false := by simpa using h1
    have e2 : (k' == 0) = false := by simpa using h2
    have e3 : (k != k') = true := by simpa using h3
    go_wp2_with fail
    go_ret
    exact ⟨rfl, HB1.out⟩
  · go_wp2_with fail
    go_ret
    exact ⟨rfl, HB1.out⟩
  · go_wp2_with fail
    go_ret
    exact ⟨rfl, HB1.out⟩
  · have e1 : (k == 0) = false := by simpa using h1
    go_wp2_with fail
    go_ret
    exact ⟨rfl, HB1.out⟩

set_option maxHeartbeats 4000000 in
set_option maxRecDepth 100000 in
theorem q2_plain (k : Int) (A : Option Addr) (n c : Nat) (k' : Int) (A' : Option Addr) (n' c' : Nat) (w : World) (r : Bool) (h : (k = 0 ∧ k' = 0 ∧ r = true) ∨ (k = 0 ∧ k' ≠ 0 ∧ r = true) ∨ (k ≠ 0 ∧ k' ≠ 0 ∧ k ≠ k' ∧ r = false) ∨ (k ≠ 0 ∧ k = k' ∧ (k = 1 ∨ k = 2) ∧ r = true)) :
    Calls Tryd.prog 27 #[.agg #[.int .i8 k, .slice A n c], .agg #[.int .i8 k', .slice A' n' c']] w fun e w' => e = .returned (.bool r) ∧ Below w.heap.size w w' := by
  obtain ⟨hB0, hR0, hR1⟩ := two_boxes w k A n c k' A' n' c'
  generalize hw1 : (w.alloc (.cells #[.int .i8 k, .slice A n c] 25)).alloc (.cells #[.int .i8 k', .slice A' n' c'] 25) = w1 at *
  have HW1 := Lib.hid hw1
  have HB1 := Lib.hid hB0
  have HX1 := Lib.hid hR0
  have HY1 := Lib.hid hR1
  obtain ⟨b0, b1, _, _, hb0⟩ := own2 hR0
  obtain ⟨c0, c1, _, _, hc0⟩ := own2 hR1
  clear hw1 hB0 hR0 hR1
  go_enter Tryd.func27, Tryd.ntmps27
  go_upto_region 1 with fail
  rw [HW1.out]
  rcases h with ⟨rfl, rfl, rfl⟩ | ⟨rfl, h2, rfl⟩ | ⟨h1, h2, h3, rfl⟩ | ⟨h1, rfl, rfl | rfl, rfl⟩
  · go_wp2_with fail
    go_ret
    exact ⟨rfl, HB1.out⟩
  · have e2 : (k' == 0) = false := by simpa using h2
    go_wp2_with fail
    go_ret
    exact ⟨rfl, HB1.out⟩
  · have e1 : (k == 0) = false := by simpa using h1
    have e2 : (k' == 0) = false := by simpa using h2
    have e3 : (k != k') = true := by simpa using h3
    go_wp2_with fail
    go_ret
    exact ⟨rfl, HB1.out⟩
  · go_wp2_with fail
    go_ret
    exact ⟨rfl, HB1.out⟩
  · go_wp2_with fail
    go_ret
    exact ⟨rfl, HB1.out⟩

set_option maxHeartbeats 4000000 in
set_option maxRecDepth 100000 in
theorem q0_leave (k : Int) (kids : Fo) (A : Option Addr) (n c : Nat) (A' : Option Addr) (n' c' : Nat) (w : World) (r : Bool) (hIs : Ty.Is w k kids A n c) (h0 : Ty.chk k kids = 0) (hk : k ≠ 0) (hL : RQ 23 k kids k (if 3 ≤ k then Ty.two 0 .nil 0 .nil else .nil) r) :
    Calls Tryd.prog 23 #[.agg #[.int .i8 k, .slice A n c], .agg #[.int .i8 0, .slice A' n' c']] w fun e w' => e = .returned (.bool r) ∧ Below w.heap.size w w' := by
  have e1 : (k == 0) = false := by simpa using hk
  obtain ⟨hB0, hR0, hR1⟩ := two_boxes w k A n c 0 A' n' c'
  generalize hw1 : (w.alloc (.cells #[.int .i8 k, .slice A n c] 25)).alloc (.cells #[.int .i8 0, .slice A' n' c'] 25) = w1 at *
  have HW1 := Lib.hid hw1
  have HB1 := Lib.hid hB0
  have HX1 := Lib.hid hR0
  have HY1 := Lib.hid hR1
  obtain ⟨b0, b1, _, _, hb0⟩ := own2 hR0
  obtain ⟨c0, c1, _, _, hc0⟩ := own2 hR1
  clear hw1 hB0 hR0 hR1
  go_enter Tryd.func23, Tryd.ntmps23
  go_upto_region 1 with fail
  rw [HW1.out]
  have CG := Lib.hid (fun (u : World) (hE : Below w1.heap.size w1 u) => gd_any k kids A n c u (hIs.below (HB1.out.trans (hE.mono HB1.out.size))) h0)
  have CL := Lib.hid (fun (u : World) (hE : Below w1.heap.size w1 u) (G : Option Addr) (m cg : Nat) (hI : Ty.Is u k (if 3 ≤ k then Ty.two 0 .nil 0 .nil else .nil) G m cg) => hL A n c G m cg u (hIs.below (HB1.out.trans (hE.mono HB1.out.size))) hI)
  clear hIs h0 hk hL
  go_wp2_with fail
  clear c0 c1 hc0
  have D0 : Below w1.heap.size w1 w1.drew := (Below.refl _ _).drew
  go_region_held3 (fun w' => w'.cell? ⟨w.heap.size, 0, none⟩ = some (.int .i8 k) ∧ w'.cell? ⟨w.heap.size, 1, none⟩ = some (.slice A n c))
    (first | exact keepQ b0 b1 D2 | exact keepQ b0 b1 D1 | exact keepQ b0 b1 D0 | go_keep)
    (first
      | (go_at_call 37; (with_reducible refine (CG.out _ D0).mono ?_); rintro e u1 ⟨G, mm, cg, rfl, hI, hb⟩; have D1 := D0.trans (hb.mono D0.size); have HI := Lib.hid hI; clear hb hI)
      | (go_at_call 23; (with_reducible refine (CL.out _ D1 G mm cg HI.out).mono ?_); rintro e u2 ⟨rfl, hb⟩; have D2 := D1.trans (hb.mono D1.size); clear hb))
  go_wp2_with fail
  go_ret
  exact ⟨rfl, HB1.out.trans (D2.mono HB1.out.size)⟩

set_option maxHeartbeats 4000000 in
set_option maxRecDepth 100000 in
theorem q2_leave (k : Int) (kids : Fo) (A : Option Addr) (n c : Nat) (A' : Option Addr) (n' c' : Nat) (w : World) (r : Bool) (hIs : Ty.Is w k kids A n c) (h0 : Ty.chk k kids = 0) (hk : k ≠ 0) (hL : RQ 27 k kids k (if 3 ≤ k then Ty.two 0 .nil 0 .nil else .nil) r) :
    Calls Tryd.prog 27 #[.agg #[.int .i8 k, .slice A n c], .agg #[.int .i8 0, .slice A' n' c']] w fun e w' => e = .returned (.bool r) ∧ Below w.heap.size w w' := by
  have e1 : (k == 0) = false := by simpa using hk
  obtain ⟨hB0, hR0, hR1⟩ := two_boxes w k A n c 0 A' n' c'
  generalize hw1 : (w.alloc (.cells #[.int .i8 k, .slice A n c] 25)).alloc (.cells #[.int .i8 0, .slice A' n' c'] 25) = w1 at *
  have HW1 := Lib.hid hw1
  have HB1 := Lib.hid hB0
  have HX1 := Lib.hid hR0
  have HY1 := Lib.hid hR1
  obtain ⟨b0, b1, _, _, hb0⟩ := own2 hR0
  obtain ⟨c0, c1, _, _, hc0⟩ := own2 hR1
  clear hw1 hB0 hR0 hR1
  go_enter Tryd.func27, Tryd.ntmps27
  go_upto_region 1 with fail
  rw [HW1.out]
  have CG := Lib.hid (fun (u : World) (hE : Below w1.heap.size w1 u) => gd_any k kids A n c u (hIs.below (HB1.out.trans (hE.mono HB1.out.size))) h0)
  have CL := Lib.hid (fun (u : World) (hE : Below w1.heap.size w1 u) (G : Option Addr) (m cg : Nat) (hI : Ty.Is u k (if 3 ≤ k then Ty.two 0 .nil 0 .nil else .nil) G m cg) => hL A n c G m cg u (hIs.below (HB1.out.trans (hE.mono HB1.out.size))) hI)
  clear hIs h0 hk hL
  go_wp2_with fail
  clear c0 c1 hc0
  have D0 : Below w1.heap.size w1 w1.drew := (Below.refl _ _).drew
  go_region_held3 (fun w' => w'.cell? ⟨w.heap.size, 0, none⟩ = some (.int .i8 k) ∧ w'.cell? ⟨w.heap.size, 1, none⟩ = some (.slice A n c))
    (first | exact keepQ b0 b1 D2 | exact keepQ b0 b1 D1 | exact keepQ b0 b1 D0 | go_keep)
    (first
      | (go_at_call 37; (with_reducible refine (CG.out _ D0).mono ?_); rintro e u1 ⟨G, mm, cg, rfl, hI, hb⟩; have D1 := D0.trans (hb.mono D0.size); have HI := Lib.hid hI; clear hb hI)
      | (go_at_call 27; (with_reducible refine (CL.out _ D1 G mm cg HI.out).mono ?_); rintro e u2 ⟨rfl, hb⟩; have D2 := D1.trans (hb.mono D1.size); clear hb))
  go_wp2_with fail
  go_ret
  exact ⟨rfl, HB1.out.trans (D2.mono HB1.out.size)⟩

end Go.Proofs.YtdeomggkhbdkaaaDoor
