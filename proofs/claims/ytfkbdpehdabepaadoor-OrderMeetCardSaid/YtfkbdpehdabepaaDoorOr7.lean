/-
  The document's meet, Meet; the law's kind and met.
-/
import Derived.Test.YtfkbdpehdabepaaDoorKc
import Derived.Test.YtfkbdpehdabepaaDoorOr6
import Derived.Deep.RegionHeld3
namespace Go.Proofs.YtfkbdpehdabepaaDoor
open Go.RowKit

theorem keep_cell2 {w1 W : World} {b o r o1 o2 : Nat} {v x y : Value} {ob : Obj} (h : w1.cell? ⟨b, o, none⟩ = some v) (hb : Below w1.heap.size w1 W) (hne : r ≠ b) : (((W.setCell ⟨r, o1, none⟩ x).setCell ⟨r, o2, none⟩ y).alloc ob).cell? ⟨b, o, none⟩ = some v := by
  have h2 : ((W.setCell ⟨r, o1, none⟩ x).setCell ⟨r, o2, none⟩ y).cell? ⟨b, o, none⟩ = some v := by
    rw [World.cell?_setCell_other _ _ _ _ (fun e => hne (by injection e)), World.cell?_setCell_other _ _ _ _ (fun e => hne (by injection e))]
    exact keep_cell h hb
  exact keep_cell h2 ((Below.refl _ _).alloc (Nat.le_refl _) _)
theorem LiesP_at {P : Nat → Prop} {w : World} {a b : Nat} {k : Int} {f r : Fo} {bb oo : Nat} {i : Nat} (h : Ty.LiesP P w (.node a b k f r) (some ⟨bb, oo, none⟩) i) : P bb := by
  obtain ⟨b', o', _, _, e, hP, -⟩ := h
  injection e with e; injection e with e1 e2; rw [e1]; exact hP
theorem IsP_later {P : Nat → Prop} {w w' : World} {k : Int} {kids : Fo} {A : Option Addr} {n c : Nat} (h : Ty.IsP P w k kids A n c) (hb : Below w.heap.size w w') : Ty.IsP P w' k kids A n c :=
  h.to fun b o v hP hc => ⟨hP, by rw [hb.cell (p := ⟨b, o, none⟩) (Ty.cell_lt hc)]; exact hc⟩
theorem IsP_weak {P P' : Nat → Prop} {w : World} {k : Int} {kids : Fo} {A : Option Addr} {n c : Nat} (h : Ty.IsP P w k kids A n c) (hp : ∀ b, P b → P' b) : Ty.IsP P' w k kids A n c := h.to fun b _ _ hP hc => ⟨hp b hP, hc⟩
/-- two cells of one block turn, in which nothing of it lies -/
theorem IsP_sets {P : Nat → Prop} {w : World} {k : Int} {kids : Fo} {A : Option Addr} {n c r o1 o2 : Nat} (h : Ty.IsP P w k kids A n c) (hr : ∀ b, P b → r ≠ b) (x y : Value) : Ty.IsP P ((w.setCell ⟨r, o1, none⟩ x).setCell ⟨r, o2, none⟩ y) k kids A n c :=
  h.to fun b o v hP hc => ⟨hP, by rw [World.cell?_setCell_other _ _ _ _ (fun e => hr b hP (by injection e)), World.cell?_setCell_other _ _ _ _ (fun e => hr b hP (by injection e))]; exact hc⟩

/-- two types in a new row, a box turned beside -/
theorem two_end {Q : Nat → Prop} {u : World} {r a1 a2 a3 a4 : Nat} {k k1 k2 : Int} {f1 f2 : Fo} {A B : Option Addr} {n1 c1 n2 c2 : Nat} {x y : Value} (h1 : Ty.IsP Q u k1 f1 A n1 c1) (h2 : Ty.IsP Q u k2 f2 B n2 c2) (hr : ∀ b, Q b → r ≠ b) (hQ : Q u.heap.size) (hk : -128 ≤ k ∧ k ≤ 127) :
    Ty.IsP Q (((u.setCell ⟨r, 0, none⟩ x).setCell ⟨r, 1, none⟩ y).alloc (.cells #[.int .i8 k1, .slice A n1 c1, .int .i8 k2, .slice B n2 c2] 25)) k (.node a1 a2 k1 f1 (.node a3 a4 k2 f2 .nil)) (some ⟨u.heap.size, 0, none⟩) 2 2 := by
  have hn := heap_new ((u.setCell ⟨r, 0, none⟩ x).setCell ⟨r, 1, none⟩ y) (.cells #[.int .i8 k1, .slice A n1 c1, .int .i8 k2, .slice B n2 c2] 25)
  rw [show ((u.setCell ⟨r, 0, none⟩ x).setCell ⟨r, 1, none⟩ y).heap.size = u.heap.size by simp [World.setCell]] at hn
  have g1 := IsP_later (IsP_sets (o1 := 0) (o2 := 1) h1 hr x y) ((Below.refl _ _).alloc (Nat.le_refl _) (.cells #[.int .i8 k1, .slice A n1 c1, .int .i8 k2, .slice B n2 c2] 25))
  have g2 := IsP_later (IsP_sets (o1 := 0) (o2 := 1) h2 hr x y) ((Below.refl _ _).alloc (Nat.le_refl _) (.cells #[.int .i8 k1, .slice A n1 c1, .int .i8 k2, .slice B n2 c2] 25))
  obtain ⟨c0, c1', c2', c3, -⟩ := own4 hn
  refine ⟨⟨u.heap.size, 0, A, c1, rfl, hQ, ⟨h1.lo, h1.hi⟩, by simpa using c0, by rw [← h1.n_eq]; simpa using c1', by rw [← h1.n_eq]; exact h1.n_le, h1.c_le, g1.lies, ?_⟩, rfl, Nat.le_refl _, by unfold maxLen; omega, hk.1, hk.2⟩
  exact ⟨u.heap.size, 0, B, c2, rfl, hQ, ⟨h2.lo, h2.hi⟩, by simpa using c2', by rw [← h2.n_eq]; simpa using c3, by rw [← h2.n_eq]; exact h2.n_le, h2.c_le, g2.lies, trivial⟩

set_option maxHeartbeats 4000000 in
set_option maxRecDepth 100000 in
theorem qmeet_any (K : Nat) : ∀ (k : Int) (kids : Fo) (A : Option Addr) (n c : Nat) (k' : Int) (kids' : Fo) (A' : Option Addr) (n' c' : Nat) (P : Nat → Prop) (w : World), Ty.nodes kids < K → Ty.IsP P w k kids A n c → Ty.IsP P w k' kids' A' n' c' → (∀ b, P b → b < w.heap.size) →
    Ty.okT k kids = true → Ty.okT k' kids' = true → Ty.agT k kids k' kids' = true →
    Calls Tryd.prog 27 #[.agg #[.int .i8 k, .slice A n c], .agg #[.int .i8 k', .slice A' n' c']] w fun e w' => ∃ G m c2, e = .returned (.agg #[.int .i8 (Ty.mK k k'), .slice G m c2]) ∧ Ty.IsP (fun b => P b ∨ w.heap.size + 3 ≤ b) w' (Ty.mK k k') (Ty.mT k kids k' kids') G m c2 ∧ Below w.heap.size w w' := by
  induction K with
  | zero => intro _ _ _ _ _ _ _ _ _ _ _ _ h; omega
  | succ K ih =>
    intro k kids A n c k' kids' A' n' c' P w hK hIs hIs' hPP ho ho' hag
    have i5 : (n : Int) ≤ 9223372036854775807 := by have h1 := hIs.n_le; have h2 := hIs.c_le; unfold maxLen at h2; omega
    obtain ⟨hA0, hA1, hA2, hsz⟩ := three_new w (.cells #[.int .i8 k, .slice A n c] 25) (.cells #[.int .i8 k', .slice A' n' c'] 25) (.cells #[.int .i8 0, .slice none 0 0] 25)
    have hB1 := below_three w (.cells #[.int .i8 k, .slice A n c] 25) (.cells #[.int .i8 k', .slice A' n' c'] 25) (.cells #[.int .i8 0, .slice none 0 0] 25)
    generalize hw1 : ((w.alloc (.cells #[.int .i8 k, .slice A n c] 25)).alloc (.cells #[.int .i8 k', .slice A' n' c'] 25)).alloc (.cells #[.int .i8 0, .slice none 0 0] 25) = w1 at *
    have HW1 := Lib.hid hw1
    have HB1 := Lib.hid hB1
    have HX := Lib.hid hA0
    have HY := Lib.hid hA1
    have HZ := Lib.hid hA2
    have HSZ := Lib.hid hsz
    have HI := Lib.hid (IsP_later hIs hB1)
    have HI' := Lib.hid (IsP_later hIs' hB1)
    have IH := Lib.hid ih
    have HPP := Lib.hid hPP
    have HNE := Lib.hid (show ∀ b, P b ∨ w.heap.size + 3 ≤ b → w.heap.size + 1 + 1 ≠ b from fun b h e => by rcases h with h | h; have := hPP b h; omega; omega)
    have HEND := Lib.hid (fun (W : World) (hb : Below w.heap.size w W) (x y : Value) => (hb.setCell (p := ⟨w.heap.size + 1 + 1, 0, none⟩) (by simp; omega) x).setCell (p := ⟨w.heap.size + 1 + 1, 1, none⟩) (by simp; omega) y)
    clear hA0 hA1 hA2 hsz hB1 hw1 hIs hIs' ih hPP
    obtain ⟨x0, x1, _, _, hxl⟩ := own2 HX.out
    obtain ⟨y0, y1, _, _, hyl⟩ := own2 HY.out
    obtain ⟨r0, r1, r2, r3, hrl⟩ := own2 HZ.out
    by_cases hk0 : k = 0
    · subst hk0
      clear ho ho' hag
      go_enter Tryd.func27, Tryd.ntmps27
      go_upto_region 1 with fail
      rw [HW1.out]
      go_wp2_with fail
      refine bodyPost_ret (v := .agg #[.int .i8 k', .slice A' n' c']) (by simp [results, Tryd.results27, go_sem, *]) rfl ⟨A', n', c', rfl, ?_, HEND.out _ HB1.out _ _⟩
      exact IsP_sets (IsP_weak HI'.out fun b h => .inl h) HNE.out _ _
    have hz : (k == 0) = false := by simpa using hk0
    by_cases hk0' : k' = 0
    · subst hk0'
      have HK0 := Lib.hid hk0
      rw [Ty.mK_ne _ hk0, Ty.mT_zero' _ _ hk0]
      clear ho ho' hag hk0
      go_enter Tryd.func27, Tryd.ntmps27
      go_upto_region 1 with fail
      rw [HW1.out]
      go_wp2_with fail
      refine bodyPost_ret (v := .agg #[.int .i8 k, .slice A n c]) (by simp [results, Tryd.results27, go_sem, *]) rfl ⟨A, n, c, rfl, ?_, HEND.out _ HB1.out _ _⟩
      exact IsP_sets (IsP_weak HI.out fun b h => .inl h) HNE.out _ _
    obtain rfl : k = k' := by
      by_cases e : k = k'
      · exact e
      · rw [Ty.agT_ne _ _ hk0 hk0' e] at hag; cases hag
    rw [Ty.mK_ne _ hk0]
    rw [Ty.agT_eq _ _ hk0] at hag
    by_cases hlow : k ≤ 2
    · obtain rfl := Ty.none_of ho hlow
      obtain rfl := Ty.none_of ho' hlow
      obtain rfl : n = 0 := HI.out.n_eq
      have hm : Ty.mT k .nil k .nil = .nil := by rw [Ty.mT_two _ _ hk0 hk0]; rfl
      rw [hm]
      clear ho ho' hag hlow hk0 hk0' hm
      go_enter Tryd.func27, Tryd.ntmps27
      go_upto_region 1 with fail
      rw [HW1.out]
      go_wp2_with fail
      refine bodyPost_ret (v := .agg #[.int .i8 k, .slice A 0 c]) (by simp [results, Tryd.results27, go_sem, *]) rfl ⟨A, 0, c, rfl, ?_, HEND.out _ HB1.out _ _⟩
      exact IsP_sets (IsP_weak HI.out fun b h => .inl h) HNE.out _ _
    obtain ⟨a1, a2, p1, f1, a3, a4, p2, f2, rfl, o1, o2⟩ := Ty.two_of ho (by omega)
    obtain ⟨a1', a2', p1', f1', a3', a4', p2', f2', rfl, o1', o2'⟩ := Ty.two_of ho' (by omega)
    have hag2 : Ty.agT p1 f1 p1' f1' = true ∧ Ty.agT p2 f2 p2' f2' = true := by
      unfold Ty.agT
      simpa [Ty.agF] using hag
    have hm : Ty.mT k (.node a1 a2 p1 f1 (.node a3 a4 p2 f2 .nil)) k (.node a1' a2' p1' f1' (.node a3' a4' p2' f2' .nil)) = .node a1 a2 (Ty.mK p1 p1') (Ty.mT p1 f1 p1' f1') (.node a3 a4 (Ty.mK p2 p2') (Ty.mT p2 f2 p2' f2') .nil) := by
      rw [Ty.mT_two _ _ hk0 hk0]; rfl
    rw [hm]
    have HR := Lib.hid (And.intro HI.out.lo HI.out.hi)
    obtain rfl : n = 2 := HI.out.n_eq
    obtain rfl : n' = 2 := HI'.out.n_eq
    simp only [Ty.nodes] at hK
    obtain ⟨bb, oo, B1, c1, B2, c2, rfl, z0, z1, z2, z3, i1, i2⟩ := Ty.LiesP.two HI.out.lies
    obtain ⟨bb', oo', B1', c1', B2', c2', rfl, u0, u1, u2, u3, i1', i2'⟩ := Ty.LiesP.two HI'.out.lies
    have hbb : w.heap.size + 1 + 1 ≠ bb := by have := HPP.out _ (LiesP_at HI.out.lies); omega
    have hbb' : w.heap.size + 1 + 1 ≠ bb' := by have := HPP.out _ (LiesP_at HI'.out.lies); omega
    have HZ2 := Lib.hid (And.intro hbb hbb')
    clear hbb hbb'
    have hz' : (k == 0) = false := hz
    have HAA := Lib.hid (fun (W : World) (hb : Below w1.heap.size w1 W) => IH.out p1 f1 B1 _ c1 p1' f1' B1' _ c1' P W (by omega) (IsP_later i1 hb) (IsP_later i1' hb) (fun b h => Nat.lt_of_lt_of_le (HPP.out b h) (Nat.le_trans HB1.out.size hb.size)) o1 o1' hag2.1)
    have HBB := Lib.hid (fun (W : World) (hb : Below w1.heap.size w1 W) => IH.out p2 f2 B2 _ c2 p2' f2' B2' _ c2' P W (by omega) (IsP_later i2 hb) (IsP_later i2' hb) (fun b h => Nat.lt_of_lt_of_le (HPP.out b h) (Nat.le_trans HB1.out.size hb.size)) o2 o2' hag2.2)
    have D := (Below.refl w1.heap.size w1).drew
    have HK3 := Lib.hid (fun (W : World) (hb : Below w1.heap.size w1 W) (x y : Value) (ob : Obj) => (show (((W.setCell ⟨w.heap.size + 1 + 1, 0, none⟩ x).setCell ⟨w.heap.size + 1 + 1, 1, none⟩ y).alloc ob).cell? ⟨w.heap.size, 0, none⟩ = some (.int .i8 k) ∧ (((W.setCell ⟨w.heap.size + 1 + 1, 0, none⟩ x).setCell ⟨w.heap.size + 1 + 1, 1, none⟩ y).alloc ob).cell? ⟨w.heap.size, 1, none⟩ = some (.slice (some ⟨bb, oo, none⟩) 2 c) ∧ (((W.setCell ⟨w.heap.size + 1 + 1, 0, none⟩ x).setCell ⟨w.heap.size + 1 + 1, 1, none⟩ y).alloc ob).cell? ⟨w.heap.size + 1, 1, none⟩ = some (.slice (some ⟨bb', oo', none⟩) 2 c') ∧
      (((W.setCell ⟨w.heap.size + 1 + 1, 0, none⟩ x).setCell ⟨w.heap.size + 1 + 1, 1, none⟩ y).alloc ob).cell? ⟨bb, oo, none⟩ = some (.int .i8 p1) ∧ (((W.setCell ⟨w.heap.size + 1 + 1, 0, none⟩ x).setCell ⟨w.heap.size + 1 + 1, 1, none⟩ y).alloc ob).cell? ⟨bb, oo + 1, none⟩ = some (.slice B1 (Ty.len f1) c1) ∧ (((W.setCell ⟨w.heap.size + 1 + 1, 0, none⟩ x).setCell ⟨w.heap.size + 1 + 1, 1, none⟩ y).alloc ob).cell? ⟨bb, oo + 2, none⟩ = some (.int .i8 p2) ∧ (((W.setCell ⟨w.heap.size + 1 + 1, 0, none⟩ x).setCell ⟨w.heap.size + 1 + 1, 1, none⟩ y).alloc ob).cell? ⟨bb, oo + 3, none⟩ = some (.slice B2 (Ty.len f2) c2) ∧
      (((W.setCell ⟨w.heap.size + 1 + 1, 0, none⟩ x).setCell ⟨w.heap.size + 1 + 1, 1, none⟩ y).alloc ob).cell? ⟨bb', oo', none⟩ = some (.int .i8 p1') ∧ (((W.setCell ⟨w.heap.size + 1 + 1, 0, none⟩ x).setCell ⟨w.heap.size + 1 + 1, 1, none⟩ y).alloc ob).cell? ⟨bb', oo' + 1, none⟩ = some (.slice B1' (Ty.len f1') c1') ∧ (((W.setCell ⟨w.heap.size + 1 + 1, 0, none⟩ x).setCell ⟨w.heap.size + 1 + 1, 1, none⟩ y).alloc ob).cell? ⟨bb', oo' + 2, none⟩ = some (.int .i8 p2') ∧ (((W.setCell ⟨w.heap.size + 1 + 1, 0, none⟩ x).setCell ⟨w.heap.size + 1 + 1, 1, none⟩ y).alloc ob).cell? ⟨bb', oo' + 3, none⟩ = some (.slice B2' (Ty.len f2') c2') from
      ⟨keep_cell2 x0 hb (by omega), keep_cell2 x1 hb (by omega), keep_cell2 y1 hb (by omega), keep_cell2 z0 hb HZ2.out.1, keep_cell2 z1 hb HZ2.out.1, keep_cell2 z2 hb HZ2.out.1, keep_cell2 z3 hb HZ2.out.1, keep_cell2 u0 hb HZ2.out.2, keep_cell2 u1 hb HZ2.out.2, keep_cell2 u2 hb HZ2.out.2, keep_cell2 u3 hb HZ2.out.2⟩))
    have HK := Lib.hid (fun (W : World) (hb : Below w1.heap.size w1 W) => (show W.cell? ⟨w.heap.size, 0, none⟩ = some (.int .i8 k) ∧ W.cell? ⟨w.heap.size, 1, none⟩ = some (.slice (some ⟨bb, oo, none⟩) 2 c) ∧ W.cell? ⟨w.heap.size + 1, 1, none⟩ = some (.slice (some ⟨bb', oo', none⟩) 2 c') ∧
      W.cell? ⟨bb, oo, none⟩ = some (.int .i8 p1) ∧ W.cell? ⟨bb, oo + 1, none⟩ = some (.slice B1 (Ty.len f1) c1) ∧ W.cell? ⟨bb, oo + 2, none⟩ = some (.int .i8 p2) ∧ W.cell? ⟨bb, oo + 3, none⟩ = some (.slice B2 (Ty.len f2) c2) ∧
      W.cell? ⟨bb', oo', none⟩ = some (.int .i8 p1') ∧ W.cell? ⟨bb', oo' + 1, none⟩ = some (.slice B1' (Ty.len f1') c1') ∧ W.cell? ⟨bb', oo' + 2, none⟩ = some (.int .i8 p2') ∧ W.cell? ⟨bb', oo' + 3, none⟩ = some (.slice B2' (Ty.len f2') c2') from
      ⟨keep_cell x0 hb, keep_cell x1 hb, keep_cell y1 hb, keep_cell z0 hb, keep_cell z1 hb, keep_cell z2 hb, keep_cell z3 hb, keep_cell u0 hb, keep_cell u1 hb, keep_cell u2 hb, keep_cell u3 hb⟩))
    generalize Ty.mK p1 p1' = MK1 at *
    generalize Ty.mT p1 f1 p1' f1' = MT1 at *
    generalize Ty.mK p2 p2' = MK2 at *
    generalize Ty.mT p2 f2 p2' f2' = MT2 at *
    generalize Ty.len f1 = m1 at *
    generalize Ty.len f2 = m2 at *
    generalize Ty.len f1' = m1' at *
    generalize Ty.len f2' = m2' at *
    clear ho ho' hag hag2 hlow hk0 hk0' hm hK i1 i2 i1' i2' o1 o2 o1' o2' HI HI' IH
    go_enter Tryd.func27, Tryd.ntmps27
    go_upto_region 1 with fail
    rw [HW1.out]
    go_upto_region 5 with fail
    go_region_held3 (fun W => W.cell? ⟨w.heap.size, 0, none⟩ = some (.int .i8 k) ∧ W.cell? ⟨w.heap.size, 1, none⟩ = some (.slice (some ⟨bb, oo, none⟩) 2 c) ∧ W.cell? ⟨w.heap.size + 1, 1, none⟩ = some (.slice (some ⟨bb', oo', none⟩) 2 c') ∧ W.cell? ⟨bb, oo, none⟩ = some (.int .i8 p1) ∧ W.cell? ⟨bb, oo + 1, none⟩ = some (.slice B1 m1 c1) ∧ W.cell? ⟨bb, oo + 2, none⟩ = some (.int .i8 p2) ∧ W.cell? ⟨bb, oo + 3, none⟩ = some (.slice B2 m2 c2) ∧ W.cell? ⟨bb', oo', none⟩ = some (.int .i8 p1') ∧ W.cell? ⟨bb', oo' + 1, none⟩ = some (.slice B1' m1' c1') ∧ W.cell? ⟨bb', oo' + 2, none⟩ = some (.int .i8 p2') ∧ W.cell? ⟨bb', oo' + 3, none⟩ = some (.slice B2' m2' c2'))
      (first | exact HK.out _ D | exact HK.out _ (D.alloc D.size _) | exact HK3.out _ D _ _ _)
      (first
        | (go_at_call 27; (with_reducible refine (HAA.out _ D).mono ?_); rintro e uA ⟨GA, nA, eA, rfl, hiA, hb⟩; have hsA := D.size; have HBX := Lib.hid (heap_below (D.trans (hb.mono D.size)) (heap_lt HZ.out) HZ.out); (first | have hiB := IsP_later hiB hb | skip); have hiA := IsP_weak hiA (P' := fun b => P b ∨ w1.heap.size + 3 ≤ b) (fun b h => h.imp id (fun h => Nat.le_trans (Nat.add_le_add_right hsA 3) h)); have HIA := Lib.hid hiA; (first | have HIB := Lib.hid hiB | skip); have D := D.trans (hb.mono D.size); obtain ⟨r0, r1, r2, r3, hrl⟩ := own2 HBX.out; clear hb hsA)
        | (go_at_call 27; (with_reducible refine (HBB.out _ D).mono ?_); rintro e uB ⟨GB, nB, eB, rfl, hiB, hb⟩; have hsA := D.size; have HBX := Lib.hid (heap_below (D.trans (hb.mono D.size)) (heap_lt HZ.out) HZ.out); (first | have hiA := IsP_later hiA hb | skip); have hiB := IsP_weak hiB (P' := fun b => P b ∨ w1.heap.size + 3 ≤ b) (fun b h => h.imp id (fun h => Nat.le_trans (Nat.add_le_add_right hsA 3) h)); have HIB := Lib.hid hiB; (first | have HIA := Lib.hid hiA | skip); have D := D.trans (hb.mono D.size); obtain ⟨r0, r1, r2, r3, hrl⟩ := own2 HBX.out; clear hb hsA))
    all_goals
      first
        | (go_wp2_with fail
           refine bodyPost_ret (v := .agg #[.int .i8 k, .slice (some ⟨uB.heap.size, 0, none⟩) 2 2]) (by simp [results, Tryd.results27, go_sem, *]) rfl ⟨some ⟨uB.heap.size, 0, none⟩, 2, 2, rfl, ?_, ?_⟩
           · exact two_end (IsP_weak HIA.out fun b h => h.imp id (fun h => by have := HSZ.out; omega)) (IsP_weak HIB.out fun b h => h.imp id (fun h => by have := HSZ.out; omega)) HNE.out (.inr (by have := D.size; have := HSZ.out; omega)) HR.out
           · exact (HEND.out _ (HB1.out.trans (D.mono HB1.out.size)) _ _).alloc (by have := D.size; have := HB1.out.size; simp [World.setCell]; omega) _)
        | (go_wp2_with fail
           refine bodyPost_ret (v := .agg #[.int .i8 k, .slice (some ⟨uA.heap.size, 0, none⟩) 2 2]) (by simp [results, Tryd.results27, go_sem, *]) rfl ⟨some ⟨uA.heap.size, 0, none⟩, 2, 2, rfl, ?_, ?_⟩
           · exact two_end (IsP_weak HIA.out fun b h => h.imp id (fun h => by have := HSZ.out; omega)) (IsP_weak HIB.out fun b h => h.imp id (fun h => by have := HSZ.out; omega)) HNE.out (.inr (by have := D.size; have := HSZ.out; omega)) HR.out
           · exact (HEND.out _ (HB1.out.trans (D.mono HB1.out.size)) _ _).alloc (by have := D.size; have := HB1.out.size; simp [World.setCell]; omega) _)
end Go.Proofs.YtfkbdpehdabepaaDoor
