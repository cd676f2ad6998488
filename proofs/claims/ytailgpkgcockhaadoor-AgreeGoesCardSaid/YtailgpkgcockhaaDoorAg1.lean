/-
  agree.agreeing, agree.Agree; the document's Right, Agree.
-/
import Derived.Test.YtailgpkgcockhaaDoorAg0
import Derived.Test.YtailgpkgcockhaaDoorLow
import Derived.Laws.StructEq
namespace Go.Proofs.YtailgpkgcockhaaDoor
open Go.RowKit

theorem eqKindsIn (d : Nat) (a b c e : Int) (w : World) : (Op.equalIn (d + 1 + 1) 41 (.agg #[.int .i8 a, .int .i8 b]) (.agg #[.int .i8 c, .int .i8 e])).run Tryd.prog w = .ok ((a == c) && (b == e)) w := by
  have hu : Tryd.prog.underlying 41 = some (.array 2 22) := Tryd.underlying41
  have hi : Tryd.prog.underlying 22 = some (.int .i8) := Tryd.underlying22
  have e1 := fun W => run_equalIn_int (P := Tryd.prog) W d 22 .i8 .i8 a c hi
  have e2 := fun W => run_equalIn_int (P := Tryd.prog) W d 22 .i8 .i8 b e hi
  have p1 : ∀ (x y : Int) W, (part 22 #[.int .i8 x, .int .i8 y] 0).run Tryd.prog W = .ok (.int .i8 x) W := fun _ _ W => by kernel_rfl
  have p2 : ∀ (x y : Int) W, (part 22 #[.int .i8 x, .int .i8 y] 1).run Tryd.prog W = .ok (.int .i8 y) W := fun _ _ W => by kernel_rfl
  have hs : ∀ W, (sizeOf 22).run Tryd.prog W = .ok 1 W := fun W => by kernel_rfl
  rw [Op.equalIn]
  simp only [Sem.run_bind, run_underlying hu, Result.andThen_ok, hs]
  rw [Std.Legacy.Range.forIn_eq_forIn_range']
  simp only [Std.Legacy.Range.size, List.range', List.forIn_cons, List.forIn_nil, Sem.run_bind, Nat.zero_add, Nat.mul_one, p1, e1, Result.andThen_ok]
  cases a == c
  · simp
  · cases hb : b == e <;> simp [p2, e2, hb]
theorem eqKinds (a b c d : Int) (w : World) : (binOp .eql 41 (.agg #[.int .i8 a, .int .i8 b]) (.agg #[.int .i8 c, .int .i8 d])).run Tryd.prog w = .ok (.bool ((a == c) && (b == d))) w := by
  rw [run_eql_struct, eqKindsIn 9998 a b c d w]
  rfl

/-- two types in a row, opened -/
theorem Ty.lies2 {w : World} {a b c d : Nat} {k1 k2 : Int} {f1 f2 : Fo} {A : Option Addr} (h : Ty.Lies w (.node a b k1 f1 (.node c d k2 f2 .nil)) A 0) :
    ∃ bb oo B1 c1 B2 c2, A = some ⟨bb, oo, none⟩ ∧ w.cell? ⟨bb, oo, none⟩ = some (.int .i8 k1) ∧ w.cell? ⟨bb, oo + 1, none⟩ = some (.slice B1 (Ty.len f1) c1) ∧ w.cell? ⟨bb, oo + 2, none⟩ = some (.int .i8 k2) ∧ w.cell? ⟨bb, oo + 3, none⟩ = some (.slice B2 (Ty.len f2) c2) ∧ Ty.Is w k1 f1 B1 (Ty.len f1) c1 ∧ Ty.Is w k2 f2 B2 (Ty.len f2) c2 := by
  obtain ⟨bb, oo, B1, c1, rfl, ⟨h1, h2⟩, h3, h4, h5, h6, h7, ⟨bb', oo', B2, c2, e, ⟨g1, g2⟩, g3, g4, g5, g6, g7, -⟩⟩ := h
  injection e with e; injection e with e1 e2; subst e1; subst e2
  exact ⟨_, _, B1, c1, B2, c2, rfl, by simpa using h3, by simpa using h4, by simpa using g3, by simpa using g4, ⟨h7, rfl, h5, h6, h1, h2⟩, ⟨g7, rfl, g5, g6, g1, g2⟩⟩

set_option maxHeartbeats 4000000 in
set_option maxRecDepth 100000 in
theorem agreeing_any (K : Nat) : ∀ (k : Int) (kids : Fo) (A : Option Addr) (n c : Nat) (k' : Int) (kids' : Fo) (A' : Option Addr) (n' c' : Nat) (w : World), Ty.nodes kids < K → Ty.Is w k kids A n c → Ty.Is w k' kids' A' n' c' → Ty.okT k kids = true → Ty.okT k' kids' = true →
    Calls Tryd.prog 16 #[.agg #[.int .i8 k, .slice A n c], .agg #[.int .i8 k', .slice A' n' c']] w fun e w' => e = .returned (.bool (Ty.agT k kids k' kids')) ∧ Below w.heap.size w w' := by
  induction K with
  | zero => intro _ _ _ _ _ _ _ _ _ _ _ h; omega
  | succ K ih =>
    intro k kids A n c k' kids' A' n' c' w hK hIs hIs' ho ho'
    obtain ⟨hB0, hR0, hR1⟩ := two_boxes w k A n c k' A' n' c'
    have HI := Lib.hid (hIs.below hB0)
    have HI' := Lib.hid (hIs'.below hB0)
    have IH := Lib.hid ih
    clear ih hIs hIs'
    obtain ⟨b0, b1, _, _, hb0⟩ := own2 hR0
    obtain ⟨d0, d1, _, _, hd0⟩ := own2 hR1
    clear hR0 hR1
    generalize hw1 : (w.alloc (.cells #[.int .i8 k, .slice A n c] 25)).alloc (.cells #[.int .i8 k', .slice A' n' c'] 25) = w1 at *
    have HW := Lib.hid hw1
    clear hw1
    by_cases hk0 : k = 0
    · subst hk0
      rw [Ty.agT_zero_left]
      clear ho ho'
      go_enter Tryd.func16, Tryd.ntmps16
      go_wp2_with fail
      rw [HW.out]
      go_wp2_with fail
      go_ret
      exact ⟨rfl, hB0⟩
    by_cases hk0' : k' = 0
    · subst hk0'
      rw [Ty.agT_zero_right]
      have hz : (k == 0) = false := by simpa using hk0
      clear ho ho' hk0
      go_enter Tryd.func16, Tryd.ntmps16
      go_wp2_with fail
      rw [HW.out]
      go_wp2_with fail
      go_ret
      exact ⟨rfl, hB0⟩
    have hz : (k == 0) = false := by simpa using hk0
    have hz' : (k' == 0) = false := by simpa using hk0'
    by_cases hkk : k = k'
    · subst hkk
      by_cases hlow : k ≤ 2
      · obtain rfl := Ty.none_of ho hlow
        obtain rfl := Ty.none_of ho' hlow
        rw [Ty.agT_eq _ _ hk0]
        have hr := Ty.okT_range ho
        have hr2 : k = 1 ∨ k = 2 := by omega
        clear ho ho' hr hk0 hk0' hlow
        rcases hr2 with rfl | rfl
        all_goals
          have e1 := fun W => eqKinds 1 1 1 1 W
          have e2 := fun W => eqKinds 2 2 1 1 W
          have e3 := fun W => eqKinds 2 2 2 2 W
          go_enter Tryd.func16, Tryd.ntmps16
          go_wp2_with fail
          rw [HW.out]
          go_wp2_with fail
          go_ret
          exact ⟨rfl, hB0⟩
      · obtain ⟨a1, a2, p1, f1, a3, a4, p2, f2, rfl, o1, o2⟩ := Ty.two_of ho (by omega)
        obtain ⟨a1', a2', p1', f1', a3', a4', p2', f2', rfl, o1', o2'⟩ := Ty.two_of ho' (by omega)
        rw [Ty.agT_eq _ _ hk0]
        have hn := HI.out.n_eq
        have hn' := HI'.out.n_eq
        simp only [Ty.len] at hn hn'
        subst hn
        subst hn'
        simp only [Ty.nodes] at hK
        obtain ⟨bb, oo, B1, c1, B2, c2, rfl, x0, x1, x2, x3, i1, i2⟩ := Ty.lies2 HI.out.lies
        obtain ⟨bb', oo', B1', c1', B2', c2', rfl, y0, y1, y2, y3, i1', i2'⟩ := Ty.lies2 HI'.out.lies
        have D1 := Lib.hid (fun (u : World) (hE : Below w1.heap.size w1 u) => IH.out p1 f1 B1 _ c1 p1' f1' B1' _ c1' u (by omega) (i1.below hE) (i1'.below hE) o1 o1')
        have D2 := Lib.hid (fun (u : World) (hE : Below w1.heap.size w1 u) => IH.out p2 f2 B2 _ c2 p2' f2' B2' _ c2' u (by omega) (i2.below hE) (i2'.below hE) o2 o2')
        have hres : Ty.agF (.node a1 a2 p1 f1 (.node a3 a4 p2 f2 .nil)) (.node a1' a2' p1' f1' (.node a3' a4' p2' f2' .nil)) = (Ty.agT p1 f1 p1' f1' && Ty.agT p2 f2 p2' f2') := by simp [Ty.agF, Ty.agT]
        rw [hres]
        have hr := Ty.okT_range ho
        have hr2 : k = 3 ∨ k = 4 ∨ k = 5 := by omega
        generalize hg1 : Ty.agT p1 f1 p1' f1' = R1 at D1
        generalize hg2 : Ty.agT p2 f2 p2' f2' = R2 at D2
        generalize Ty.len f1 = m1 at *
        generalize Ty.len f2 = m2 at *
        generalize Ty.len f1' = m1' at *
        generalize Ty.len f2' = m2' at *
        clear hres ho ho' hr hk0 hk0' hlow HI HI' IH i1 i2 i1' i2' o1 o2 o1' o2' hK hg1 hg2
        rcases hr2 with rfl | rfl | rfl
        all_goals
          have e1 := fun W => eqKinds 3 3 1 1 W
          have e2 := fun W => eqKinds 3 3 2 2 W
          have e3 := fun W => eqKinds 3 3 3 3 W
          have f1 := fun W => eqKinds 4 4 1 1 W
          have f2 := fun W => eqKinds 4 4 2 2 W
          have f3 := fun W => eqKinds 4 4 3 3 W
          have f4 := fun W => eqKinds 4 4 4 4 W
          have g1 := fun W => eqKinds 5 5 1 1 W
          have g2 := fun W => eqKinds 5 5 2 2 W
          have g3 := fun W => eqKinds 5 5 3 3 W
          have g4 := fun W => eqKinds 5 5 4 4 W
          have g5 := fun W => eqKinds 5 5 5 5 W
          cases R1
          all_goals
            go_enter Tryd.func16, Tryd.ntmps16
            go_wp2_with fail
            rw [HW.out]
            go_wp2_with fail
            clear e1 e2 e3 f1 f2 f3 f4 g1 g2 g3 g4 g5
            have B0 := later_cell b0
            have B1 := later_cell b1
            have C0 := later_cell d0
            have C1 := later_cell d1
            have X0 := later_cell x0
            have X1 := later_cell x1
            have X2 := later_cell x2
            have X3 := later_cell x3
            have Y0 := later_cell y0
            have Y1 := later_cell y1
            have Y2 := later_cell y2
            have Y3 := later_cell y3
            clear b0 b1 d0 d1 x0 x1 x2 x3 y0 y1 y2 y3
            refine wp_region_low (by kernel_rfl) (by kernel_rfl) ?_
            repeat
              first
                | go_big_quiet_skip
                | (go_big_quiet_want
                   go_big_quiet_op
                   first
                     | go_big_quiet_on
                     | (refine ⟨_, fun _ => rfl, ?_⟩
                        go_big_quiet_on)
                     | (apply Exists.intro
                        refine ⟨fun h => ?_, ?_⟩
                        · first
                            | (go_at_call 16; with_reducible exact call_low h (D1.out h.u h.low))
                            | (go_at_call 16; with_reducible exact call_low h (D2.out h.u h.low))
                        go_big_quiet_on))
            refine wpQuiet_nil ?_
            rintro _ ⟨⟨w8, E⟩, rfl⟩
            go_wp2_with fail
            go_ret
            exact ⟨rfl, hB0.trans (E.mono hB0.size)⟩
    · rw [Ty.agT_ne _ _ hk0 hk0' hkk]
      have e1 : ∀ W, (binOp .eql 41 (.agg #[.int .i8 k, .int .i8 k']) (.agg #[.int .i8 1, .int .i8 1])).run Tryd.prog W = .ok (.bool false) W := fun W => by rw [eqKinds]; simp; omega
      have e2 : ∀ W, (binOp .eql 41 (.agg #[.int .i8 k, .int .i8 k']) (.agg #[.int .i8 2, .int .i8 2])).run Tryd.prog W = .ok (.bool false) W := fun W => by rw [eqKinds]; simp; omega
      have e3 : ∀ W, (binOp .eql 41 (.agg #[.int .i8 k, .int .i8 k']) (.agg #[.int .i8 3, .int .i8 3])).run Tryd.prog W = .ok (.bool false) W := fun W => by rw [eqKinds]; simp; omega
      have e4 : ∀ W, (binOp .eql 41 (.agg #[.int .i8 k, .int .i8 k']) (.agg #[.int .i8 4, .int .i8 4])).run Tryd.prog W = .ok (.bool false) W := fun W => by rw [eqKinds]; simp; omega
      have e5 : ∀ W, (binOp .eql 41 (.agg #[.int .i8 k, .int .i8 k']) (.agg #[.int .i8 5, .int .i8 5])).run Tryd.prog W = .ok (.bool false) W := fun W => by rw [eqKinds]; simp; omega
      clear ho ho' hkk hk0 hk0'
      go_enter Tryd.func16, Tryd.ntmps16
      go_wp2_with fail
      rw [HW.out]
      go_wp2_with fail
      go_ret
      exact ⟨rfl, hB0⟩
end Go.Proofs.YtailgpkgcockhaaDoor
