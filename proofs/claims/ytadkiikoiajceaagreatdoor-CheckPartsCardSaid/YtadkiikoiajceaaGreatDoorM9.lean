/-
  Types that agree: what the word says of forests. agree.agreeing, agree.Agree; the document's Right, Agree. agree.Agree; the document's Right and Agree. Types that are less and more precise, and where two meet: what the words say of forests.
-/
import Derived.Test.YtadkiikoiajceaaGreatDoorM6
import Derived.Test.YtadkiikoiajceaaGreatDoorLow
import Derived.Laws.StructEq
namespace Go.Proofs.YtadkiikoiajceaaGreatDoor
namespace Ty
/-- lists of types that agree one by one -/
def agF : Fo → Fo → Bool
  | .nil, _ => true
  | .node _ _ _ _ _, .nil => true
  | .node _ _ k kids r, .node _ _ k' kids' r' => ((k == 0) || (k' == 0) || ((k == k') && agF kids kids')) && agF r r'
def agT (k : Int) (kids : Fo) (k' : Int) (kids' : Fo) : Bool := (k == 0) || (k' == 0) || ((k == k') && agF kids kids')
def agreeT (k : Int) (kids : Fo) (k' : Int) (kids' : Fo) : Bool := (chk k kids == 0) && (chk k' kids' == 0) && agT k kids k' kids'
theorem agF_symm : ∀ f g : Fo, agF f g = agF g f
  | .nil, .nil => rfl
  | .nil, .node _ _ _ _ _ => rfl
  | .node _ _ _ _ _, .nil => rfl
  | .node _ _ k kids r, .node _ _ k' kids' r' => by
    simp only [agF]
    rw [agF_symm kids kids', agF_symm r r', show (k == k') = (k' == k) by rw [Bool.eq_iff_iff]; simp only [beq_iff_eq]; exact eq_comm, Bool.or_comm (k == 0)]
theorem agT_symm (k : Int) (kids : Fo) (k' : Int) (kids' : Fo) : agT k' kids' k kids = agT k kids k' kids' := by
  unfold agT
  rw [agF_symm kids' kids, show (k' == k) = (k == k') by rw [Bool.eq_iff_iff]; simp only [beq_iff_eq]; exact eq_comm, Bool.or_comm (k' == 0)]
theorem agree_symm (k : Int) (kids : Fo) (k' : Int) (kids' : Fo) : agreeT k' kids' k kids = agreeT k kids k' kids' := by
  unfold agreeT
  rw [agT_symm, Bool.and_comm (chk k' kids' == 0)]
theorem agF_refl : ∀ f : Fo, agF f f = true
  | .nil => rfl
  | .node _ _ k kids r => by simp [agF, agF_refl kids, agF_refl r]
theorem agree_self (k : Int) (kids : Fo) : agreeT k kids k kids = (chk k kids == 0) := by
  unfold agreeT agT
  rw [agF_refl]
  simp
theorem agree_open (k : Int) (kids : Fo) : agreeT k kids 0 .nil = (chk k kids == 0) := by
  unfold agreeT agT
  simp [show chk 0 .nil = 0 from rfl]
/-- known lists, each of which is right, agree just if they are the same -/
theorem agF_known : ∀ f g : Fo, okF f = true → okF g = true → knF f = true → knF g = true → len f = len g → agF f g = eqF f g
  | .nil, .nil, _, _, _, _, _ => rfl
  | .nil, .node _ _ _ _ _, _, _, _, _, h => by simp only [len] at h; omega
  | .node _ _ _ _ _, .nil, _, _, _, _, h => by simp only [len] at h; omega
  | .node _ _ k kids r, .node _ _ k' kids' r', h1, h2, h3, h4, h5 => by
    simp only [okF, knF, Bool.and_eq_true, len] at h1 h2 h3 h4 h5
    have hk : (k == 0) = false := by have := h3.1.1; simpa using this
    have hk' : (k' == 0) = false := by have := h4.1.1; simpa using this
    simp only [agF, eqF]
    rw [hk, hk', agF_known r r' h1.2 h2.2 h3.2 h4.2 (by omega), Bool.false_or, Bool.false_or]
    by_cases e : k = k'
    · subst e
      rw [agF_known kids kids' h1.1.2 h2.1.2 h3.1.2 h4.1.2 (okK_same h1.1.1 h2.1.1)]
    · rw [show (k == k') = false by simpa using e]
      rfl
theorem agree_known (k : Int) (kids : Fo) (k' : Int) (kids' : Fo) (h1 : knownT k kids = true) (h2 : knownT k' kids' = true) : agreeT k kids k' kids' = sameT k kids k' kids' := by
  unfold knownT at h1 h2
  rw [Bool.and_eq_true] at h1 h2
  have a1 : chk k kids = 0 := by simpa using h1.1
  have a2 : chk k' kids' = 0 := by simpa using h2.1
  have b1 := (chk_ok a1).1
  have b2 := (chk_ok a2).1
  have c1 := h1.2
  have c2 := h2.2
  unfold okT at b1 b2
  unfold knT at c1 c2
  rw [Bool.and_eq_true] at b1 b2 c1 c2
  unfold agreeT sameT
  congr 1
  unfold agT eqT
  rw [show (k == 0) = false by have := c1.1; simpa using this, show (k' == 0) = false by have := c2.1; simpa using this, Bool.false_or, Bool.false_or]
  by_cases e : k = k'
  · subst e
    rw [agF_known kids kids' b1.2 b2.2 c1.2 c2.2 (okK_same b1.1 b2.1)]
  · rw [show (k == k') = false by simpa using e]
    rfl
theorem agT_zero_left (kids : Fo) (k' : Int) (kids' : Fo) : agT 0 kids k' kids' = true := rfl
theorem agT_zero_right (k : Int) (kids kids' : Fo) : agT k kids 0 kids' = true := by unfold agT; simp
theorem agT_ne {k k' : Int} (kids kids' : Fo) (h1 : k ≠ 0) (h2 : k' ≠ 0) (h : k ≠ k') : agT k kids k' kids' = false := by unfold agT; simp [h1, h2, h]
theorem agT_eq {k : Int} (kids kids' : Fo) (h1 : k ≠ 0) : agT k kids k kids' = agF kids kids' := by unfold agT; simp [h1]
/-- a right type's kids: none, or two -/
theorem two_of {k : Int} {kids : Fo} (h : okT k kids = true) (h3 : 3 ≤ k) : ∃ a b k1 f1 c d k2 f2, kids = .node a b k1 f1 (.node c d k2 f2 .nil) ∧ okT k1 f1 = true ∧ okT k2 f2 = true := by
  unfold okT okK at h
  rw [if_neg (by omega), Bool.and_eq_true] at h
  split at h
  · have hl : len kids = 2 := by simpa using h.1
    match kids, hl, h.2 with
    | .node a b k1 f1 (.node c d k2 f2 .nil), _, ho =>
      simp only [okF, Bool.and_eq_true] at ho
      exact ⟨a, b, k1, f1, c, d, k2, f2, rfl, by unfold okT; rw [Bool.and_eq_true]; exact ⟨ho.1.1, ho.1.2⟩, by unfold okT; rw [Bool.and_eq_true]; exact ⟨ho.2.1.1, ho.2.1.2⟩⟩
    | .nil, hl, _ => simp [len] at hl
    | .node _ _ _ _ .nil, hl, _ => simp [len] at hl
    | .node _ _ _ _ (.node _ _ _ _ (.node _ _ _ _ _)), hl, _ => simp [len] at hl
  · simp at h
theorem none_of {k : Int} {kids : Fo} (h : okT k kids = true) (h3 : k ≤ 2) : kids = .nil := by
  have h2 := h
  unfold okT okK at h
  have hr := okT_range h2
  rw [if_pos (by omega), Bool.and_eq_true] at h
  cases kids with
  | nil => rfl
  | node _ _ _ _ _ => simp [len] at h
end Ty
end Go.Proofs.YtadkiikoiajceaaGreatDoor
namespace Go.Proofs.YtadkiikoiajceaaGreatDoor
open Go.RowKit

theorem eqKindsIn (d : Nat) (a b c e : Int) (w : World) : (Op.equalIn (d + 1 + 1) 67 (.agg #[.int .i8 a, .int .i8 b]) (.agg #[.int .i8 c, .int .i8 e])).run Tryz.prog w = .ok ((a == c) && (b == e)) w := by
  have hu : Tryz.prog.underlying 67 = some (.array 2 22) := Tryz.underlying67
  have hi : Tryz.prog.underlying 22 = some (.int .i8) := Tryz.underlying22
  have e1 := fun W => run_equalIn_int (P := Tryz.prog) W d 22 .i8 .i8 a c hi
  have e2 := fun W => run_equalIn_int (P := Tryz.prog) W d 22 .i8 .i8 b e hi
  have p1 : ∀ (x y : Int) W, (part 22 #[.int .i8 x, .int .i8 y] 0).run Tryz.prog W = .ok (.int .i8 x) W := fun _ _ W => by kernel_rfl
  have p2 : ∀ (x y : Int) W, (part 22 #[.int .i8 x, .int .i8 y] 1).run Tryz.prog W = .ok (.int .i8 y) W := fun _ _ W => by kernel_rfl
  have hs : ∀ W, (sizeOf 22).run Tryz.prog W = .ok 1 W := fun W => by kernel_rfl
  rw [Op.equalIn]
  simp only [Sem.run_bind, run_underlying hu, Result.andThen_ok, hs]
  rw [Std.Legacy.Range.forIn_eq_forIn_range']
  simp only [Std.Legacy.Range.size, List.range', List.forIn_cons, List.forIn_nil, Sem.run_bind, Nat.zero_add, Nat.mul_one, p1, e1, Result.andThen_ok]
  cases a == c
  · simp
  · cases hb : b == e <;> simp [p2, e2, hb]
theorem eqKinds (a b c d : Int) (w : World) : (binOp .eql 67 (.agg #[.int .i8 a, .int .i8 b]) (.agg #[.int .i8 c, .int .i8 d])).run Tryz.prog w = .ok (.bool ((a == c) && (b == d))) w := by
  rw [run_eql_struct, eqKindsIn 9998 a b c d w]
  rfl

/-- two types in a row, opened -/
theorem Ty.lies2 {w : World} {a b c d : Nat} {k1 k2 : Int} {f1 f2 : Fo} {A : Option Addr} (h : Ty.Lies w (.node a b k1 f1 (.node c d k2 f2 .nil)) A 0) :
    ∃ bb oo B1 c1 B2 c2, A = some ⟨bb, oo, none⟩ ∧ w.cell? ⟨bb, oo, none⟩ = some (.int .i8 k1) ∧ w.cell? ⟨bb, oo + 1, none⟩ = some (.slice B1 (Ty.len f1) c1) ∧ w.cell? ⟨bb, oo + 2, none⟩ = some (.int .i8 k2) ∧ w.cell? ⟨bb, oo + 3, none⟩ = some (.slice B2 (Ty.len f2) c2) ∧ Ty.Is w k1 f1 B1 (Ty.len f1) c1 ∧ Ty.Is w k2 f2 B2 (Ty.len f2) c2 := by
  obtain ⟨bb, oo, B1, c1, rfl, ⟨h1, h2⟩, h3, h4, h5, h6, h7, ⟨bb', oo', B2, c2, e, ⟨g1, g2⟩, g3, g4, g5, g6, g7, -⟩⟩ := h
  injection e with e; injection e with e1 e2; subst e1; subst e2
  exact ⟨_, _, B1, c1, B2, c2, rfl, by simpa using h3, by simpa using h4, by simpa using g3, by simpa using g4, ⟨h7, rfl, h5, h6, h1, h2⟩, ⟨g7, rfl, g5, g6, g1, g2⟩⟩

set_option maxHeartbeats 4000000 in
set_option maxRecDepth 100000 in
theorem agreeing_any (K : Nat) : ∀ (k : Int) (kids : Fo) (A : Option Addr) (n c : Nat) (k' : Int) (kids' : Fo) (A' : Option Addr) (n' c' : Nat) (w : World), Ty.nodes kids < K → Ty.Is w k kids A n c → Ty.Is w k' kids' A' n' c' → Ty.okT k kids = true → Ty.okT k' kids' = true →
    Calls Tryz.prog 30 #[.agg #[.int .i8 k, .slice A n c], .agg #[.int .i8 k', .slice A' n' c']] w fun e w' => e = .returned (.bool (Ty.agT k kids k' kids')) ∧ Below w.heap.size w w' := by
  induction K with
  | zero => intro _ _ _ _ _ _ _ _ _ _ _ h; omega
  | succ K ih =>
    intro k kids A n c k' kids' A' n' c' w hK hIs hIs' ho ho'
    obtain ⟨hB0, hR0, hR1⟩ := two_boxes w k A n c k' A' n' c'
    have HI := Lib.hid (hIs.below hB0)
    have HI' := Lib.hid (hIs'.below hB0)
    have IH := Lib.hid ih
    clear ih hIs hIs'
    obtain ⟨b0, b1, _, _, hb0⟩ := own2 hR0
    obtain ⟨d0, d1, _, _, hd0⟩ := own2 hR1
    clear hR0 hR1
    generalize hw1 : (w.alloc (.cells #[.int .i8 k, .slice A n c] 25)).alloc (.cells #[.int .i8 k', .slice A' n' c'] 25) = w1 at *
    have HW := Lib.hid hw1
    clear hw1
    by_cases hk0 : k = 0
    · subst hk0
      rw [Ty.agT_zero_left]
      clear ho ho'
      go_enter Tryz.func30, Tryz.ntmps30
      go_wp2_with fail
      rw [HW.out]
      go_wp2_with fail
      go_ret
      exact ⟨rfl, hB0⟩
    by_cases hk0' : k' = 0
    · subst hk0'
      rw [Ty.agT_zero_right]
      have hz : (k == 0) = false := by simpa using hk0
      clear ho ho' hk0
      go_enter Tryz.func30, Tryz.ntmps30
      go_wp2_with fail
      rw [HW.out]
      go_wp2_with fail
      go_ret
      exact ⟨rfl, hB0⟩
    have hz : (k == 0) = false := by simpa using hk0
    have hz' : (k' == 0) = false := by simpa using hk0'
    by_cases hkk : k = k'
    · subst hkk
      by_cases hlow : k ≤ 2
      · obtain rfl := Ty.none_of ho hlow
        obtain rfl := Ty.none_of ho' hlow
        rw [Ty.agT_eq _ _ hk0]
        have hr := Ty.okT_range ho
        have hr2 : k = 1 ∨ k = 2 := by omega
        clear ho ho' hr hk0 hk0' hlow
        rcases hr2 with rfl | rfl
        all_goals
          have e1 := fun W => eqKinds 1 1 1 1 W
          have e2 := fun W => eqKinds 2 2 1 1 W
          have e3 := fun W => eqKinds 2 2 2 2 W
          go_enter Tryz.func30, Tryz.ntmps30
          go_wp2_with fail
          rw [HW.out]
          go_wp2_with fail
          go_ret
          exact ⟨rfl, hB0⟩
      · obtain ⟨a1, a2, p1, f1, a3, a4, p2, f2, rfl, o1, o2⟩ := Ty.two_of ho (by omega)
        obtain ⟨a1', a2', p1', f1', a3', a4', p2', f2', rfl, o1', o2'⟩ := Ty.two_of ho' (by omega)
        rw [Ty.agT_eq _ _ hk0]
        have hn := HI.out.n_eq
        have hn' := HI'.out.n_eq
        simp only [Ty.len] at hn hn'
        subst hn
        subst hn'
        simp only [Ty.nodes] at hK
        obtain ⟨bb, oo, B1, c1, B2, c2, rfl, x0, x1, x2, x3, i1, i2⟩ := Ty.lies2 HI.out.lies
        obtain ⟨bb', oo', B1', c1', B2', c2', rfl, y0, y1, y2, y3, i1', i2'⟩ := Ty.lies2 HI'.out.lies
        have D1 := Lib.hid (fun (u : World) (hE : Below w1.heap.size w1 u) => IH.out p1 f1 B1 _ c1 p1' f1' B1' _ c1' u (by omega) (i1.below hE) (i1'.below hE) o1 o1')
        have D2 := Lib.hid (fun (u : World) (hE : Below w1.heap.size w1 u) => IH.out p2 f2 B2 _ c2 p2' f2' B2' _ c2' u (by omega) (i2.below hE) (i2'.below hE) o2 o2')
        have hres : Ty.agF (.node a1 a2 p1 f1 (.node a3 a4 p2 f2 .nil)) (.node a1' a2' p1' f1' (.node a3' a4' p2' f2' .nil)) = (Ty.agT p1 f1 p1' f1' && Ty.agT p2 f2 p2' f2') := by simp [Ty.agF, Ty.agT]
        rw [hres]
        have hr := Ty.okT_range ho
        have hr2 : k = 3 ∨ k = 4 ∨ k = 5 := by omega
        generalize hg1 : Ty.agT p1 f1 p1' f1' = R1 at D1
        generalize hg2 : Ty.agT p2 f2 p2' f2' = R2 at D2
        generalize Ty.len f1 = m1 at *
        generalize Ty.len f2 = m2 at *
        generalize Ty.len f1' = m1' at *
        generalize Ty.len f2' = m2' at *
        clear hres ho ho' hr hk0 hk0' hlow HI HI' IH i1 i2 i1' i2' o1 o2 o1' o2' hK hg1 hg2
        rcases hr2 with rfl | rfl | rfl
        all_goals
          have e1 := fun W => eqKinds 3 3 1 1 W
          have e2 := fun W => eqKinds 3 3 2 2 W
          have e3 := fun W => eqKinds 3 3 3 3 W
          have f1 := fun W => eqKinds 4 4 1 1 W
          have f2 := fun W => eqKinds 4 4 2 2 W
          have f3 := fun W => eqKinds 4 4 3 3 W
          have f4 := fun W => eqKinds 4 4 4 4 W
          have g1 := fun W => eqKinds 5 5 1 1 W
          have g2 := fun W => eqKinds 5 5 2 2 W
          have g3 := fun W => eqKinds 5 5 3 3 W
          have g4 := fun W => eqKinds 5 5 4 4 W
          have g5 := fun W => eqKinds 5 5 5 5 W
          cases R1
          all_goals
            go_enter Tryz.func30, Tryz.ntmps30
            go_wp2_with fail
            rw [HW.out]
            go_wp2_with fail
            clear e1 e2 e3 f1 f2 f3 f4 g1 g2 g3 g4 g5
            have B0 := later_cell b0
            have B1 := later_cell b1
            have C0 := later_cell d0
            have C1 := later_cell d1
            have X0 := later_cell x0
            have X1 := later_cell x1
            have X2 := later_cell x2
            have X3 := later_cell x3
            have Y0 := later_cell y0
            have Y1 := later_cell y1
            have Y2 := later_cell y2
            have Y3 := later_cell y3
            clear b0 b1 d0 d1 x0 x1 x2 x3 y0 y1 y2 y3
            refine wp_region_low (by kernel_rfl) (by kernel_rfl) ?_
            repeat
              first
                | go_big_quiet_skip
                | (go_big_quiet_want
                   go_big_quiet_op
                   first
                     | go_big_quiet_on
                     | (refine ⟨_, fun _ => rfl, ?_⟩
                        go_big_quiet_on)
                     | (apply Exists.intro
                        refine ⟨fun h => ?_, ?_⟩
                        · first
                            | (go_at_call 30; with_reducible exact call_low h (D1.out h.u h.low))
                            | (go_at_call 30; with_reducible exact call_low h (D2.out h.u h.low))
                        go_big_quiet_on))
            refine wpQuiet_nil ?_
            rintro _ ⟨⟨w8, E⟩, rfl⟩
            go_wp2_with fail
            go_ret
            exact ⟨rfl, hB0.trans (E.mono hB0.size)⟩
    · rw [Ty.agT_ne _ _ hk0 hk0' hkk]
      have e1 : ∀ W, (binOp .eql 67 (.agg #[.int .i8 k, .int .i8 k']) (.agg #[.int .i8 1, .int .i8 1])).run Tryz.prog W = .ok (.bool false) W := fun W => by rw [eqKinds]; simp; omega
      have e2 : ∀ W, (binOp .eql 67 (.agg #[.int .i8 k, .int .i8 k']) (.agg #[.int .i8 2, .int .i8 2])).run Tryz.prog W = .ok (.bool false) W := fun W => by rw [eqKinds]; simp; omega
      have e3 : ∀ W, (binOp .eql 67 (.agg #[.int .i8 k, .int .i8 k']) (.agg #[.int .i8 3, .int .i8 3])).run Tryz.prog W = .ok (.bool false) W := fun W => by rw [eqKinds]; simp; omega
      have e4 : ∀ W, (binOp .eql 67 (.agg #[.int .i8 k, .int .i8 k']) (.agg #[.int .i8 4, .int .i8 4])).run Tryz.prog W = .ok (.bool false) W := fun W => by rw [eqKinds]; simp; omega
      have e5 : ∀ W, (binOp .eql 67 (.agg #[.int .i8 k, .int .i8 k']) (.agg #[.int .i8 5, .int .i8 5])).run Tryz.prog W = .ok (.bool false) W := fun W => by rw [eqKinds]; simp; omega
      clear ho ho' hkk hk0 hk0'
      go_enter Tryz.func30, Tryz.ntmps30
      go_wp2_with fail
      rw [HW.out]
      go_wp2_with fail
      go_ret
      exact ⟨rfl, hB0⟩
end Go.Proofs.YtadkiikoiajceaaGreatDoor
namespace Go.Proofs.YtadkiikoiajceaaGreatDoor
open Go.RowKit

set_option maxHeartbeats 2000000 in
set_option maxRecDepth 100000 in
theorem agree_any (k : Int) (kids : Fo) (A : Option Addr) (n c : Nat) (k' : Int) (kids' : Fo) (A' : Option Addr) (n' c' : Nat) (w : World) (hIs : Ty.Is w k kids A n c) (hIs' : Ty.Is w k' kids' A' n' c') (hS : Shapes w) :
    Calls Tryz.prog 16 #[.agg #[.int .i8 k, .slice A n c], .agg #[.int .i8 k', .slice A' n' c']] w fun e w' => e = .returned (.bool (Ty.agreeT k kids k' kids')) ∧ Below w.heap.size w w' := by
  obtain ⟨hB0, hR0, hR1⟩ := two_boxes w k A n c k' A' n' c'
  have HM := Lib.hid (fun (W : World) (hb : Below w.heap.size w W) => check_any k kids A n c W (hIs.below hb) (hS.below hb))
  have HN := Lib.hid (fun (W : World) (hb : Below w.heap.size w W) => check_any k' kids' A' n' c' W (hIs'.below hb) (hS.below hb))
  have HK := Lib.hid (fun (W : World) (hb : Below w.heap.size w W) (h1 : Ty.okT k kids = true) (h2 : Ty.okT k' kids' = true) => agreeing_any (Ty.nodes kids + 1) k kids A n c k' kids' A' n' c' W (by omega) (hIs.below hb) (hIs'.below hb) h1 h2)
  have R0 := Lib.hid hR0
  have R1 := Lib.hid hR1
  have HB0 := Lib.hid hB0
  clear hIs hIs' hS hR0 hR1
  by_cases h0 : Ty.chk k kids = 0
  · have o1 := (Ty.chk_ok h0).1
    rw [h0] at HM
    by_cases h1 : Ty.chk k' kids' = 0
    · have o2 := (Ty.chk_ok h1).1
      have hres : Ty.agreeT k kids k' kids' = Ty.agT k kids k' kids' := by unfold Ty.agreeT; rw [h0, h1]; rfl
      have HKK := Lib.hid (fun (W : World) (hb : Below w.heap.size w W) => HK.out W hb o1 o2)
      rw [hres]
      rw [h1] at HN
      clear hres h0 h1 o1 o2 HK hB0
      go_enter Tryz.func16, Tryz.ntmps16
      go_wp2_with fail
      refine (HM.out _ HB0.out).mono ?_
      rintro e w3 ⟨rfl, hb⟩
      have hB1 := Lib.hid (HB0.out.trans (hb.mono HB0.out.size))
      have hR0 := heap_below hb (heap_lt R0.out) R0.out
      have hR1 := heap_below hb (heap_lt R1.out) R1.out
      obtain ⟨b0, b1, _, _, _⟩ := own2 hR0
      obtain ⟨d0, d1, _, _, _⟩ := own2 hR1
      have HR0 := Lib.hid hR0
      have HR1 := Lib.hid hR1
      clear hb hR0 hR1
      go_wp2_with fail
      refine (HN.out _ hB1.out).mono ?_
      rintro e w4 ⟨rfl, hb⟩
      have hB2 := Lib.hid (hB1.out.trans (hb.mono hB1.out.size))
      obtain ⟨b0, b1, _, _, _⟩ := own2 (heap_below hb (heap_lt HR0.out) HR0.out)
      obtain ⟨d0, d1, _, _, _⟩ := own2 (heap_below hb (heap_lt HR1.out) HR1.out)
      clear hb
      go_wp2_with fail
      refine (HKK.out _ hB2.out).mono ?_
      rintro e w5 ⟨rfl, hb⟩
      go_wp2_with fail
      go_ret
      exact ⟨rfl, hB2.out.trans (hb.mono hB2.out.size)⟩
    · have hres : Ty.agreeT k kids k' kids' = false := by unfold Ty.agreeT; simp [h1]
      rw [hres]
      have hc : (((Ty.chk k' kids' : Nat) : Int) == 0) = false := by simp; omega
      generalize Ty.chk k' kids' = C at *
      clear hres h0 h1 HK o1 hB0
      go_enter Tryz.func16, Tryz.ntmps16
      go_wp2_with fail
      refine (HM.out _ HB0.out).mono ?_
      rintro e w3 ⟨rfl, hb⟩
      have hB1 := Lib.hid (HB0.out.trans (hb.mono HB0.out.size))
      obtain ⟨d0, d1, _, _, _⟩ := own2 (heap_below hb (heap_lt R1.out) R1.out)
      clear hb
      go_wp2_with fail
      refine (HN.out _ hB1.out).mono ?_
      rintro e w4 ⟨rfl, hb⟩
      go_wp2_with fail
      go_ret
      exact ⟨rfl, hB1.out.trans (hb.mono hB1.out.size)⟩
  · have hres : Ty.agreeT k kids k' kids' = false := by unfold Ty.agreeT; simp [h0]
    rw [hres]
    have hc : (((Ty.chk k kids : Nat) : Int) == 0) = false := by simp; omega
    generalize Ty.chk k kids = C at *
    clear hres h0 HK hB0
    go_enter Tryz.func16, Tryz.ntmps16
    go_wp2_with fail
    refine (HM.out _ HB0.out).mono ?_
    rintro e w3 ⟨rfl, hb⟩
    go_wp2_with fail
    go_ret
    exact ⟨rfl, HB0.out.trans (hb.mono HB0.out.size)⟩

set_option maxHeartbeats 2000000 in
set_option maxRecDepth 100000 in
theorem qright_any (K : Nat) : ∀ (k : Int) (kids : Fo) (A : Option Addr) (n c : Nat) (k' : Int) (kids' : Fo) (A' : Option Addr) (n' c' : Nat) (w : World), Ty.nodes kids < K → Ty.Is w k kids A n c → Ty.Is w k' kids' A' n' c' → Ty.okT k kids = true → Ty.okT k' kids' = true →
    Calls Tryz.prog 114 #[.agg #[.int .i8 k, .slice A n c], .agg #[.int .i8 k', .slice A' n' c']] w fun e w' => e = .returned (.bool (Ty.agT k kids k' kids')) ∧ Below w.heap.size w w' := by
  induction K with
  | zero => intro _ _ _ _ _ _ _ _ _ _ _ h; omega
  | succ K ih =>
    intro k kids A n c k' kids' A' n' c' w hK hIs hIs' ho ho'
    have i5 : (n : Int) ≤ 9223372036854775807 := by have h1 := hIs.n_le; have h2 := hIs.c_le; unfold maxLen at h2; omega
    obtain ⟨hB0, hR0, hR1⟩ := two_boxes w k A n c k' A' n' c'
    have HI := Lib.hid hIs
    have HI' := Lib.hid hIs'
    have IH := Lib.hid ih
    clear ih hIs hIs'
    obtain ⟨b0, b1, _, _, hb0⟩ := own2 hR0
    obtain ⟨d0, d1, _, _, hd0⟩ := own2 hR1
    by_cases hk0 : k = 0
    · subst hk0
      rw [Ty.agT_zero_left]
      clear ho ho' hR0 hR1
      go_enter Tryz.func114, Tryz.ntmps114
      go_wp2_with fail
      go_ret
      exact ⟨rfl, hB0⟩
    by_cases hk0' : k' = 0
    · subst hk0'
      rw [Ty.agT_zero_right]
      have hz : (k == 0) = false := by simpa using hk0
      clear ho ho' hk0 hR0 hR1
      go_enter Tryz.func114, Tryz.ntmps114
      go_wp2_with fail
      go_ret
      exact ⟨rfl, hB0⟩
    have hz : (k == 0) = false := by simpa using hk0
    have hz' : (k' == 0) = false := by simpa using hk0'
    by_cases hkk : k = k'
    · have hnn : n = n' := by
        subst hkk
        have h1 := HI.out.n_eq
        have h2 := HI'.out.n_eq
        unfold Ty.okT at ho ho'
        rw [Bool.and_eq_true] at ho ho'
        have := Ty.okK_same ho.1 ho'.1
        omega
      subst hkk
      subst hnn
      rw [Ty.agT_eq _ _ hk0]
      have hk2 : (k != k) = false := by simp
      have hF1 : Ty.okF kids = true := by unfold Ty.okT at ho; rw [Bool.and_eq_true] at ho; exact ho.2
      have hF2 : Ty.okF kids' = true := by unfold Ty.okT at ho'; rw [Bool.and_eq_true] at ho'; exact ho'.2
      obtain ⟨R, hR⟩ : ∃ R, Ty.agF kids kids' = R := ⟨_, rfl⟩
      rw [hR]
      have HR := Lib.hid hR
      have hlies2 := HI'.out.lies.below hB0
      have hst := Over.start (HI.out.lies.below hB0) HI.out.n_eq
      have hst2 : Over2 w _ A' n 0 kids' := ⟨by have := HI'.out.n_eq; omega, hlies2⟩
      have HF1 := Lib.hid hF1
      have HF2 := Lib.hid hF2
      clear hR0 hR1 hR hlies2 ho ho' hF1 hF2 hk0 hk0'
      generalize hw1 : (w.alloc (.cells #[.int .i8 k, .slice A n c] 25)).alloc (.cells #[.int .i8 k, .slice A' n c'] 25) = w1 at *
      have HS := Lib.hid hst
      have HS2 := Lib.hid hst2
      have HW := Lib.hid hw1
      clear hst hst2 hw1
      go_enter Tryz.func114, Tryz.ntmps114
      go_wp2_with fail
      rw [HW.out]
      go_wp2_with fail
      go_loopw [5] (fun v5 wr => ∃ (i : Nat) (r1 r2 : Fo), v5 = .int .i64 i ∧ Over w1 wr A n (Ty.nodes kids) i r1 ∧ Over2 w wr A' n i r2 ∧ Ty.agF r1 r2 = R ∧ Ty.okF r1 = true ∧ Ty.okF r2 = true) (fun v _ => n - (intOf v).toNat)
      case atStart => exact ⟨0, kids, kids', rfl, HS.out, HS2.out, HR.out, HF1.out, HF2.out⟩
      case round =>
        obtain ⟨i, r1, r2, rfl, hO, hO2, hRR, hF1, hF2⟩ := hrel
        have hbB := hB0.trans (hO.below.mono hB0.size)
        obtain ⟨e0, e1⟩ := hO.box b0 b1
        obtain ⟨g0, g1⟩ := hO.box d0 d1
        clear b0 b1 d0 d1
        cases r1 with
        | nil =>
          have hi : i = n := by have := hO.i_eq; simpa [Ty.len] using this
          have hr2 : r2 = .nil := by
            have := hO2.i_eq
            cases r2 with
            | nil => rfl
            | node _ _ _ _ _ => simp only [Ty.len] at this; omega
          subst hr2
          clear hO hO2 hF1 hF2
          simp only [Ty.agF] at hRR
          subst hi
          subst hRR
          go_wp2_with fail
          go_ret
          exact ⟨rfl, hbB⟩
        | node a b kk kks r =>
          cases r2 with
          | nil => have q1 := hO.i_eq; have q2 := hO2.i_eq; simp only [Ty.len] at q1 q2; omega
          | node a2 b2 kk2 kks2 s =>
          have hst := fun w2 hb => Over.step (w2 := w2) hO hb
          have h1 := hO.i_eq
          have h2 := hO.lies
          have h3 := hO.sub
          have q1 := hO2.i_eq
          have q2 := hO2.lies
          simp only [Ty.len, Ty.nodes, Ty.agF] at h1 h3 hRR q1
          simp only [Ty.okF, Bool.and_eq_true] at hF1 hF2
          obtain ⟨bb, oo, B, c9, rfl, ⟨hk1, hk2'⟩, c1', c2', hl1, hl2, hl3, hl4⟩ := h2
          obtain ⟨bb2, oo2, B2, c3, rfl, ⟨gk1, gk2⟩, x1, x2, gl1, gl2, gl3, gl4⟩ := q2
          have o1 : Ty.okT kk kks = true := by unfold Ty.okT; rw [Bool.and_eq_true]; exact ⟨hF1.1.1, hF1.1.2⟩
          have o2 : Ty.okT kk2 kks2 = true := by unfold Ty.okT; rw [Bool.and_eq_true]; exact ⟨hF2.1.1, hF2.1.2⟩
          have hcall := fun (W : World) (hb : Below wr.heap.size wr W) => IH.out kk kks B (Ty.len kks) c9 kk2 kks2 B2 (Ty.len kks2) c3 W (by omega) ⟨hl3.below hb, rfl, hl1, hl2, hk1, hk2'⟩ ⟨gl3.below hb, rfl, gl1, gl2, gk1, gk2⟩ o1 o2
          have HST := Lib.hid hst
          have HL := Lib.hid hl4
          have HL2 := Lib.hid gl4
          have HC := Lib.hid hcall
          have HRR := Lib.hid hRR
          have HF3 := Lib.hid hF1.2
          have HF4 := Lib.hid hF2.2
          have j1 : (i : Int) < n := by omega
          have j2 : (0 : Int) ≤ i ∧ (i : Int) < n := by omega
          have hBd := Lib.hid (below_drewN (Below.refl wr.heap.size wr) 1)
          clear hst hl3 hl4 gl3 gl4 hcall hO hO2 hRR hF1 hF2 o1 o2
          cases hp : Ty.agT kk kks kk2 kks2
          · have hp0 : R = false := by rw [← HRR.out]; unfold Ty.agT at hp; rw [hp]; rfl
            rw [hp] at HC
            subst hp0
            clear hp
            go_wp2_with fail
            go_still_tail 10, (by kernel_rfl)
            change wpList _ _ _ _ _ (wr.drewN 1)
            have hbB1 := hbB.trans (hBd.out.mono hbB.size)
            have hsz : (wr.drewN 1).heap.size = wr.heap.size := rfl
            clear e0 e1 g0 g1 c1' c2' x1 x2
            generalize wr.drewN 1 = w2 at *
            go_wp2_with fail
            refine (HC.out _ hBd.out).mono ?_
            rintro e w3 ⟨rfl, hb⟩
            go_wp2_with fail
            go_ret
            exact ⟨rfl, hbB1.trans (hb.mono hbB1.size)⟩
          · have hp0 := HRR.out
            unfold Ty.agT at hp
            rw [hp, Bool.true_and] at hp0
            have HP := Lib.hid hp0
            rw [show Ty.agT kk kks kk2 kks2 = true from hp] at HC
            clear hp hp0
            go_wp2_with fail
            go_still_tail 10, (by kernel_rfl)
            change wpList _ _ _ _ _ (wr.drewN 1)
            have hsz : (wr.drewN 1).heap.size = wr.heap.size := rfl
            clear e0 e1 g0 g1 c1' c2' x1 x2
            generalize wr.drewN 1 = w2 at *
            go_wp2_with fail
            refine (HC.out _ hBd.out).mono ?_
            rintro e w3 ⟨rfl, hb⟩
            have hB2 : Below wr.heap.size wr w3 := hBd.out.trans (hb.mono (by omega))
            have hbb := Lib.hid (HST.out w3 hB2 HL.out)
            have hbb2 : Hid (Over2 w w3 (some ⟨bb2, oo2, none⟩) n (i + 1) s) := Lib.hid ⟨by omega, HL2.out.below hB2⟩
            clear hb hB2 hsz
            go_wp2_with fail
            go_roundw
            case rel => exact ⟨i + 1, r, s, by go_num, hbb.out, hbb2.out, HP.out, HF3.out, HF4.out⟩
            case measure => simp [intOf]; omega
    · rw [Ty.agT_ne _ _ hk0 hk0' hkk]
      have hk2 : (k != k') = true := by simpa using hkk
      clear ho ho' hkk hk0 hk0' hR0 hR1
      go_enter Tryz.func114, Tryz.ntmps114
      go_wp2_with fail
      go_ret
      exact ⟨rfl, hB0⟩

set_option maxHeartbeats 2000000 in
set_option maxRecDepth 100000 in
theorem qagree_any (k : Int) (kids : Fo) (A : Option Addr) (n c : Nat) (k' : Int) (kids' : Fo) (A' : Option Addr) (n' c' : Nat) (w : World) (hIs : Ty.Is w k kids A n c) (hIs' : Ty.Is w k' kids' A' n' c') :
    Calls Tryz.prog 71 #[.agg #[.int .i8 k, .slice A n c], .agg #[.int .i8 k', .slice A' n' c']] w fun e w' => e = .returned (.bool (Ty.agreeT k kids k' kids')) ∧ Below w.heap.size w w' := by
  obtain ⟨hB0, hR0, hR1⟩ := two_boxes w k A n c k' A' n' c'
  have HM := Lib.hid (fun (W : World) (hb : Below w.heap.size w W) => ref_check k kids A n c W (hIs.below hb))
  have HN := Lib.hid (fun (W : World) (hb : Below w.heap.size w W) => ref_check k' kids' A' n' c' W (hIs'.below hb))
  have HK := Lib.hid (fun (W : World) (hb : Below w.heap.size w W) (h1 : Ty.okT k kids = true) (h2 : Ty.okT k' kids' = true) => qright_any (Ty.nodes kids + 1) k kids A n c k' kids' A' n' c' W (by omega) (hIs.below hb) (hIs'.below hb) h1 h2)
  have R0 := Lib.hid hR0
  have R1 := Lib.hid hR1
  have HB0 := Lib.hid hB0
  clear hIs hIs' hR0 hR1
  by_cases h0 : Ty.chk k kids = 0
  · have o1 := (Ty.chk_ok h0).1
    rw [h0] at HM
    by_cases h1 : Ty.chk k' kids' = 0
    · have o2 := (Ty.chk_ok h1).1
      have hres : Ty.agreeT k kids k' kids' = Ty.agT k kids k' kids' := by unfold Ty.agreeT; rw [h0, h1]; rfl
      have HKK := Lib.hid (fun (W : World) (hb : Below w.heap.size w W) => HK.out W hb o1 o2)
      rw [hres]
      rw [h1] at HN
      clear hres h0 h1 o1 o2 HK hB0
      go_enter Tryz.func71, Tryz.ntmps71
      go_wp2_with fail
      refine (HM.out _ HB0.out).mono ?_
      rintro e w3 ⟨rfl, hb⟩
      have hB1 := Lib.hid (HB0.out.trans (hb.mono HB0.out.size))
      have hR0 := heap_below hb (heap_lt R0.out) R0.out
      have hR1 := heap_below hb (heap_lt R1.out) R1.out
      obtain ⟨b0, b1, _, _, _⟩ := own2 hR0
      obtain ⟨d0, d1, _, _, _⟩ := own2 hR1
      have HR0 := Lib.hid hR0
      have HR1 := Lib.hid hR1
      clear hb hR0 hR1
      go_wp2_with fail
      refine (HN.out _ hB1.out).mono ?_
      rintro e w4 ⟨rfl, hb⟩
      have hB2 := Lib.hid (hB1.out.trans (hb.mono hB1.out.size))
      obtain ⟨b0, b1, _, _, _⟩ := own2 (heap_below hb (heap_lt HR0.out) HR0.out)
      obtain ⟨d0, d1, _, _, _⟩ := own2 (heap_below hb (heap_lt HR1.out) HR1.out)
      clear hb
      go_wp2_with fail
      refine (HKK.out _ hB2.out).mono ?_
      rintro e w5 ⟨rfl, hb⟩
      go_wp2_with fail
      go_ret
      exact ⟨rfl, hB2.out.trans (hb.mono hB2.out.size)⟩
    · have hres : Ty.agreeT k kids k' kids' = false := by unfold Ty.agreeT; simp [h1]
      rw [hres]
      have hc : (((Ty.chk k' kids' : Nat) : Int) == 0) = false := by simp; omega
      generalize Ty.chk k' kids' = C at *
      clear hres h0 h1 HK o1 hB0
      go_enter Tryz.func71, Tryz.ntmps71
      go_wp2_with fail
      refine (HM.out _ HB0.out).mono ?_
      rintro e w3 ⟨rfl, hb⟩
      have hB1 := Lib.hid (HB0.out.trans (hb.mono HB0.out.size))
      obtain ⟨d0, d1, _, _, _⟩ := own2 (heap_below hb (heap_lt R1.out) R1.out)
      clear hb
      go_wp2_with fail
      refine (HN.out _ hB1.out).mono ?_
      rintro e w4 ⟨rfl, hb⟩
      go_wp2_with fail
      go_ret
      exact ⟨rfl, hB1.out.trans (hb.mono hB1.out.size)⟩
  · have hres : Ty.agreeT k kids k' kids' = false := by unfold Ty.agreeT; simp [h0]
    rw [hres]
    have hc : (((Ty.chk k kids : Nat) : Int) == 0) = false := by simp; omega
    generalize Ty.chk k kids = C at *
    clear hres h0 HK hB0
    go_enter Tryz.func71, Tryz.ntmps71
    go_wp2_with fail
    refine (HM.out _ HB0.out).mono ?_
    rintro e w3 ⟨rfl, hb⟩
    go_wp2_with fail
    go_ret
    exact ⟨rfl, HB0.out.trans (hb.mono HB0.out.size)⟩
end Go.Proofs.YtadkiikoiajceaaGreatDoor
namespace Go.Proofs.YtadkiikoiajceaaGreatDoor
namespace Ty
/-- lists of types, each of the first at most as precise as the second's in its place -/
def leF : Fo → Fo → Bool
  | .nil, _ => true
  | .node _ _ _ _ _, .nil => true
  | .node _ _ k kids r, .node _ _ k' kids' r' => ((k == 0) || ((k == k') && leF kids kids')) && leF r r'
def leT (k : Int) (kids : Fo) (k' : Int) (kids' : Fo) : Bool := (k == 0) || ((k == k') && leF kids kids')
def lessT (k : Int) (kids : Fo) (k' : Int) (kids' : Fo) : Bool := (chk k kids == 0) && (chk k' kids' == 0) && leT k kids k' kids'
theorem leT_zero (kids : Fo) (k' : Int) (kids' : Fo) : leT 0 kids k' kids' = true := rfl
theorem leT_ne {k k' : Int} (kids kids' : Fo) (h1 : k ≠ 0) (h : k ≠ k') : leT k kids k' kids' = false := by unfold leT; simp [h1, h]
theorem leT_eq {k : Int} (kids kids' : Fo) (h1 : k ≠ 0) : leT k kids k kids' = leF kids kids' := by unfold leT; simp [h1]
theorem leF_refl : ∀ f : Fo, leF f f = true
  | .nil => rfl
  | .node _ _ k kids r => by simp [leF, leF_refl kids, leF_refl r]
theorem less_self (k : Int) (kids : Fo) : lessT k kids k kids = (chk k kids == 0) := by
  unfold lessT leT
  rw [leF_refl]
  simp
theorem less_zero (k : Int) (kids : Fo) : lessT 0 .nil k kids = (chk k kids == 0) := by
  unfold lessT leT
  simp [show chk 0 .nil = 0 from rfl]
theorem kids_zero {kids : Fo} (h : okK 0 (len kids) = true) : kids = .nil := by
  cases kids with
  | nil => rfl
  | node _ _ _ _ _ => simp [okK, len] at h
/-- both ways: the same -/
theorem leF_both : ∀ f g : Fo, okF f = true → okF g = true → len f = len g → leF f g = true → leF g f = eqF f g
  | .nil, .nil, _, _, _, _ => rfl
  | .nil, .node _ _ _ _ _, _, _, h, _ => by simp only [len] at h; omega
  | .node _ _ _ _ _, .nil, _, _, h, _ => by simp only [len] at h; omega
  | .node _ _ k kids r, .node _ _ k' kids' r', h1, h2, h3, h4 => by
    simp only [okF, Bool.and_eq_true, len] at h1 h2 h3
    simp only [leF, Bool.and_eq_true] at h4
    simp only [leF, eqF]
    rw [leF_both r r' h1.2 h2.2 (by omega) h4.2]
    by_cases e : k = k'
    · subst e
      by_cases hz : k = 0
      · subst hz
        obtain rfl := kids_zero h1.1.1
        obtain rfl := kids_zero h2.1.1
        rfl
      · have h5 : leF kids kids' = true := by simpa [hz] using h4.1
        rw [leF_both kids kids' h1.1.2 h2.1.2 (okK_same h1.1.1 h2.1.1) h5]
        rw [show (k == 0) = false by simpa using hz]
        simp
    · have hz : k = 0 := by simpa [e] using h4.1
      subst hz
      rw [show (k' == 0) = false by simpa using fun h => e h.symm, show ((0 : Int) == k') = false by simpa using e]
      rfl
theorem leF_trans : ∀ f g h : Fo, okF f = true → okF g = true → okF h = true → len f = len g → len g = len h → leF f g = true → leF g h = true → leF f h = true
  | .nil, _, _, _, _, _, _, _, _, _ => rfl
  | .node _ _ _ _ _, .nil, _, _, _, _, h, _, _, _ => by simp only [len] at h; omega
  | .node _ _ _ _ _, .node _ _ _ _ _, .nil, _, _, _, _, h, _, _ => by simp only [len] at h; omega
  | .node _ _ k kids r, .node _ _ k' kids' r', .node _ _ k'' kids'' r'', h1, h2, h3, h4, h5, h6, h7 => by
    simp only [okF, Bool.and_eq_true, len] at h1 h2 h3 h4 h5
    simp only [leF, Bool.and_eq_true, Bool.or_eq_true, beq_iff_eq] at h6 h7 ⊢
    refine ⟨?_, leF_trans r r' r'' h1.2 h2.2 h3.2 (by omega) (by omega) h6.2 h7.2⟩
    rcases h6.1 with hz | ⟨rfl, hk⟩
    · exact .inl hz
    · rcases h7.1 with hz | ⟨rfl, hk'⟩
      · exact .inl hz
      · exact .inr ⟨rfl, leF_trans kids kids' kids'' h1.1.2 h2.1.2 h3.1.2 (okK_same h1.1.1 h2.1.1) (okK_same h2.1.1 h3.1.1) hk hk'⟩
theorem lessT_iff {k : Int} {kids : Fo} {k' : Int} {kids' : Fo} : lessT k kids k' kids' = true ↔ chk k kids = 0 ∧ chk k' kids' = 0 ∧ leT k kids k' kids' = true := by
  unfold lessT
  simp [Bool.and_eq_true, and_assoc]
theorem ok_parts {k : Int} {kids : Fo} (h : chk k kids = 0) : okK k (len kids) = true ∧ okF kids = true := by
  have := (chk_ok h).1
  unfold okT at this
  rw [Bool.and_eq_true] at this
  exact this
theorem less_both {k : Int} {kids : Fo} {k' : Int} {kids' : Fo} (h : lessT k kids k' kids' = true) : lessT k' kids' k kids = sameT k kids k' kids' := by
  obtain ⟨h1, h2, h3⟩ := lessT_iff.1 h
  have o1 := ok_parts h1
  have o2 := ok_parts h2
  unfold lessT sameT eqT
  rw [h1, h2]
  simp only [beq_self_eq_true, Bool.true_and]
  have q := leF_both (.node 0 0 k kids .nil) (.node 0 0 k' kids' .nil) (by simp [okF, o1.1, o1.2]) (by simp [okF, o2.1, o2.2]) rfl (by unfold leT at h3; simpa [leF] using h3)
  simp only [leF, eqF, Bool.and_true] at q
  unfold leT
  exact q
theorem less_trans {k : Int} {kids : Fo} {k' : Int} {kids' : Fo} {k'' : Int} {kids'' : Fo} (h : lessT k kids k' kids' = true) (h' : lessT k' kids' k'' kids'' = true) : lessT k kids k'' kids'' = true := by
  obtain ⟨h1, h2, h3⟩ := lessT_iff.1 h
  obtain ⟨h4, h5, h6⟩ := lessT_iff.1 h'
  have o1 := ok_parts h1
  have o2 := ok_parts h2
  have o3 := ok_parts h5
  refine lessT_iff.2 ⟨h1, h5, ?_⟩
  have q := leF_trans (.node 0 0 k kids .nil) (.node 0 0 k' kids' .nil) (.node 0 0 k'' kids'' .nil) (by simp [okF, o1.1, o1.2]) (by simp [okF, o2.1, o2.2]) (by simp [okF, o3.1, o3.2]) rfl rfl (by unfold leT at h3; simpa [leF] using h3) (by unfold leT at h6; simpa [leF] using h6)
  simp only [leF, Bool.and_true] at q
  unfold leT
  exact q
/-- where two meet -/
def mF : Fo → Fo → Fo
  | .nil, _ => .nil
  | .node a b k kids r, .nil => .node a b k kids r
  | .node a b k kids r, .node _ _ k' kids' r' => .node a b (if k = 0 then k' else k) (if k = 0 then kids' else if k' = 0 then kids else mF kids kids') (mF r r')
def mK (k k' : Int) : Int := if k = 0 then k' else k
def mT (k : Int) (kids : Fo) (k' : Int) (kids' : Fo) : Fo := if k = 0 then kids' else if k' = 0 then kids else mF kids kids'
theorem mT_zero (kids : Fo) (k' : Int) (kids' : Fo) : mT 0 kids k' kids' = kids' := rfl
theorem mT_zero' {k : Int} (kids kids' : Fo) (h : k ≠ 0) : mT k kids 0 kids' = kids := by unfold mT; simp [h]
theorem mT_two {k k' : Int} (kids kids' : Fo) (h : k ≠ 0) (h' : k' ≠ 0) : mT k kids k' kids' = mF kids kids' := by unfold mT; simp [h, h']
theorem mK_ne {k : Int} (k' : Int) (h : k ≠ 0) : mK k k' = k := by unfold mK; simp [h]
end Ty
end Go.Proofs.YtadkiikoiajceaaGreatDoor
