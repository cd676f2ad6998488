/-
  TermsSame: the reference's same, Same; terms.Same; the law's alike; the law's walk.
-/
import Derived.Test.YtccobmjakmjekaaGreatDoorTmRefSameA
import Derived.Test.YtccobmjakmjekaaGreatDoorTmRefSameB
import Derived.Test.YtccobmjakmjekaaGreatDoorTmFn
namespace Go.Proofs.YtccobmjakmjekaaGreatDoor
open Go.RowKit


set_option maxHeartbeats 4000000 in
set_option maxRecDepth 100000 in
theorem tsame_no (h : Hd) (kids : Tm) (p : Pl) (h' : Hd) (kids' : Tm) (p' : Pl) (w : World) (hIs : Tm.Is w h kids p) (hIs' : Tm.Is w h' kids' p') (hno : (h.kind != h'.kind) = true ∨ ((p.n : Int) != (p'.n : Int)) = true) :
    Calls Tryz.prog 31 #[.agg #[.int .i8 h.kind, .string h.name, .string h.arg, .int .i64 h.num, .int .i8 h.tk, .slice p.TA p.tn p.tc, .int .i8 h.uk, .slice p.UA p.un p.uc, .int .i64 h.label, .int .i64 h.pos, .slice p.A p.n p.c], .agg #[.int .i8 h'.kind, .string h'.name, .string h'.arg, .int .i64 h'.num, .int .i8 h'.tk, .slice p'.TA p'.tn p'.tc, .int .i8 h'.uk, .slice p'.UA p'.un p'.uc, .int .i64 h'.label, .int .i64 h'.pos, .slice p'.A p'.n p'.c]] w fun e w' => e = .returned (.bool false) ∧ Below w.heap.size w w' := by
  have HX := Lib.hid (SameCtx.mk_of hIs hIs')
  have i5 := HX.out.n_max.1
  have i6 := HX.out.n_max.2
  clear hIs hIs'
  cases hk : (h.kind != h'.kind)
  · have hn : ((p.n : Int) != (p'.n : Int)) = true := by
      rcases hno with h1 | h1
      · rw [hk] at h1; cases h1
      · exact h1
    clear hno
    go_enter Tryz.func31, Tryz.ntmps31
    go_wp2_with fail
    go_ret
    exact ⟨rfl, HX.out.below0⟩
  · clear hno
    go_enter Tryz.func31, Tryz.ntmps31
    go_wp2_with fail
    go_ret
    exact ⟨rfl, HX.out.below0⟩

theorem tsame_any (K : Nat) : ∀ (h : Hd) (kids : Tm) (p : Pl) (h' : Hd) (kids' : Tm) (p' : Pl) (w : World), Tm.nodes kids < K → Tm.Is w h kids p → Tm.Is w h' kids' p' →
    Calls Tryz.prog 31 #[.agg #[.int .i8 h.kind, .string h.name, .string h.arg, .int .i64 h.num, .int .i8 h.tk, .slice p.TA p.tn p.tc, .int .i8 h.uk, .slice p.UA p.un p.uc, .int .i64 h.label, .int .i64 h.pos, .slice p.A p.n p.c], .agg #[.int .i8 h'.kind, .string h'.name, .string h'.arg, .int .i64 h'.num, .int .i8 h'.tk, .slice p'.TA p'.tn p'.tc, .int .i8 h'.uk, .slice p'.UA p'.un p'.uc, .int .i64 h'.label, .int .i64 h'.pos, .slice p'.A p'.n p'.c]] w fun e w' => e = .returned (.bool (Tm.alT h kids h' kids')) ∧ Below w.heap.size w w' := by
  induction K with
  | zero => intro _ _ _ _ _ _ _ hK; omega
  | succ K ih =>
    intro h kids p h' kids' p' w hK hIs hIs'
    by_cases hkk : h.kind = h'.kind
    · by_cases hnn : p.n = p'.n
      · rcases Tm.combos h.kind with hk | hk | hk | hk | hk | hk | hk | hk
        · exact tsame_A h kids p h' kids' p' w K hK hIs hIs' hkk hnn hk ih
        · exact tsame_V h kids p h' kids' p' w K hK hIs hIs' hkk hnn hk ih
        · exact tsame_N h kids p h' kids' p' w K hK hIs hIs' hkk hnn hk ih
        · exact tsame_L h kids p h' kids' p' w K hK hIs hIs' hkk hnn hk ih
        · exact tsame_R h kids p h' kids' p' w K hK hIs hIs' hkk hnn hk ih
        · exact tsame_I h kids p h' kids' p' w K hK hIs hIs' hkk hnn hk ih
        · exact tsame_C h kids p h' kids' p' w K hK hIs hIs' hkk hnn hk ih
        · exact tsame_K h kids p h' kids' p' w K hK hIs hIs' hkk hnn hk ih
      · have hres : Tm.alT h kids h' kids' = false := by
          unfold Tm.alT
          cases hq : Tm.alF kids kids'
          · simp
          · have := Tm.alF_len _ _ hq
            have h1 := hIs.fit.n_eq
            have h2 := hIs'.fit.n_eq
            omega
        rw [hres]
        exact tsame_no h kids p h' kids' p' w hIs hIs' (by right; simp; omega)
    · have hres : Tm.alT h kids h' kids' = false := by unfold Tm.alT; rw [Tm.eqH_no hkk]; rfl
      rw [hres]
      exact tsame_no h kids p h' kids' p' w hIs hIs' (by left; simpa using hkk)

set_option maxHeartbeats 4000000 in
set_option maxRecDepth 100000 in
theorem tref_same (h : Hd) (kids : Tm) (p : Pl) (h' : Hd) (kids' : Tm) (p' : Pl) (w : World) (hIs : Tm.Is w h kids p) (hIs' : Tm.Is w h' kids' p') :
    Calls Tryz.prog 16 #[.agg #[.int .i8 h.kind, .string h.name, .string h.arg, .int .i64 h.num, .int .i8 h.tk, .slice p.TA p.tn p.tc, .int .i8 h.uk, .slice p.UA p.un p.uc, .int .i64 h.label, .int .i64 h.pos, .slice p.A p.n p.c], .agg #[.int .i8 h'.kind, .string h'.name, .string h'.arg, .int .i64 h'.num, .int .i8 h'.tk, .slice p'.TA p'.tn p'.tc, .int .i8 h'.uk, .slice p'.UA p'.un p'.uc, .int .i64 h'.label, .int .i64 h'.pos, .slice p'.A p'.n p'.c]] w fun e w' => e = .returned (.bool (Tm.sameT h kids h' kids')) ∧ Below w.heap.size w w' := by
  have hB0 : Below w.heap.size w ((w.alloc (.cells #[.int .i8 h.kind, .string h.name, .string h.arg, .int .i64 h.num, .int .i8 h.tk, .slice p.TA p.tn p.tc, .int .i8 h.uk, .slice p.UA p.un p.uc, .int .i64 h.label, .int .i64 h.pos, .slice p.A p.n p.c] 28)).alloc (.cells #[.int .i8 h'.kind, .string h'.name, .string h'.arg, .int .i64 h'.num, .int .i8 h'.tk, .slice p'.TA p'.tn p'.tc, .int .i8 h'.uk, .slice p'.UA p'.un p'.uc, .int .i64 h'.label, .int .i64 h'.pos, .slice p'.A p'.n p'.c] 28)) := ((Below.refl _ _).alloc (Nat.le_refl _) _).alloc (by simp) _
  obtain ⟨r0, r1, _⟩ := two_new w (.cells #[.int .i8 h.kind, .string h.name, .string h.arg, .int .i64 h.num, .int .i8 h.tk, .slice p.TA p.tn p.tc, .int .i8 h.uk, .slice p.UA p.un p.uc, .int .i64 h.label, .int .i64 h.pos, .slice p.A p.n p.c] 28) (.cells #[.int .i8 h'.kind, .string h'.name, .string h'.arg, .int .i64 h'.num, .int .i8 h'.tk, .slice p'.TA p'.tn p'.tc, .int .i8 h'.uk, .slice p'.UA p'.un p'.uc, .int .i64 h'.label, .int .i64 h'.pos, .slice p'.A p'.n p'.c] 28)
  have HM := Lib.hid (fun (W : World) (hb : Below w.heap.size w W) => tref_check h kids p W (hIs.below hb))
  have HM' := Lib.hid (fun (W : World) (hb : Below w.heap.size w W) => tref_check h' kids' p' W (hIs'.below hb))
  have HA := Lib.hid (fun (W : World) (hb : Below w.heap.size w W) => tsame_any (Tm.nodes kids + 1) h kids p h' kids' p' W (by omega) (hIs.below hb) (hIs'.below hb))
  have R0 := Lib.hid r0
  have R1 := Lib.hid r1
  obtain ⟨b0, hk0⟩ : ∃ b, (((Tm.chk h kids : Nat) : Int) == 0) = b := ⟨_, rfl⟩
  obtain ⟨b1, hk1⟩ : ∃ b, (((Tm.chk h' kids' : Nat) : Int) == 0) = b := ⟨_, rfl⟩
  have hR : Tm.sameT h kids h' kids' = (b0 && (b1 && Tm.alT h kids h' kids')) := by unfold Tm.sameT; rw [hk0, hk1]
  rw [hR]
  generalize Tm.alT h kids h' kids' = b2 at *
  generalize ((Tm.chk h kids : Nat) : Int) = x0 at *
  generalize ((Tm.chk h' kids' : Nat) : Int) = x1 at *
  clear hIs hIs' r0 r1 hR
  cases b0
  · go_enter Tryz.func16, Tryz.ntmps16
    go_wp2_with fail
    refine (HM.out _ hB0).mono ?_
    rintro e w3 ⟨rfl, hb⟩
    go_wp2_with fail
    go_ret
    exact ⟨rfl, hB0.trans (hb.mono hB0.size)⟩
  · cases b1
    · go_enter Tryz.func16, Tryz.ntmps16
      go_wp2_with fail
      refine (HM.out _ hB0).mono ?_
      rintro e w3 ⟨rfl, hb⟩
      have hB1 := hB0.trans (hb.mono hB0.size)
      obtain ⟨y0, y1, y2, y3, y4, y5, y6, y7, y8, y9, y10, yl⟩ := own11 (heap_below hb (heap_lt R1.out) R1.out)
      clear hb
      go_wp2_with fail
      refine (HM'.out _ hB1).mono ?_
      rintro e w4 ⟨rfl, hb⟩
      go_wp2_with fail
      go_ret
      exact ⟨rfl, hB1.trans (hb.mono hB1.size)⟩
    · go_enter Tryz.func16, Tryz.ntmps16
      go_wp2_with fail
      refine (HM.out _ hB0).mono ?_
      rintro e w3 ⟨rfl, hb⟩
      have hB1 := hB0.trans (hb.mono hB0.size)
      have S0 := Lib.hid (heap_below hb (heap_lt R0.out) R0.out)
      have S1 := Lib.hid (heap_below hb (heap_lt R1.out) R1.out)
      obtain ⟨y0, y1, y2, y3, y4, y5, y6, y7, y8, y9, y10, yl⟩ := own11 S1.out
      clear hb
      go_wp2_with fail
      refine (HM'.out _ hB1).mono ?_
      rintro e w4 ⟨rfl, hb⟩
      have hB2 := hB1.trans (hb.mono hB1.size)
      clear y0 y1 y2 y3 y4 y5 y6 y7 y8 y9 y10 yl
      obtain ⟨q0, q1, q2, q3, q4, q5, q6, q7, q8, q9, q10, ql⟩ := own11 (heap_below hb (heap_lt S0.out) S0.out)
      obtain ⟨y0, y1, y2, y3, y4, y5, y6, y7, y8, y9, y10, yl⟩ := own11 (heap_below hb (heap_lt S1.out) S1.out)
      clear hb
      go_wp2_with fail
      refine (HA.out _ hB2).mono ?_
      rintro e w5 ⟨rfl, hb⟩
      go_wp2_with fail
      go_ret
      exact ⟨rfl, hB2.trans (hb.mono hB2.size)⟩


set_option maxHeartbeats 4000000 in
set_option maxRecDepth 100000 in
theorem tm_same_any (h : Hd) (kids : Tm) (p : Pl) (h' : Hd) (kids' : Tm) (p' : Pl) (w : World) (hIs : Tm.Is w h kids p) (hIs' : Tm.Is w h' kids' p') (hG : TGlob w) :
    Calls Tryz.prog 15 #[.agg #[.int .i8 h.kind, .string h.name, .string h.arg, .int .i64 h.num, .int .i8 h.tk, .slice p.TA p.tn p.tc, .int .i8 h.uk, .slice p.UA p.un p.uc, .int .i64 h.label, .int .i64 h.pos, .slice p.A p.n p.c], .agg #[.int .i8 h'.kind, .string h'.name, .string h'.arg, .int .i64 h'.num, .int .i8 h'.tk, .slice p'.TA p'.tn p'.tc, .int .i8 h'.uk, .slice p'.UA p'.un p'.uc, .int .i64 h'.label, .int .i64 h'.pos, .slice p'.A p'.n p'.c]] w fun e w' => e = .returned (.bool (Tm.sameT h kids h' kids')) ∧ Below w.heap.size w w' := by
  have hB0 : Below w.heap.size w ((w.alloc (.cells #[.int .i8 h.kind, .string h.name, .string h.arg, .int .i64 h.num, .int .i8 h.tk, .slice p.TA p.tn p.tc, .int .i8 h.uk, .slice p.UA p.un p.uc, .int .i64 h.label, .int .i64 h.pos, .slice p.A p.n p.c] 28)).alloc (.cells #[.int .i8 h'.kind, .string h'.name, .string h'.arg, .int .i64 h'.num, .int .i8 h'.tk, .slice p'.TA p'.tn p'.tc, .int .i8 h'.uk, .slice p'.UA p'.un p'.uc, .int .i64 h'.label, .int .i64 h'.pos, .slice p'.A p'.n p'.c] 28)) := ((Below.refl _ _).alloc (Nat.le_refl _) _).alloc (by simp) _
  obtain ⟨r0, r1, _⟩ := two_new w (.cells #[.int .i8 h.kind, .string h.name, .string h.arg, .int .i64 h.num, .int .i8 h.tk, .slice p.TA p.tn p.tc, .int .i8 h.uk, .slice p.UA p.un p.uc, .int .i64 h.label, .int .i64 h.pos, .slice p.A p.n p.c] 28) (.cells #[.int .i8 h'.kind, .string h'.name, .string h'.arg, .int .i64 h'.num, .int .i8 h'.tk, .slice p'.TA p'.tn p'.tc, .int .i8 h'.uk, .slice p'.UA p'.un p'.uc, .int .i64 h'.label, .int .i64 h'.pos, .slice p'.A p'.n p'.c] 28)
  have HM := Lib.hid (fun (W : World) (hb : Below w.heap.size w W) => tcheck_any h kids p W (hIs.below hb) (hG.below hb))
  have HM' := Lib.hid (fun (W : World) (hb : Below w.heap.size w W) => tcheck_any h' kids' p' W (hIs'.below hb) (hG.below hb))
  have HA := Lib.hid (fun (W : World) (hb : Below w.heap.size w W) => talike_any (Tm.nodes kids + 1) h kids p h' kids' p' W (by omega) (hIs.below hb) (hIs'.below hb) (hG.below hb))
  have R0 := Lib.hid r0
  have R1 := Lib.hid r1
  obtain ⟨b0, hk0⟩ : ∃ b, (((Tm.chk h kids : Nat) : Int) == 0) = b := ⟨_, rfl⟩
  obtain ⟨b1, hk1⟩ : ∃ b, (((Tm.chk h' kids' : Nat) : Int) == 0) = b := ⟨_, rfl⟩
  have hR : Tm.sameT h kids h' kids' = (b0 && (b1 && Tm.alT h kids h' kids')) := by unfold Tm.sameT; rw [hk0, hk1]
  rw [hR]
  generalize Tm.alT h kids h' kids' = b2 at *
  generalize ((Tm.chk h kids : Nat) : Int) = x0 at *
  generalize ((Tm.chk h' kids' : Nat) : Int) = x1 at *
  clear hIs hIs' r0 r1 hR hG
  cases b0
  · go_enter Tryz.func15, Tryz.ntmps15
    go_wp2_with fail
    refine (HM.out _ hB0).mono ?_
    rintro e w3 ⟨rfl, hb⟩
    go_wp2_with fail
    go_ret
    exact ⟨rfl, hB0.trans (hb.mono hB0.size)⟩
  · cases b1
    · go_enter Tryz.func15, Tryz.ntmps15
      go_wp2_with fail
      refine (HM.out _ hB0).mono ?_
      rintro e w3 ⟨rfl, hb⟩
      have hB1 := hB0.trans (hb.mono hB0.size)
      obtain ⟨y0, y1, y2, y3, y4, y5, y6, y7, y8, y9, y10, yl⟩ := own11 (heap_below hb (heap_lt R1.out) R1.out)
      clear hb
      go_wp2_with fail
      refine (HM'.out _ hB1).mono ?_
      rintro e w4 ⟨rfl, hb⟩
      go_wp2_with fail
      go_ret
      exact ⟨rfl, hB1.trans (hb.mono hB1.size)⟩
    · go_enter Tryz.func15, Tryz.ntmps15
      go_wp2_with fail
      refine (HM.out _ hB0).mono ?_
      rintro e w3 ⟨rfl, hb⟩
      have hB1 := hB0.trans (hb.mono hB0.size)
      have S0 := Lib.hid (heap_below hb (heap_lt R0.out) R0.out)
      have S1 := Lib.hid (heap_below hb (heap_lt R1.out) R1.out)
      obtain ⟨y0, y1, y2, y3, y4, y5, y6, y7, y8, y9, y10, yl⟩ := own11 S1.out
      clear hb
      go_wp2_with fail
      refine (HM'.out _ hB1).mono ?_
      rintro e w4 ⟨rfl, hb⟩
      have hB2 := hB1.trans (hb.mono hB1.size)
      clear y0 y1 y2 y3 y4 y5 y6 y7 y8 y9 y10 yl
      obtain ⟨q0, q1, q2, q3, q4, q5, q6, q7, q8, q9, q10, ql⟩ := own11 (heap_below hb (heap_lt S0.out) S0.out)
      obtain ⟨y0, y1, y2, y3, y4, y5, y6, y7, y8, y9, y10, yl⟩ := own11 (heap_below hb (heap_lt S1.out) S1.out)
      clear hb
      go_wp2_with fail
      refine (HA.out _ hB2).mono ?_
      rintro e w5 ⟨rfl, hb⟩
      go_wp2_with fail
      go_ret
      exact ⟨rfl, hB2.trans (hb.mono hB2.size)⟩

theorem Tm.is_leaf (w : World) (k : Int) (nm : ByteArray) (ps : Int) (h1 : -128 ≤ k) (h2 : k ≤ 127) (h3 : nm.size ≤ 281474976710656) : Tm.Is w ⟨k, nm, ⟨#[]⟩, 0, 0, .nil, 0, .nil, 0, ps⟩ .nil ⟨none, 0, 0, none, 0, 0, none, 0, 0⟩ := by
  have hz : ∀ w : World, Ty.Is w 0 .nil none 0 0 := fun w => ⟨trivial, rfl, Nat.le_refl _, Nat.zero_le _, by omega, by omega⟩
  exact ⟨⟨hz w, hz w, rfl, Nat.le_refl _, Nat.zero_le _, h1, h2, show (-9223372036854775808 : Int) ≤ 0 by omega, show (0 : Int) ≤ 9223372036854775807 by omega, h3, Nat.zero_le _⟩, trivial⟩

set_option maxHeartbeats 4000000 in
set_option maxRecDepth 100000 in
theorem law_alike (w : World) (hG : TGlob w) :
    Calls Tryz.prog 17 #[] w fun e w' => e = .returned (.bool true) ∧ Below w.heap.size w w' := by
  have hB0 : Below w.heap.size w (w.alloc (.cells #[.int .i8 0, .string ⟨#[120]⟩, .string ⟨#[]⟩, .int .i64 0, .int .i8 0, .slice none 0 0, .int .i8 0, .slice none 0 0, .int .i64 0, .int .i64 0, .slice none 0 0] 28)) := (Below.refl _ _).alloc (Nat.le_refl _) _
  have HN := Lib.hid (heap_new w (.cells #[.int .i8 0, .string ⟨#[120]⟩, .string ⟨#[]⟩, .int .i64 0, .int .i8 0, .slice none 0 0, .int .i8 0, .slice none 0 0, .int .i64 0, .int .i64 0, .slice none 0 0] 28))
  have C1 := Lib.hid (fun (W : World) (hb : Below w.heap.size w W) => tm_same_any _ _ _ _ _ _ W (Tm.is_leaf W 0 ⟨#[120]⟩ 0 (by omega) (by omega) (by decide)) (Tm.is_leaf W 0 ⟨#[120]⟩ 3 (by omega) (by omega) (by decide)) (hG.below hb))
  have C2 := Lib.hid (fun (W : World) (hb : Below w.heap.size w W) => tm_same_any _ _ _ _ _ _ W (Tm.is_leaf W 0 ⟨#[120]⟩ 0 (by omega) (by omega) (by decide)) (Tm.is_leaf W 2 ⟨#[]⟩ 0 (by omega) (by omega) (by decide)) (hG.below hb))
  dsimp only at C1 C2
  rw [show Tm.sameT ⟨0, ⟨#[120]⟩, ⟨#[]⟩, 0, 0, .nil, 0, .nil, 0, 0⟩ .nil ⟨0, ⟨#[120]⟩, ⟨#[]⟩, 0, 0, .nil, 0, .nil, 0, 3⟩ .nil = true by decide +kernel] at C1
  rw [show Tm.sameT ⟨0, ⟨#[120]⟩, ⟨#[]⟩, 0, 0, .nil, 0, .nil, 0, 0⟩ .nil ⟨2, ⟨#[]⟩, ⟨#[]⟩, 0, 0, .nil, 0, .nil, 0, 0⟩ .nil = false by decide +kernel] at C2
  clear hG
  go_enter Tryz.func17, Tryz.ntmps17
  go_wp2_with fail
  refine (C1.out _ hB0).mono ?_
  rintro e w3 ⟨rfl, hb⟩
  have hB1 := hB0.trans (hb.mono hB0.size)
  obtain ⟨q0, q1, q2, q3, q4, q5, q6, q7, q8, q9, q10, ql⟩ := own11 (heap_below hb (by simp) HN.out)
  clear hb
  go_wp2_with fail
  refine (C2.out _ hB1).mono ?_
  rintro e w4 ⟨rfl, hb⟩
  go_wp2_with fail
  go_ret
  exact ⟨rfl, hB1.trans (hb.mono hB1.size)⟩

/-- a term's eleven cells in a block -/
def RowEl (w : World) (g : Nat) (h : Hd) (p : Pl) : Prop :=
  w.cell? ⟨g, 0, none⟩ = some (.int .i8 h.kind) ∧ w.cell? ⟨g, 1, none⟩ = some (.string h.name) ∧ w.cell? ⟨g, 2, none⟩ = some (.string h.arg) ∧ w.cell? ⟨g, 3, none⟩ = some (.int .i64 h.num) ∧ w.cell? ⟨g, 4, none⟩ = some (.int .i8 h.tk) ∧
  w.cell? ⟨g, 5, none⟩ = some (.slice p.TA p.tn p.tc) ∧ w.cell? ⟨g, 6, none⟩ = some (.int .i8 h.uk) ∧ w.cell? ⟨g, 7, none⟩ = some (.slice p.UA p.un p.uc) ∧ w.cell? ⟨g, 8, none⟩ = some (.int .i64 h.label) ∧ w.cell? ⟨g, 9, none⟩ = some (.int .i64 h.pos) ∧
  w.cell? ⟨g, 10, none⟩ = some (.slice p.A p.n p.c)
theorem RowEl.below {w w' : World} {g : Nat} {h : Hd} {p : Pl} (hr : RowEl w g h p) (hb : Below w.heap.size w w') : RowEl w' g h p := by
  have hl := Ty.cell_lt hr.1
  have hc := fun o => (bcell hb).1 g o hl
  unfold RowEl at *
  rw [hc, hc, hc, hc, hc, hc, hc, hc, hc, hc, hc]
  exact hr
theorem RowEl.of_heap {w : World} {g : Nat} {h : Hd} {p : Pl} (hh : w.heap[g]? = some (.cells #[.int .i8 h.kind, .string h.name, .string h.arg, .int .i64 h.num, .int .i8 h.tk, .slice p.TA p.tn p.tc, .int .i8 h.uk, .slice p.UA p.un p.uc, .int .i64 h.label, .int .i64 h.pos, .slice p.A p.n p.c] 28 (0, 0))) : RowEl w g h p := by
  obtain ⟨q0, q1, q2, q3, q4, q5, q6, q7, q8, q9, q10, _⟩ := own11 hh
  exact ⟨q0, q1, q2, q3, q4, q5, q6, q7, q8, q9, q10⟩



attribute [local go_sem ↓] Go.wp_at_zero Go.wp_at_succ
set_option maxHeartbeats 4000000 in
set_option maxRecDepth 100000 in
theorem law_TermsSame (h : Hd) (kids : Tm) (p : Pl) (h' : Hd) (kids' : Tm) (p' : Pl) (w : World) (hIs : Tm.Is w h kids p) (hIs' : Tm.Is w h' kids' p') (hG : TGlob w) :
    Calls Tryz.prog 4 #[.agg #[.int .i8 h.kind, .string h.name, .string h.arg, .int .i64 h.num, .int .i8 h.tk, .slice p.TA p.tn p.tc, .int .i8 h.uk, .slice p.UA p.un p.uc, .int .i64 h.label, .int .i64 h.pos, .slice p.A p.n p.c], .agg #[.int .i8 h'.kind, .string h'.name, .string h'.arg, .int .i64 h'.num, .int .i8 h'.tk, .slice p'.TA p'.tn p'.tc, .int .i8 h'.uk, .slice p'.UA p'.un p'.uc, .int .i64 h'.label, .int .i64 h'.pos, .slice p'.A p'.n p'.c]] w fun e w' => e = .returned (.bool true) ∧ Below w.heap.size w w' := by
  have hB0 : Below w.heap.size w ((w.alloc (.cells #[.int .i8 h.kind, .string h.name, .string h.arg, .int .i64 h.num, .int .i8 h.tk, .slice p.TA p.tn p.tc, .int .i8 h.uk, .slice p.UA p.un p.uc, .int .i64 h.label, .int .i64 h.pos, .slice p.A p.n p.c] 28)).alloc (.cells #[.int .i8 h'.kind, .string h'.name, .string h'.arg, .int .i64 h'.num, .int .i8 h'.tk, .slice p'.TA p'.tn p'.tc, .int .i8 h'.uk, .slice p'.UA p'.un p'.uc, .int .i64 h'.label, .int .i64 h'.pos, .slice p'.A p'.n p'.c] 28)) := ((Below.refl _ _).alloc (Nat.le_refl _) _).alloc (by simp) _
  obtain ⟨r0, r1, r2⟩ := two_new w (.cells #[.int .i8 h.kind, .string h.name, .string h.arg, .int .i64 h.num, .int .i8 h.tk, .slice p.TA p.tn p.tc, .int .i8 h.uk, .slice p.UA p.un p.uc, .int .i64 h.label, .int .i64 h.pos, .slice p.A p.n p.c] 28) (.cells #[.int .i8 h'.kind, .string h'.name, .string h'.arg, .int .i64 h'.num, .int .i8 h'.tk, .slice p'.TA p'.tn p'.tc, .int .i8 h'.uk, .slice p'.UA p'.un p'.uc, .int .i64 h'.label, .int .i64 h'.pos, .slice p'.A p'.n p'.c] 28)
  have HX := Lib.hid (RowEl.of_heap r0)
  have HY := Lib.hid (RowEl.of_heap r1)
  have hIs1 := hIs.below hB0
  have hIs2 := hIs'.below hB0
  have hG1 := hG.below hB0
  clear hIs hIs' hG r0 r1 r2
  generalize hw1 : (w.alloc (.cells #[.int .i8 h.kind, .string h.name, .string h.arg, .int .i64 h.num, .int .i8 h.tk, .slice p.TA p.tn p.tc, .int .i8 h.uk, .slice p.UA p.un p.uc, .int .i64 h.label, .int .i64 h.pos, .slice p.A p.n p.c] 28)).alloc (.cells #[.int .i8 h'.kind, .string h'.name, .string h'.arg, .int .i64 h'.num, .int .i8 h'.tk, .slice p'.TA p'.tn p'.tc, .int .i8 h'.uk, .slice p'.UA p'.un p'.uc, .int .i64 h'.label, .int .i64 h'.pos, .slice p'.A p'.n p'.c] 28) = w1 at *
  have HW1 := Lib.hid hw1
  clear hw1
  have C1 := Lib.hid (fun (W : World) (hb : Below w1.heap.size w1 W) => tm_same_any h kids p h' kids' p' W (hIs1.below hb) (hIs2.below hb) (hG1.below hb))
  have C2 := Lib.hid (fun (W : World) (hb : Below w1.heap.size w1 W) => tref_same h kids p h' kids' p' W (hIs1.below hb) (hIs2.below hb))
  have C3 := Lib.hid (fun (W : World) (hb : Below w1.heap.size w1 W) => law_alike W (hG1.below hb))
  generalize Tm.sameT h kids h' kids' = S at *
  have D0 : Below w1.heap.size w1 w1.drew := (Below.refl _ _).drew
  clear hIs1 hIs2 hG1
  cases S
  all_goals
    go_enter Tryz.func4, Tryz.ntmps4
    go_wp2_with fail
    rw [HW1.out]
    go_region_held3 (fun w' => (w'.cell? ⟨w.heap.size, 0, none⟩ = some (.int .i8 h.kind) ∧ w'.cell? ⟨w.heap.size, 1, none⟩ = some (.string h.name) ∧ w'.cell? ⟨w.heap.size, 2, none⟩ = some (.string h.arg) ∧ w'.cell? ⟨w.heap.size, 3, none⟩ = some (.int .i64 h.num) ∧ w'.cell? ⟨w.heap.size, 4, none⟩ = some (.int .i8 h.tk) ∧ w'.cell? ⟨w.heap.size, 5, none⟩ = some (.slice p.TA p.tn p.tc) ∧ w'.cell? ⟨w.heap.size, 6, none⟩ = some (.int .i8 h.uk) ∧ w'.cell? ⟨w.heap.size, 7, none⟩ = some (.slice p.UA p.un p.uc) ∧ w'.cell? ⟨w.heap.size, 8, none⟩ = some (.int .i64 h.label) ∧ w'.cell? ⟨w.heap.size, 9, none⟩ = some (.int .i64 h.pos) ∧ w'.cell? ⟨w.heap.size, 10, none⟩ = some (.slice p.A p.n p.c)) ∧ (w'.cell? ⟨w.heap.size + 1, 0, none⟩ = some (.int .i8 h'.kind) ∧ w'.cell? ⟨w.heap.size + 1, 1, none⟩ = some (.string h'.name) ∧ w'.cell? ⟨w.heap.size + 1, 2, none⟩ = some (.string h'.arg) ∧ w'.cell? ⟨w.heap.size + 1, 3, none⟩ = some (.int .i64 h'.num) ∧ w'.cell? ⟨w.heap.size + 1, 4, none⟩ = some (.int .i8 h'.tk) ∧ w'.cell? ⟨w.heap.size + 1, 5, none⟩ = some (.slice p'.TA p'.tn p'.tc) ∧ w'.cell? ⟨w.heap.size + 1, 6, none⟩ = some (.int .i8 h'.uk) ∧ w'.cell? ⟨w.heap.size + 1, 7, none⟩ = some (.slice p'.UA p'.un p'.uc) ∧ w'.cell? ⟨w.heap.size + 1, 8, none⟩ = some (.int .i64 h'.label) ∧ w'.cell? ⟨w.heap.size + 1, 9, none⟩ = some (.int .i64 h'.pos) ∧ w'.cell? ⟨w.heap.size + 1, 10, none⟩ = some (.slice p'.A p'.n p'.c)))
      (first | exact ⟨HX.out.below D3, HY.out.below D3⟩ | exact ⟨HX.out.below D2, HY.out.below D2⟩ | exact ⟨HX.out.below D1, HY.out.below D1⟩ | exact ⟨HX.out.below D0, HY.out.below D0⟩)
      (first
        | (go_at_call 15; (with_reducible refine (C1.out _ D0).mono ?_); rintro e u1 ⟨rfl, hb⟩; have D1 := D0.trans hb; clear hb)
        | (go_at_call 16; (with_reducible refine (C2.out _ D1).mono ?_); rintro e u2 ⟨rfl, hb⟩; have D2 := D1.trans (hb.mono D1.size); clear hb)
        | (go_at_call 17; (with_reducible refine (C3.out _ D2).mono ?_); rintro e u3 ⟨rfl, hb⟩; have D3 := D2.trans (hb.mono D2.size); clear hb))
    go_wp2_with fail
    go_ret
    exact ⟨rfl, hB0.trans (D3.mono hB0.size)⟩
end Go.Proofs.YtccobmjakmjekaaGreatDoor
