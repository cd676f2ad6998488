/-
  Layer 3's leaves: how many kids a kind has, which fields count; operators; labels. The world stays as it was. terms.shapeOf: the table of terms' shapes. terms.typesOf: the types of a term that count.
-/
import Derived.Test.YtdeomggkhbdkaaaGreatDoorM4
import Derived.Test.YtdeomggkhbdkaaaGreatDoorLeaf
import Derived.IntWalk
namespace Go.Proofs.YtdeomggkhbdkaaaGreatDoor
open Go.RowKit

namespace Tm
/-- the reference's word on a kind's kids -/
def kidsI (k : Int) : Int := if isKind k then (kidsN k : Int) else -1
theorem isOp_iff (s : ByteArray) : isOp s = (s.toList == [43] || s.toList == [45] || s.toList == [42] || s.toList == [47] || s.toList == [60] || s.toList == [61]) := by
  unfold isOp; rw [Bool.eq_iff_iff]; simp [or_assoc]
end Tm

set_option maxHeartbeats 1000000 in
set_option maxRecDepth 100000 in
theorem ref_hasName_any (k : Int) (w : World) :
    Calls Tryz.prog 47 #[.int .i8 k] w fun e w' => e = .returned (.bool (Tm.hasName k)) ∧ w = w' := by
  go_enter Tryz.func47, Tryz.ntmps47
  go_wp2
  all_goals go_ret
  all_goals refine ⟨ret_b ?_, rfl⟩
  all_goals (rw [Bool.eq_iff_iff]; simp [Tm.hasName]; try omega)

set_option maxHeartbeats 1000000 in
set_option maxRecDepth 100000 in
theorem ref_hasArg_any (k : Int) (w : World) :
    Calls Tryz.prog 49 #[.int .i8 k] w fun e w' => e = .returned (.bool (Tm.hasArg k)) ∧ w = w' := by
  go_enter Tryz.func49, Tryz.ntmps49
  go_wp2
  all_goals go_ret
  all_goals refine ⟨ret_b ?_, rfl⟩
  all_goals (rw [Bool.eq_iff_iff]; simp [Tm.hasArg]; try omega)

set_option maxHeartbeats 1000000 in
set_option maxRecDepth 100000 in
theorem ref_hasType_any (k : Int) (w : World) :
    Calls Tryz.prog 50 #[.int .i8 k] w fun e w' => e = .returned (.bool (Tm.hasType k)) ∧ w = w' := by
  go_enter Tryz.func50, Tryz.ntmps50
  go_wp2
  all_goals go_ret
  all_goals refine ⟨ret_b ?_, rfl⟩
  all_goals (rw [Bool.eq_iff_iff]; simp [Tm.hasType]; try omega)

set_option maxHeartbeats 1000000 in
set_option maxRecDepth 100000 in
theorem ref_hasTo_any (k : Int) (w : World) :
    Calls Tryz.prog 52 #[.int .i8 k] w fun e w' => e = .returned (.bool (Tm.hasTo k)) ∧ w = w' := by
  go_enter Tryz.func52, Tryz.ntmps52
  go_wp2
  all_goals go_ret
  all_goals refine ⟨ret_b ?_, rfl⟩
  all_goals (rw [Bool.eq_iff_iff]; simp [Tm.hasTo]; try omega)

set_option maxHeartbeats 1000000 in
set_option maxRecDepth 100000 in
theorem ref_kids_any (k : Int) (w : World) :
    Calls Tryz.prog 45 #[.int .i8 k] w fun e w' => e = .returned (.int .i64 (Tm.kidsI k)) ∧ w = w' := by
  by_cases hk : 0 ≤ k ∧ k ≤ 17
  · have hk' : k = 0 ∨ k = 1 ∨ k = 2 ∨ k = 3 ∨ k = 4 ∨ k = 5 ∨ k = 6 ∨ k = 7 ∨ k = 8 ∨ k = 9 ∨ k = 10 ∨ k = 11 ∨ k = 12 ∨ k = 13 ∨ k = 14 ∨ k = 15 ∨ k = 16 ∨ k = 17 := by omega
    rcases hk' with rfl | rfl | rfl | rfl | rfl | rfl | rfl | rfl | rfl | rfl | rfl | rfl | rfl | rfl | rfl | rfl | rfl | rfl
    all_goals
      clear hk
      go_enter Tryz.func45, Tryz.ntmps45
      go_wp2
      go_ret
      exact ⟨rfl, rfl⟩
  · have e : Tm.kidsI k = -1 := by unfold Tm.kidsI Tm.isKind; rw [if_neg (by simpa using hk)]
    rw [e]
    have h0 : (k == 0) = false := by simp; omega
    have h1 : (k == 1) = false := by simp; omega
    have h2 : (k == 2) = false := by simp; omega
    have h3 : (k == 3) = false := by simp; omega
    have h4 : (k == 4) = false := by simp; omega
    have h5 : (k == 5) = false := by simp; omega
    have h6 : (k == 6) = false := by simp; omega
    have h7 : (k == 7) = false := by simp; omega
    have h8 : (k == 8) = false := by simp; omega
    have h9 : (k == 9) = false := by simp; omega
    have h10 : (k == 10) = false := by simp; omega
    have h11 : (k == 11) = false := by simp; omega
    have h12 : (k == 12) = false := by simp; omega
    have h13 : (k == 13) = false := by simp; omega
    have h14 : (k == 14) = false := by simp; omega
    have h15 : (k == 15) = false := by simp; omega
    have h16 : (k == 16) = false := by simp; omega
    have h17 : (k == 17) = false := by simp; omega
    clear hk e
    go_enter Tryz.func45, Tryz.ntmps45
    go_wp2
    go_ret
    exact ⟨rfl, rfl⟩

set_option maxHeartbeats 1000000 in
set_option maxRecDepth 100000 in
theorem ref_op_any (s : ByteArray) (w : World) :
    Calls Tryz.prog 46 #[.string s] w fun e w' => e = .returned (.bool (Tm.isOp s)) ∧ w = w' := by
  go_enter Tryz.func46, Tryz.ntmps46
  go_wp2
  all_goals go_ret
  all_goals exact ⟨ret_b (by simp_all [Tm.isOp_iff]), rfl⟩

set_option maxHeartbeats 1000000 in
set_option maxRecDepth 100000 in
theorem operator_any (s : ByteArray) (w : World) :
    Calls Tryz.prog 59 #[.string s] w fun e w' => e = .returned (.bool (Tm.isOp s)) ∧ w = w' := by
  go_enter Tryz.func59, Tryz.ntmps59
  go_wp2
  all_goals go_ret
  all_goals exact ⟨ret_b (by simp_all [Tm.isOp_iff]), rfl⟩

set_option maxHeartbeats 1000000 in
set_option maxRecDepth 100000 in
theorem label_any (n : Int) (w : World) (h1 : -9223372036854775808 ≤ n) (h2 : n ≤ 9223372036854775807) :
    Calls Tryz.prog 32 #[.int .i64 n] w fun e w' => e = .returned (.bool (Tm.labelOk n)) ∧ w = w' := by
  go_enter Tryz.func32, Tryz.ntmps32
  go_wp2
  all_goals go_ret
  all_goals refine ⟨ret_b ?_, rfl⟩
  all_goals (rw [Bool.eq_iff_iff]; simp [Tm.labelOk]; try omega)
end Go.Proofs.YtdeomggkhbdkaaaGreatDoor
namespace Go.Proofs.YtdeomggkhbdkaaaGreatDoor
open Go.RowKit

/-- a kind's row of the table -/
def tshape (k : Int) : List Value := [.bool (Tm.hasName k), .bool (Tm.hasArg k), .bool (Tm.hasNum k), .bool (Tm.hasType k), .bool (Tm.hasTo k), .bool (Tm.hasLabel k), .int .i64 (Tm.kidsN k)]
structure TShapes (w : World) : Prop where
  lt : 0 < w.heap.size
  row : ∀ k : Int, 0 ≤ k → k < 18 → ∀ j v, (tshape k)[j]? = some v → w.cell? ⟨0, k.toNat * 7 + j, none⟩ = some v
theorem TShapes.below {w w' : World} (h : TShapes w) (hb : Below w.heap.size w w') : TShapes w' :=
  ⟨Nat.lt_of_lt_of_le h.lt hb.size, fun k h0 h1 j v hv => by rw [(bcell hb).1 _ _ h.lt]; exact h.row k h0 h1 j v hv⟩
theorem TShapes.alloc {w : World} (h : TShapes w) (o : Obj) : TShapes (w.alloc o) := h.below ((Below.refl _ _).alloc (Nat.le_refl _) _)
theorem TShapes.grown {w w' : World} {g : Nat} (h : TShapes w) (hg : w.grownBy w' (some g)) (hne : g ≠ 0) : TShapes w' :=
  ⟨Nat.lt_of_lt_of_le h.lt hg.size, fun k h0 h1 j v hv => by
    rw [World.cell?_of_block (hg.block 0 h.lt (fun e => hne (by injection e with e; exact e.symm)))]; exact h.row k h0 h1 j v hv⟩

set_option maxHeartbeats 1000000 in
set_option maxRecDepth 100000 in
theorem shapeOf_in (k : Int) (w : World) (h0 : 0 ≤ k) (h1 : k < 18) (hS : TShapes w) :
    Calls Tryz.prog 30 #[.int .i8 k] w fun e w' => e = .returned (.tuple #[.agg #[.bool (Tm.hasName k), .bool (Tm.hasArg k), .bool (Tm.hasNum k), .bool (Tm.hasType k), .bool (Tm.hasTo k), .bool (Tm.hasLabel k), .int .i64 (Tm.kidsN k)], .bool true]) ∧ Below w.heap.size w w' := by
  have hr := fun j v hv => ((hS.alloc (.cells #[.bool false, .bool false, .bool false, .bool false, .bool false, .bool false, .int .i64 0] 63)).row k h0 h1 j v hv)
  have c0 := hr 0 _ rfl
  have c1 := hr 1 _ rfl
  have c2 := hr 2 _ rfl
  have c3 := hr 3 _ rfl
  have c4 := hr 4 _ rfl
  have c5 := hr 5 _ rfl
  have c6 := hr 6 _ rfl
  rw [Nat.add_zero] at c0
  have hl := hS.lt
  clear hr hS
  have hd1 : decide (k < (0 : Int)) = false := by simp; omega
  have hd2 : decide ((18 : Int) ≤ k) = false := by simp; omega
  have hw : IntKind.i64.wrap k = k := IntWalk.i64_in _ (by omega)
  have hix : 0 ≤ k ∧ k < 18 := ⟨h0, h1⟩
  generalize Tm.hasName k = b0 at *
  generalize Tm.hasArg k = b1 at *
  generalize Tm.hasNum k = b2 at *
  generalize Tm.hasType k = b3 at *
  generalize Tm.hasTo k = b4 at *
  generalize Tm.hasLabel k = b5 at *
  generalize Tm.kidsN k = n at *
  go_enter Tryz.func30, Tryz.ntmps30
  go_wp2_with fail
  refine bodyPost_ret (v := .tuple #[.agg #[.bool b0, .bool b1, .bool b2, .bool b3, .bool b4, .bool b5, .int .i64 n], .bool true]) (by simp [results, Tryz.results30, go_sem]) rfl ⟨rfl, ?_⟩
  exact (Below.refl _ _).alloc (Nat.le_refl _) _

set_option maxHeartbeats 1000000 in
set_option maxRecDepth 100000 in
theorem shapeOf_out (k : Int) (w : World) (hk : -128 ≤ k) (hk2 : k ≤ 127) (h : ¬(0 ≤ k ∧ k < 18)) :
    Calls Tryz.prog 30 #[.int .i8 k] w fun e w' => e = .returned (.tuple #[.agg #[.bool false, .bool false, .bool false, .bool false, .bool false, .bool false, .int .i64 0], .bool false]) ∧ Below w.heap.size w w' := by
  have hw : IntKind.i64.wrap k = k := IntWalk.i64_in _ (by omega)
  by_cases h0 : (0 : Int) ≤ k
  · have hd1 : decide (k < (0 : Int)) = false := by simp; omega
    have hd2 : decide ((18 : Int) ≤ k) = true := by simp; omega
    go_enter Tryz.func30, Tryz.ntmps30
    go_wp2_with fail
    refine bodyPost_ret (v := .tuple #[.agg #[.bool false, .bool false, .bool false, .bool false, .bool false, .bool false, .int .i64 0], .bool false]) (by simp [results, Tryz.results30, go_sem]) rfl ⟨rfl, ?_⟩
    exact (Below.refl _ _).alloc (Nat.le_refl _) _
  · have hd1 : decide (k < (0 : Int)) = true := by simp; omega
    go_enter Tryz.func30, Tryz.ntmps30
    go_wp2_with fail
    refine bodyPost_ret (v := .tuple #[.agg #[.bool false, .bool false, .bool false, .bool false, .bool false, .bool false, .int .i64 0], .bool false]) (by simp [results, Tryz.results30, go_sem]) rfl ⟨rfl, ?_⟩
    exact (Below.refl _ _).alloc (Nat.le_refl _) _

theorem shapeOf_any (k : Int) (w : World) (hk : -128 ≤ k) (hk2 : k ≤ 127) (hS : TShapes w) :
    Calls Tryz.prog 30 #[.int .i8 k] w fun e w' => e = .returned (.tuple #[.agg #[.bool (Tm.hasName k), .bool (Tm.hasArg k), .bool (Tm.hasNum k), .bool (Tm.hasType k), .bool (Tm.hasTo k), .bool (Tm.hasLabel k), .int .i64 (Tm.kidsN k)], .bool (Tm.isKind k)]) ∧ Below w.heap.size w w' := by
  by_cases h : 0 ≤ k ∧ k < 18
  · rw [show Tm.isKind k = true by simp [Tm.isKind]; omega]
    exact shapeOf_in k w h.1 h.2 hS
  · rw [show Tm.isKind k = false by simp [Tm.isKind]; omega, show Tm.hasName k = false by simp [Tm.hasName]; omega, show Tm.hasArg k = false by simp [Tm.hasArg]; omega,
      show Tm.hasNum k = false by simp [Tm.hasNum]; omega, show Tm.hasType k = false by simp [Tm.hasType]; omega, show Tm.hasTo k = false by simp [Tm.hasTo]; omega,
      show Tm.hasLabel k = false by simp [Tm.hasLabel]; omega, show Tm.kidsN k = 0 by unfold Tm.kidsN; rw [if_neg (by omega), if_neg (by omega), if_neg (by omega)]]
    exact shapeOf_out k w hk hk2 h
end Go.Proofs.YtdeomggkhbdkaaaGreatDoor
namespace Go.Proofs.YtdeomggkhbdkaaaGreatDoor
open Go.RowKit

theorem info_Type : (Tryz.prog.info? 25).map (fun i => (i.zero, i.size, i.bytes)) = some (some (.agg #[.int .i8 0, .slice none 0 0]), 2, 32) := by kernel_rfl

/-- what typesOf leaves: the list of the types that count -/
def TysPost (w : World) (h : Hd) (e : Ending) (w' : World) : Prop :=
  ∃ A n c, e = .returned (.slice A n c) ∧ Ty.Lies w' (Tm.tys h) A 0 ∧ n = Ty.len (Tm.tys h) ∧ n ≤ c ∧ c ≤ maxLen ∧ Below w.heap.size w w'

theorem Tm.lies_t1 {w : World} {g : Nat} {k : Int} {kids : Fo} {A : Option Addr} {n c : Nat} (h0 : w.cell? ⟨g, 0, none⟩ = some (.int .i8 k)) (h1 : w.cell? ⟨g, 1, none⟩ = some (.slice A n c)) (h : Ty.Is w k kids A n c) :
    Ty.Lies w (.node 0 0 k kids .nil) (some ⟨g, 0, none⟩) 0 :=
  ⟨g, 0, A, c, rfl, ⟨h.lo, h.hi⟩, h0, by rw [← h.n_eq]; exact h1, by rw [← h.n_eq]; exact h.n_le, h.c_le, h.lies, trivial⟩
theorem Tm.lies_t2 {w : World} {g : Nat} {k k2 : Int} {kids kids2 : Fo} {A A2 : Option Addr} {n c n2 c2 : Nat} (h0 : w.cell? ⟨g, 0, none⟩ = some (.int .i8 k)) (h1 : w.cell? ⟨g, 1, none⟩ = some (.slice A n c)) (h : Ty.Is w k kids A n c)
    (h2 : w.cell? ⟨g, 2, none⟩ = some (.int .i8 k2)) (h3 : w.cell? ⟨g, 3, none⟩ = some (.slice A2 n2 c2)) (h' : Ty.Is w k2 kids2 A2 n2 c2) :
    Ty.Lies w (.node 0 0 k kids (.node 0 0 k2 kids2 .nil)) (some ⟨g, 0, none⟩) 0 :=
  ⟨g, 0, A, c, rfl, ⟨h.lo, h.hi⟩, h0, by rw [← h.n_eq]; exact h1, by rw [← h.n_eq]; exact h.n_le, h.c_le, h.lies, g, 0, A2, c2, rfl, ⟨h'.lo, h'.hi⟩, h2, by rw [← h'.n_eq]; exact h3, by rw [← h'.n_eq]; exact h'.n_le, h'.c_le, h'.lies, trivial⟩

set_option maxHeartbeats 2000000 in
set_option maxRecDepth 100000 in
theorem typesOf_any (h : Hd) (n0 : Nat) (p : Pl) (w : World) (hF : Tm.Fit w h p n0) (hS : TShapes w) :
    Calls Tryz.prog 34 #[.agg #[.int .i8 h.kind, .string h.name, .string h.arg, .int .i64 h.num, .int .i8 h.tk, .slice p.TA p.tn p.tc, .int .i8 h.uk, .slice p.UA p.un p.uc, .int .i64 h.label, .int .i64 h.pos, .slice p.A p.n p.c]] w (TysPost w h) := by
  have hB0 : Below w.heap.size w (w.alloc (.cells #[.int .i8 h.kind, .string h.name, .string h.arg, .int .i64 h.num, .int .i8 h.tk, .slice p.TA p.tn p.tc, .int .i8 h.uk, .slice p.UA p.un p.uc, .int .i64 h.label, .int .i64 h.pos, .slice p.A p.n p.c] 28)) := (Below.refl _ _).alloc (Nat.le_refl _) _
  have hsh := shapeOf_any h.kind (w.alloc (.cells #[.int .i8 h.kind, .string h.name, .string h.arg, .int .i64 h.num, .int .i8 h.tk, .slice p.TA p.tn p.tc, .int .i8 h.uk, .slice p.UA p.un p.uc, .int .i64 h.label, .int .i64 h.pos, .slice p.A p.n p.c] 28)) hF.klo hF.khi (hS.below hB0)
  have HTY := Lib.hid (fun (W : World) (hb : Below w.heap.size w W) => (hF.ty.below hb))
  have HTO := Lib.hid (fun (W : World) (hb : Below w.heap.size w W) => (hF.to.below hb))
  have HN := Lib.hid (heap_new w (.cells #[.int .i8 h.kind, .string h.name, .string h.arg, .int .i64 h.num, .int .i8 h.tk, .slice p.TA p.tn p.tc, .int .i8 h.uk, .slice p.UA p.un p.uc, .int .i64 h.label, .int .i64 h.pos, .slice p.A p.n p.c] 28))
  generalize Tm.hasName h.kind = b0 at hsh
  generalize Tm.hasArg h.kind = b1 at hsh
  generalize Tm.hasNum h.kind = b2 at hsh
  generalize Tm.hasLabel h.kind = b5 at hsh
  generalize Tm.kidsN h.kind = kn at hsh
  generalize Tm.isKind h.kind = ik at hsh
  cases ht : Tm.hasType h.kind
  · have hu : Tm.hasTo h.kind = false := by
      cases hq : Tm.hasTo h.kind
      · rfl
      · rw [Tm.hasTo_type hq] at ht; cases ht
    have e1 : Tm.tys h = .nil := by unfold Tm.tys; rw [ht]; rfl
    rw [ht, hu] at hsh
    unfold TysPost
    rw [e1]
    have HS := Lib.hid hsh
    clear hsh hF hS e1 ht hu HTY HTO
    obtain ⟨k, nm, ar, nu, tk, tks, uk, uks, lb, ps⟩ := h
    obtain ⟨TA, tn, tc, UA, un, uc, A, n, c⟩ := p
    dsimp only at *
    go_enter Tryz.func34, Tryz.ntmps34
    obtain ⟨q0, q1, q2, q3, q4, q5, q6, q7, q8, q9, q10, ql⟩ := own11 HN.out
    go_wp2_with fail
    refine HS.out.mono ?_
    rintro e w2 ⟨rfl, hb⟩
    go_wp2_with fail
    go_ret
    exact ⟨none, 0, 0, rfl, trivial, rfl, Nat.le_refl _, Nat.zero_le _, (hB0.trans (hb.mono hB0.size)).alloc (by have := hb.size; simp at this; omega) _⟩
  · cases hu : Tm.hasTo h.kind
    · rw [ht, hu] at hsh
      have e1 : Tm.tys h = .node 0 0 h.tk h.tkids .nil := by unfold Tm.tys; rw [ht, hu]; rfl
      unfold TysPost
      rw [e1]
      have HS := Lib.hid hsh
      clear hsh hF hS e1 ht hu
      obtain ⟨k, nm, ar, nu, tk, tks, uk, uks, lb, ps⟩ := h
      obtain ⟨TA, tn, tc, UA, un, uc, A, n, c⟩ := p
      dsimp only at *
      obtain ⟨i0, hi, hz0, hz1, hz2⟩ := info_parts info_Type
      go_enter Tryz.func34, Tryz.ntmps34
      obtain ⟨q0, q1, q2, q3, q4, q5, q6, q7, q8, q9, q10, ql⟩ := own11 HN.out
      go_wp2_with fail
      refine HS.out.mono ?_
      rintro e w2 ⟨rfl, hb⟩
      have hB2 := hB0.trans (hb.mono hB0.size)
      have HN2 := Lib.hid (heap_below hb (by simp) HN.out)
      obtain ⟨q0, q1, q2, q3, q4, q5, q6, q7, q8, q9, q10, ql⟩ := own11 HN2.out
      clear hb
      go_wp2_with (first | (at_builtin; refine wpList_append_own _ rfl (.tmp 14) (.tmp 17) 23 rfl w.heap.size 25 i0 (.agg #[.int .i8 0, .slice none 0 0]) 2 32 Tryz.underlying23 hi hz0 hz1 hz2 rfl (by decide) (.slice none 0 0) 0 [] rfl ⟨rfl, .inl ⟨rfl, rfl⟩⟩ ⟨w2.heap.size + 1, 0, none⟩ 1 1 [.int .i8 tk, .slice TA tn tc] rfl rfl ?c1 ?c2 ?c3 ?c4 ?c5 ?_))
      case c1 => exact cells_of_heap (heap_new2 w2 _ _)
      case c2 => intro u hu; simp at hu; rcases hu with rfl | rfl <;> rfl
      case c3 => unfold maxLen; omega
      case c4 => omega
      case c5 => have := hB2.size; simp; omega
      intro v1 w3 hown1 hg1 _
      have hbb := Below.grown (Below.refl _ _) hg1 (Nat.le_refl _) (fun k hk => by cases hk)
      have hB3 : Below w.heap.size w w3 := ((hB2.alloc hB2.size _).alloc (by have := hB2.size; simp; omega) _).trans (hbb.mono (by have := hB2.size; simp; omega))
      have HS3 := Lib.hid (heap_below hbb (by simp; omega) (heap_old (heap_new w2 (.cells #[.bool b0, .bool b1, .bool b2, .bool true, .bool false, .bool b5, .int .i64 kn] 63)) (.cells #[.int .i8 tk, .slice TA tn tc] 25)))
      obtain ⟨s0, s1, s2, s3, s4, s5, s6, sl⟩ := own7 HS3.out
      obtain ⟨g, cap, rfl, hg0, hgl, hcap1, hcap2, hcs⟩ := row_reads hown1 (by omega)
      have c0 := hcs 0 _ rfl
      have c1 := hcs 1 _ rfl
      clear hcs hown1 hg1
      go_wp2_with fail
      go_ret
      exact ⟨some ⟨g, 0, none⟩, 1, cap, rfl, Tm.lies_t1 c0 c1 (HTY.out _ hB3), rfl, hcap1, hcap2, hB3⟩
    · rw [ht, hu] at hsh
      have e1 : Tm.tys h = .node 0 0 h.tk h.tkids (.node 0 0 h.uk h.ukids .nil) := by unfold Tm.tys; rw [ht, hu]; rfl
      unfold TysPost
      rw [e1]
      have HS := Lib.hid hsh
      clear hsh hF hS e1 ht hu
      obtain ⟨k, nm, ar, nu, tk, tks, uk, uks, lb, ps⟩ := h
      obtain ⟨TA, tn, tc, UA, un, uc, A, n, c⟩ := p
      dsimp only at *
      obtain ⟨i0, hi, hz0, hz1, hz2⟩ := info_parts info_Type
      go_enter Tryz.func34, Tryz.ntmps34
      obtain ⟨q0, q1, q2, q3, q4, q5, q6, q7, q8, q9, q10, ql⟩ := own11 HN.out
      go_wp2_with fail
      refine HS.out.mono ?_
      rintro e w2 ⟨rfl, hb⟩
      have hB2 := hB0.trans (hb.mono hB0.size)
      have HN2 := Lib.hid (heap_below hb (by simp) HN.out)
      obtain ⟨q0, q1, q2, q3, q4, q5, q6, q7, q8, q9, q10, ql⟩ := own11 HN2.out
      clear hb
      go_wp2_with (first | (at_builtin; refine wpList_append_own _ rfl (.tmp 14) (.tmp 17) 23 rfl w.heap.size 25 i0 (.agg #[.int .i8 0, .slice none 0 0]) 2 32 Tryz.underlying23 hi hz0 hz1 hz2 rfl (by decide) (.slice none 0 0) 0 [] rfl ⟨rfl, .inl ⟨rfl, rfl⟩⟩ ⟨w2.heap.size + 1, 0, none⟩ 1 1 [.int .i8 tk, .slice TA tn tc] rfl rfl ?c1 ?c2 ?c3 ?c4 ?c5 ?_))
      case c1 => exact cells_of_heap (heap_new2 w2 _ _)
      case c2 => intro u hu; simp at hu; rcases hu with rfl | rfl <;> rfl
      case c3 => unfold maxLen; omega
      case c4 => omega
      case c5 => have := hB2.size; simp; omega
      intro v1 w3 hown1 hg1 _
      have hbb := Below.grown (Below.refl _ _) hg1 (Nat.le_refl _) (fun k hk => by cases hk)
      have hB3 : Below w.heap.size w w3 := ((hB2.alloc hB2.size _).alloc (by have := hB2.size; simp; omega) _).trans (hbb.mono (by have := hB2.size; simp; omega))
      have HN3 := Lib.hid (heap_below hbb (by have := heap_lt HN2.out; simp; omega) (heap_old (heap_old HN2.out _) _))
      have HS3 := Lib.hid (heap_below hbb (by simp; omega) (heap_old (heap_new w2 (.cells #[.bool b0, .bool b1, .bool b2, .bool true, .bool true, .bool b5, .int .i64 kn] 63)) (.cells #[.int .i8 tk, .slice TA tn tc] 25)))
      obtain ⟨q0, q1, q2, q3, q4, q5, q6, q7, q8, q9, q10, ql⟩ := own11 HN3.out
      obtain ⟨s0, s1, s2, s3, s4, s5, s6, sl⟩ := own7 HS3.out
      clear hbb hg1
      go_wp2_with (first | (at_builtin; refine wpList_append_own _ rfl (.tmp 21) (.tmp 24) 23 rfl w.heap.size 25 i0 (.agg #[.int .i8 0, .slice none 0 0]) 2 32 Tryz.underlying23 hi hz0 hz1 hz2 rfl (by decide) v1 _ _ rfl (hown1.alloc _) ⟨w3.heap.size, 0, none⟩ 1 1 [.int .i8 uk, .slice UA un uc] rfl rfl ?d1 ?d2 ?d3 ?d4 ?d5 ?_))
      case d1 => exact cells_of_heap (heap_new w3 _)
      case d2 => intro u hu; simp at hu; rcases hu with rfl | rfl <;> rfl
      case d3 => unfold maxLen; omega
      case d4 => omega
      case d5 => have := hB3.size; simp; omega
      intro v2 w4 hown2 hg2 _
      have hB4 : Below w.heap.size w w4 := (hB3.alloc hB3.size _).grown hg2 (by have := hB3.size; simp; omega) fun k hk => (hown1.lt k hk).1
      obtain ⟨g, cap, rfl, hg0, hgl, hcap1, hcap2, hcs⟩ := row_reads hown2 (by omega)
      have c0 := hcs 0 _ rfl
      have c1 := hcs 1 _ rfl
      have c2 := hcs 2 _ rfl
      have c3 := hcs 3 _ rfl
      clear hcs hown2 hg2 hown1
      go_wp2_with fail
      go_ret
      exact ⟨some ⟨g, 0, none⟩, 2, cap, rfl, Tm.lies_t2 c0 c1 (HTY.out _ hB4) c2 c3 (HTO.out _ hB4), rfl, hcap1, hcap2, hB4⟩
end Go.Proofs.YtdeomggkhbdkaaaGreatDoor
