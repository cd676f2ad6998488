/-
  Layer 3's leaves: how many kids a kind has, which fields count; operators; labels. The world stays as it was. terms.shapeOf: the table of terms' shapes.
-/
import Derived.Test.YtfkbdpehdabepaaGreatDoorTm
import Derived.Test.YtfkbdpehdabepaaGreatDoorLeaf
import Derived.IntWalk
namespace Go.Proofs.YtfkbdpehdabepaaGreatDoor
open Go.RowKit

namespace Tm
/-- the reference's word on a kind's kids -/
def kidsI (k : Int) : Int := if isKind k then (kidsN k : Int) else -1
theorem isOp_iff (s : ByteArray) : isOp s = (s.toList == [43] || s.toList == [45] || s.toList == [42] || s.toList == [47] || s.toList == [60] || s.toList == [61]) := by
  unfold isOp; rw [Bool.eq_iff_iff]; simp [or_assoc]
end Tm

set_option maxHeartbeats 1000000 in
set_option maxRecDepth 100000 in
theorem ref_hasName_any (k : Int) (w : World) :
    Calls Tryz.prog 78 #[.int .i8 k] w fun e w' => e = .returned (.bool (Tm.hasName k)) ∧ w = w' := by
  go_enter Tryz.func78, Tryz.ntmps78
  go_wp2
  all_goals go_ret
  all_goals refine ⟨ret_b ?_, rfl⟩
  all_goals (rw [Bool.eq_iff_iff]; simp [Tm.hasName]; try omega)

set_option maxHeartbeats 1000000 in
set_option maxRecDepth 100000 in
theorem ref_hasArg_any (k : Int) (w : World) :
    Calls Tryz.prog 79 #[.int .i8 k] w fun e w' => e = .returned (.bool (Tm.hasArg k)) ∧ w = w' := by
  go_enter Tryz.func79, Tryz.ntmps79
  go_wp2
  all_goals go_ret
  all_goals refine ⟨ret_b ?_, rfl⟩
  all_goals (rw [Bool.eq_iff_iff]; simp [Tm.hasArg]; try omega)

set_option maxHeartbeats 1000000 in
set_option maxRecDepth 100000 in
theorem ref_hasType_any (k : Int) (w : World) :
    Calls Tryz.prog 80 #[.int .i8 k] w fun e w' => e = .returned (.bool (Tm.hasType k)) ∧ w = w' := by
  go_enter Tryz.func80, Tryz.ntmps80
  go_wp2
  all_goals go_ret
  all_goals refine ⟨ret_b ?_, rfl⟩
  all_goals (rw [Bool.eq_iff_iff]; simp [Tm.hasType]; try omega)

set_option maxHeartbeats 1000000 in
set_option maxRecDepth 100000 in
theorem ref_hasTo_any (k : Int) (w : World) :
    Calls Tryz.prog 81 #[.int .i8 k] w fun e w' => e = .returned (.bool (Tm.hasTo k)) ∧ w = w' := by
  go_enter Tryz.func81, Tryz.ntmps81
  go_wp2
  all_goals go_ret
  all_goals refine ⟨ret_b ?_, rfl⟩
  all_goals (rw [Bool.eq_iff_iff]; simp [Tm.hasTo]; try omega)

set_option maxHeartbeats 1000000 in
set_option maxRecDepth 100000 in
theorem ref_kids_any (k : Int) (w : World) :
    Calls Tryz.prog 119 #[.int .i8 k] w fun e w' => e = .returned (.int .i64 (Tm.kidsI k)) ∧ w = w' := by
  by_cases hk : 0 ≤ k ∧ k ≤ 17
  · have hk' : k = 0 ∨ k = 1 ∨ k = 2 ∨ k = 3 ∨ k = 4 ∨ k = 5 ∨ k = 6 ∨ k = 7 ∨ k = 8 ∨ k = 9 ∨ k = 10 ∨ k = 11 ∨ k = 12 ∨ k = 13 ∨ k = 14 ∨ k = 15 ∨ k = 16 ∨ k = 17 := by omega
    rcases hk' with rfl | rfl | rfl | rfl | rfl | rfl | rfl | rfl | rfl | rfl | rfl | rfl | rfl | rfl | rfl | rfl | rfl | rfl
    all_goals
      clear hk
      go_enter Tryz.func119, Tryz.ntmps119
      go_wp2
      go_ret
      exact ⟨rfl, rfl⟩
  · have e : Tm.kidsI k = -1 := by unfold Tm.kidsI Tm.isKind; rw [if_neg (by simpa using hk)]
    rw [e]
    have h0 : (k == 0) = false := by simp; omega
    have h1 : (k == 1) = false := by simp; omega
    have h2 : (k == 2) = false := by simp; omega
    have h3 : (k == 3) = false := by simp; omega
    have h4 : (k == 4) = false := by simp; omega
    have h5 : (k == 5) = false := by simp; omega
    have h6 : (k == 6) = false := by simp; omega
    have h7 : (k == 7) = false := by simp; omega
    have h8 : (k == 8) = false := by simp; omega
    have h9 : (k == 9) = false := by simp; omega
    have h10 : (k == 10) = false := by simp; omega
    have h11 : (k == 11) = false := by simp; omega
    have h12 : (k == 12) = false := by simp; omega
    have h13 : (k == 13) = false := by simp; omega
    have h14 : (k == 14) = false := by simp; omega
    have h15 : (k == 15) = false := by simp; omega
    have h16 : (k == 16) = false := by simp; omega
    have h17 : (k == 17) = false := by simp; omega
    clear hk e
    go_enter Tryz.func119, Tryz.ntmps119
    go_wp2
    go_ret
    exact ⟨rfl, rfl⟩

set_option maxHeartbeats 1000000 in
set_option maxRecDepth 100000 in
theorem ref_op_any (s : ByteArray) (w : World) :
    Calls Tryz.prog 120 #[.string s] w fun e w' => e = .returned (.bool (Tm.isOp s)) ∧ w = w' := by
  go_enter Tryz.func120, Tryz.ntmps120
  go_wp2
  all_goals go_ret
  all_goals exact ⟨ret_b (by simp_all [Tm.isOp_iff]), rfl⟩

set_option maxHeartbeats 1000000 in
set_option maxRecDepth 100000 in
theorem operator_any (s : ByteArray) (w : World) :
    Calls Tryz.prog 125 #[.string s] w fun e w' => e = .returned (.bool (Tm.isOp s)) ∧ w = w' := by
  go_enter Tryz.func125, Tryz.ntmps125
  go_wp2
  all_goals go_ret
  all_goals exact ⟨ret_b (by simp_all [Tm.isOp_iff]), rfl⟩

set_option maxHeartbeats 1000000 in
set_option maxRecDepth 100000 in
theorem label_any (n : Int) (w : World) (h1 : -9223372036854775808 ≤ n) (h2 : n ≤ 9223372036854775807) :
    Calls Tryz.prog 86 #[.int .i64 n] w fun e w' => e = .returned (.bool (Tm.labelOk n)) ∧ w = w' := by
  go_enter Tryz.func86, Tryz.ntmps86
  go_wp2
  all_goals go_ret
  all_goals refine ⟨ret_b ?_, rfl⟩
  all_goals (rw [Bool.eq_iff_iff]; simp [Tm.labelOk]; try omega)
end Go.Proofs.YtfkbdpehdabepaaGreatDoor
namespace Go.Proofs.YtfkbdpehdabepaaGreatDoor
open Go.RowKit

/-- a kind's row of the table -/
def tshape (k : Int) : List Value := [.bool (Tm.hasName k), .bool (Tm.hasArg k), .bool (Tm.hasNum k), .bool (Tm.hasType k), .bool (Tm.hasTo k), .bool (Tm.hasLabel k), .int .i64 (Tm.kidsN k)]
structure TShapes (w : World) : Prop where
  lt : 0 < w.heap.size
  row : ∀ k : Int, 0 ≤ k → k < 18 → ∀ j v, (tshape k)[j]? = some v → w.cell? ⟨0, k.toNat * 7 + j, none⟩ = some v
theorem TShapes.below {w w' : World} (h : TShapes w) (hb : Below w.heap.size w w') : TShapes w' :=
  ⟨Nat.lt_of_lt_of_le h.lt hb.size, fun k h0 h1 j v hv => by rw [(bcell hb).1 _ _ h.lt]; exact h.row k h0 h1 j v hv⟩
theorem TShapes.alloc {w : World} (h : TShapes w) (o : Obj) : TShapes (w.alloc o) := h.below ((Below.refl _ _).alloc (Nat.le_refl _) _)
theorem TShapes.grown {w w' : World} {g : Nat} (h : TShapes w) (hg : w.grownBy w' (some g)) (hne : g ≠ 0) : TShapes w' :=
  ⟨Nat.lt_of_lt_of_le h.lt hg.size, fun k h0 h1 j v hv => by
    rw [World.cell?_of_block (hg.block 0 h.lt (fun e => hne (by injection e with e; exact e.symm)))]; exact h.row k h0 h1 j v hv⟩

set_option maxHeartbeats 1000000 in
set_option maxRecDepth 100000 in
theorem shapeOf_in (k : Int) (w : World) (h0 : 0 ≤ k) (h1 : k < 18) (hS : TShapes w) :
    Calls Tryz.prog 84 #[.int .i8 k] w fun e w' => e = .returned (.tuple #[.agg #[.bool (Tm.hasName k), .bool (Tm.hasArg k), .bool (Tm.hasNum k), .bool (Tm.hasType k), .bool (Tm.hasTo k), .bool (Tm.hasLabel k), .int .i64 (Tm.kidsN k)], .bool true]) ∧ Below w.heap.size w w' := by
  have hr := fun j v hv => ((hS.alloc (.cells #[.bool false, .bool false, .bool false, .bool false, .bool false, .bool false, .int .i64 0] 78)).row k h0 h1 j v hv)
  have c0 := hr 0 _ rfl
  have c1 := hr 1 _ rfl
  have c2 := hr 2 _ rfl
  have c3 := hr 3 _ rfl
  have c4 := hr 4 _ rfl
  have c5 := hr 5 _ rfl
  have c6 := hr 6 _ rfl
  rw [Nat.add_zero] at c0
  have hl := hS.lt
  clear hr hS
  have hd1 : decide (k < (0 : Int)) = false := by simp; omega
  have hd2 : decide ((18 : Int) ≤ k) = false := by simp; omega
  have hw : IntKind.i64.wrap k = k := IntWalk.i64_in _ (by omega)
  have hix : 0 ≤ k ∧ k < 18 := ⟨h0, h1⟩
  generalize Tm.hasName k = b0 at *
  generalize Tm.hasArg k = b1 at *
  generalize Tm.hasNum k = b2 at *
  generalize Tm.hasType k = b3 at *
  generalize Tm.hasTo k = b4 at *
  generalize Tm.hasLabel k = b5 at *
  generalize Tm.kidsN k = n at *
  go_enter Tryz.func84, Tryz.ntmps84
  go_wp2_with fail
  refine bodyPost_ret (v := .tuple #[.agg #[.bool b0, .bool b1, .bool b2, .bool b3, .bool b4, .bool b5, .int .i64 n], .bool true]) (by simp [results, Tryz.results84, go_sem]) rfl ⟨rfl, ?_⟩
  exact (Below.refl _ _).alloc (Nat.le_refl _) _

set_option maxHeartbeats 1000000 in
set_option maxRecDepth 100000 in
theorem shapeOf_out (k : Int) (w : World) (hk : -128 ≤ k) (hk2 : k ≤ 127) (h : ¬(0 ≤ k ∧ k < 18)) :
    Calls Tryz.prog 84 #[.int .i8 k] w fun e w' => e = .returned (.tuple #[.agg #[.bool false, .bool false, .bool false, .bool false, .bool false, .bool false, .int .i64 0], .bool false]) ∧ Below w.heap.size w w' := by
  have hw : IntKind.i64.wrap k = k := IntWalk.i64_in _ (by omega)
  by_cases h0 : (0 : Int) ≤ k
  · have hd1 : decide (k < (0 : Int)) = false := by simp; omega
    have hd2 : decide ((18 : Int) ≤ k) = true := by simp; omega
    go_enter Tryz.func84, Tryz.ntmps84
    go_wp2_with fail
    refine bodyPost_ret (v := .tuple #[.agg #[.bool false, .bool false, .bool false, .bool false, .bool false, .bool false, .int .i64 0], .bool false]) (by simp [results, Tryz.results84, go_sem]) rfl ⟨rfl, ?_⟩
    exact (Below.refl _ _).alloc (Nat.le_refl _) _
  · have hd1 : decide (k < (0 : Int)) = true := by simp; omega
    go_enter Tryz.func84, Tryz.ntmps84
    go_wp2_with fail
    refine bodyPost_ret (v := .tuple #[.agg #[.bool false, .bool false, .bool false, .bool false, .bool false, .bool false, .int .i64 0], .bool false]) (by simp [results, Tryz.results84, go_sem]) rfl ⟨rfl, ?_⟩
    exact (Below.refl _ _).alloc (Nat.le_refl _) _

theorem shapeOf_any (k : Int) (w : World) (hk : -128 ≤ k) (hk2 : k ≤ 127) (hS : TShapes w) :
    Calls Tryz.prog 84 #[.int .i8 k] w fun e w' => e = .returned (.tuple #[.agg #[.bool (Tm.hasName k), .bool (Tm.hasArg k), .bool (Tm.hasNum k), .bool (Tm.hasType k), .bool (Tm.hasTo k), .bool (Tm.hasLabel k), .int .i64 (Tm.kidsN k)], .bool (Tm.isKind k)]) ∧ Below w.heap.size w w' := by
  by_cases h : 0 ≤ k ∧ k < 18
  · rw [show Tm.isKind k = true by simp [Tm.isKind]; omega]
    exact shapeOf_in k w h.1 h.2 hS
  · rw [show Tm.isKind k = false by simp [Tm.isKind]; omega, show Tm.hasName k = false by simp [Tm.hasName]; omega, show Tm.hasArg k = false by simp [Tm.hasArg]; omega,
      show Tm.hasNum k = false by simp [Tm.hasNum]; omega, show Tm.hasType k = false by simp [Tm.hasType]; omega, show Tm.hasTo k = false by simp [Tm.hasTo]; omega,
      show Tm.hasLabel k = false by simp [Tm.hasLabel]; omega, show Tm.kidsN k = 0 by unfold Tm.kidsN; rw [if_neg (by omega), if_neg (by omega), if_neg (by omega)]]
    exact shapeOf_out k w hk hk2 h
end Go.Proofs.YtfkbdpehdabepaaGreatDoor
