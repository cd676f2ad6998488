/-
  terms.counting: a term with the fields that do not count empty.
-/
import Derived.Test.YtfkbdpehdabepaaGreatDoorTmFn
import Derived.Test.YtfkbdpehdabepaaGreatDoorSame
namespace Go.Proofs.YtfkbdpehdabepaaGreatDoor
open Go.RowKit

namespace Tm
/-- what counts of a term's own fields -/
def cnt (h : Hd) : Hd :=
  ⟨h.kind, if hasName h.kind then h.name else ⟨#[]⟩, if hasArg h.kind then h.arg else ⟨#[]⟩, if hasNum h.kind then h.num else 0,
   if hasType h.kind then h.tk else 0, if hasType h.kind then h.tkids else .nil, if hasTo h.kind then h.uk else 0, if hasTo h.kind then h.ukids else .nil, if hasLabel h.kind then h.label else 0, 0⟩
def cntP (h : Hd) (p : Pl) : Pl :=
  ⟨if hasType h.kind then p.TA else none, if hasType h.kind then p.tn else 0, if hasType h.kind then p.tc else 0, if hasTo h.kind then p.UA else none, if hasTo h.kind then p.un else 0, if hasTo h.kind then p.uc else 0, p.A, p.n, p.c⟩
theorem Fit.cnt {w : World} {h : Hd} {p : Pl} {n : Nat} (f : Fit w h p n) : Fit w (cnt h) (cntP h p) n := by
  have hz : ∀ w : World, Ty.Is w 0 .nil none 0 0 := fun w => ⟨trivial, rfl, Nat.le_refl _, Nat.zero_le _, by omega, by omega⟩
  obtain ⟨f1, f2, f3, f4, f5, f6, f7, f8, f9, f10, f11⟩ := f
  unfold Tm.cnt cntP
  refine ⟨?_, ?_, f3, f4, f5, f6, f7, ?_, ?_, ?_, ?_⟩
  · dsimp only; cases hasType h.kind
    · exact hz w
    · exact f1
  · dsimp only; cases hasTo h.kind
    · exact hz w
    · exact f2
  · dsimp only; split <;> omega
  · dsimp only; split <;> omega
  · dsimp only; split
    · exact f10
    · exact Nat.zero_le _
  · dsimp only; split
    · exact f11
    · exact Nat.zero_le _
theorem Is.cnt {w : World} {h : Hd} {kids : Tm} {p : Pl} (f : Is w h kids p) : Is w (cnt h) kids (cntP h p) := ⟨f.fit.cnt, f.lies⟩
/-- which fields count together -/
theorem combos (k : Int) : (hasName k = false ∧ hasArg k = false ∧ hasNum k = false ∧ hasType k = false ∧ hasTo k = false ∧ hasLabel k = false) ∨ (hasName k = true ∧ hasArg k = false ∧ hasNum k = false ∧ hasType k = false ∧ hasTo k = false ∧ hasLabel k = false) ∨ (hasName k = false ∧ hasArg k = false ∧ hasNum k = true ∧ hasType k = false ∧ hasTo k = false ∧ hasLabel k = false) ∨ (hasName k = true ∧ hasArg k = false ∧ hasNum k = false ∧ hasType k = true ∧ hasTo k = false ∧ hasLabel k = false) ∨ (hasName k = true ∧ hasArg k = true ∧ hasNum k = false ∧ hasType k = true ∧ hasTo k = true ∧ hasLabel k = false) ∨ (hasName k = false ∧ hasArg k = false ∧ hasNum k = false ∧ hasType k = true ∧ hasTo k = false ∧ hasLabel k = false) ∨ (hasName k = true ∧ hasArg k = true ∧ hasNum k = false ∧ hasType k = false ∧ hasTo k = false ∧ hasLabel k = false) ∨ (hasName k = false ∧ hasArg k = false ∧ hasNum k = false ∧ hasType k = true ∧ hasTo k = true ∧ hasLabel k = true) := by
  by_cases h : 0 ≤ k ∧ k ≤ 17
  · have hk : k = 0 ∨ k = 1 ∨ k = 2 ∨ k = 3 ∨ k = 4 ∨ k = 5 ∨ k = 6 ∨ k = 7 ∨ k = 8 ∨ k = 9 ∨ k = 10 ∨ k = 11 ∨ k = 12 ∨ k = 13 ∨ k = 14 ∨ k = 15 ∨ k = 16 ∨ k = 17 := by omega
    rcases hk with rfl | rfl | rfl | rfl | rfl | rfl | rfl | rfl | rfl | rfl | rfl | rfl | rfl | rfl | rfl | rfl | rfl | rfl <;> decide
  · left
    simp only [hasName, hasArg, hasNum, hasType, hasTo, hasLabel, decide_eq_false_iff_not]
    omega
end Tm

theorem below_set11 {b : Nat} {w w1 : World} {o1 o2 : Obj} (hb : Below w.heap.size w w1) (h : w.heap.size ≤ b) (v0 v1 v2 v3 v4 v5 v6 v7 v8 v9 v10 : Value) :
    Below w.heap.size w (((((((((((((w1.setCell ⟨b, 0, none⟩ v0).setCell ⟨b, 1, none⟩ v1).setCell ⟨b, 2, none⟩ v2).setCell ⟨b, 3, none⟩ v3).setCell ⟨b, 4, none⟩ v4).setCell ⟨b, 5, none⟩ v5).setCell ⟨b, 6, none⟩ v6).setCell ⟨b, 7, none⟩ v7).setCell ⟨b, 8, none⟩ v8).setCell ⟨b, 9, none⟩ v9).setCell ⟨b, 10, none⟩ v10).alloc o1).alloc o2) := by
  have hX := ((((((((((hb.setCell (p := ⟨b, 0, none⟩) h v0).setCell (p := ⟨b, 1, none⟩) h v1).setCell (p := ⟨b, 2, none⟩) h v2).setCell (p := ⟨b, 3, none⟩) h v3).setCell (p := ⟨b, 4, none⟩) h v4).setCell (p := ⟨b, 5, none⟩) h v5).setCell (p := ⟨b, 6, none⟩) h v6).setCell (p := ⟨b, 7, none⟩) h v7).setCell (p := ⟨b, 8, none⟩) h v8).setCell (p := ⟨b, 9, none⟩) h v9).setCell (p := ⟨b, 10, none⟩) h v10
  have hY := hX.alloc hX.size o1
  exact hY.alloc hY.size o2

theorem free11 {w : World} {b : Nat} {cs : Array Value} {t : TypeId} (h : w.heap[b]? = some (.cells cs t (0, 0))) (j : Nat) : w.frozen? ⟨b, j, none⟩ = false := by simp [World.frozen?, h]

/-- an empty term's cells -/
def CountPost (w : World) (h : Hd) (p : Pl) (e : Ending) (w' : World) : Prop :=
  e = .returned (.agg #[.int .i8 (Tm.cnt h).kind, .string (Tm.cnt h).name, .string (Tm.cnt h).arg, .int .i64 (Tm.cnt h).num, .int .i8 (Tm.cnt h).tk, .slice (Tm.cntP h p).TA (Tm.cntP h p).tn (Tm.cntP h p).tc, .int .i8 (Tm.cnt h).uk, .slice (Tm.cntP h p).UA (Tm.cntP h p).un (Tm.cntP h p).uc, .int .i64 (Tm.cnt h).label, .int .i64 (Tm.cnt h).pos, .slice (Tm.cntP h p).A (Tm.cntP h p).n (Tm.cntP h p).c]) ∧ Below w.heap.size w w'

set_option maxHeartbeats 4000000 in
set_option maxRecDepth 100000 in
theorem counting_A (h : Hd) (p : Pl) (w : World) (hk : Tm.hasName h.kind = false ∧ Tm.hasArg h.kind = false ∧ Tm.hasNum h.kind = false ∧ Tm.hasType h.kind = false ∧ Tm.hasTo h.kind = false ∧ Tm.hasLabel h.kind = false)
    (hsh : ∀ W : World, Below w.heap.size w W → Calls Tryz.prog 84 #[.int .i8 h.kind] W fun e w' => e = .returned (.tuple #[.agg #[.bool (Tm.hasName h.kind), .bool (Tm.hasArg h.kind), .bool (Tm.hasNum h.kind), .bool (Tm.hasType h.kind), .bool (Tm.hasTo h.kind), .bool (Tm.hasLabel h.kind), .int .i64 (Tm.kidsN h.kind)], .bool (Tm.isKind h.kind)]) ∧ Below W.heap.size W w') :
    Calls Tryz.prog 72 #[.agg #[.int .i8 h.kind, .string h.name, .string h.arg, .int .i64 h.num, .int .i8 h.tk, .slice p.TA p.tn p.tc, .int .i8 h.uk, .slice p.UA p.un p.uc, .int .i64 h.label, .int .i64 h.pos, .slice p.A p.n p.c]] w (CountPost w h p) := by
  obtain ⟨k0, k1, k2, k3, k4, k5⟩ := hk
  have hB0 : Below w.heap.size w ((w.alloc (.cells #[.int .i8 h.kind, .string h.name, .string h.arg, .int .i64 h.num, .int .i8 h.tk, .slice p.TA p.tn p.tc, .int .i8 h.uk, .slice p.UA p.un p.uc, .int .i64 h.label, .int .i64 h.pos, .slice p.A p.n p.c] 28)).alloc (.cells #[.int .i8 0, .string ⟨#[]⟩, .string ⟨#[]⟩, .int .i64 0, .int .i8 0, .slice none 0 0, .int .i8 0, .slice none 0 0, .int .i64 0, .int .i64 0, .slice none 0 0] 28)) := ((Below.refl _ _).alloc (Nat.le_refl _) _).alloc (by simp) _
  obtain ⟨r0, r1, r2⟩ := two_new w (.cells #[.int .i8 h.kind, .string h.name, .string h.arg, .int .i64 h.num, .int .i8 h.tk, .slice p.TA p.tn p.tc, .int .i8 h.uk, .slice p.UA p.un p.uc, .int .i64 h.label, .int .i64 h.pos, .slice p.A p.n p.c] 28) (.cells #[.int .i8 0, .string ⟨#[]⟩, .string ⟨#[]⟩, .int .i64 0, .int .i8 0, .slice none 0 0, .int .i8 0, .slice none 0 0, .int .i64 0, .int .i64 0, .slice none 0 0] 28)
  have hres : (Value.agg #[.int .i8 (Tm.cnt h).kind, .string (Tm.cnt h).name, .string (Tm.cnt h).arg, .int .i64 (Tm.cnt h).num, .int .i8 (Tm.cnt h).tk, .slice (Tm.cntP h p).TA (Tm.cntP h p).tn (Tm.cntP h p).tc, .int .i8 (Tm.cnt h).uk, .slice (Tm.cntP h p).UA (Tm.cntP h p).un (Tm.cntP h p).uc, .int .i64 (Tm.cnt h).label, .int .i64 (Tm.cnt h).pos, .slice (Tm.cntP h p).A (Tm.cntP h p).n (Tm.cntP h p).c]) = (.agg #[.int .i8 h.kind, .string ⟨#[]⟩, .string ⟨#[]⟩, .int .i64 0, .int .i8 0, .slice none 0 0, .int .i8 0, .slice none 0 0, .int .i64 0, .int .i64 0, .slice p.A p.n p.c]) := by
    simp [Tm.cnt, Tm.cntP, k0, k1, k2, k3, k4, k5]
  unfold CountPost
  rw [hres]
  rw [k0, k1, k2, k3, k4, k5] at hsh
  have HS := Lib.hid hsh
  have R0 := Lib.hid r0
  have R1 := Lib.hid r1
  generalize Tm.isKind h.kind = ik at *
  generalize Tm.kidsN h.kind = kn at *
  clear hsh k0 k1 k2 k3 k4 k5 r0 r1 hres
  obtain ⟨q0, q1, q2, q3, q4, q5, q6, q7, q8, q9, q10, ql⟩ := own11 R0.out
  go_enter Tryz.func72, Tryz.ntmps72
  go_wp2_with fail
  refine (HS.out _ hB0).mono ?_
  rintro e w2 ⟨rfl, hb⟩
  have hB2 := hB0.trans (hb.mono hB0.size)
  clear q0 q1 q2 q3 q4 q5 q6 q7 q8 q9 q10 ql
  have z2 : w.heap.size + 1 < w2.heap.size := by have := hb.size; simp at this; omega
  have Q0 := Lib.hid (heap_below hb (by simp; omega) R0.out)
  have Q1 := Lib.hid (heap_below hb (by simp) R1.out)
  obtain ⟨q0, q1, q2, q3, q4, q5, q6, q7, q8, q9, q10, ql⟩ := own11 Q0.out
  obtain ⟨y0, y1, y2, y3, y4, y5, y6, y7, y8, y9, y10, yl⟩ := own11 Q1.out
  have fz0 := free11 Q1.out 0
  have fz1 := free11 Q1.out 1
  have fz2 := free11 Q1.out 2
  have fz3 := free11 Q1.out 3
  have fz4 := free11 Q1.out 4
  have fz5 := free11 Q1.out 5
  have fz6 := free11 Q1.out 6
  have fz7 := free11 Q1.out 7
  have fz8 := free11 Q1.out 8
  have fz9 := free11 Q1.out 9
  have fz10 := free11 Q1.out 10
  clear hb
  go_wp2_with fail
  refine bodyPost_ret (v := .agg #[.int .i8 h.kind, .string ⟨#[]⟩, .string ⟨#[]⟩, .int .i64 0, .int .i8 0, .slice none 0 0, .int .i8 0, .slice none 0 0, .int .i64 0, .int .i64 0, .slice p.A p.n p.c]) (by simp [results, Tryz.results72, go_sem, *]) rfl ⟨rfl, ?_⟩
  exact below_set11 hB2 (by omega) _ _ _ _ _ _ _ _ _ _ _

set_option maxHeartbeats 4000000 in
set_option maxRecDepth 100000 in
theorem counting_V (h : Hd) (p : Pl) (w : World) (hk : Tm.hasName h.kind = true ∧ Tm.hasArg h.kind = false ∧ Tm.hasNum h.kind = false ∧ Tm.hasType h.kind = false ∧ Tm.hasTo h.kind = false ∧ Tm.hasLabel h.kind = false)
    (hsh : ∀ W : World, Below w.heap.size w W → Calls Tryz.prog 84 #[.int .i8 h.kind] W fun e w' => e = .returned (.tuple #[.agg #[.bool (Tm.hasName h.kind), .bool (Tm.hasArg h.kind), .bool (Tm.hasNum h.kind), .bool (Tm.hasType h.kind), .bool (Tm.hasTo h.kind), .bool (Tm.hasLabel h.kind), .int .i64 (Tm.kidsN h.kind)], .bool (Tm.isKind h.kind)]) ∧ Below W.heap.size W w') :
    Calls Tryz.prog 72 #[.agg #[.int .i8 h.kind, .string h.name, .string h.arg, .int .i64 h.num, .int .i8 h.tk, .slice p.TA p.tn p.tc, .int .i8 h.uk, .slice p.UA p.un p.uc, .int .i64 h.label, .int .i64 h.pos, .slice p.A p.n p.c]] w (CountPost w h p) := by
  obtain ⟨k0, k1, k2, k3, k4, k5⟩ := hk
  have hB0 : Below w.heap.size w ((w.alloc (.cells #[.int .i8 h.kind, .string h.name, .string h.arg, .int .i64 h.num, .int .i8 h.tk, .slice p.TA p.tn p.tc, .int .i8 h.uk, .slice p.UA p.un p.uc, .int .i64 h.label, .int .i64 h.pos, .slice p.A p.n p.c] 28)).alloc (.cells #[.int .i8 0, .string ⟨#[]⟩, .string ⟨#[]⟩, .int .i64 0, .int .i8 0, .slice none 0 0, .int .i8 0, .slice none 0 0, .int .i64 0, .int .i64 0, .slice none 0 0] 28)) := ((Below.refl _ _).alloc (Nat.le_refl _) _).alloc (by simp) _
  obtain ⟨r0, r1, r2⟩ := two_new w (.cells #[.int .i8 h.kind, .string h.name, .string h.arg, .int .i64 h.num, .int .i8 h.tk, .slice p.TA p.tn p.tc, .int .i8 h.uk, .slice p.UA p.un p.uc, .int .i64 h.label, .int .i64 h.pos, .slice p.A p.n p.c] 28) (.cells #[.int .i8 0, .string ⟨#[]⟩, .string ⟨#[]⟩, .int .i64 0, .int .i8 0, .slice none 0 0, .int .i8 0, .slice none 0 0, .int .i64 0, .int .i64 0, .slice none 0 0] 28)
  have hres : (Value.agg #[.int .i8 (Tm.cnt h).kind, .string (Tm.cnt h).name, .string (Tm.cnt h).arg, .int .i64 (Tm.cnt h).num, .int .i8 (Tm.cnt h).tk, .slice (Tm.cntP h p).TA (Tm.cntP h p).tn (Tm.cntP h p).tc, .int .i8 (Tm.cnt h).uk, .slice (Tm.cntP h p).UA (Tm.cntP h p).un (Tm.cntP h p).uc, .int .i64 (Tm.cnt h).label, .int .i64 (Tm.cnt h).pos, .slice (Tm.cntP h p).A (Tm.cntP h p).n (Tm.cntP h p).c]) = (.agg #[.int .i8 h.kind, .string h.name, .string ⟨#[]⟩, .int .i64 0, .int .i8 0, .slice none 0 0, .int .i8 0, .slice none 0 0, .int .i64 0, .int .i64 0, .slice p.A p.n p.c]) := by
    simp [Tm.cnt, Tm.cntP, k0, k1, k2, k3, k4, k5]
  unfold CountPost
  rw [hres]
  rw [k0, k1, k2, k3, k4, k5] at hsh
  have HS := Lib.hid hsh
  have R0 := Lib.hid r0
  have R1 := Lib.hid r1
  generalize Tm.isKind h.kind = ik at *
  generalize Tm.kidsN h.kind = kn at *
  clear hsh k0 k1 k2 k3 k4 k5 r0 r1 hres
  obtain ⟨q0, q1, q2, q3, q4, q5, q6, q7, q8, q9, q10, ql⟩ := own11 R0.out
  go_enter Tryz.func72, Tryz.ntmps72
  go_wp2_with fail
  refine (HS.out _ hB0).mono ?_
  rintro e w2 ⟨rfl, hb⟩
  have hB2 := hB0.trans (hb.mono hB0.size)
  clear q0 q1 q2 q3 q4 q5 q6 q7 q8 q9 q10 ql
  have z2 : w.heap.size + 1 < w2.heap.size := by have := hb.size; simp at this; omega
  have Q0 := Lib.hid (heap_below hb (by simp; omega) R0.out)
  have Q1 := Lib.hid (heap_below hb (by simp) R1.out)
  obtain ⟨q0, q1, q2, q3, q4, q5, q6, q7, q8, q9, q10, ql⟩ := own11 Q0.out
  obtain ⟨y0, y1, y2, y3, y4, y5, y6, y7, y8, y9, y10, yl⟩ := own11 Q1.out
  have fz0 := free11 Q1.out 0
  have fz1 := free11 Q1.out 1
  have fz2 := free11 Q1.out 2
  have fz3 := free11 Q1.out 3
  have fz4 := free11 Q1.out 4
  have fz5 := free11 Q1.out 5
  have fz6 := free11 Q1.out 6
  have fz7 := free11 Q1.out 7
  have fz8 := free11 Q1.out 8
  have fz9 := free11 Q1.out 9
  have fz10 := free11 Q1.out 10
  clear hb
  go_wp2_with fail
  refine bodyPost_ret (v := .agg #[.int .i8 h.kind, .string h.name, .string ⟨#[]⟩, .int .i64 0, .int .i8 0, .slice none 0 0, .int .i8 0, .slice none 0 0, .int .i64 0, .int .i64 0, .slice p.A p.n p.c]) (by simp [results, Tryz.results72, go_sem, *]) rfl ⟨rfl, ?_⟩
  exact below_set11 hB2 (by omega) _ _ _ _ _ _ _ _ _ _ _

set_option maxHeartbeats 4000000 in
set_option maxRecDepth 100000 in
theorem counting_N (h : Hd) (p : Pl) (w : World) (hk : Tm.hasName h.kind = false ∧ Tm.hasArg h.kind = false ∧ Tm.hasNum h.kind = true ∧ Tm.hasType h.kind = false ∧ Tm.hasTo h.kind = false ∧ Tm.hasLabel h.kind = false)
    (hsh : ∀ W : World, Below w.heap.size w W → Calls Tryz.prog 84 #[.int .i8 h.kind] W fun e w' => e = .returned (.tuple #[.agg #[.bool (Tm.hasName h.kind), .bool (Tm.hasArg h.kind), .bool (Tm.hasNum h.kind), .bool (Tm.hasType h.kind), .bool (Tm.hasTo h.kind), .bool (Tm.hasLabel h.kind), .int .i64 (Tm.kidsN h.kind)], .bool (Tm.isKind h.kind)]) ∧ Below W.heap.size W w') :
    Calls Tryz.prog 72 #[.agg #[.int .i8 h.kind, .string h.name, .string h.arg, .int .i64 h.num, .int .i8 h.tk, .slice p.TA p.tn p.tc, .int .i8 h.uk, .slice p.UA p.un p.uc, .int .i64 h.label, .int .i64 h.pos, .slice p.A p.n p.c]] w (CountPost w h p) := by
  obtain ⟨k0, k1, k2, k3, k4, k5⟩ := hk
  have hB0 : Below w.heap.size w ((w.alloc (.cells #[.int .i8 h.kind, .string h.name, .string h.arg, .int .i64 h.num, .int .i8 h.tk, .slice p.TA p.tn p.tc, .int .i8 h.uk, .slice p.UA p.un p.uc, .int .i64 h.label, .int .i64 h.pos, .slice p.A p.n p.c] 28)).alloc (.cells #[.int .i8 0, .string ⟨#[]⟩, .string ⟨#[]⟩, .int .i64 0, .int .i8 0, .slice none 0 0, .int .i8 0, .slice none 0 0, .int .i64 0, .int .i64 0, .slice none 0 0] 28)) := ((Below.refl _ _).alloc (Nat.le_refl _) _).alloc (by simp) _
  obtain ⟨r0, r1, r2⟩ := two_new w (.cells #[.int .i8 h.kind, .string h.name, .string h.arg, .int .i64 h.num, .int .i8 h.tk, .slice p.TA p.tn p.tc, .int .i8 h.uk, .slice p.UA p.un p.uc, .int .i64 h.label, .int .i64 h.pos, .slice p.A p.n p.c] 28) (.cells #[.int .i8 0, .string ⟨#[]⟩, .string ⟨#[]⟩, .int .i64 0, .int .i8 0, .slice none 0 0, .int .i8 0, .slice none 0 0, .int .i64 0, .int .i64 0, .slice none 0 0] 28)
  have hres : (Value.agg #[.int .i8 (Tm.cnt h).kind, .string (Tm.cnt h).name, .string (Tm.cnt h).arg, .int .i64 (Tm.cnt h).num, .int .i8 (Tm.cnt h).tk, .slice (Tm.cntP h p).TA (Tm.cntP h p).tn (Tm.cntP h p).tc, .int .i8 (Tm.cnt h).uk, .slice (Tm.cntP h p).UA (Tm.cntP h p).un (Tm.cntP h p).uc, .int .i64 (Tm.cnt h).label, .int .i64 (Tm.cnt h).pos, .slice (Tm.cntP h p).A (Tm.cntP h p).n (Tm.cntP h p).c]) = (.agg #[.int .i8 h.kind, .string ⟨#[]⟩, .string ⟨#[]⟩, .int .i64 h.num, .int .i8 0, .slice none 0 0, .int .i8 0, .slice none 0 0, .int .i64 0, .int .i64 0, .slice p.A p.n p.c]) := by
    simp [Tm.cnt, Tm.cntP, k0, k1, k2, k3, k4, k5]
  unfold CountPost
  rw [hres]
  rw [k0, k1, k2, k3, k4, k5] at hsh
  have HS := Lib.hid hsh
  have R0 := Lib.hid r0
  have R1 := Lib.hid r1
  generalize Tm.isKind h.kind = ik at *
  generalize Tm.kidsN h.kind = kn at *
  clear hsh k0 k1 k2 k3 k4 k5 r0 r1 hres
  obtain ⟨q0, q1, q2, q3, q4, q5, q6, q7, q8, q9, q10, ql⟩ := own11 R0.out
  go_enter Tryz.func72, Tryz.ntmps72
  go_wp2_with fail
  refine (HS.out _ hB0).mono ?_
  rintro e w2 ⟨rfl, hb⟩
  have hB2 := hB0.trans (hb.mono hB0.size)
  clear q0 q1 q2 q3 q4 q5 q6 q7 q8 q9 q10 ql
  have z2 : w.heap.size + 1 < w2.heap.size := by have := hb.size; simp at this; omega
  have Q0 := Lib.hid (heap_below hb (by simp; omega) R0.out)
  have Q1 := Lib.hid (heap_below hb (by simp) R1.out)
  obtain ⟨q0, q1, q2, q3, q4, q5, q6, q7, q8, q9, q10, ql⟩ := own11 Q0.out
  obtain ⟨y0, y1, y2, y3, y4, y5, y6, y7, y8, y9, y10, yl⟩ := own11 Q1.out
  have fz0 := free11 Q1.out 0
  have fz1 := free11 Q1.out 1
  have fz2 := free11 Q1.out 2
  have fz3 := free11 Q1.out 3
  have fz4 := free11 Q1.out 4
  have fz5 := free11 Q1.out 5
  have fz6 := free11 Q1.out 6
  have fz7 := free11 Q1.out 7
  have fz8 := free11 Q1.out 8
  have fz9 := free11 Q1.out 9
  have fz10 := free11 Q1.out 10
  clear hb
  go_wp2_with fail
  refine bodyPost_ret (v := .agg #[.int .i8 h.kind, .string ⟨#[]⟩, .string ⟨#[]⟩, .int .i64 h.num, .int .i8 0, .slice none 0 0, .int .i8 0, .slice none 0 0, .int .i64 0, .int .i64 0, .slice p.A p.n p.c]) (by simp [results, Tryz.results72, go_sem, *]) rfl ⟨rfl, ?_⟩
  exact below_set11 hB2 (by omega) _ _ _ _ _ _ _ _ _ _ _

set_option maxHeartbeats 4000000 in
set_option maxRecDepth 100000 in
theorem counting_L (h : Hd) (p : Pl) (w : World) (hk : Tm.hasName h.kind = true ∧ Tm.hasArg h.kind = false ∧ Tm.hasNum h.kind = false ∧ Tm.hasType h.kind = true ∧ Tm.hasTo h.kind = false ∧ Tm.hasLabel h.kind = false)
    (hsh : ∀ W : World, Below w.heap.size w W → Calls Tryz.prog 84 #[.int .i8 h.kind] W fun e w' => e = .returned (.tuple #[.agg #[.bool (Tm.hasName h.kind), .bool (Tm.hasArg h.kind), .bool (Tm.hasNum h.kind), .bool (Tm.hasType h.kind), .bool (Tm.hasTo h.kind), .bool (Tm.hasLabel h.kind), .int .i64 (Tm.kidsN h.kind)], .bool (Tm.isKind h.kind)]) ∧ Below W.heap.size W w') :
    Calls Tryz.prog 72 #[.agg #[.int .i8 h.kind, .string h.name, .string h.arg, .int .i64 h.num, .int .i8 h.tk, .slice p.TA p.tn p.tc, .int .i8 h.uk, .slice p.UA p.un p.uc, .int .i64 h.label, .int .i64 h.pos, .slice p.A p.n p.c]] w (CountPost w h p) := by
  obtain ⟨k0, k1, k2, k3, k4, k5⟩ := hk
  have hB0 : Below w.heap.size w ((w.alloc (.cells #[.int .i8 h.kind, .string h.name, .string h.arg, .int .i64 h.num, .int .i8 h.tk, .slice p.TA p.tn p.tc, .int .i8 h.uk, .slice p.UA p.un p.uc, .int .i64 h.label, .int .i64 h.pos, .slice p.A p.n p.c] 28)).alloc (.cells #[.int .i8 0, .string ⟨#[]⟩, .string ⟨#[]⟩, .int .i64 0, .int .i8 0, .slice none 0 0, .int .i8 0, .slice none 0 0, .int .i64 0, .int .i64 0, .slice none 0 0] 28)) := ((Below.refl _ _).alloc (Nat.le_refl _) _).alloc (by simp) _
  obtain ⟨r0, r1, r2⟩ := two_new w (.cells #[.int .i8 h.kind, .string h.name, .string h.arg, .int .i64 h.num, .int .i8 h.tk, .slice p.TA p.tn p.tc, .int .i8 h.uk, .slice p.UA p.un p.uc, .int .i64 h.label, .int .i64 h.pos, .slice p.A p.n p.c] 28) (.cells #[.int .i8 0, .string ⟨#[]⟩, .string ⟨#[]⟩, .int .i64 0, .int .i8 0, .slice none 0 0, .int .i8 0, .slice none 0 0, .int .i64 0, .int .i64 0, .slice none 0 0] 28)
  have hres : (Value.agg #[.int .i8 (Tm.cnt h).kind, .string (Tm.cnt h).name, .string (Tm.cnt h).arg, .int .i64 (Tm.cnt h).num, .int .i8 (Tm.cnt h).tk, .slice (Tm.cntP h p).TA (Tm.cntP h p).tn (Tm.cntP h p).tc, .int .i8 (Tm.cnt h).uk, .slice (Tm.cntP h p).UA (Tm.cntP h p).un (Tm.cntP h p).uc, .int .i64 (Tm.cnt h).label, .int .i64 (Tm.cnt h).pos, .slice (Tm.cntP h p).A (Tm.cntP h p).n (Tm.cntP h p).c]) = (.agg #[.int .i8 h.kind, .string h.name, .string ⟨#[]⟩, .int .i64 0, .int .i8 h.tk, .slice p.TA p.tn p.tc, .int .i8 0, .slice none 0 0, .int .i64 0, .int .i64 0, .slice p.A p.n p.c]) := by
    simp [Tm.cnt, Tm.cntP, k0, k1, k2, k3, k4, k5]
  unfold CountPost
  rw [hres]
  rw [k0, k1, k2, k3, k4, k5] at hsh
  have HS := Lib.hid hsh
  have R0 := Lib.hid r0
  have R1 := Lib.hid r1
  generalize Tm.isKind h.kind = ik at *
  generalize Tm.kidsN h.kind = kn at *
  clear hsh k0 k1 k2 k3 k4 k5 r0 r1 hres
  obtain ⟨q0, q1, q2, q3, q4, q5, q6, q7, q8, q9, q10, ql⟩ := own11 R0.out
  go_enter Tryz.func72, Tryz.ntmps72
  go_wp2_with fail
  refine (HS.out _ hB0).mono ?_
  rintro e w2 ⟨rfl, hb⟩
  have hB2 := hB0.trans (hb.mono hB0.size)
  clear q0 q1 q2 q3 q4 q5 q6 q7 q8 q9 q10 ql
  have z2 : w.heap.size + 1 < w2.heap.size := by have := hb.size; simp at this; omega
  have Q0 := Lib.hid (heap_below hb (by simp; omega) R0.out)
  have Q1 := Lib.hid (heap_below hb (by simp) R1.out)
  obtain ⟨q0, q1, q2, q3, q4, q5, q6, q7, q8, q9, q10, ql⟩ := own11 Q0.out
  obtain ⟨y0, y1, y2, y3, y4, y5, y6, y7, y8, y9, y10, yl⟩ := own11 Q1.out
  have fz0 := free11 Q1.out 0
  have fz1 := free11 Q1.out 1
  have fz2 := free11 Q1.out 2
  have fz3 := free11 Q1.out 3
  have fz4 := free11 Q1.out 4
  have fz5 := free11 Q1.out 5
  have fz6 := free11 Q1.out 6
  have fz7 := free11 Q1.out 7
  have fz8 := free11 Q1.out 8
  have fz9 := free11 Q1.out 9
  have fz10 := free11 Q1.out 10
  clear hb
  go_wp2_with fail
  refine bodyPost_ret (v := .agg #[.int .i8 h.kind, .string h.name, .string ⟨#[]⟩, .int .i64 0, .int .i8 h.tk, .slice p.TA p.tn p.tc, .int .i8 0, .slice none 0 0, .int .i64 0, .int .i64 0, .slice p.A p.n p.c]) (by simp [results, Tryz.results72, go_sem, *]) rfl ⟨rfl, ?_⟩
  exact below_set11 hB2 (by omega) _ _ _ _ _ _ _ _ _ _ _

set_option maxHeartbeats 4000000 in
set_option maxRecDepth 100000 in
theorem counting_R (h : Hd) (p : Pl) (w : World) (hk : Tm.hasName h.kind = true ∧ Tm.hasArg h.kind = true ∧ Tm.hasNum h.kind = false ∧ Tm.hasType h.kind = true ∧ Tm.hasTo h.kind = true ∧ Tm.hasLabel h.kind = false)
    (hsh : ∀ W : World, Below w.heap.size w W → Calls Tryz.prog 84 #[.int .i8 h.kind] W fun e w' => e = .returned (.tuple #[.agg #[.bool (Tm.hasName h.kind), .bool (Tm.hasArg h.kind), .bool (Tm.hasNum h.kind), .bool (Tm.hasType h.kind), .bool (Tm.hasTo h.kind), .bool (Tm.hasLabel h.kind), .int .i64 (Tm.kidsN h.kind)], .bool (Tm.isKind h.kind)]) ∧ Below W.heap.size W w') :
    Calls Tryz.prog 72 #[.agg #[.int .i8 h.kind, .string h.name, .string h.arg, .int .i64 h.num, .int .i8 h.tk, .slice p.TA p.tn p.tc, .int .i8 h.uk, .slice p.UA p.un p.uc, .int .i64 h.label, .int .i64 h.pos, .slice p.A p.n p.c]] w (CountPost w h p) := by
  obtain ⟨k0, k1, k2, k3, k4, k5⟩ := hk
  have hB0 : Below w.heap.size w ((w.alloc (.cells #[.int .i8 h.kind, .string h.name, .string h.arg, .int .i64 h.num, .int .i8 h.tk, .slice p.TA p.tn p.tc, .int .i8 h.uk, .slice p.UA p.un p.uc, .int .i64 h.label, .int .i64 h.pos, .slice p.A p.n p.c] 28)).alloc (.cells #[.int .i8 0, .string ⟨#[]⟩, .string ⟨#[]⟩, .int .i64 0, .int .i8 0, .slice none 0 0, .int .i8 0, .slice none 0 0, .int .i64 0, .int .i64 0, .slice none 0 0] 28)) := ((Below.refl _ _).alloc (Nat.le_refl _) _).alloc (by simp) _
  obtain ⟨r0, r1, r2⟩ := two_new w (.cells #[.int .i8 h.kind, .string h.name, .string h.arg, .int .i64 h.num, .int .i8 h.tk, .slice p.TA p.tn p.tc, .int .i8 h.uk, .slice p.UA p.un p.uc, .int .i64 h.label, .int .i64 h.pos, .slice p.A p.n p.c] 28) (.cells #[.int .i8 0, .string ⟨#[]⟩, .string ⟨#[]⟩, .int .i64 0, .int .i8 0, .slice none 0 0, .int .i8 0, .slice none 0 0, .int .i64 0, .int .i64 0, .slice none 0 0] 28)
  have hres : (Value.agg #[.int .i8 (Tm.cnt h).kind, .string (Tm.cnt h).name, .string (Tm.cnt h).arg, .int .i64 (Tm.cnt h).num, .int .i8 (Tm.cnt h).tk, .slice (Tm.cntP h p).TA (Tm.cntP h p).tn (Tm.cntP h p).tc, .int .i8 (Tm.cnt h).uk, .slice (Tm.cntP h p).UA (Tm.cntP h p).un (Tm.cntP h p).uc, .int .i64 (Tm.cnt h).label, .int .i64 (Tm.cnt h).pos, .slice (Tm.cntP h p).A (Tm.cntP h p).n (Tm.cntP h p).c]) = (.agg #[.int .i8 h.kind, .string h.name, .string h.arg, .int .i64 0, .int .i8 h.tk, .slice p.TA p.tn p.tc, .int .i8 h.uk, .slice p.UA p.un p.uc, .int .i64 0, .int .i64 0, .slice p.A p.n p.c]) := by
    simp [Tm.cnt, Tm.cntP, k0, k1, k2, k3, k4, k5]
  unfold CountPost
  rw [hres]
  rw [k0, k1, k2, k3, k4, k5] at hsh
  have HS := Lib.hid hsh
  have R0 := Lib.hid r0
  have R1 := Lib.hid r1
  generalize Tm.isKind h.kind = ik at *
  generalize Tm.kidsN h.kind = kn at *
  clear hsh k0 k1 k2 k3 k4 k5 r0 r1 hres
  obtain ⟨q0, q1, q2, q3, q4, q5, q6, q7, q8, q9, q10, ql⟩ := own11 R0.out
  go_enter Tryz.func72, Tryz.ntmps72
  go_wp2_with fail
  refine (HS.out _ hB0).mono ?_
  rintro e w2 ⟨rfl, hb⟩
  have hB2 := hB0.trans (hb.mono hB0.size)
  clear q0 q1 q2 q3 q4 q5 q6 q7 q8 q9 q10 ql
  have z2 : w.heap.size + 1 < w2.heap.size := by have := hb.size; simp at this; omega
  have Q0 := Lib.hid (heap_below hb (by simp; omega) R0.out)
  have Q1 := Lib.hid (heap_below hb (by simp) R1.out)
  obtain ⟨q0, q1, q2, q3, q4, q5, q6, q7, q8, q9, q10, ql⟩ := own11 Q0.out
  obtain ⟨y0, y1, y2, y3, y4, y5, y6, y7, y8, y9, y10, yl⟩ := own11 Q1.out
  have fz0 := free11 Q1.out 0
  have fz1 := free11 Q1.out 1
  have fz2 := free11 Q1.out 2
  have fz3 := free11 Q1.out 3
  have fz4 := free11 Q1.out 4
  have fz5 := free11 Q1.out 5
  have fz6 := free11 Q1.out 6
  have fz7 := free11 Q1.out 7
  have fz8 := free11 Q1.out 8
  have fz9 := free11 Q1.out 9
  have fz10 := free11 Q1.out 10
  clear hb
  go_wp2_with fail
  refine bodyPost_ret (v := .agg #[.int .i8 h.kind, .string h.name, .string h.arg, .int .i64 0, .int .i8 h.tk, .slice p.TA p.tn p.tc, .int .i8 h.uk, .slice p.UA p.un p.uc, .int .i64 0, .int .i64 0, .slice p.A p.n p.c]) (by simp [results, Tryz.results72, go_sem, *]) rfl ⟨rfl, ?_⟩
  exact below_set11 hB2 (by omega) _ _ _ _ _ _ _ _ _ _ _

set_option maxHeartbeats 4000000 in
set_option maxRecDepth 100000 in
theorem counting_I (h : Hd) (p : Pl) (w : World) (hk : Tm.hasName h.kind = false ∧ Tm.hasArg h.kind = false ∧ Tm.hasNum h.kind = false ∧ Tm.hasType h.kind = true ∧ Tm.hasTo h.kind = false ∧ Tm.hasLabel h.kind = false)
    (hsh : ∀ W : World, Below w.heap.size w W → Calls Tryz.prog 84 #[.int .i8 h.kind] W fun e w' => e = .returned (.tuple #[.agg #[.bool (Tm.hasName h.kind), .bool (Tm.hasArg h.kind), .bool (Tm.hasNum h.kind), .bool (Tm.hasType h.kind), .bool (Tm.hasTo h.kind), .bool (Tm.hasLabel h.kind), .int .i64 (Tm.kidsN h.kind)], .bool (Tm.isKind h.kind)]) ∧ Below W.heap.size W w') :
    Calls Tryz.prog 72 #[.agg #[.int .i8 h.kind, .string h.name, .string h.arg, .int .i64 h.num, .int .i8 h.tk, .slice p.TA p.tn p.tc, .int .i8 h.uk, .slice p.UA p.un p.uc, .int .i64 h.label, .int .i64 h.pos, .slice p.A p.n p.c]] w (CountPost w h p) := by
  obtain ⟨k0, k1, k2, k3, k4, k5⟩ := hk
  have hB0 : Below w.heap.size w ((w.alloc (.cells #[.int .i8 h.kind, .string h.name, .string h.arg, .int .i64 h.num, .int .i8 h.tk, .slice p.TA p.tn p.tc, .int .i8 h.uk, .slice p.UA p.un p.uc, .int .i64 h.label, .int .i64 h.pos, .slice p.A p.n p.c] 28)).alloc (.cells #[.int .i8 0, .string ⟨#[]⟩, .string ⟨#[]⟩, .int .i64 0, .int .i8 0, .slice none 0 0, .int .i8 0, .slice none 0 0, .int .i64 0, .int .i64 0, .slice none 0 0] 28)) := ((Below.refl _ _).alloc (Nat.le_refl _) _).alloc (by simp) _
  obtain ⟨r0, r1, r2⟩ := two_new w (.cells #[.int .i8 h.kind, .string h.name, .string h.arg, .int .i64 h.num, .int .i8 h.tk, .slice p.TA p.tn p.tc, .int .i8 h.uk, .slice p.UA p.un p.uc, .int .i64 h.label, .int .i64 h.pos, .slice p.A p.n p.c] 28) (.cells #[.int .i8 0, .string ⟨#[]⟩, .string ⟨#[]⟩, .int .i64 0, .int .i8 0, .slice none 0 0, .int .i8 0, .slice none 0 0, .int .i64 0, .int .i64 0, .slice none 0 0] 28)
  have hres : (Value.agg #[.int .i8 (Tm.cnt h).kind, .string (Tm.cnt h).name, .string (Tm.cnt h).arg, .int .i64 (Tm.cnt h).num, .int .i8 (Tm.cnt h).tk, .slice (Tm.cntP h p).TA (Tm.cntP h p).tn (Tm.cntP h p).tc, .int .i8 (Tm.cnt h).uk, .slice (Tm.cntP h p).UA (Tm.cntP h p).un (Tm.cntP h p).uc, .int .i64 (Tm.cnt h).label, .int .i64 (Tm.cnt h).pos, .slice (Tm.cntP h p).A (Tm.cntP h p).n (Tm.cntP h p).c]) = (.agg #[.int .i8 h.kind, .string ⟨#[]⟩, .string ⟨#[]⟩, .int .i64 0, .int .i8 h.tk, .slice p.TA p.tn p.tc, .int .i8 0, .slice none 0 0, .int .i64 0, .int .i64 0, .slice p.A p.n p.c]) := by
    simp [Tm.cnt, Tm.cntP, k0, k1, k2, k3, k4, k5]
  unfold CountPost
  rw [hres]
  rw [k0, k1, k2, k3, k4, k5] at hsh
  have HS := Lib.hid hsh
  have R0 := Lib.hid r0
  have R1 := Lib.hid r1
  generalize Tm.isKind h.kind = ik at *
  generalize Tm.kidsN h.kind = kn at *
  clear hsh k0 k1 k2 k3 k4 k5 r0 r1 hres
  obtain ⟨q0, q1, q2, q3, q4, q5, q6, q7, q8, q9, q10, ql⟩ := own11 R0.out
  go_enter Tryz.func72, Tryz.ntmps72
  go_wp2_with fail
  refine (HS.out _ hB0).mono ?_
  rintro e w2 ⟨rfl, hb⟩
  have hB2 := hB0.trans (hb.mono hB0.size)
  clear q0 q1 q2 q3 q4 q5 q6 q7 q8 q9 q10 ql
  have z2 : w.heap.size + 1 < w2.heap.size := by have := hb.size; simp at this; omega
  have Q0 := Lib.hid (heap_below hb (by simp; omega) R0.out)
  have Q1 := Lib.hid (heap_below hb (by simp) R1.out)
  obtain ⟨q0, q1, q2, q3, q4, q5, q6, q7, q8, q9, q10, ql⟩ := own11 Q0.out
  obtain ⟨y0, y1, y2, y3, y4, y5, y6, y7, y8, y9, y10, yl⟩ := own11 Q1.out
  have fz0 := free11 Q1.out 0
  have fz1 := free11 Q1.out 1
  have fz2 := free11 Q1.out 2
  have fz3 := free11 Q1.out 3
  have fz4 := free11 Q1.out 4
  have fz5 := free11 Q1.out 5
  have fz6 := free11 Q1.out 6
  have fz7 := free11 Q1.out 7
  have fz8 := free11 Q1.out 8
  have fz9 := free11 Q1.out 9
  have fz10 := free11 Q1.out 10
  clear hb
  go_wp2_with fail
  refine bodyPost_ret (v := .agg #[.int .i8 h.kind, .string ⟨#[]⟩, .string ⟨#[]⟩, .int .i64 0, .int .i8 h.tk, .slice p.TA p.tn p.tc, .int .i8 0, .slice none 0 0, .int .i64 0, .int .i64 0, .slice p.A p.n p.c]) (by simp [results, Tryz.results72, go_sem, *]) rfl ⟨rfl, ?_⟩
  exact below_set11 hB2 (by omega) _ _ _ _ _ _ _ _ _ _ _

set_option maxHeartbeats 4000000 in
set_option maxRecDepth 100000 in
theorem counting_C (h : Hd) (p : Pl) (w : World) (hk : Tm.hasName h.kind = true ∧ Tm.hasArg h.kind = true ∧ Tm.hasNum h.kind = false ∧ Tm.hasType h.kind = false ∧ Tm.hasTo h.kind = false ∧ Tm.hasLabel h.kind = false)
    (hsh : ∀ W : World, Below w.heap.size w W → Calls Tryz.prog 84 #[.int .i8 h.kind] W fun e w' => e = .returned (.tuple #[.agg #[.bool (Tm.hasName h.kind), .bool (Tm.hasArg h.kind), .bool (Tm.hasNum h.kind), .bool (Tm.hasType h.kind), .bool (Tm.hasTo h.kind), .bool (Tm.hasLabel h.kind), .int .i64 (Tm.kidsN h.kind)], .bool (Tm.isKind h.kind)]) ∧ Below W.heap.size W w') :
    Calls Tryz.prog 72 #[.agg #[.int .i8 h.kind, .string h.name, .string h.arg, .int .i64 h.num, .int .i8 h.tk, .slice p.TA p.tn p.tc, .int .i8 h.uk, .slice p.UA p.un p.uc, .int .i64 h.label, .int .i64 h.pos, .slice p.A p.n p.c]] w (CountPost w h p) := by
  obtain ⟨k0, k1, k2, k3, k4, k5⟩ := hk
  have hB0 : Below w.heap.size w ((w.alloc (.cells #[.int .i8 h.kind, .string h.name, .string h.arg, .int .i64 h.num, .int .i8 h.tk, .slice p.TA p.tn p.tc, .int .i8 h.uk, .slice p.UA p.un p.uc, .int .i64 h.label, .int .i64 h.pos, .slice p.A p.n p.c] 28)).alloc (.cells #[.int .i8 0, .string ⟨#[]⟩, .string ⟨#[]⟩, .int .i64 0, .int .i8 0, .slice none 0 0, .int .i8 0, .slice none 0 0, .int .i64 0, .int .i64 0, .slice none 0 0] 28)) := ((Below.refl _ _).alloc (Nat.le_refl _) _).alloc (by simp) _
  obtain ⟨r0, r1, r2⟩ := two_new w (.cells #[.int .i8 h.kind, .string h.name, .string h.arg, .int .i64 h.num, .int .i8 h.tk, .slice p.TA p.tn p.tc, .int .i8 h.uk, .slice p.UA p.un p.uc, .int .i64 h.label, .int .i64 h.pos, .slice p.A p.n p.c] 28) (.cells #[.int .i8 0, .string ⟨#[]⟩, .string ⟨#[]⟩, .int .i64 0, .int .i8 0, .slice none 0 0, .int .i8 0, .slice none 0 0, .int .i64 0, .int .i64 0, .slice none 0 0] 28)
  have hres : (Value.agg #[.int .i8 (Tm.cnt h).kind, .string (Tm.cnt h).name, .string (Tm.cnt h).arg, .int .i64 (Tm.cnt h).num, .int .i8 (Tm.cnt h).tk, .slice (Tm.cntP h p).TA (Tm.cntP h p).tn (Tm.cntP h p).tc, .int .i8 (Tm.cnt h).uk, .slice (Tm.cntP h p).UA (Tm.cntP h p).un (Tm.cntP h p).uc, .int .i64 (Tm.cnt h).label, .int .i64 (Tm.cnt h).pos, .slice (Tm.cntP h p).A (Tm.cntP h p).n (Tm.cntP h p).c]) = (.agg #[.int .i8 h.kind, .string h.name, .string h.arg, .int .i64 0, .int .i8 0, .slice none 0 0, .int .i8 0, .slice none 0 0, .int .i64 0, .int .i64 0, .slice p.A p.n p.c]) := by
    simp [Tm.cnt, Tm.cntP, k0, k1, k2, k3, k4, k5]
  unfold CountPost
  rw [hres]
  rw [k0, k1, k2, k3, k4, k5] at hsh
  have HS := Lib.hid hsh
  have R0 := Lib.hid r0
  have R1 := Lib.hid r1
  generalize Tm.isKind h.kind = ik at *
  generalize Tm.kidsN h.kind = kn at *
  clear hsh k0 k1 k2 k3 k4 k5 r0 r1 hres
  obtain ⟨q0, q1, q2, q3, q4, q5, q6, q7, q8, q9, q10, ql⟩ := own11 R0.out
  go_enter Tryz.func72, Tryz.ntmps72
  go_wp2_with fail
  refine (HS.out _ hB0).mono ?_
  rintro e w2 ⟨rfl, hb⟩
  have hB2 := hB0.trans (hb.mono hB0.size)
  clear q0 q1 q2 q3 q4 q5 q6 q7 q8 q9 q10 ql
  have z2 : w.heap.size + 1 < w2.heap.size := by have := hb.size; simp at this; omega
  have Q0 := Lib.hid (heap_below hb (by simp; omega) R0.out)
  have Q1 := Lib.hid (heap_below hb (by simp) R1.out)
  obtain ⟨q0, q1, q2, q3, q4, q5, q6, q7, q8, q9, q10, ql⟩ := own11 Q0.out
  obtain ⟨y0, y1, y2, y3, y4, y5, y6, y7, y8, y9, y10, yl⟩ := own11 Q1.out
  have fz0 := free11 Q1.out 0
  have fz1 := free11 Q1.out 1
  have fz2 := free11 Q1.out 2
  have fz3 := free11 Q1.out 3
  have fz4 := free11 Q1.out 4
  have fz5 := free11 Q1.out 5
  have fz6 := free11 Q1.out 6
  have fz7 := free11 Q1.out 7
  have fz8 := free11 Q1.out 8
  have fz9 := free11 Q1.out 9
  have fz10 := free11 Q1.out 10
  clear hb
  go_wp2_with fail
  refine bodyPost_ret (v := .agg #[.int .i8 h.kind, .string h.name, .string h.arg, .int .i64 0, .int .i8 0, .slice none 0 0, .int .i8 0, .slice none 0 0, .int .i64 0, .int .i64 0, .slice p.A p.n p.c]) (by simp [results, Tryz.results72, go_sem, *]) rfl ⟨rfl, ?_⟩
  exact below_set11 hB2 (by omega) _ _ _ _ _ _ _ _ _ _ _

set_option maxHeartbeats 4000000 in
set_option maxRecDepth 100000 in
theorem counting_K (h : Hd) (p : Pl) (w : World) (hk : Tm.hasName h.kind = false ∧ Tm.hasArg h.kind = false ∧ Tm.hasNum h.kind = false ∧ Tm.hasType h.kind = true ∧ Tm.hasTo h.kind = true ∧ Tm.hasLabel h.kind = true)
    (hsh : ∀ W : World, Below w.heap.size w W → Calls Tryz.prog 84 #[.int .i8 h.kind] W fun e w' => e = .returned (.tuple #[.agg #[.bool (Tm.hasName h.kind), .bool (Tm.hasArg h.kind), .bool (Tm.hasNum h.kind), .bool (Tm.hasType h.kind), .bool (Tm.hasTo h.kind), .bool (Tm.hasLabel h.kind), .int .i64 (Tm.kidsN h.kind)], .bool (Tm.isKind h.kind)]) ∧ Below W.heap.size W w') :
    Calls Tryz.prog 72 #[.agg #[.int .i8 h.kind, .string h.name, .string h.arg, .int .i64 h.num, .int .i8 h.tk, .slice p.TA p.tn p.tc, .int .i8 h.uk, .slice p.UA p.un p.uc, .int .i64 h.label, .int .i64 h.pos, .slice p.A p.n p.c]] w (CountPost w h p) := by
  obtain ⟨k0, k1, k2, k3, k4, k5⟩ := hk
  have hB0 : Below w.heap.size w ((w.alloc (.cells #[.int .i8 h.kind, .string h.name, .string h.arg, .int .i64 h.num, .int .i8 h.tk, .slice p.TA p.tn p.tc, .int .i8 h.uk, .slice p.UA p.un p.uc, .int .i64 h.label, .int .i64 h.pos, .slice p.A p.n p.c] 28)).alloc (.cells #[.int .i8 0, .string ⟨#[]⟩, .string ⟨#[]⟩, .int .i64 0, .int .i8 0, .slice none 0 0, .int .i8 0, .slice none 0 0, .int .i64 0, .int .i64 0, .slice none 0 0] 28)) := ((Below.refl _ _).alloc (Nat.le_refl _) _).alloc (by simp) _
  obtain ⟨r0, r1, r2⟩ := two_new w (.cells #[.int .i8 h.kind, .string h.name, .string h.arg, .int .i64 h.num, .int .i8 h.tk, .slice p.TA p.tn p.tc, .int .i8 h.uk, .slice p.UA p.un p.uc, .int .i64 h.label, .int .i64 h.pos, .slice p.A p.n p.c] 28) (.cells #[.int .i8 0, .string ⟨#[]⟩, .string ⟨#[]⟩, .int .i64 0, .int .i8 0, .slice none 0 0, .int .i8 0, .slice none 0 0, .int .i64 0, .int .i64 0, .slice none 0 0] 28)
  have hres : (Value.agg #[.int .i8 (Tm.cnt h).kind, .string (Tm.cnt h).name, .string (Tm.cnt h).arg, .int .i64 (Tm.cnt h).num, .int .i8 (Tm.cnt h).tk, .slice (Tm.cntP h p).TA (Tm.cntP h p).tn (Tm.cntP h p).tc, .int .i8 (Tm.cnt h).uk, .slice (Tm.cntP h p).UA (Tm.cntP h p).un (Tm.cntP h p).uc, .int .i64 (Tm.cnt h).label, .int .i64 (Tm.cnt h).pos, .slice (Tm.cntP h p).A (Tm.cntP h p).n (Tm.cntP h p).c]) = (.agg #[.int .i8 h.kind, .string ⟨#[]⟩, .string ⟨#[]⟩, .int .i64 0, .int .i8 h.tk, .slice p.TA p.tn p.tc, .int .i8 h.uk, .slice p.UA p.un p.uc, .int .i64 h.label, .int .i64 0, .slice p.A p.n p.c]) := by
    simp [Tm.cnt, Tm.cntP, k0, k1, k2, k3, k4, k5]
  unfold CountPost
  rw [hres]
  rw [k0, k1, k2, k3, k4, k5] at hsh
  have HS := Lib.hid hsh
  have R0 := Lib.hid r0
  have R1 := Lib.hid r1
  generalize Tm.isKind h.kind = ik at *
  generalize Tm.kidsN h.kind = kn at *
  clear hsh k0 k1 k2 k3 k4 k5 r0 r1 hres
  obtain ⟨q0, q1, q2, q3, q4, q5, q6, q7, q8, q9, q10, ql⟩ := own11 R0.out
  go_enter Tryz.func72, Tryz.ntmps72
  go_wp2_with fail
  refine (HS.out _ hB0).mono ?_
  rintro e w2 ⟨rfl, hb⟩
  have hB2 := hB0.trans (hb.mono hB0.size)
  clear q0 q1 q2 q3 q4 q5 q6 q7 q8 q9 q10 ql
  have z2 : w.heap.size + 1 < w2.heap.size := by have := hb.size; simp at this; omega
  have Q0 := Lib.hid (heap_below hb (by simp; omega) R0.out)
  have Q1 := Lib.hid (heap_below hb (by simp) R1.out)
  obtain ⟨q0, q1, q2, q3, q4, q5, q6, q7, q8, q9, q10, ql⟩ := own11 Q0.out
  obtain ⟨y0, y1, y2, y3, y4, y5, y6, y7, y8, y9, y10, yl⟩ := own11 Q1.out
  have fz0 := free11 Q1.out 0
  have fz1 := free11 Q1.out 1
  have fz2 := free11 Q1.out 2
  have fz3 := free11 Q1.out 3
  have fz4 := free11 Q1.out 4
  have fz5 := free11 Q1.out 5
  have fz6 := free11 Q1.out 6
  have fz7 := free11 Q1.out 7
  have fz8 := free11 Q1.out 8
  have fz9 := free11 Q1.out 9
  have fz10 := free11 Q1.out 10
  clear hb
  go_wp2_with fail
  refine bodyPost_ret (v := .agg #[.int .i8 h.kind, .string ⟨#[]⟩, .string ⟨#[]⟩, .int .i64 0, .int .i8 h.tk, .slice p.TA p.tn p.tc, .int .i8 h.uk, .slice p.UA p.un p.uc, .int .i64 h.label, .int .i64 0, .slice p.A p.n p.c]) (by simp [results, Tryz.results72, go_sem, *]) rfl ⟨rfl, ?_⟩
  exact below_set11 hB2 (by omega) _ _ _ _ _ _ _ _ _ _ _

theorem counting_any (h : Hd) (n0 : Nat) (p : Pl) (w : World) (hF : Tm.Fit w h p n0) (hS : TShapes w) :
    Calls Tryz.prog 72 #[.agg #[.int .i8 h.kind, .string h.name, .string h.arg, .int .i64 h.num, .int .i8 h.tk, .slice p.TA p.tn p.tc, .int .i8 h.uk, .slice p.UA p.un p.uc, .int .i64 h.label, .int .i64 h.pos, .slice p.A p.n p.c]] w (CountPost w h p) := by
  have hsh := fun (W : World) (hb : Below w.heap.size w W) => shapeOf_any h.kind W hF.klo hF.khi (hS.below hb)
  rcases Tm.combos h.kind with hk | hk | hk | hk | hk | hk | hk | hk
  · exact counting_A h p w hk hsh
  · exact counting_V h p w hk hsh
  · exact counting_N h p w hk hsh
  · exact counting_L h p w hk hsh
  · exact counting_R h p w hk hsh
  · exact counting_I h p w hk hsh
  · exact counting_C h p w hk hsh
  · exact counting_K h p w hk hsh
end Go.Proofs.YtfkbdpehdabepaaGreatDoor
