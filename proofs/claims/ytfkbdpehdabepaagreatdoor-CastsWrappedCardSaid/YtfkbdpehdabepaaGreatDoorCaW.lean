/-
  Layer 14: what the document says of two casts.
-/
import Derived.Test.YtfkbdpehdabepaaGreatDoorCaC
import Derived.Test.YtfkbdpehdabepaaGreatDoorM11
import Derived.Test.YtfkbdpehdabepaaGreatDoorM7
import Derived.Test.YtfkbdpehdabepaaGreatDoorM14
namespace Go.Proofs.YtfkbdpehdabepaaGreatDoor
open Go.RowKit
namespace Ca
def wk2 : Hd := ⟨1, ⟨#[]⟩, ⟨#[]⟩, 7, 0, .nil, 0, .nil, 0, 0⟩
def wk1 : Hd := ⟨17, ⟨#[]⟩, ⟨#[]⟩, 0, 1, .nil, 0, .nil, 2, 0⟩
def wk0 : Hd := ⟨17, ⟨#[]⟩, ⟨#[]⟩, 0, 0, .nil, 1, .nil, 5, 0⟩
def wkK : Tm := .node wk1 (.node wk2 .nil .nil) .nil
theorem wk_all : allL wk0 wkK = [cz wk0, cz wk1] := rfl
theorem wk_5p : sfP 5 wk0 wkK = false := by decide
theorem wk_5n : sfN 5 wk0 wkK = true := by decide
theorem wk_2p : sfP 2 wk0 wkK = true := by decide
theorem wk_2n : sfN 2 wk0 wkK = true := by decide
theorem wk_num : (eH wk0 wkK).num = 7 := by decide
theorem wk_ht : (if Tm.chk wk0 wkK = 0 then (htL (pre (.node wk0 wkK .nil)) : Nat) else 0 : Nat) = 1 := by decide
def wkP (b : Nat) : Pl := ⟨none, 0, 0, none, 0, 0, some ⟨b, 0, none⟩, 1, 1⟩
def wkP2 : Pl := ⟨none, 0, 0, none, 0, 0, none, 0, 0⟩
theorem ty_nil {k : Int} (w : World) (h1 : -128 ≤ k) (h2 : k ≤ 127) : Ty.Is w k .nil none 0 0 := ⟨trivial, rfl, Nat.le_refl _, Nat.zero_le _, h1, h2⟩
theorem wk_is {w : World} {b2 b1 : Nat} (h2 : w.heap[b2]? = some (.cells #[.int .i8 1, .string ⟨#[]⟩, .string ⟨#[]⟩, .int .i64 7, .int .i8 0, .slice none 0 0, .int .i8 0, .slice none 0 0, .int .i64 0, .int .i64 0, .slice none 0 0] 28 (0, 0)))
    (h1 : w.heap[b1]? = some (.cells #[.int .i8 17, .string ⟨#[]⟩, .string ⟨#[]⟩, .int .i64 0, .int .i8 1, .slice none 0 0, .int .i8 0, .slice none 0 0, .int .i64 2, .int .i64 0, .slice (some ⟨b2, 0, none⟩) 1 1] 28 (0, 0))) : Tm.Is w wk0 wkK (wkP b1) := by
  have c2 := cells_of_heap h2
  have c1 := cells_of_heap h1
  have key : ∀ (b j : Nat), ((⟨b, 0, none⟩ : Addr).add j) = ⟨b, j, none⟩ := fun b j => by unfold Addr.add; by_cases h : j = 0 <;> simp [h]
  have hm : (1 : Nat) ≤ maxLen := by decide
  refine ⟨⟨ty_nil w (by decide) (by decide), ty_nil w (by decide) (by decide), rfl, Nat.le_refl _, hm, by decide, by decide, by decide, by decide, by decide, by decide⟩, ?_⟩
  refine ⟨b1, 0, wkP b2, rfl, fun j v hv => ?_, ⟨ty_nil w (by decide) (by decide), ty_nil w (by decide) (by decide), rfl, Nat.le_refl _, hm, by decide, by decide, by decide, by decide, by decide, by decide⟩, ?_, trivial⟩
  · have := c1 j v hv
    rw [key] at this
    simpa using this
  · refine ⟨b2, 0, wkP2, rfl, fun j v hv => ?_, ⟨ty_nil w (by decide) (by decide), ty_nil w (by decide) (by decide), rfl, Nat.le_refl _, Nat.zero_le _, by decide, by decide, by decide, by decide, by decide, by decide⟩, trivial, trivial⟩
    have := c2 j v hv
    rw [key] at this
    simpa using this
/-- a row of two casts, cell by cell -/
theorem RowAt.two {w : World} {c d : Cz} {G : Option Addr} {m k : Nat} (h : RowAt w [c, d] G m k) : m = 2 ∧ ∃ g T tn tc U un uc T' tn' tc' U' un' uc', G = some ⟨g, 0, none⟩ ∧ Ty.Is w c.1 c.2.1 T tn tc ∧ Ty.Is w c.2.2.1 c.2.2.2.1 U un uc ∧ Ty.Is w d.1 d.2.1 T' tn' tc' ∧ Ty.Is w d.2.2.1 d.2.2.2.1 U' un' uc' ∧
    w.cell? ⟨g, 4, none⟩ = some (.int .i64 c.2.2.2.2) ∧ w.cell? ⟨g, 5, none⟩ = some (.int .i8 d.1) ∧ w.cell? ⟨g, 6, none⟩ = some (.slice T' tn' tc') ∧ w.cell? ⟨g, 9, none⟩ = some (.int .i64 d.2.2.2.2) := by
  obtain ⟨h1, h2, h3, h4, h5⟩ := h
  rcases h5 with h5 | ⟨g, xs, rfl, ⟨T, tn, tc, U, un, uc, ys, rfl, i1, i2, T', tn', tc', U', un', uc', zs, rfl, i3, i4, -⟩, hc⟩
  · cases h5
  · exact ⟨h1, g, T, tn, tc, U, un, uc, T', tn', tc', U', un', uc', rfl, i1, i2, i3, i4, hc 4 _ rfl, hc 5 _ rfl, hc 6 _ rfl, hc 9 _ rfl⟩
end Ca
set_option maxHeartbeats 8000000 in
set_option maxRecDepth 100000 in
theorem wakes14_any (w : World) (hG : TGlob w) : Calls Tryz.prog 33 #[] w fun e w' => e = .returned (.bool true) ∧ Below w.heap.size w w' := by
  have hB5 := below_n5 w (.cells #[.int .i8 1, .slice none 0 0] 25) (.cells #[.int .i8 0, .slice none 0 0] 25) (.cells #[.int .i8 1, .string ⟨#[]⟩, .string ⟨#[]⟩, .int .i64 7, .int .i8 0, .slice none 0 0, .int .i8 0, .slice none 0 0, .int .i64 0, .int .i64 0, .slice none 0 0] 28) (.cells #[.int .i8 17, .string ⟨#[]⟩, .string ⟨#[]⟩, .int .i64 0, .int .i8 1, .slice none 0 0, .int .i8 0, .slice none 0 0, .int .i64 2, .int .i64 0, .slice (some ⟨w.heap.size + 2, 0, none⟩) 1 1] 28) (.cells #[.int .i8 17, .string ⟨#[]⟩, .string ⟨#[]⟩, .int .i64 0, .int .i8 0, .slice none 0 0, .int .i8 1, .slice none 0 0, .int .i64 5, .int .i64 0, .slice (some ⟨w.heap.size + 3, 0, none⟩) 1 1] 28)
  obtain ⟨h0, h1, h2, h3, h4⟩ := heap_n5 w (.cells #[.int .i8 1, .slice none 0 0] 25) (.cells #[.int .i8 0, .slice none 0 0] 25) (.cells #[.int .i8 1, .string ⟨#[]⟩, .string ⟨#[]⟩, .int .i64 7, .int .i8 0, .slice none 0 0, .int .i8 0, .slice none 0 0, .int .i64 0, .int .i64 0, .slice none 0 0] 28) (.cells #[.int .i8 17, .string ⟨#[]⟩, .string ⟨#[]⟩, .int .i64 0, .int .i8 1, .slice none 0 0, .int .i8 0, .slice none 0 0, .int .i64 2, .int .i64 0, .slice (some ⟨w.heap.size + 2, 0, none⟩) 1 1] 28) (.cells #[.int .i8 17, .string ⟨#[]⟩, .string ⟨#[]⟩, .int .i64 0, .int .i8 0, .slice none 0 0, .int .i8 1, .slice none 0 0, .int .i64 5, .int .i64 0, .slice (some ⟨w.heap.size + 3, 0, none⟩) 1 1] 28)
  obtain ⟨w1, hw1⟩ : ∃ w1, w1 = ((((w.alloc (.cells #[.int .i8 1, .slice none 0 0] 25)).alloc (.cells #[.int .i8 0, .slice none 0 0] 25)).alloc (.cells #[.int .i8 1, .string ⟨#[]⟩, .string ⟨#[]⟩, .int .i64 7, .int .i8 0, .slice none 0 0, .int .i8 0, .slice none 0 0, .int .i64 0, .int .i64 0, .slice none 0 0] 28)).alloc (.cells #[.int .i8 17, .string ⟨#[]⟩, .string ⟨#[]⟩, .int .i64 0, .int .i8 1, .slice none 0 0, .int .i8 0, .slice none 0 0, .int .i64 2, .int .i64 0, .slice (some ⟨w.heap.size + 2, 0, none⟩) 1 1] 28)).alloc (.cells #[.int .i8 17, .string ⟨#[]⟩, .string ⟨#[]⟩, .int .i64 0, .int .i8 0, .slice none 0 0, .int .i8 1, .slice none 0 0, .int .i64 5, .int .i64 0, .slice (some ⟨w.heap.size + 3, 0, none⟩) 1 1] 28) := ⟨_, rfl⟩
  rw [← hw1] at hB5 h0 h1 h2 h3 h4
  have hIs : Tm.Is w1 Ca.wk0 Ca.wkK (Ca.wkP (w.heap.size + 1 + 1 + 1)) := Ca.wk_is h2 h3
  have HW := Lib.hid hw1
  have HB1 := Lib.hid hB5
  have HX := Lib.hid h0
  have HT := Lib.hid h4
  have CA := Lib.hid (fun (U : World) (hb : Below w1.heap.size w1 U) => call_any Ca.wk0 Ca.wkK (Ca.wkP (w.heap.size + 1 + 1 + 1)) U (hIs.below hb) (hG.below (hB5.trans (hb.mono hB5.size))))
  have CS5 := Lib.hid (fun (U : World) (hb : Below w1.heap.size w1 U) => csafe_any Ca.wk0 Ca.wkK (Ca.wkP (w.heap.size + 1 + 1 + 1)) 5 U (hIs.below hb) (hG.below (hB5.trans (hb.mono hB5.size))) (by decide))
  have CS2 := Lib.hid (fun (U : World) (hb : Below w1.heap.size w1 U) => csafe_any Ca.wk0 Ca.wkK (Ca.wkP (w.heap.size + 1 + 1 + 1)) 2 U (hIs.below hb) (hG.below (hB5.trans (hb.mono hB5.size))) (by decide))
  have CE := Lib.hid (fun (U : World) (hb : Below w1.heap.size w1 U) => erase_any Ca.wk0 Ca.wkK (Ca.wkP (w.heap.size + 1 + 1 + 1)) U (hIs.below hb) (hG.below (hB5.trans (hb.mono hB5.size))))
  have CH := Lib.hid (fun (U : World) (hb : Below w1.heap.size w1 U) => cheight_any Ca.wk0 Ca.wkK (Ca.wkP (w.heap.size + 1 + 1 + 1)) U (hIs.below hb) (hG.below (hB5.trans (hb.mono hB5.size))))
  have CM := Lib.hid (fun (U : World) (T : Option Addr) (tn tc : Nat) (hb : Below w1.heap.size w1 U) (hT : Ty.Is U 1 .nil T tn tc) => show Calls Tryz.prog 36 #[.agg #[.int .i8 1, .slice T tn tc], .agg #[.int .i8 1, .slice none 0 0]] U (fun e w' => e = .returned (.bool true) ∧ Below U.heap.size U w') from same_any 1 .nil T tn tc 1 .nil none 0 0 U hT (Ca.ty_nil U (by decide) (by decide)) (hG.below (hB5.trans (hb.mono hB5.size))).types)
  rw [Ca.wk_5p, Ca.wk_5n] at CS5
  rw [Ca.wk_2p, Ca.wk_2n] at CS2
  rw [Ca.wk_ht] at CH
  unfold Ca.AllP at CA
  rw [Ca.wk_all] at CA
  unfold EraseP at CE
  clear hIs hG hB5 h1 h2 h3 hw1
  obtain ⟨x0, x1, -, -, xl⟩ := own2 h0
  obtain ⟨q0, q1, q2, q3, q4, q5, q6, q7, q8, q9, q10, ql⟩ := own11 h4
  clear h0 h4
  go_enter Tryz.func33, Tryz.ntmps33
  go_upto_region 4 with fail
  rw [← HW.out]
  clear HW
  go_wp2_with fail
  refine (CA.out w1 (Below.refl _ _)).mono ?_
  rintro e w2 ⟨G, m, c, rfl, hr, hb⟩
  have HC := hr.2.1
  have HC2 := hr.2.2.1
  obtain ⟨rfl, g, T, tn, tc, U, un, uc, T', tn', tc', U', un', uc', rfl, i1, i2, i3, i4, d4, d5, d6, d9⟩ := hr.two
  have HD := Lib.hid (fun (W : World) (hb2 : Below w2.heap.size w2 W) => show W.cell? ⟨g, 4, none⟩ = some (.int .i64 5) ∧ W.cell? ⟨g, 5, none⟩ = some (.int .i8 1) ∧ W.cell? ⟨g, 6, none⟩ = some (.slice T' tn' tc') ∧ W.cell? ⟨g, 9, none⟩ = some (.int .i64 2) ∧ Ty.Is W 1 .nil T' tn' tc' from
    ⟨by rw [hb2.cell (p := ⟨g, 4, none⟩) (Ty.cell_lt d4)]; exact d4, by rw [hb2.cell (p := ⟨g, 5, none⟩) (Ty.cell_lt d5)]; exact d5, by rw [hb2.cell (p := ⟨g, 6, none⟩) (Ty.cell_lt d6)]; exact d6, by rw [hb2.cell (p := ⟨g, 9, none⟩) (Ty.cell_lt d9)]; exact d9, Ty.Is.below i3 hb2⟩)
  have E2 := Lib.hid hb
  have HT2 := Lib.hid (heap_below hb (heap_lt HT.out) HT.out)
  have HX2 := Lib.hid (heap_below hb (heap_lt HX.out) HX.out)
  clear i1 i2 i3 i4 d4 d5 d6 d9 hb hr x0 x1 xl q0 q1 q2 q3 q4 q5 q6 q7 q8 q9 q10 ql
  obtain ⟨q0, q1, q2, q3, q4, q5, q6, q7, q8, q9, q10, ql⟩ := own11 HT2.out
  go_wp2_with fail
  refine (CS5.out w2 E2.out).mono ?_
  rintro e w3 ⟨rfl, hb⟩
  have L3 := Lib.hid hb
  have E3 := Lib.hid (E2.out.trans (hb.mono E2.out.size))
  have HT3 := Lib.hid (heap_below hb (heap_lt HT2.out) HT2.out)
  have HX3 := Lib.hid (heap_below hb (heap_lt HX2.out) HX2.out)
  clear hb q0 q1 q2 q3 q4 q5 q6 q7 q8 q9 q10 ql
  obtain ⟨q0, q1, q2, q3, q4, q5, q6, q7, q8, q9, q10, ql⟩ := own11 HT3.out
  go_wp2_with fail
  refine (CS2.out w3 E3.out).mono ?_
  rintro e w4 ⟨rfl, hb⟩
  have L4 := Lib.hid (L3.out.trans (hb.mono L3.out.size))
  have E4 := Lib.hid (E3.out.trans (hb.mono E3.out.size))
  have HT4 := Lib.hid (heap_below hb (heap_lt HT3.out) HT3.out)
  have HX4 := Lib.hid (heap_below hb (heap_lt HX3.out) HX3.out)
  clear hb q0 q1 q2 q3 q4 q5 q6 q7 q8 q9 q10 ql
  go_upto_region 7 with fail
  refine Rg.region_rel 81 rfl [32, 33, 34, 35, 36, 37, 38, 39, 40, 41, 42, 43, 44, 45, 46, 47, 48, 49, 50, 51, 52, 53, 54, 55, 56, 57, 58, 59, 60, 61, 62, 63, 64, 65, 66, 67, 68, 69, 70, 71, 72, 73, 74, 75, 76, 77, 78, 79, 80, 0] [(4, .slice (some ⟨g, 0, none⟩) 2 c), (1, .pointer (some ⟨w.heap.size, 0, none⟩)), (3, .pointer (some ⟨w.heap.size + 1 + 1 + 1 + 1, 0, none⟩)), (5, .bool false), (6, .bool true), (7, .bool true), (8, .bool true)] [.is (.slice (some ⟨g, 0, none⟩) 2 c), .is (.int .i64 2), .is (.bool true), .is (.bool true), .is (.slice (some ⟨g, 0, none⟩) 2 c), .is (.pointer (some ⟨g, 0, none⟩)), .is (.pointer (some ⟨g, 4, none⟩)), .is (.int .i64 5), .is (.bool true), .is (.bool true), .is (.bool true), .is (.slice (some ⟨g, 0, none⟩) 2 c), .is (.pointer (some ⟨g, 5, none⟩)), .is (.pointer (some ⟨g, 9, none⟩)), .is (.int .i64 2), .is (.bool true), .is (.bool true), .is (.bool true), .is (.slice (some ⟨g, 0, none⟩) 2 c), .is (.pointer (some ⟨g, 5, none⟩)), .is (.pointer (some ⟨g, 5, none⟩)), .is (.agg #[.int .i8 1, .slice T' tn' tc']), .is (.agg #[.int .i8 1, .slice none 0 0]), .is (.bool true), .is (.bool true), .is (.bool true), .is (.bool false), .is (.bool true), .is (.bool true), .is (.bool true), .is (.bool true), .is (.bool true), .is (.bool true), .is (.bool true), .is (.bool true), .is (.bool true), .is (.bool true), .is (.bool true), .is (.bool true), .is (.agg #[.int .i8 17, .string ⟨#[]⟩, .string ⟨#[]⟩, .int .i64 0, .int .i8 0, .slice none 0 0, .int .i8 1, .slice none 0 0, .int .i64 5, .int .i64 0, .slice (some ⟨w.heap.size + 1 + 1 + 1, 0, none⟩) 1 1]), .sp (fun v _ => ∃ p : Pl, v = .agg #[.int .i8 (Ca.eH Ca.wk0 Ca.wkK).kind, .string (Ca.eH Ca.wk0 Ca.wkK).name, .string (Ca.eH Ca.wk0 Ca.wkK).arg, .int .i64 (Ca.eH Ca.wk0 Ca.wkK).num, .int .i8 (Ca.eH Ca.wk0 Ca.wkK).tk, .slice p.TA p.tn p.tc, .int .i8 (Ca.eH Ca.wk0 Ca.wkK).uk, .slice p.UA p.un p.uc, .int .i64 (Ca.eH Ca.wk0 Ca.wkK).label, .int .i64 (Ca.eH Ca.wk0 Ca.wkK).pos, .slice p.A p.n p.c]), .is (.int .i64 7), .is (.bool true), .is (.bool true), .is (.bool true), .is (.agg #[.int .i8 17, .string ⟨#[]⟩, .string ⟨#[]⟩, .int .i64 0, .int .i8 0, .slice none 0 0, .int .i8 1, .slice none 0 0, .int .i64 5, .int .i64 0, .slice (some ⟨w.heap.size + 1 + 1 + 1, 0, none⟩) 1 1]), .is (.int .i64 1), .is (.bool true), .is (.bool true), .is (.bool true)] (by kernel_rfl) (by kernel_rfl) (by kernel_rfl) (by kernel_rfl) ?_ ?_ ?_ ?_
  · intro P hP v w5 w6 h hb
    simp only [List.mem_cons, List.not_mem_nil, or_false, false_or, reduceCtorEq, Rg.Gd.sp.injEq] at hP
    subst hP
    exact h
  · intro s v hx
    simp only [List.mem_cons, Prod.mk.injEq, List.not_mem_nil, or_false] at hx
    rcases hx with ⟨rfl, rfl⟩ | ⟨rfl, rfl⟩ | ⟨rfl, rfl⟩ | ⟨rfl, rfl⟩ | ⟨rfl, rfl⟩ | ⟨rfl, rfl⟩ | ⟨rfl, rfl⟩ <;> rfl
  · intro i o a' w' ho hF hbw hdep
    have hi13 : i < 50 := by
      rcases Nat.lt_or_ge i 50 with q | q
      · exact q
      · rw [Array.getElem?_eq_none (by simpa using q)] at ho; cases ho
    rcases (by omega : i = 0 ∨ i = 1 ∨ i = 2 ∨ i = 3 ∨ i = 4 ∨ i = 5 ∨ i = 6 ∨ i = 7 ∨ i = 8 ∨ i = 9 ∨ i = 10 ∨ i = 11 ∨ i = 12 ∨ i = 13 ∨ i = 14 ∨ i = 15 ∨ i = 16 ∨ i = 17 ∨ i = 18 ∨ i = 19 ∨ i = 20 ∨ i = 21 ∨ i = 22 ∨ i = 23 ∨ i = 24 ∨ i = 25 ∨ i = 26 ∨ i = 27 ∨ i = 28 ∨ i = 29 ∨ i = 30 ∨ i = 31 ∨ i = 32 ∨ i = 33 ∨ i = 34 ∨ i = 35 ∨ i = 36 ∨ i = 37 ∨ i = 38 ∨ i = 39 ∨ i = 40 ∨ i = 41 ∨ i = 42 ∨ i = 43 ∨ i = 44 ∨ i = 45 ∨ i = 46 ∨ i = 47 ∨ i = 48 ∨ i = 49) with rfl | rfl | rfl | rfl | rfl | rfl | rfl | rfl | rfl | rfl | rfl | rfl | rfl | rfl | rfl | rfl | rfl | rfl | rfl | rfl | rfl | rfl | rfl | rfl | rfl | rfl | rfl | rfl | rfl | rfl | rfl | rfl | rfl | rfl | rfl | rfl | rfl | rfl | rfl | rfl | rfl | rfl | rfl | rfl | rfl | rfl | rfl | rfl | rfl | rfl
    · obtain rfl := Rg.SI ho
      have z4 : a'.eval (.tmp 4) = .slice (some ⟨g, 0, none⟩) 2 c := hF.fx 4 _ (by simp)
      refine .inl ⟨Rg.want_none rfl, Rg.rel_val 32 rfl (v := .slice (some ⟨g, 0, none⟩) 2 c) rfl ?_⟩
      clear hF hbw hdep hi13
      obtain ⟨hcst, hfn⟩ := Rg.evc a'
      generalize a'.eval = ev at *
      go_simp
    · obtain rfl := Rg.SI ho
      have z32 : a'.eval (.tmp 32) = .slice (some ⟨g, 0, none⟩) 2 c := hdep ⟨0, .data⟩ (by simp) rfl _ 32 rfl rfl
      refine .inl ⟨Rg.want_none rfl, Rg.rel_val 33 rfl (v := .int .i64 2) rfl ?_⟩
      clear hF hbw hdep hi13
      obtain ⟨hcst, hfn⟩ := Rg.evc a'
      generalize a'.eval = ev at *
      go_simp
    · obtain rfl := Rg.SI ho
      have z33 : a'.eval (.tmp 33) = .int .i64 2 := hdep ⟨1, .data⟩ (by simp) rfl _ 33 rfl rfl
      refine .inl ⟨Rg.want_none rfl, Rg.rel_val 34 rfl (v := .bool true) rfl ?_⟩
      clear hF hbw hdep hi13
      obtain ⟨hcst, hfn⟩ := Rg.evc a'
      generalize a'.eval = ev at *
      go_simp
    · obtain rfl := Rg.SI ho
      have z34 : a'.eval (.tmp 34) = .bool true := hdep ⟨2, .data⟩ (by simp) rfl _ 34 rfl rfl
      refine .inl ⟨Rg.want_none rfl, Rg.rel_val 35 rfl (v := .bool true) rfl ?_⟩
      clear hF hbw hdep hi13
      obtain ⟨hcst, hfn⟩ := Rg.evc a'
      generalize a'.eval = ev at *
      go_simp
    · obtain rfl := Rg.SI ho
      have zg : a'.eval (.tmp 35) = .bool true := hdep ⟨3, .guard⟩ (by simp) rfl _ 35 rfl rfl
      have z4 : a'.eval (.tmp 4) = .slice (some ⟨g, 0, none⟩) 2 c := hF.fx 4 _ (by simp)
      refine .inl ⟨Rg.want_at rfl rfl rfl hF.sz (by decide) zg, Rg.rel_val 36 rfl (v := .slice (some ⟨g, 0, none⟩) 2 c) rfl ?_⟩
      clear hF hbw hdep hi13
      obtain ⟨hcst, hfn⟩ := Rg.evc a'
      generalize a'.eval = ev at *
      go_simp
    · obtain rfl := Rg.SI ho
      have zg : a'.eval (.tmp 35) = .bool true := hdep ⟨3, .guard⟩ (by simp) rfl _ 35 rfl rfl
      have z36 : a'.eval (.tmp 36) = .slice (some ⟨g, 0, none⟩) 2 c := hdep ⟨4, .data⟩ (by simp) rfl _ 36 rfl rfl
      refine .inl ⟨Rg.want_at rfl rfl rfl hF.sz (by decide) zg, Rg.rel_val 37 rfl (v := .pointer (some ⟨g, 0, none⟩)) rfl ?_⟩
      clear hF hbw hdep hi13
      obtain ⟨hcst, hfn⟩ := Rg.evc a'
      generalize a'.eval = ev at *
      go_simp
    · obtain rfl := Rg.SI ho
      have zg : a'.eval (.tmp 35) = .bool true := hdep ⟨3, .guard⟩ (by simp) rfl _ 35 rfl rfl
      have z37 : a'.eval (.tmp 37) = .pointer (some ⟨g, 0, none⟩) := hdep ⟨5, .data⟩ (by simp) rfl _ 37 rfl rfl
      refine .inl ⟨Rg.want_at rfl rfl rfl hF.sz (by decide) zg, Rg.rel_val 38 rfl (v := .pointer (some ⟨g, 4, none⟩)) rfl ?_⟩
      clear hF hbw hdep hi13
      obtain ⟨hcst, hfn⟩ := Rg.evc a'
      generalize a'.eval = ev at *
      go_simp
    · obtain rfl := Rg.SI ho
      have zg : a'.eval (.tmp 35) = .bool true := hdep ⟨3, .guard⟩ (by simp) rfl _ 35 rfl rfl
      have z38 : a'.eval (.tmp 38) = .pointer (some ⟨g, 4, none⟩) := hdep ⟨6, .data⟩ (by simp) rfl _ 38 rfl rfl
      obtain ⟨d4, d5, d6, d9, di⟩ := HD.out w' (L4.out.trans (hbw.mono L4.out.size))
      refine .inl ⟨Rg.want_at rfl rfl rfl hF.sz (by decide) zg, Rg.rel_val 39 rfl (v := .int .i64 5) rfl ?_⟩
      clear hF hbw hdep hi13
      obtain ⟨hcst, hfn⟩ := Rg.evc a'
      generalize a'.eval = ev at *
      go_simp
    · obtain rfl := Rg.SI ho
      have zg : a'.eval (.tmp 35) = .bool true := hdep ⟨3, .guard⟩ (by simp) rfl _ 35 rfl rfl
      have z39 : a'.eval (.tmp 39) = .int .i64 5 := hdep ⟨7, .data⟩ (by simp) rfl _ 39 rfl rfl
      refine .inl ⟨Rg.want_at rfl rfl rfl hF.sz (by decide) zg, Rg.rel_val 40 rfl (v := .bool true) rfl ?_⟩
      clear hF hbw hdep hi13
      obtain ⟨hcst, hfn⟩ := Rg.evc a'
      generalize a'.eval = ev at *
      go_simp
    · obtain rfl := Rg.SI ho
      have z35 : a'.eval (.tmp 35) = .bool true := hdep ⟨3, .data⟩ (by simp) rfl _ 35 rfl rfl
      have z40 : a'.eval (.tmp 40) = .bool true := hdep ⟨8, .data⟩ (by simp) rfl _ 40 rfl rfl
      refine .inl ⟨Rg.want_none rfl, Rg.rel_val 41 rfl (v := .bool true) rfl ?_⟩
      clear hF hbw hdep hi13
      obtain ⟨hcst, hfn⟩ := Rg.evc a'
      generalize a'.eval = ev at *
      go_simp
    · obtain rfl := Rg.SI ho
      have z41 : a'.eval (.tmp 41) = .bool true := hdep ⟨9, .data⟩ (by simp) rfl _ 41 rfl rfl
      refine .inl ⟨Rg.want_none rfl, Rg.rel_val 42 rfl (v := .bool true) rfl ?_⟩
      clear hF hbw hdep hi13
      obtain ⟨hcst, hfn⟩ := Rg.evc a'
      generalize a'.eval = ev at *
      go_simp
    · obtain rfl := Rg.SI ho
      have zg : a'.eval (.tmp 42) = .bool true := hdep ⟨10, .guard⟩ (by simp) rfl _ 42 rfl rfl
      have z4 : a'.eval (.tmp 4) = .slice (some ⟨g, 0, none⟩) 2 c := hF.fx 4 _ (by simp)
      refine .inl ⟨Rg.want_at rfl rfl rfl hF.sz (by decide) zg, Rg.rel_val 43 rfl (v := .slice (some ⟨g, 0, none⟩) 2 c) rfl ?_⟩
      clear hF hbw hdep hi13
      obtain ⟨hcst, hfn⟩ := Rg.evc a'
      generalize a'.eval = ev at *
      go_simp
    · obtain rfl := Rg.SI ho
      have zg : a'.eval (.tmp 42) = .bool true := hdep ⟨10, .guard⟩ (by simp) rfl _ 42 rfl rfl
      have z43 : a'.eval (.tmp 43) = .slice (some ⟨g, 0, none⟩) 2 c := hdep ⟨11, .data⟩ (by simp) rfl _ 43 rfl rfl
      refine .inl ⟨Rg.want_at rfl rfl rfl hF.sz (by decide) zg, Rg.rel_val 44 rfl (v := .pointer (some ⟨g, 5, none⟩)) rfl ?_⟩
      clear hF hbw hdep hi13
      obtain ⟨hcst, hfn⟩ := Rg.evc a'
      generalize a'.eval = ev at *
      go_simp
    · obtain rfl := Rg.SI ho
      have zg : a'.eval (.tmp 42) = .bool true := hdep ⟨10, .guard⟩ (by simp) rfl _ 42 rfl rfl
      have z44 : a'.eval (.tmp 44) = .pointer (some ⟨g, 5, none⟩) := hdep ⟨12, .data⟩ (by simp) rfl _ 44 rfl rfl
      refine .inl ⟨Rg.want_at rfl rfl rfl hF.sz (by decide) zg, Rg.rel_val 45 rfl (v := .pointer (some ⟨g, 9, none⟩)) rfl ?_⟩
      clear hF hbw hdep hi13
      obtain ⟨hcst, hfn⟩ := Rg.evc a'
      generalize a'.eval = ev at *
      go_simp
    · obtain rfl := Rg.SI ho
      have zg : a'.eval (.tmp 42) = .bool true := hdep ⟨10, .guard⟩ (by simp) rfl _ 42 rfl rfl
      have z45 : a'.eval (.tmp 45) = .pointer (some ⟨g, 9, none⟩) := hdep ⟨13, .data⟩ (by simp) rfl _ 45 rfl rfl
      obtain ⟨d4, d5, d6, d9, di⟩ := HD.out w' (L4.out.trans (hbw.mono L4.out.size))
      refine .inl ⟨Rg.want_at rfl rfl rfl hF.sz (by decide) zg, Rg.rel_val 46 rfl (v := .int .i64 2) rfl ?_⟩
      clear hF hbw hdep hi13
      obtain ⟨hcst, hfn⟩ := Rg.evc a'
      generalize a'.eval = ev at *
      go_simp
    · obtain rfl := Rg.SI ho
      have zg : a'.eval (.tmp 42) = .bool true := hdep ⟨10, .guard⟩ (by simp) rfl _ 42 rfl rfl
      have z46 : a'.eval (.tmp 46) = .int .i64 2 := hdep ⟨14, .data⟩ (by simp) rfl _ 46 rfl rfl
      refine .inl ⟨Rg.want_at rfl rfl rfl hF.sz (by decide) zg, Rg.rel_val 47 rfl (v := .bool true) rfl ?_⟩
      clear hF hbw hdep hi13
      obtain ⟨hcst, hfn⟩ := Rg.evc a'
      generalize a'.eval = ev at *
      go_simp
    · obtain rfl := Rg.SI ho
      have z42 : a'.eval (.tmp 42) = .bool true := hdep ⟨10, .data⟩ (by simp) rfl _ 42 rfl rfl
      have z47 : a'.eval (.tmp 47) = .bool true := hdep ⟨15, .data⟩ (by simp) rfl _ 47 rfl rfl
      refine .inl ⟨Rg.want_none rfl, Rg.rel_val 48 rfl (v := .bool true) rfl ?_⟩
      clear hF hbw hdep hi13
      obtain ⟨hcst, hfn⟩ := Rg.evc a'
      generalize a'.eval = ev at *
      go_simp
    · obtain rfl := Rg.SI ho
      have z48 : a'.eval (.tmp 48) = .bool true := hdep ⟨16, .data⟩ (by simp) rfl _ 48 rfl rfl
      refine .inl ⟨Rg.want_none rfl, Rg.rel_val 49 rfl (v := .bool true) rfl ?_⟩
      clear hF hbw hdep hi13
      obtain ⟨hcst, hfn⟩ := Rg.evc a'
      generalize a'.eval = ev at *
      go_simp
    · obtain rfl := Rg.SI ho
      have zg : a'.eval (.tmp 49) = .bool true := hdep ⟨17, .guard⟩ (by simp) rfl _ 49 rfl rfl
      have z4 : a'.eval (.tmp 4) = .slice (some ⟨g, 0, none⟩) 2 c := hF.fx 4 _ (by simp)
      refine .inl ⟨Rg.want_at rfl rfl rfl hF.sz (by decide) zg, Rg.rel_val 50 rfl (v := .slice (some ⟨g, 0, none⟩) 2 c) rfl ?_⟩
      clear hF hbw hdep hi13
      obtain ⟨hcst, hfn⟩ := Rg.evc a'
      generalize a'.eval = ev at *
      go_simp
    · obtain rfl := Rg.SI ho
      have zg : a'.eval (.tmp 49) = .bool true := hdep ⟨17, .guard⟩ (by simp) rfl _ 49 rfl rfl
      have z50 : a'.eval (.tmp 50) = .slice (some ⟨g, 0, none⟩) 2 c := hdep ⟨18, .data⟩ (by simp) rfl _ 50 rfl rfl
      refine .inl ⟨Rg.want_at rfl rfl rfl hF.sz (by decide) zg, Rg.rel_val 51 rfl (v := .pointer (some ⟨g, 5, none⟩)) rfl ?_⟩
      clear hF hbw hdep hi13
      obtain ⟨hcst, hfn⟩ := Rg.evc a'
      generalize a'.eval = ev at *
      go_simp
    · obtain rfl := Rg.SI ho
      have zg : a'.eval (.tmp 49) = .bool true := hdep ⟨17, .guard⟩ (by simp) rfl _ 49 rfl rfl
      have z51 : a'.eval (.tmp 51) = .pointer (some ⟨g, 5, none⟩) := hdep ⟨19, .data⟩ (by simp) rfl _ 51 rfl rfl
      refine .inl ⟨Rg.want_at rfl rfl rfl hF.sz (by decide) zg, Rg.rel_val 52 rfl (v := .pointer (some ⟨g, 5, none⟩)) rfl ?_⟩
      clear hF hbw hdep hi13
      obtain ⟨hcst, hfn⟩ := Rg.evc a'
      generalize a'.eval = ev at *
      go_simp
    · obtain rfl := Rg.SI ho
      have zg : a'.eval (.tmp 49) = .bool true := hdep ⟨17, .guard⟩ (by simp) rfl _ 49 rfl rfl
      have z52 : a'.eval (.tmp 52) = .pointer (some ⟨g, 5, none⟩) := hdep ⟨20, .data⟩ (by simp) rfl _ 52 rfl rfl
      obtain ⟨d4, d5, d6, d9, di⟩ := HD.out w' (L4.out.trans (hbw.mono L4.out.size))
      refine .inl ⟨Rg.want_at rfl rfl rfl hF.sz (by decide) zg, Rg.rel_val 53 rfl (v := .agg #[.int .i8 1, .slice T' tn' tc']) rfl ?_⟩
      clear hF hbw hdep hi13
      obtain ⟨hcst, hfn⟩ := Rg.evc a'
      generalize a'.eval = ev at *
      go_simp
    · obtain rfl := Rg.SI ho
      have zg : a'.eval (.tmp 49) = .bool true := hdep ⟨17, .guard⟩ (by simp) rfl _ 49 rfl rfl
      have z1 : a'.eval (.tmp 1) = .pointer (some ⟨w.heap.size, 0, none⟩) := hF.fx 1 _ (by simp)
      obtain ⟨x0, x1, -, -, xl⟩ := own2 (heap_below hbw (heap_lt HX4.out) HX4.out)
      refine .inl ⟨Rg.want_at rfl rfl rfl hF.sz (by decide) zg, Rg.rel_val 54 rfl (v := .agg #[.int .i8 1, .slice none 0 0]) rfl ?_⟩
      clear hF hbw hdep hi13
      obtain ⟨hcst, hfn⟩ := Rg.evc a'
      generalize a'.eval = ev at *
      go_simp
    · obtain rfl := Rg.SI ho
      have zg : a'.eval (.tmp 49) = .bool true := hdep ⟨17, .guard⟩ (by simp) rfl _ 49 rfl rfl
      have z53 : a'.eval (.tmp 53) = .agg #[.int .i8 1, .slice T' tn' tc'] := hdep ⟨21, .data⟩ (by simp) rfl _ 53 rfl rfl
      have z54 : a'.eval (.tmp 54) = .agg #[.int .i8 1, .slice none 0 0] := hdep ⟨22, .data⟩ (by simp) rfl _ 54 rfl rfl
      obtain ⟨d4, d5, d6, d9, di⟩ := HD.out w' (L4.out.trans (hbw.mono L4.out.size))
      refine .inl ⟨Rg.want_at rfl rfl rfl hF.sz (by decide) zg, Rg.rel_call 55 rfl (CM.out w' T' tn' tc' (E4.out.trans (hbw.mono E4.out.size)) di) (fun e u hg => ?_) ?_⟩
      · obtain ⟨rfl, hb⟩ := hg
        exact ⟨_, rfl, rfl, hb⟩
      · clear hF hdep hi13
        obtain ⟨hcst, hfn⟩ := Rg.evc a'
        generalize a'.eval = ev at *
        go_simp
        try (first | rfl | exact ⟨rfl, rfl⟩ | exact ⟨rfl, rfl, rfl⟩ | exact ⟨rfl, rfl, rfl, rfl, rfl, ⟨rfl, rfl, rfl⟩, rfl, ⟨rfl, rfl, rfl⟩, rfl, rfl, rfl, rfl, rfl⟩)
    · obtain rfl := Rg.SI ho
      have z49 : a'.eval (.tmp 49) = .bool true := hdep ⟨17, .data⟩ (by simp) rfl _ 49 rfl rfl
      have z55 : a'.eval (.tmp 55) = .bool true := hdep ⟨23, .data⟩ (by simp) rfl _ 55 rfl rfl
      refine .inl ⟨Rg.want_none rfl, Rg.rel_val 56 rfl (v := .bool true) rfl ?_⟩
      clear hF hbw hdep hi13
      obtain ⟨hcst, hfn⟩ := Rg.evc a'
      generalize a'.eval = ev at *
      go_simp
    · obtain rfl := Rg.SI ho
      have z56 : a'.eval (.tmp 56) = .bool true := hdep ⟨24, .data⟩ (by simp) rfl _ 56 rfl rfl
      refine .inl ⟨Rg.want_none rfl, Rg.rel_val 57 rfl (v := .bool true) rfl ?_⟩
      clear hF hbw hdep hi13
      obtain ⟨hcst, hfn⟩ := Rg.evc a'
      generalize a'.eval = ev at *
      go_simp
    · obtain rfl := Rg.SI ho
      have zg : a'.eval (.tmp 57) = .bool true := hdep ⟨25, .guard⟩ (by simp) rfl _ 57 rfl rfl
      have z5 : a'.eval (.tmp 5) = .bool false := hF.fx 5 _ (by simp)
      refine .inl ⟨Rg.want_at rfl rfl rfl hF.sz (by decide) zg, Rg.rel_val 58 rfl (v := .bool false) rfl ?_⟩
      clear hF hbw hdep hi13
      obtain ⟨hcst, hfn⟩ := Rg.evc a'
      generalize a'.eval = ev at *
      go_simp
    · obtain rfl := Rg.SI ho
      have zg : a'.eval (.tmp 57) = .bool true := hdep ⟨25, .guard⟩ (by simp) rfl _ 57 rfl rfl
      have z58 : a'.eval (.tmp 58) = .bool false := hdep ⟨26, .data⟩ (by simp) rfl _ 58 rfl rfl
      refine .inl ⟨Rg.want_at rfl rfl rfl hF.sz (by decide) zg, Rg.rel_val 59 rfl (v := .bool true) rfl ?_⟩
      clear hF hbw hdep hi13
      obtain ⟨hcst, hfn⟩ := Rg.evc a'
      generalize a'.eval = ev at *
      go_simp
    · obtain rfl := Rg.SI ho
      have z57 : a'.eval (.tmp 57) = .bool true := hdep ⟨25, .data⟩ (by simp) rfl _ 57 rfl rfl
      have z59 : a'.eval (.tmp 59) = .bool true := hdep ⟨27, .data⟩ (by simp) rfl _ 59 rfl rfl
      refine .inl ⟨Rg.want_none rfl, Rg.rel_val 60 rfl (v := .bool true) rfl ?_⟩
      clear hF hbw hdep hi13
      obtain ⟨hcst, hfn⟩ := Rg.evc a'
      generalize a'.eval = ev at *
      go_simp
    · obtain rfl := Rg.SI ho
      have z60 : a'.eval (.tmp 60) = .bool true := hdep ⟨28, .data⟩ (by simp) rfl _ 60 rfl rfl
      refine .inl ⟨Rg.want_none rfl, Rg.rel_val 61 rfl (v := .bool true) rfl ?_⟩
      clear hF hbw hdep hi13
      obtain ⟨hcst, hfn⟩ := Rg.evc a'
      generalize a'.eval = ev at *
      go_simp
    · obtain rfl := Rg.SI ho
      have zg : a'.eval (.tmp 61) = .bool true := hdep ⟨29, .guard⟩ (by simp) rfl _ 61 rfl rfl
      have z6 : a'.eval (.tmp 6) = .bool true := hF.fx 6 _ (by simp)
      refine .inl ⟨Rg.want_at rfl rfl rfl hF.sz (by decide) zg, Rg.rel_val 62 rfl (v := .bool true) rfl ?_⟩
      clear hF hbw hdep hi13
      obtain ⟨hcst, hfn⟩ := Rg.evc a'
      generalize a'.eval = ev at *
      go_simp
    · obtain rfl := Rg.SI ho
      have z61 : a'.eval (.tmp 61) = .bool true := hdep ⟨29, .data⟩ (by simp) rfl _ 61 rfl rfl
      have z62 : a'.eval (.tmp 62) = .bool true := hdep ⟨30, .data⟩ (by simp) rfl _ 62 rfl rfl
      refine .inl ⟨Rg.want_none rfl, Rg.rel_val 63 rfl (v := .bool true) rfl ?_⟩
      clear hF hbw hdep hi13
      obtain ⟨hcst, hfn⟩ := Rg.evc a'
      generalize a'.eval = ev at *
      go_simp
    · obtain rfl := Rg.SI ho
      have z63 : a'.eval (.tmp 63) = .bool true := hdep ⟨31, .data⟩ (by simp) rfl _ 63 rfl rfl
      refine .inl ⟨Rg.want_none rfl, Rg.rel_val 64 rfl (v := .bool true) rfl ?_⟩
      clear hF hbw hdep hi13
      obtain ⟨hcst, hfn⟩ := Rg.evc a'
      generalize a'.eval = ev at *
      go_simp
    · obtain rfl := Rg.SI ho
      have zg : a'.eval (.tmp 64) = .bool true := hdep ⟨32, .guard⟩ (by simp) rfl _ 64 rfl rfl
      have z7 : a'.eval (.tmp 7) = .bool true := hF.fx 7 _ (by simp)
      refine .inl ⟨Rg.want_at rfl rfl rfl hF.sz (by decide) zg, Rg.rel_val 65 rfl (v := .bool true) rfl ?_⟩
      clear hF hbw hdep hi13
      obtain ⟨hcst, hfn⟩ := Rg.evc a'
      generalize a'.eval = ev at *
      go_simp
    · obtain rfl := Rg.SI ho
      have z64 : a'.eval (.tmp 64) = .bool true := hdep ⟨32, .data⟩ (by simp) rfl _ 64 rfl rfl
      have z65 : a'.eval (.tmp 65) = .bool true := hdep ⟨33, .data⟩ (by simp) rfl _ 65 rfl rfl
      refine .inl ⟨Rg.want_none rfl, Rg.rel_val 66 rfl (v := .bool true) rfl ?_⟩
      clear hF hbw hdep hi13
      obtain ⟨hcst, hfn⟩ := Rg.evc a'
      generalize a'.eval = ev at *
      go_simp
    · obtain rfl := Rg.SI ho
      have z66 : a'.eval (.tmp 66) = .bool true := hdep ⟨34, .data⟩ (by simp) rfl _ 66 rfl rfl
      refine .inl ⟨Rg.want_none rfl, Rg.rel_val 67 rfl (v := .bool true) rfl ?_⟩
      clear hF hbw hdep hi13
      obtain ⟨hcst, hfn⟩ := Rg.evc a'
      generalize a'.eval = ev at *
      go_simp
    · obtain rfl := Rg.SI ho
      have zg : a'.eval (.tmp 67) = .bool true := hdep ⟨35, .guard⟩ (by simp) rfl _ 67 rfl rfl
      have z8 : a'.eval (.tmp 8) = .bool true := hF.fx 8 _ (by simp)
      refine .inl ⟨Rg.want_at rfl rfl rfl hF.sz (by decide) zg, Rg.rel_val 68 rfl (v := .bool true) rfl ?_⟩
      clear hF hbw hdep hi13
      obtain ⟨hcst, hfn⟩ := Rg.evc a'
      generalize a'.eval = ev at *
      go_simp
    · obtain rfl := Rg.SI ho
      have z67 : a'.eval (.tmp 67) = .bool true := hdep ⟨35, .data⟩ (by simp) rfl _ 67 rfl rfl
      have z68 : a'.eval (.tmp 68) = .bool true := hdep ⟨36, .data⟩ (by simp) rfl _ 68 rfl rfl
      refine .inl ⟨Rg.want_none rfl, Rg.rel_val 69 rfl (v := .bool true) rfl ?_⟩
      clear hF hbw hdep hi13
      obtain ⟨hcst, hfn⟩ := Rg.evc a'
      generalize a'.eval = ev at *
      go_simp
    · obtain rfl := Rg.SI ho
      have z69 : a'.eval (.tmp 69) = .bool true := hdep ⟨37, .data⟩ (by simp) rfl _ 69 rfl rfl
      refine .inl ⟨Rg.want_none rfl, Rg.rel_val 70 rfl (v := .bool true) rfl ?_⟩
      clear hF hbw hdep hi13
      obtain ⟨hcst, hfn⟩ := Rg.evc a'
      generalize a'.eval = ev at *
      go_simp
    · obtain rfl := Rg.SI ho
      have zg : a'.eval (.tmp 70) = .bool true := hdep ⟨38, .guard⟩ (by simp) rfl _ 70 rfl rfl
      have z3 : a'.eval (.tmp 3) = .pointer (some ⟨w.heap.size + 1 + 1 + 1 + 1, 0, none⟩) := hF.fx 3 _ (by simp)
      obtain ⟨q0, q1, q2, q3, q4, q5, q6, q7, q8, q9, q10, ql⟩ := own11 (heap_below hbw (heap_lt HT4.out) HT4.out)
      refine .inl ⟨Rg.want_at rfl rfl rfl hF.sz (by decide) zg, Rg.rel_val 71 rfl (v := .agg #[.int .i8 17, .string ⟨#[]⟩, .string ⟨#[]⟩, .int .i64 0, .int .i8 0, .slice none 0 0, .int .i8 1, .slice none 0 0, .int .i64 5, .int .i64 0, .slice (some ⟨w.heap.size + 1 + 1 + 1, 0, none⟩) 1 1]) rfl ?_⟩
      clear hF hbw hdep hi13
      obtain ⟨hcst, hfn⟩ := Rg.evc a'
      generalize a'.eval = ev at *
      go_simp
    · obtain rfl := Rg.SI ho
      have zg : a'.eval (.tmp 70) = .bool true := hdep ⟨38, .guard⟩ (by simp) rfl _ 70 rfl rfl
      have z71 : a'.eval (.tmp 71) = .agg #[.int .i8 17, .string ⟨#[]⟩, .string ⟨#[]⟩, .int .i64 0, .int .i8 0, .slice none 0 0, .int .i8 1, .slice none 0 0, .int .i64 5, .int .i64 0, .slice (some ⟨w.heap.size + 1 + 1 + 1, 0, none⟩) 1 1] := hdep ⟨39, .data⟩ (by simp) rfl _ 71 rfl rfl
      refine .inl ⟨Rg.want_at rfl rfl rfl hF.sz (by decide) zg, Rg.rel_call 72 rfl (CE.out w' (E4.out.trans (hbw.mono E4.out.size))) (fun e u hg => ?_) ?_⟩
      · obtain ⟨p2, rfl, -, hb⟩ := hg
        exact ⟨_, rfl, ⟨p2, rfl⟩, hb⟩
      · clear hF hdep hi13
        obtain ⟨hcst, hfn⟩ := Rg.evc a'
        generalize a'.eval = ev at *
        go_simp
        try (first | rfl | exact ⟨rfl, rfl⟩ | exact ⟨rfl, rfl, rfl⟩ | exact ⟨rfl, rfl, rfl, rfl, rfl, ⟨rfl, rfl, rfl⟩, rfl, ⟨rfl, rfl, rfl⟩, rfl, rfl, rfl, rfl, rfl⟩)
    · obtain rfl := Rg.SI ho
      have zg : a'.eval (.tmp 70) = .bool true := hdep ⟨38, .guard⟩ (by simp) rfl _ 70 rfl rfl
      have z72 := hdep ⟨40, .data⟩ (by simp) rfl _ 72 rfl rfl
      obtain ⟨p2, z72⟩ := z72
      have hnum := Ca.wk_num
      refine .inl ⟨Rg.want_at rfl rfl rfl hF.sz (by decide) zg, Rg.rel_val 73 rfl (v := .int .i64 7) rfl ?_⟩
      clear hF hbw hdep hi13
      obtain ⟨hcst, hfn⟩ := Rg.evc a'
      generalize a'.eval = ev at *
      go_simp
      simp [go_sem, Instr.field, underlying, Tryz.underlying28, part, asAgg]
    · obtain rfl := Rg.SI ho
      have zg : a'.eval (.tmp 70) = .bool true := hdep ⟨38, .guard⟩ (by simp) rfl _ 70 rfl rfl
      have z73 : a'.eval (.tmp 73) = .int .i64 7 := hdep ⟨41, .data⟩ (by simp) rfl _ 73 rfl rfl
      refine .inl ⟨Rg.want_at rfl rfl rfl hF.sz (by decide) zg, Rg.rel_val 74 rfl (v := .bool true) rfl ?_⟩
      clear hF hbw hdep hi13
      obtain ⟨hcst, hfn⟩ := Rg.evc a'
      generalize a'.eval = ev at *
      go_simp
    · obtain rfl := Rg.SI ho
      have z70 : a'.eval (.tmp 70) = .bool true := hdep ⟨38, .data⟩ (by simp) rfl _ 70 rfl rfl
      have z74 : a'.eval (.tmp 74) = .bool true := hdep ⟨42, .data⟩ (by simp) rfl _ 74 rfl rfl
      refine .inl ⟨Rg.want_none rfl, Rg.rel_val 75 rfl (v := .bool true) rfl ?_⟩
      clear hF hbw hdep hi13
      obtain ⟨hcst, hfn⟩ := Rg.evc a'
      generalize a'.eval = ev at *
      go_simp
    · obtain rfl := Rg.SI ho
      have z75 : a'.eval (.tmp 75) = .bool true := hdep ⟨43, .data⟩ (by simp) rfl _ 75 rfl rfl
      refine .inl ⟨Rg.want_none rfl, Rg.rel_val 76 rfl (v := .bool true) rfl ?_⟩
      clear hF hbw hdep hi13
      obtain ⟨hcst, hfn⟩ := Rg.evc a'
      generalize a'.eval = ev at *
      go_simp
    · obtain rfl := Rg.SI ho
      have zg : a'.eval (.tmp 76) = .bool true := hdep ⟨44, .guard⟩ (by simp) rfl _ 76 rfl rfl
      have z3 : a'.eval (.tmp 3) = .pointer (some ⟨w.heap.size + 1 + 1 + 1 + 1, 0, none⟩) := hF.fx 3 _ (by simp)
      obtain ⟨q0, q1, q2, q3, q4, q5, q6, q7, q8, q9, q10, ql⟩ := own11 (heap_below hbw (heap_lt HT4.out) HT4.out)
      refine .inl ⟨Rg.want_at rfl rfl rfl hF.sz (by decide) zg, Rg.rel_val 77 rfl (v := .agg #[.int .i8 17, .string ⟨#[]⟩, .string ⟨#[]⟩, .int .i64 0, .int .i8 0, .slice none 0 0, .int .i8 1, .slice none 0 0, .int .i64 5, .int .i64 0, .slice (some ⟨w.heap.size + 1 + 1 + 1, 0, none⟩) 1 1]) rfl ?_⟩
      clear hF hbw hdep hi13
      obtain ⟨hcst, hfn⟩ := Rg.evc a'
      generalize a'.eval = ev at *
      go_simp
    · obtain rfl := Rg.SI ho
      have zg : a'.eval (.tmp 76) = .bool true := hdep ⟨44, .guard⟩ (by simp) rfl _ 76 rfl rfl
      have z77 : a'.eval (.tmp 77) = .agg #[.int .i8 17, .string ⟨#[]⟩, .string ⟨#[]⟩, .int .i64 0, .int .i8 0, .slice none 0 0, .int .i8 1, .slice none 0 0, .int .i64 5, .int .i64 0, .slice (some ⟨w.heap.size + 1 + 1 + 1, 0, none⟩) 1 1] := hdep ⟨45, .data⟩ (by simp) rfl _ 77 rfl rfl
      refine .inl ⟨Rg.want_at rfl rfl rfl hF.sz (by decide) zg, Rg.rel_call 78 rfl (CH.out w' (E4.out.trans (hbw.mono E4.out.size))) (fun e u hg => ?_) ?_⟩
      · obtain ⟨rfl, hb⟩ := hg
        exact ⟨_, rfl, rfl, hb⟩
      · clear hF hdep hi13
        obtain ⟨hcst, hfn⟩ := Rg.evc a'
        generalize a'.eval = ev at *
        go_simp
        try (first | rfl | exact ⟨rfl, rfl⟩ | exact ⟨rfl, rfl, rfl⟩ | exact ⟨rfl, rfl, rfl, rfl, rfl, ⟨rfl, rfl, rfl⟩, rfl, ⟨rfl, rfl, rfl⟩, rfl, rfl, rfl, rfl, rfl⟩)
    · obtain rfl := Rg.SI ho
      have zg : a'.eval (.tmp 76) = .bool true := hdep ⟨44, .guard⟩ (by simp) rfl _ 76 rfl rfl
      have z78 : a'.eval (.tmp 78) = .int .i64 1 := hdep ⟨46, .data⟩ (by simp) rfl _ 78 rfl rfl
      refine .inl ⟨Rg.want_at rfl rfl rfl hF.sz (by decide) zg, Rg.rel_val 79 rfl (v := .bool true) rfl ?_⟩
      clear hF hbw hdep hi13
      obtain ⟨hcst, hfn⟩ := Rg.evc a'
      generalize a'.eval = ev at *
      go_simp
    · obtain rfl := Rg.SI ho
      have z76 : a'.eval (.tmp 76) = .bool true := hdep ⟨44, .data⟩ (by simp) rfl _ 76 rfl rfl
      have z79 : a'.eval (.tmp 79) = .bool true := hdep ⟨47, .data⟩ (by simp) rfl _ 79 rfl rfl
      refine .inl ⟨Rg.want_none rfl, Rg.rel_val 80 rfl (v := .bool true) rfl ?_⟩
      clear hF hbw hdep hi13
      obtain ⟨hcst, hfn⟩ := Rg.evc a'
      generalize a'.eval = ev at *
      go_simp
    · obtain rfl := Rg.SI ho
      have z80 : a'.eval (.tmp 80) = .bool true := hdep ⟨48, .data⟩ (by simp) rfl _ 80 rfl rfl
      refine .inl ⟨Rg.want_none rfl, Rg.rel_val 0 rfl (v := .bool true) rfl ?_⟩
      clear hF hbw hdep hi13
      obtain ⟨hcst, hfn⟩ := Rg.evc a'
      generalize a'.eval = ev at *
      go_simp
  · intro u w' t ht hb hG
    have h0 : u 0 = .bool true := hG 49 _ 0 rfl rfl
    have HB9 := Lib.hid (HB1.out.trans ((E4.out.trans (hb.mono E4.out.size)).mono HB1.out.size))
    clear hG hb
    simp only [over, List.setIfInBounds_toArray, List.set_cons_succ, List.set_cons_zero, h0] at ht
    subst ht
    go_wp2_with fail
    go_ret
    exact ⟨rfl, HB9.out⟩
end Go.Proofs.YtfkbdpehdabepaaGreatDoor
