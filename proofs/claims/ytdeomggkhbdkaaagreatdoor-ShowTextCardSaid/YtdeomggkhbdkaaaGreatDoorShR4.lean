/-
  The document's words, kinds 6, 9, 12, 13.
-/
import Derived.Test.YtdeomggkhbdkaaaGreatDoorM19
namespace Go.Proofs.YtdeomggkhbdkaaaGreatDoor
open Go.RowKit

set_option maxHeartbeats 4000000 in
set_option maxRecDepth 100000 in
theorem rw_6 (w : World) (h : Hd) (p : Pl) (bb oo : Nat) (hk : h.kind = 6) (hA : p.A = some ⟨bb, oo, none⟩) (hn : p.n = 2) (h0 : Hd) (p0 : Pl) (S0 : ByteArray) (h1 : Hd) (p1 : Pl) (S1 : ByteArray) (K0 : RKid w bb oo h0 p0 5 S0) (K1 : RKid w bb (oo + 11) h1 p1 (-1) S1) :
    Calls Tryz.prog 27 #[.agg #[.int .i8 h.kind, .string h.name, .string h.arg, .int .i64 h.num, .int .i8 h.tk, .slice p.TA p.tn p.tc, .int .i8 h.uk, .slice p.UA p.un p.uc, .int .i64 h.label, .int .i64 h.pos, .slice p.A p.n p.c]] w fun e w' => e = .returned (.string (S0 ++ ⟨#[32, 40, 32]⟩ ++ S1 ++ ⟨#[32, 41]⟩)) ∧ Below w.heap.size w w' := by
  have hB0 : Below w.heap.size w (w.alloc (.cells #[.int .i8 h.kind, .string h.name, .string h.arg, .int .i64 h.num, .int .i8 h.tk, .slice p.TA p.tn p.tc, .int .i8 h.uk, .slice p.UA p.un p.uc, .int .i64 h.label, .int .i64 h.pos, .slice p.A p.n p.c] 28)) := (Below.refl _ _).alloc (Nat.le_refl _) _
  have hbox := heap_new w (.cells #[.int .i8 h.kind, .string h.name, .string h.arg, .int .i64 h.num, .int .i8 h.tk, .slice p.TA p.tn p.tc, .int .i8 h.uk, .slice p.UA p.un p.uc, .int .i64 h.label, .int .i64 h.pos, .slice p.A p.n p.c] 28)
  generalize hw1 : w.alloc (.cells #[.int .i8 h.kind, .string h.name, .string h.arg, .int .i64 h.num, .int .i8 h.tk, .slice p.TA p.tn p.tc, .int .i8 h.uk, .slice p.UA p.un p.uc, .int .i64 h.label, .int .i64 h.pos, .slice p.A p.n p.c] 28) = w1 at *
  have HW := Lib.hid hw1
  have HB := Lib.hid hB0
  have HX := Lib.hid hbox
  have D0 := Lib.hid (fun (W : World) (hb : Below w1.heap.size w1 W) => K0.says W (HB.out.trans (hb.mono HB.out.size)))
  have z0 := K0.size
  obtain ⟨c0_0, c0_1, c0_2, c0_3, c0_4, c0_5, c0_6, c0_7, c0_8, c0_9, c0_10⟩ := Tm.row (fun j v hj => by rw [(bcell HB.out).1 _ _ (Ty.cell_lt (K0.cells j v hj))]; exact K0.cells j v hj)
  have D1 := Lib.hid (fun (W : World) (hb : Below w1.heap.size w1 W) => K1.says W (HB.out.trans (hb.mono HB.out.size)))
  have z1 := K1.size
  obtain ⟨c1_0, c1_1, c1_2, c1_3, c1_4, c1_5, c1_6, c1_7, c1_8, c1_9, c1_10⟩ := Tm.row (fun j v hj => by rw [(bcell HB.out).1 _ _ (Ty.cell_lt (K1.cells j v hj))]; exact K1.cells j v hj)
  obtain ⟨q0, q1, q2, q3, q4, q5, q6, q7, q8, q9, q10, ql⟩ := own11 HX.out
  clear hB0 hbox hw1 K0 K1
  generalize h.kind = x1 at *
  generalize p.A = x2 at *
  generalize p.n = x3 at *
  subst hk hA hn
  go_enter Tryz.func27, Tryz.ntmps27
  go_wp2_with fail
  rw [HW.out]
  go_wp2_with fail
  have Xq10 := later_cell q10
  have Xc0_0 := later_cell c0_0
  have Xc0_1 := later_cell c0_1
  have Xc0_2 := later_cell c0_2
  have Xc0_3 := later_cell c0_3
  have Xc0_4 := later_cell c0_4
  have Xc0_5 := later_cell c0_5
  have Xc0_6 := later_cell c0_6
  have Xc0_7 := later_cell c0_7
  have Xc0_8 := later_cell c0_8
  have Xc0_9 := later_cell c0_9
  have Xc0_10 := later_cell c0_10
  have Xc1_0 := later_cell c1_0
  have Xc1_1 := later_cell c1_1
  have Xc1_2 := later_cell c1_2
  have Xc1_3 := later_cell c1_3
  have Xc1_4 := later_cell c1_4
  have Xc1_5 := later_cell c1_5
  have Xc1_6 := later_cell c1_6
  have Xc1_7 := later_cell c1_7
  have Xc1_8 := later_cell c1_8
  have Xc1_9 := later_cell c1_9
  have Xc1_10 := later_cell c1_10
  clear q0 q1 q2 q3 q4 q5 q6 q7 q8 q9 q10 ql c0_0 c0_1 c0_2 c0_3 c0_4 c0_5 c0_6 c0_7 c0_8 c0_9 c0_10 c1_0 c1_1 c1_2 c1_3 c1_4 c1_5 c1_6 c1_7 c1_8 c1_9 c1_10
  refine wp_region_low (by kernel_rfl) (by kernel_rfl) ?_
  repeat
    first
      | go_big_quiet_skip
      | (go_big_quiet_want
         go_big_quiet_op
         first
           | go_big_quiet_on
           | (refine ⟨_, fun _ => rfl, ?_⟩
              go_big_quiet_on)
           | (apply Exists.intro
              refine ⟨fun h => ?_, ?_⟩
              · first
                  | (go_at_call 16; with_reducible exact call_low h (D0.out h.u h.low))
                  | (go_at_call 16; with_reducible exact call_low h (D1.out h.u h.low))
              go_big_quiet_on))
  refine wpQuiet_nil ?_
  rintro _ ⟨⟨v1, E⟩, rfl⟩
  have hB2 := HB.out.trans (E.mono HB.out.size)
  clear E Xq10 Xc0_0 Xc0_1 Xc0_2 Xc0_3 Xc0_4 Xc0_5 Xc0_6 Xc0_7 Xc0_8 Xc0_9 Xc0_10 Xc1_0 Xc1_1 Xc1_2 Xc1_3 Xc1_4 Xc1_5 Xc1_6 Xc1_7 Xc1_8 Xc1_9 Xc1_10
  go_wp2_with fail
  go_ret
  exact ⟨rfl, hB2⟩

set_option maxHeartbeats 4000000 in
set_option maxRecDepth 100000 in
theorem rw_9 (w : World) (h : Hd) (p : Pl) (bb oo : Nat) (hk : h.kind = 9) (hA : p.A = some ⟨bb, oo, none⟩) (hn : p.n = 2) (h0 : Hd) (p0 : Pl) (S0 : ByteArray) (h1 : Hd) (p1 : Pl) (S1 : ByteArray) (K0 : RKid w bb oo h0 p0 (-1) S0) (K1 : RKid w bb (oo + 11) h1 p1 (-1) S1) :
    Calls Tryz.prog 27 #[.agg #[.int .i8 h.kind, .string h.name, .string h.arg, .int .i64 h.num, .int .i8 h.tk, .slice p.TA p.tn p.tc, .int .i8 h.uk, .slice p.UA p.un p.uc, .int .i64 h.label, .int .i64 h.pos, .slice p.A p.n p.c]] w fun e w' => e = .returned (.string (⟨#[91, 32]⟩ ++ S0 ++ ⟨#[32, 44, 32]⟩ ++ S1 ++ ⟨#[32, 93]⟩)) ∧ Below w.heap.size w w' := by
  have hB0 : Below w.heap.size w (w.alloc (.cells #[.int .i8 h.kind, .string h.name, .string h.arg, .int .i64 h.num, .int .i8 h.tk, .slice p.TA p.tn p.tc, .int .i8 h.uk, .slice p.UA p.un p.uc, .int .i64 h.label, .int .i64 h.pos, .slice p.A p.n p.c] 28)) := (Below.refl _ _).alloc (Nat.le_refl _) _
  have hbox := heap_new w (.cells #[.int .i8 h.kind, .string h.name, .string h.arg, .int .i64 h.num, .int .i8 h.tk, .slice p.TA p.tn p.tc, .int .i8 h.uk, .slice p.UA p.un p.uc, .int .i64 h.label, .int .i64 h.pos, .slice p.A p.n p.c] 28)
  generalize hw1 : w.alloc (.cells #[.int .i8 h.kind, .string h.name, .string h.arg, .int .i64 h.num, .int .i8 h.tk, .slice p.TA p.tn p.tc, .int .i8 h.uk, .slice p.UA p.un p.uc, .int .i64 h.label, .int .i64 h.pos, .slice p.A p.n p.c] 28) = w1 at *
  have HW := Lib.hid hw1
  have HB := Lib.hid hB0
  have HX := Lib.hid hbox
  have D0 := Lib.hid (fun (W : World) (hb : Below w1.heap.size w1 W) => K0.says W (HB.out.trans (hb.mono HB.out.size)))
  have z0 := K0.size
  obtain ⟨c0_0, c0_1, c0_2, c0_3, c0_4, c0_5, c0_6, c0_7, c0_8, c0_9, c0_10⟩ := Tm.row (fun j v hj => by rw [(bcell HB.out).1 _ _ (Ty.cell_lt (K0.cells j v hj))]; exact K0.cells j v hj)
  have D1 := Lib.hid (fun (W : World) (hb : Below w1.heap.size w1 W) => K1.says W (HB.out.trans (hb.mono HB.out.size)))
  have z1 := K1.size
  obtain ⟨c1_0, c1_1, c1_2, c1_3, c1_4, c1_5, c1_6, c1_7, c1_8, c1_9, c1_10⟩ := Tm.row (fun j v hj => by rw [(bcell HB.out).1 _ _ (Ty.cell_lt (K1.cells j v hj))]; exact K1.cells j v hj)
  obtain ⟨q0, q1, q2, q3, q4, q5, q6, q7, q8, q9, q10, ql⟩ := own11 HX.out
  clear hB0 hbox hw1 K0 K1
  generalize h.kind = x1 at *
  generalize p.A = x2 at *
  generalize p.n = x3 at *
  subst hk hA hn
  go_enter Tryz.func27, Tryz.ntmps27
  go_wp2_with fail
  rw [HW.out]
  go_wp2_with fail
  have Xq10 := later_cell q10
  have Xc0_0 := later_cell c0_0
  have Xc0_1 := later_cell c0_1
  have Xc0_2 := later_cell c0_2
  have Xc0_3 := later_cell c0_3
  have Xc0_4 := later_cell c0_4
  have Xc0_5 := later_cell c0_5
  have Xc0_6 := later_cell c0_6
  have Xc0_7 := later_cell c0_7
  have Xc0_8 := later_cell c0_8
  have Xc0_9 := later_cell c0_9
  have Xc0_10 := later_cell c0_10
  have Xc1_0 := later_cell c1_0
  have Xc1_1 := later_cell c1_1
  have Xc1_2 := later_cell c1_2
  have Xc1_3 := later_cell c1_3
  have Xc1_4 := later_cell c1_4
  have Xc1_5 := later_cell c1_5
  have Xc1_6 := later_cell c1_6
  have Xc1_7 := later_cell c1_7
  have Xc1_8 := later_cell c1_8
  have Xc1_9 := later_cell c1_9
  have Xc1_10 := later_cell c1_10
  clear q0 q1 q2 q3 q4 q5 q6 q7 q8 q9 q10 ql c0_0 c0_1 c0_2 c0_3 c0_4 c0_5 c0_6 c0_7 c0_8 c0_9 c0_10 c1_0 c1_1 c1_2 c1_3 c1_4 c1_5 c1_6 c1_7 c1_8 c1_9 c1_10
  refine wp_region_low (by kernel_rfl) (by kernel_rfl) ?_
  repeat
    first
      | go_big_quiet_skip
      | (go_big_quiet_want
         go_big_quiet_op
         first
           | go_big_quiet_on
           | (refine ⟨_, fun _ => rfl, ?_⟩
              go_big_quiet_on)
           | (apply Exists.intro
              refine ⟨fun h => ?_, ?_⟩
              · first
                  | (go_at_call 16; with_reducible exact call_low h (D0.out h.u h.low))
                  | (go_at_call 16; with_reducible exact call_low h (D1.out h.u h.low))
              go_big_quiet_on))
  refine wpQuiet_nil ?_
  rintro _ ⟨⟨v1, E⟩, rfl⟩
  have hB2 := HB.out.trans (E.mono HB.out.size)
  clear E Xq10 Xc0_0 Xc0_1 Xc0_2 Xc0_3 Xc0_4 Xc0_5 Xc0_6 Xc0_7 Xc0_8 Xc0_9 Xc0_10 Xc1_0 Xc1_1 Xc1_2 Xc1_3 Xc1_4 Xc1_5 Xc1_6 Xc1_7 Xc1_8 Xc1_9 Xc1_10
  go_wp2_with fail
  go_ret
  exact ⟨rfl, hB2⟩

set_option maxHeartbeats 4000000 in
set_option maxRecDepth 100000 in
theorem rw_12 (w : World) (h : Hd) (p : Pl) (bb oo : Nat) (hk : h.kind = 12) (hA : p.A = some ⟨bb, oo, none⟩) (hn : p.n = 1) (h0 : Hd) (p0 : Pl) (S0 : ByteArray) (T : ByteArray) (K0 : RKid w bb oo h0 p0 4 S0) (TY : RTy w h.tk p.TA p.tn p.tc T) :
    Calls Tryz.prog 27 #[.agg #[.int .i8 h.kind, .string h.name, .string h.arg, .int .i64 h.num, .int .i8 h.tk, .slice p.TA p.tn p.tc, .int .i8 h.uk, .slice p.UA p.un p.uc, .int .i64 h.label, .int .i64 h.pos, .slice p.A p.n p.c]] w fun e w' => e = .returned (.string (⟨#[105, 110, 108, 32, 123, 32]⟩ ++ T ++ ⟨#[32, 125, 32]⟩ ++ S0)) ∧ Below w.heap.size w w' := by
  have hB0 : Below w.heap.size w (w.alloc (.cells #[.int .i8 h.kind, .string h.name, .string h.arg, .int .i64 h.num, .int .i8 h.tk, .slice p.TA p.tn p.tc, .int .i8 h.uk, .slice p.UA p.un p.uc, .int .i64 h.label, .int .i64 h.pos, .slice p.A p.n p.c] 28)) := (Below.refl _ _).alloc (Nat.le_refl _) _
  have hbox := heap_new w (.cells #[.int .i8 h.kind, .string h.name, .string h.arg, .int .i64 h.num, .int .i8 h.tk, .slice p.TA p.tn p.tc, .int .i8 h.uk, .slice p.UA p.un p.uc, .int .i64 h.label, .int .i64 h.pos, .slice p.A p.n p.c] 28)
  generalize hw1 : w.alloc (.cells #[.int .i8 h.kind, .string h.name, .string h.arg, .int .i64 h.num, .int .i8 h.tk, .slice p.TA p.tn p.tc, .int .i8 h.uk, .slice p.UA p.un p.uc, .int .i64 h.label, .int .i64 h.pos, .slice p.A p.n p.c] 28) = w1 at *
  have HW := Lib.hid hw1
  have HB := Lib.hid hB0
  have HX := Lib.hid hbox
  have D0 := Lib.hid (fun (W : World) (hb : Below w1.heap.size w1 W) => K0.says W (HB.out.trans (hb.mono HB.out.size)))
  have z0 := K0.size
  obtain ⟨c0_0, c0_1, c0_2, c0_3, c0_4, c0_5, c0_6, c0_7, c0_8, c0_9, c0_10⟩ := Tm.row (fun j v hj => by rw [(bcell HB.out).1 _ _ (Ty.cell_lt (K0.cells j v hj))]; exact K0.cells j v hj)
  have DT := Lib.hid (fun (W : World) (hb : Below w1.heap.size w1 W) => TY.says W (HB.out.trans (hb.mono HB.out.size)))
  have zt := TY.size
  obtain ⟨q0, q1, q2, q3, q4, q5, q6, q7, q8, q9, q10, ql⟩ := own11 HX.out
  clear hB0 hbox hw1 K0 TY
  generalize h.kind = x1 at *
  generalize p.A = x2 at *
  generalize p.n = x3 at *
  subst hk hA hn
  go_enter Tryz.func27, Tryz.ntmps27
  go_wp2_with fail
  rw [HW.out]
  go_wp2_with fail
  have Xq4 := later_cell q4
  have Xq5 := later_cell q5
  have Xq10 := later_cell q10
  have Xc0_0 := later_cell c0_0
  have Xc0_1 := later_cell c0_1
  have Xc0_2 := later_cell c0_2
  have Xc0_3 := later_cell c0_3
  have Xc0_4 := later_cell c0_4
  have Xc0_5 := later_cell c0_5
  have Xc0_6 := later_cell c0_6
  have Xc0_7 := later_cell c0_7
  have Xc0_8 := later_cell c0_8
  have Xc0_9 := later_cell c0_9
  have Xc0_10 := later_cell c0_10
  clear q0 q1 q2 q3 q4 q5 q6 q7 q8 q9 q10 ql c0_0 c0_1 c0_2 c0_3 c0_4 c0_5 c0_6 c0_7 c0_8 c0_9 c0_10
  refine wp_region_low (by kernel_rfl) (by kernel_rfl) ?_
  repeat
    first
      | go_big_quiet_skip
      | (go_big_quiet_want
         go_big_quiet_op
         first
           | go_big_quiet_on
           | (refine ⟨_, fun _ => rfl, ?_⟩
              go_big_quiet_on)
           | (apply Exists.intro
              refine ⟨fun h => ?_, ?_⟩
              · first
                  | (go_at_call 16; with_reducible exact call_low h (D0.out h.u h.low))
                  | (go_at_call 54; with_reducible exact call_low h (DT.out h.u h.low))
              go_big_quiet_on))
  refine wpQuiet_nil ?_
  rintro _ ⟨⟨v1, E⟩, rfl⟩
  have hB2 := HB.out.trans (E.mono HB.out.size)
  clear E Xq4 Xq5 Xq10 Xc0_0 Xc0_1 Xc0_2 Xc0_3 Xc0_4 Xc0_5 Xc0_6 Xc0_7 Xc0_8 Xc0_9 Xc0_10
  go_wp2_with fail
  go_ret
  exact ⟨rfl, hB2⟩

set_option maxHeartbeats 4000000 in
set_option maxRecDepth 100000 in
theorem rw_13 (w : World) (h : Hd) (p : Pl) (bb oo : Nat) (hk : h.kind = 13) (hA : p.A = some ⟨bb, oo, none⟩) (hn : p.n = 1) (h0 : Hd) (p0 : Pl) (S0 : ByteArray) (T : ByteArray) (K0 : RKid w bb oo h0 p0 4 S0) (TY : RTy w h.tk p.TA p.tn p.tc T) :
    Calls Tryz.prog 27 #[.agg #[.int .i8 h.kind, .string h.name, .string h.arg, .int .i64 h.num, .int .i8 h.tk, .slice p.TA p.tn p.tc, .int .i8 h.uk, .slice p.UA p.un p.uc, .int .i64 h.label, .int .i64 h.pos, .slice p.A p.n p.c]] w fun e w' => e = .returned (.string (⟨#[105, 110, 114, 32, 123, 32]⟩ ++ T ++ ⟨#[32, 125, 32]⟩ ++ S0)) ∧ Below w.heap.size w w' := by
  have hB0 : Below w.heap.size w (w.alloc (.cells #[.int .i8 h.kind, .string h.name, .string h.arg, .int .i64 h.num, .int .i8 h.tk, .slice p.TA p.tn p.tc, .int .i8 h.uk, .slice p.UA p.un p.uc, .int .i64 h.label, .int .i64 h.pos, .slice p.A p.n p.c] 28)) := (Below.refl _ _).alloc (Nat.le_refl _) _
  have hbox := heap_new w (.cells #[.int .i8 h.kind, .string h.name, .string h.arg, .int .i64 h.num, .int .i8 h.tk, .slice p.TA p.tn p.tc, .int .i8 h.uk, .slice p.UA p.un p.uc, .int .i64 h.label, .int .i64 h.pos, .slice p.A p.n p.c] 28)
  generalize hw1 : w.alloc (.cells #[.int .i8 h.kind, .string h.name, .string h.arg, .int .i64 h.num, .int .i8 h.tk, .slice p.TA p.tn p.tc, .int .i8 h.uk, .slice p.UA p.un p.uc, .int .i64 h.label, .int .i64 h.pos, .slice p.A p.n p.c] 28) = w1 at *
  have HW := Lib.hid hw1
  have HB := Lib.hid hB0
  have HX := Lib.hid hbox
  have D0 := Lib.hid (fun (W : World) (hb : Below w1.heap.size w1 W) => K0.says W (HB.out.trans (hb.mono HB.out.size)))
  have z0 := K0.size
  obtain ⟨c0_0, c0_1, c0_2, c0_3, c0_4, c0_5, c0_6, c0_7, c0_8, c0_9, c0_10⟩ := Tm.row (fun j v hj => by rw [(bcell HB.out).1 _ _ (Ty.cell_lt (K0.cells j v hj))]; exact K0.cells j v hj)
  have DT := Lib.hid (fun (W : World) (hb : Below w1.heap.size w1 W) => TY.says W (HB.out.trans (hb.mono HB.out.size)))
  have zt := TY.size
  obtain ⟨q0, q1, q2, q3, q4, q5, q6, q7, q8, q9, q10, ql⟩ := own11 HX.out
  clear hB0 hbox hw1 K0 TY
  generalize h.kind = x1 at *
  generalize p.A = x2 at *
  generalize p.n = x3 at *
  subst hk hA hn
  go_enter Tryz.func27, Tryz.ntmps27
  go_wp2_with fail
  rw [HW.out]
  go_wp2_with fail
  have Xq4 := later_cell q4
  have Xq5 := later_cell q5
  have Xq10 := later_cell q10
  have Xc0_0 := later_cell c0_0
  have Xc0_1 := later_cell c0_1
  have Xc0_2 := later_cell c0_2
  have Xc0_3 := later_cell c0_3
  have Xc0_4 := later_cell c0_4
  have Xc0_5 := later_cell c0_5
  have Xc0_6 := later_cell c0_6
  have Xc0_7 := later_cell c0_7
  have Xc0_8 := later_cell c0_8
  have Xc0_9 := later_cell c0_9
  have Xc0_10 := later_cell c0_10
  clear q0 q1 q2 q3 q4 q5 q6 q7 q8 q9 q10 ql c0_0 c0_1 c0_2 c0_3 c0_4 c0_5 c0_6 c0_7 c0_8 c0_9 c0_10
  refine wp_region_low (by kernel_rfl) (by kernel_rfl) ?_
  repeat
    first
      | go_big_quiet_skip
      | (go_big_quiet_want
         go_big_quiet_op
         first
           | go_big_quiet_on
           | (refine ⟨_, fun _ => rfl, ?_⟩
              go_big_quiet_on)
           | (apply Exists.intro
              refine ⟨fun h => ?_, ?_⟩
              · first
                  | (go_at_call 16; with_reducible exact call_low h (D0.out h.u h.low))
                  | (go_at_call 54; with_reducible exact call_low h (DT.out h.u h.low))
              go_big_quiet_on))
  refine wpQuiet_nil ?_
  rintro _ ⟨⟨v1, E⟩, rfl⟩
  have hB2 := HB.out.trans (E.mono HB.out.size)
  clear E Xq4 Xq5 Xq10 Xc0_0 Xc0_1 Xc0_2 Xc0_3 Xc0_4 Xc0_5 Xc0_6 Xc0_7 Xc0_8 Xc0_9 Xc0_10
  go_wp2_with fail
  go_ret
  exact ⟨rfl, hB2⟩
end Go.Proofs.YtdeomggkhbdkaaaGreatDoor
