/-
  The document's words, kinds 5, 7. The document's words, kinds 8, 14.
-/
import Derived.Test.YtdeomggkhbdkaaaGreatDoorM19
namespace Go.Proofs.YtdeomggkhbdkaaaGreatDoor
open Go.RowKit

set_option maxHeartbeats 4000000 in
set_option maxRecDepth 100000 in
theorem rw_5 (w : World) (h : Hd) (p : Pl) (bb oo : Nat) (hk : h.kind = 5) (hA : p.A = some ⟨bb, oo, none⟩) (hn : p.n = 1) (h0 : Hd) (p0 : Pl) (S0 : ByteArray) (T : ByteArray) (U : ByteArray) (K0 : RKid w bb oo h0 p0 (-1) S0) (TY : RTy w h.tk p.TA p.tn p.tc T) (TO : RTy w h.uk p.UA p.un p.uc U) (hnm : h.name.size ≤ 100000000) (har : h.arg.size ≤ 100000000) :
    Calls Tryz.prog 27 #[.agg #[.int .i8 h.kind, .string h.name, .string h.arg, .int .i64 h.num, .int .i8 h.tk, .slice p.TA p.tn p.tc, .int .i8 h.uk, .slice p.UA p.un p.uc, .int .i64 h.label, .int .i64 h.pos, .slice p.A p.n p.c]] w fun e w' => e = .returned (.string (⟨#[114, 101, 99, 32]⟩ ++ h.name ++ ⟨#[32, 40, 32]⟩ ++ h.arg ++ ⟨#[32, 58, 32]⟩ ++ T ++ ⟨#[32, 41, 32, 58, 32]⟩ ++ U ++ ⟨#[32, 46, 32]⟩ ++ S0)) ∧ Below w.heap.size w w' := by
  have hB0 : Below w.heap.size w (w.alloc (.cells #[.int .i8 h.kind, .string h.name, .string h.arg, .int .i64 h.num, .int .i8 h.tk, .slice p.TA p.tn p.tc, .int .i8 h.uk, .slice p.UA p.un p.uc, .int .i64 h.label, .int .i64 h.pos, .slice p.A p.n p.c] 28)) := (Below.refl _ _).alloc (Nat.le_refl _) _
  have hbox := heap_new w (.cells #[.int .i8 h.kind, .string h.name, .string h.arg, .int .i64 h.num, .int .i8 h.tk, .slice p.TA p.tn p.tc, .int .i8 h.uk, .slice p.UA p.un p.uc, .int .i64 h.label, .int .i64 h.pos, .slice p.A p.n p.c] 28)
  generalize hw1 : w.alloc (.cells #[.int .i8 h.kind, .string h.name, .string h.arg, .int .i64 h.num, .int .i8 h.tk, .slice p.TA p.tn p.tc, .int .i8 h.uk, .slice p.UA p.un p.uc, .int .i64 h.label, .int .i64 h.pos, .slice p.A p.n p.c] 28) = w1 at *
  have HW := Lib.hid hw1
  have HB := Lib.hid hB0
  have HX := Lib.hid hbox
  have D0 := Lib.hid (fun (W : World) (hb : Below w1.heap.size w1 W) => K0.says W (HB.out.trans (hb.mono HB.out.size)))
  have z0 := K0.size
  obtain ⟨c0_0, c0_1, c0_2, c0_3, c0_4, c0_5, c0_6, c0_7, c0_8, c0_9, c0_10⟩ := Tm.row (fun j v hj => by rw [(bcell HB.out).1 _ _ (Ty.cell_lt (K0.cells j v hj))]; exact K0.cells j v hj)
  have DT := Lib.hid (fun (W : World) (hb : Below w1.heap.size w1 W) => TY.says W (HB.out.trans (hb.mono HB.out.size)))
  have zt := TY.size
  have DU := Lib.hid (fun (W : World) (hb : Below w1.heap.size w1 W) => TO.says W (HB.out.trans (hb.mono HB.out.size)))
  have zu := TO.size
  obtain ⟨q0, q1, q2, q3, q4, q5, q6, q7, q8, q9, q10, ql⟩ := own11 HX.out
  clear hB0 hbox hw1 K0 TY TO
  generalize h.kind = x1 at *
  generalize p.A = x2 at *
  generalize p.n = x3 at *
  subst hk hA hn
  go_enter Tryz.func27, Tryz.ntmps27
  go_wp2_with fail
  rw [HW.out]
  go_wp2_with fail
  have Xq1 := later_cell q1
  have Xq2 := later_cell q2
  have Xq4 := later_cell q4
  have Xq5 := later_cell q5
  have Xq6 := later_cell q6
  have Xq7 := later_cell q7
  have Xq10 := later_cell q10
  have Xc0_0 := later_cell c0_0
  have Xc0_1 := later_cell c0_1
  have Xc0_2 := later_cell c0_2
  have Xc0_3 := later_cell c0_3
  have Xc0_4 := later_cell c0_4
  have Xc0_5 := later_cell c0_5
  have Xc0_6 := later_cell c0_6
  have Xc0_7 := later_cell c0_7
  have Xc0_8 := later_cell c0_8
  have Xc0_9 := later_cell c0_9
  have Xc0_10 := later_cell c0_10
  clear q0 q1 q2 q3 q4 q5 q6 q7 q8 q9 q10 ql c0_0 c0_1 c0_2 c0_3 c0_4 c0_5 c0_6 c0_7 c0_8 c0_9 c0_10
  refine wp_region_low (by kernel_rfl) (by kernel_rfl) ?_
  repeat
    first
      | go_big_quiet_skip
      | (go_big_quiet_want
         go_big_quiet_op
         first
           | go_big_quiet_on
           | (refine ⟨_, fun _ => rfl, ?_⟩
              go_big_quiet_on)
           | (apply Exists.intro
              refine ⟨fun h => ?_, ?_⟩
              · first
                  | (go_at_call 16; with_reducible exact call_low h (D0.out h.u h.low))
                  | (go_at_call 54; with_reducible exact call_low h (DT.out h.u h.low))
                  | (go_at_call 54; with_reducible exact call_low h (DU.out h.u h.low))
              go_big_quiet_on))
  refine wpQuiet_nil ?_
  rintro _ ⟨⟨v1, E⟩, rfl⟩
  have hB2 := HB.out.trans (E.mono HB.out.size)
  clear E Xq1 Xq2 Xq4 Xq5 Xq6 Xq7 Xq10 Xc0_0 Xc0_1 Xc0_2 Xc0_3 Xc0_4 Xc0_5 Xc0_6 Xc0_7 Xc0_8 Xc0_9 Xc0_10
  go_wp2_with fail
  go_ret
  exact ⟨rfl, hB2⟩

set_option maxHeartbeats 4000000 in
set_option maxRecDepth 100000 in
theorem rw_7 (w : World) (h : Hd) (p : Pl) (bb oo : Nat) (hk : h.kind = 7) (hA : p.A = some ⟨bb, oo, none⟩) (hn : p.n = 2) (h0 : Hd) (p0 : Pl) (S0 : ByteArray) (h1 : Hd) (p1 : Pl) (S1 : ByteArray) (T : ByteArray) (K0 : RKid w bb oo h0 p0 (-1) S0) (K1 : RKid w bb (oo + 11) h1 p1 (-1) S1) (TY : RTy w h.tk p.TA p.tn p.tc T) (hnm : h.name.size ≤ 100000000) :
    Calls Tryz.prog 27 #[.agg #[.int .i8 h.kind, .string h.name, .string h.arg, .int .i64 h.num, .int .i8 h.tk, .slice p.TA p.tn p.tc, .int .i8 h.uk, .slice p.UA p.un p.uc, .int .i64 h.label, .int .i64 h.pos, .slice p.A p.n p.c]] w fun e w' => e = .returned (.string (⟨#[108, 101, 116, 32]⟩ ++ h.name ++ ⟨#[32, 58, 32]⟩ ++ T ++ ⟨#[32, 61, 32]⟩ ++ S0 ++ ⟨#[32, 105, 110, 32]⟩ ++ S1)) ∧ Below w.heap.size w w' := by
  have hB0 : Below w.heap.size w (w.alloc (.cells #[.int .i8 h.kind, .string h.name, .string h.arg, .int .i64 h.num, .int .i8 h.tk, .slice p.TA p.tn p.tc, .int .i8 h.uk, .slice p.UA p.un p.uc, .int .i64 h.label, .int .i64 h.pos, .slice p.A p.n p.c] 28)) := (Below.refl _ _).alloc (Nat.le_refl _) _
  have hbox := heap_new w (.cells #[.int .i8 h.kind, .string h.name, .string h.arg, .int .i64 h.num, .int .i8 h.tk, .slice p.TA p.tn p.tc, .int .i8 h.uk, .slice p.UA p.un p.uc, .int .i64 h.label, .int .i64 h.pos, .slice p.A p.n p.c] 28)
  generalize hw1 : w.alloc (.cells #[.int .i8 h.kind, .string h.name, .string h.arg, .int .i64 h.num, .int .i8 h.tk, .slice p.TA p.tn p.tc, .int .i8 h.uk, .slice p.UA p.un p.uc, .int .i64 h.label, .int .i64 h.pos, .slice p.A p.n p.c] 28) = w1 at *
  have HW := Lib.hid hw1
  have HB := Lib.hid hB0
  have HX := Lib.hid hbox
  have D0 := Lib.hid (fun (W : World) (hb : Below w1.heap.size w1 W) => K0.says W (HB.out.trans (hb.mono HB.out.size)))
  have z0 := K0.size
  obtain ⟨c0_0, c0_1, c0_2, c0_3, c0_4, c0_5, c0_6, c0_7, c0_8, c0_9, c0_10⟩ := Tm.row (fun j v hj => by rw [(bcell HB.out).1 _ _ (Ty.cell_lt (K0.cells j v hj))]; exact K0.cells j v hj)
  have D1 := Lib.hid (fun (W : World) (hb : Below w1.heap.size w1 W) => K1.says W (HB.out.trans (hb.mono HB.out.size)))
  have z1 := K1.size
  obtain ⟨c1_0, c1_1, c1_2, c1_3, c1_4, c1_5, c1_6, c1_7, c1_8, c1_9, c1_10⟩ := Tm.row (fun j v hj => by rw [(bcell HB.out).1 _ _ (Ty.cell_lt (K1.cells j v hj))]; exact K1.cells j v hj)
  have DT := Lib.hid (fun (W : World) (hb : Below w1.heap.size w1 W) => TY.says W (HB.out.trans (hb.mono HB.out.size)))
  have zt := TY.size
  obtain ⟨q0, q1, q2, q3, q4, q5, q6, q7, q8, q9, q10, ql⟩ := own11 HX.out
  clear hB0 hbox hw1 K0 K1 TY
  generalize h.kind = x1 at *
  generalize p.A = x2 at *
  generalize p.n = x3 at *
  subst hk hA hn
  go_enter Tryz.func27, Tryz.ntmps27
  go_wp2_with fail
  rw [HW.out]
  go_wp2_with fail
  have Xq1 := later_cell q1
  have Xq4 := later_cell q4
  have Xq5 := later_cell q5
  have Xq10 := later_cell q10
  have Xc0_0 := later_cell c0_0
  have Xc0_1 := later_cell c0_1
  have Xc0_2 := later_cell c0_2
  have Xc0_3 := later_cell c0_3
  have Xc0_4 := later_cell c0_4
  have Xc0_5 := later_cell c0_5
  have Xc0_6 := later_cell c0_6
  have Xc0_7 := later_cell c0_7
  have Xc0_8 := later_cell c0_8
  have Xc0_9 := later_cell c0_9
  have Xc0_10 := later_cell c0_10
  have Xc1_0 := later_cell c1_0
  have Xc1_1 := later_cell c1_1
  have Xc1_2 := later_cell c1_2
  have Xc1_3 := later_cell c1_3
  have Xc1_4 := later_cell c1_4
  have Xc1_5 := later_cell c1_5
  have Xc1_6 := later_cell c1_6
  have Xc1_7 := later_cell c1_7
  have Xc1_8 := later_cell c1_8
  have Xc1_9 := later_cell c1_9
  have Xc1_10 := later_cell c1_10
  clear q0 q1 q2 q3 q4 q5 q6 q7 q8 q9 q10 ql c0_0 c0_1 c0_2 c0_3 c0_4 c0_5 c0_6 c0_7 c0_8 c0_9 c0_10 c1_0 c1_1 c1_2 c1_3 c1_4 c1_5 c1_6 c1_7 c1_8 c1_9 c1_10
  refine wp_region_low (by kernel_rfl) (by kernel_rfl) ?_
  repeat
    first
      | go_big_quiet_skip
      | (go_big_quiet_want
         go_big_quiet_op
         first
           | go_big_quiet_on
           | (refine ⟨_, fun _ => rfl, ?_⟩
              go_big_quiet_on)
           | (apply Exists.intro
              refine ⟨fun h => ?_, ?_⟩
              · first
                  | (go_at_call 16; with_reducible exact call_low h (D0.out h.u h.low))
                  | (go_at_call 16; with_reducible exact call_low h (D1.out h.u h.low))
                  | (go_at_call 54; with_reducible exact call_low h (DT.out h.u h.low))
              go_big_quiet_on))
  refine wpQuiet_nil ?_
  rintro _ ⟨⟨v1, E⟩, rfl⟩
  have hB2 := HB.out.trans (E.mono HB.out.size)
  clear E Xq1 Xq4 Xq5 Xq10 Xc0_0 Xc0_1 Xc0_2 Xc0_3 Xc0_4 Xc0_5 Xc0_6 Xc0_7 Xc0_8 Xc0_9 Xc0_10 Xc1_0 Xc1_1 Xc1_2 Xc1_3 Xc1_4 Xc1_5 Xc1_6 Xc1_7 Xc1_8 Xc1_9 Xc1_10
  go_wp2_with fail
  go_ret
  exact ⟨rfl, hB2⟩
end Go.Proofs.YtdeomggkhbdkaaaGreatDoor
namespace Go.Proofs.YtdeomggkhbdkaaaGreatDoor
open Go.RowKit

set_option maxHeartbeats 4000000 in
set_option maxRecDepth 100000 in
theorem rw_8 (w : World) (h : Hd) (p : Pl) (bb oo : Nat) (hk : h.kind = 8) (hA : p.A = some ⟨bb, oo, none⟩) (hn : p.n = 3) (h0 : Hd) (p0 : Pl) (S0 : ByteArray) (h1 : Hd) (p1 : Pl) (S1 : ByteArray) (h2 : Hd) (p2 : Pl) (S2 : ByteArray) (K0 : RKid w bb oo h0 p0 (-1) S0) (K1 : RKid w bb (oo + 11) h1 p1 (-1) S1) (K2 : RKid w bb (oo + 22) h2 p2 (-1) S2) :
    Calls Tryz.prog 27 #[.agg #[.int .i8 h.kind, .string h.name, .string h.arg, .int .i64 h.num, .int .i8 h.tk, .slice p.TA p.tn p.tc, .int .i8 h.uk, .slice p.UA p.un p.uc, .int .i64 h.label, .int .i64 h.pos, .slice p.A p.n p.c]] w fun e w' => e = .returned (.string (⟨#[105, 102, 32]⟩ ++ S0 ++ ⟨#[32, 116, 104, 101, 110, 32]⟩ ++ S1 ++ ⟨#[32, 101, 108, 115, 101, 32]⟩ ++ S2)) ∧ Below w.heap.size w w' := by
  have hB0 : Below w.heap.size w (w.alloc (.cells #[.int .i8 h.kind, .string h.name, .string h.arg, .int .i64 h.num, .int .i8 h.tk, .slice p.TA p.tn p.tc, .int .i8 h.uk, .slice p.UA p.un p.uc, .int .i64 h.label, .int .i64 h.pos, .slice p.A p.n p.c] 28)) := (Below.refl _ _).alloc (Nat.le_refl _) _
  have hbox := heap_new w (.cells #[.int .i8 h.kind, .string h.name, .string h.arg, .int .i64 h.num, .int .i8 h.tk, .slice p.TA p.tn p.tc, .int .i8 h.uk, .slice p.UA p.un p.uc, .int .i64 h.label, .int .i64 h.pos, .slice p.A p.n p.c] 28)
  generalize hw1 : w.alloc (.cells #[.int .i8 h.kind, .string h.name, .string h.arg, .int .i64 h.num, .int .i8 h.tk, .slice p.TA p.tn p.tc, .int .i8 h.uk, .slice p.UA p.un p.uc, .int .i64 h.label, .int .i64 h.pos, .slice p.A p.n p.c] 28) = w1 at *
  have HW := Lib.hid hw1
  have HB := Lib.hid hB0
  have HX := Lib.hid hbox
  have D0 := Lib.hid (fun (W : World) (hb : Below w1.heap.size w1 W) => K0.says W (HB.out.trans (hb.mono HB.out.size)))
  have z0 := K0.size
  obtain ⟨c0_0, c0_1, c0_2, c0_3, c0_4, c0_5, c0_6, c0_7, c0_8, c0_9, c0_10⟩ := Tm.row (fun j v hj => by rw [(bcell HB.out).1 _ _ (Ty.cell_lt (K0.cells j v hj))]; exact K0.cells j v hj)
  have D1 := Lib.hid (fun (W : World) (hb : Below w1.heap.size w1 W) => K1.says W (HB.out.trans (hb.mono HB.out.size)))
  have z1 := K1.size
  obtain ⟨c1_0, c1_1, c1_2, c1_3, c1_4, c1_5, c1_6, c1_7, c1_8, c1_9, c1_10⟩ := Tm.row (fun j v hj => by rw [(bcell HB.out).1 _ _ (Ty.cell_lt (K1.cells j v hj))]; exact K1.cells j v hj)
  have D2 := Lib.hid (fun (W : World) (hb : Below w1.heap.size w1 W) => K2.says W (HB.out.trans (hb.mono HB.out.size)))
  have z2 := K2.size
  obtain ⟨c2_0, c2_1, c2_2, c2_3, c2_4, c2_5, c2_6, c2_7, c2_8, c2_9, c2_10⟩ := Tm.row (fun j v hj => by rw [(bcell HB.out).1 _ _ (Ty.cell_lt (K2.cells j v hj))]; exact K2.cells j v hj)
  obtain ⟨q0, q1, q2, q3, q4, q5, q6, q7, q8, q9, q10, ql⟩ := own11 HX.out
  clear hB0 hbox hw1 K0 K1 K2
  generalize h.kind = x1 at *
  generalize p.A = x2 at *
  generalize p.n = x3 at *
  subst hk hA hn
  go_enter Tryz.func27, Tryz.ntmps27
  go_wp2_with fail
  rw [HW.out]
  go_wp2_with fail
  have Xq10 := later_cell q10
  have Xc0_0 := later_cell c0_0
  have Xc0_1 := later_cell c0_1
  have Xc0_2 := later_cell c0_2
  have Xc0_3 := later_cell c0_3
  have Xc0_4 := later_cell c0_4
  have Xc0_5 := later_cell c0_5
  have Xc0_6 := later_cell c0_6
  have Xc0_7 := later_cell c0_7
  have Xc0_8 := later_cell c0_8
  have Xc0_9 := later_cell c0_9
  have Xc0_10 := later_cell c0_10
  have Xc1_0 := later_cell c1_0
  have Xc1_1 := later_cell c1_1
  have Xc1_2 := later_cell c1_2
  have Xc1_3 := later_cell c1_3
  have Xc1_4 := later_cell c1_4
  have Xc1_5 := later_cell c1_5
  have Xc1_6 := later_cell c1_6
  have Xc1_7 := later_cell c1_7
  have Xc1_8 := later_cell c1_8
  have Xc1_9 := later_cell c1_9
  have Xc1_10 := later_cell c1_10
  have Xc2_0 := later_cell c2_0
  have Xc2_1 := later_cell c2_1
  have Xc2_2 := later_cell c2_2
  have Xc2_3 := later_cell c2_3
  have Xc2_4 := later_cell c2_4
  have Xc2_5 := later_cell c2_5
  have Xc2_6 := later_cell c2_6
  have Xc2_7 := later_cell c2_7
  have Xc2_8 := later_cell c2_8
  have Xc2_9 := later_cell c2_9
  have Xc2_10 := later_cell c2_10
  clear q0 q1 q2 q3 q4 q5 q6 q7 q8 q9 q10 ql c0_0 c0_1 c0_2 c0_3 c0_4 c0_5 c0_6 c0_7 c0_8 c0_9 c0_10 c1_0 c1_1 c1_2 c1_3 c1_4 c1_5 c1_6 c1_7 c1_8 c1_9 c1_10 c2_0 c2_1 c2_2 c2_3 c2_4 c2_5 c2_6 c2_7 c2_8 c2_9 c2_10
  refine wp_region_low (by kernel_rfl) (by kernel_rfl) ?_
  repeat
    first
      | go_big_quiet_skip
      | (go_big_quiet_want
         go_big_quiet_op
         first
           | go_big_quiet_on
           | (refine ⟨_, fun _ => rfl, ?_⟩
              go_big_quiet_on)
           | (apply Exists.intro
              refine ⟨fun h => ?_, ?_⟩
              · first
                  | (go_at_call 16; with_reducible exact call_low h (D0.out h.u h.low))
                  | (go_at_call 16; with_reducible exact call_low h (D1.out h.u h.low))
                  | (go_at_call 16; with_reducible exact call_low h (D2.out h.u h.low))
              go_big_quiet_on))
  refine wpQuiet_nil ?_
  rintro _ ⟨⟨v1, E⟩, rfl⟩
  have hB2 := HB.out.trans (E.mono HB.out.size)
  clear E Xq10 Xc0_0 Xc0_1 Xc0_2 Xc0_3 Xc0_4 Xc0_5 Xc0_6 Xc0_7 Xc0_8 Xc0_9 Xc0_10 Xc1_0 Xc1_1 Xc1_2 Xc1_3 Xc1_4 Xc1_5 Xc1_6 Xc1_7 Xc1_8 Xc1_9 Xc1_10 Xc2_0 Xc2_1 Xc2_2 Xc2_3 Xc2_4 Xc2_5 Xc2_6 Xc2_7 Xc2_8 Xc2_9 Xc2_10
  go_wp2_with fail
  go_ret
  exact ⟨rfl, hB2⟩

set_option maxHeartbeats 4000000 in
set_option maxRecDepth 100000 in
theorem rw_14 (w : World) (h : Hd) (p : Pl) (bb oo : Nat) (hk : h.kind = 14) (hA : p.A = some ⟨bb, oo, none⟩) (hn : p.n = 3) (h0 : Hd) (p0 : Pl) (S0 : ByteArray) (h1 : Hd) (p1 : Pl) (S1 : ByteArray) (h2 : Hd) (p2 : Pl) (S2 : ByteArray) (K0 : RKid w bb oo h0 p0 (-1) S0) (K1 : RKid w bb (oo + 11) h1 p1 (-1) S1) (K2 : RKid w bb (oo + 22) h2 p2 (-1) S2) (hnm : h.name.size ≤ 100000000) (har : h.arg.size ≤ 100000000) :
    Calls Tryz.prog 27 #[.agg #[.int .i8 h.kind, .string h.name, .string h.arg, .int .i64 h.num, .int .i8 h.tk, .slice p.TA p.tn p.tc, .int .i8 h.uk, .slice p.UA p.un p.uc, .int .i64 h.label, .int .i64 h.pos, .slice p.A p.n p.c]] w fun e w' => e = .returned (.string (⟨#[99, 97, 115, 101, 32]⟩ ++ S0 ++ ⟨#[32, 111, 102, 32]⟩ ++ h.name ++ ⟨#[32, 46, 32]⟩ ++ S1 ++ ⟨#[32, 124, 32]⟩ ++ h.arg ++ ⟨#[32, 46, 32]⟩ ++ S2)) ∧ Below w.heap.size w w' := by
  have hB0 : Below w.heap.size w (w.alloc (.cells #[.int .i8 h.kind, .string h.name, .string h.arg, .int .i64 h.num, .int .i8 h.tk, .slice p.TA p.tn p.tc, .int .i8 h.uk, .slice p.UA p.un p.uc, .int .i64 h.label, .int .i64 h.pos, .slice p.A p.n p.c] 28)) := (Below.refl _ _).alloc (Nat.le_refl _) _
  have hbox := heap_new w (.cells #[.int .i8 h.kind, .string h.name, .string h.arg, .int .i64 h.num, .int .i8 h.tk, .slice p.TA p.tn p.tc, .int .i8 h.uk, .slice p.UA p.un p.uc, .int .i64 h.label, .int .i64 h.pos, .slice p.A p.n p.c] 28)
  generalize hw1 : w.alloc (.cells #[.int .i8 h.kind, .string h.name, .string h.arg, .int .i64 h.num, .int .i8 h.tk, .slice p.TA p.tn p.tc, .int .i8 h.uk, .slice p.UA p.un p.uc, .int .i64 h.label, .int .i64 h.pos, .slice p.A p.n p.c] 28) = w1 at *
  have HW := Lib.hid hw1
  have HB := Lib.hid hB0
  have HX := Lib.hid hbox
  have D0 := Lib.hid (fun (W : World) (hb : Below w1.heap.size w1 W) => K0.says W (HB.out.trans (hb.mono HB.out.size)))
  have z0 := K0.size
  obtain ⟨c0_0, c0_1, c0_2, c0_3, c0_4, c0_5, c0_6, c0_7, c0_8, c0_9, c0_10⟩ := Tm.row (fun j v hj => by rw [(bcell HB.out).1 _ _ (Ty.cell_lt (K0.cells j v hj))]; exact K0.cells j v hj)
  have D1 := Lib.hid (fun (W : World) (hb : Below w1.heap.size w1 W) => K1.says W (HB.out.trans (hb.mono HB.out.size)))
  have z1 := K1.size
  obtain ⟨c1_0, c1_1, c1_2, c1_3, c1_4, c1_5, c1_6, c1_7, c1_8, c1_9, c1_10⟩ := Tm.row (fun j v hj => by rw [(bcell HB.out).1 _ _ (Ty.cell_lt (K1.cells j v hj))]; exact K1.cells j v hj)
  have D2 := Lib.hid (fun (W : World) (hb : Below w1.heap.size w1 W) => K2.says W (HB.out.trans (hb.mono HB.out.size)))
  have z2 := K2.size
  obtain ⟨c2_0, c2_1, c2_2, c2_3, c2_4, c2_5, c2_6, c2_7, c2_8, c2_9, c2_10⟩ := Tm.row (fun j v hj => by rw [(bcell HB.out).1 _ _ (Ty.cell_lt (K2.cells j v hj))]; exact K2.cells j v hj)
  obtain ⟨q0, q1, q2, q3, q4, q5, q6, q7, q8, q9, q10, ql⟩ := own11 HX.out
  clear hB0 hbox hw1 K0 K1 K2
  generalize h.kind = x1 at *
  generalize p.A = x2 at *
  generalize p.n = x3 at *
  subst hk hA hn
  go_enter Tryz.func27, Tryz.ntmps27
  go_wp2_with fail
  rw [HW.out]
  go_wp2_with fail
  have Xq1 := later_cell q1
  have Xq2 := later_cell q2
  have Xq10 := later_cell q10
  have Xc0_0 := later_cell c0_0
  have Xc0_1 := later_cell c0_1
  have Xc0_2 := later_cell c0_2
  have Xc0_3 := later_cell c0_3
  have Xc0_4 := later_cell c0_4
  have Xc0_5 := later_cell c0_5
  have Xc0_6 := later_cell c0_6
  have Xc0_7 := later_cell c0_7
  have Xc0_8 := later_cell c0_8
  have Xc0_9 := later_cell c0_9
  have Xc0_10 := later_cell c0_10
  have Xc1_0 := later_cell c1_0
  have Xc1_1 := later_cell c1_1
  have Xc1_2 := later_cell c1_2
  have Xc1_3 := later_cell c1_3
  have Xc1_4 := later_cell c1_4
  have Xc1_5 := later_cell c1_5
  have Xc1_6 := later_cell c1_6
  have Xc1_7 := later_cell c1_7
  have Xc1_8 := later_cell c1_8
  have Xc1_9 := later_cell c1_9
  have Xc1_10 := later_cell c1_10
  have Xc2_0 := later_cell c2_0
  have Xc2_1 := later_cell c2_1
  have Xc2_2 := later_cell c2_2
  have Xc2_3 := later_cell c2_3
  have Xc2_4 := later_cell c2_4
  have Xc2_5 := later_cell c2_5
  have Xc2_6 := later_cell c2_6
  have Xc2_7 := later_cell c2_7
  have Xc2_8 := later_cell c2_8
  have Xc2_9 := later_cell c2_9
  have Xc2_10 := later_cell c2_10
  clear q0 q1 q2 q3 q4 q5 q6 q7 q8 q9 q10 ql c0_0 c0_1 c0_2 c0_3 c0_4 c0_5 c0_6 c0_7 c0_8 c0_9 c0_10 c1_0 c1_1 c1_2 c1_3 c1_4 c1_5 c1_6 c1_7 c1_8 c1_9 c1_10 c2_0 c2_1 c2_2 c2_3 c2_4 c2_5 c2_6 c2_7 c2_8 c2_9 c2_10
  refine wp_region_low (by kernel_rfl) (by kernel_rfl) ?_
  repeat
    first
      | go_big_quiet_skip
      | (go_big_quiet_want
         go_big_quiet_op
         first
           | go_big_quiet_on
           | (refine ⟨_, fun _ => rfl, ?_⟩
              go_big_quiet_on)
           | (apply Exists.intro
              refine ⟨fun h => ?_, ?_⟩
              · first
                  | (go_at_call 16; with_reducible exact call_low h (D0.out h.u h.low))
                  | (go_at_call 16; with_reducible exact call_low h (D1.out h.u h.low))
                  | (go_at_call 16; with_reducible exact call_low h (D2.out h.u h.low))
              go_big_quiet_on))
  refine wpQuiet_nil ?_
  rintro _ ⟨⟨v1, E⟩, rfl⟩
  have hB2 := HB.out.trans (E.mono HB.out.size)
  clear E Xq1 Xq2 Xq10 Xc0_0 Xc0_1 Xc0_2 Xc0_3 Xc0_4 Xc0_5 Xc0_6 Xc0_7 Xc0_8 Xc0_9 Xc0_10 Xc1_0 Xc1_1 Xc1_2 Xc1_3 Xc1_4 Xc1_5 Xc1_6 Xc1_7 Xc1_8 Xc1_9 Xc1_10 Xc2_0 Xc2_1 Xc2_2 Xc2_3 Xc2_4 Xc2_5 Xc2_6 Xc2_7 Xc2_8 Xc2_9 Xc2_10
  go_wp2_with fail
  go_ret
  exact ⟨rfl, hB2⟩
end Go.Proofs.YtdeomggkhbdkaaaGreatDoor
