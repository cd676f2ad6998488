/-
  The document's words, kinds 10, 11, 4, 16. The document's words: leaves, operators.
-/
import Derived.Test.YtdeomggkhbdkaaaGreatDoorM17
namespace Go.Proofs.YtdeomggkhbdkaaaGreatDoor
open Go.RowKit

/-- the i-th kid of a term and what the document says it is written like -/
structure RKid (w : World) (bb o : Nat) (h : Hd) (p : Pl) (k : Int) (S : ByteArray) : Prop where
  cells : ∀ j v, (h.cells p)[j]? = some v → w.cell? ⟨bb, o + j, none⟩ = some v
  says : ∀ W, Below w.heap.size w W → Calls Tryz.prog 16 #[.agg #[.int .i8 h.kind, .string h.name, .string h.arg, .int .i64 h.num, .int .i8 h.tk, .slice p.TA p.tn p.tc, .int .i8 h.uk, .slice p.UA p.un p.uc, .int .i64 h.label, .int .i64 h.pos, .slice p.A p.n p.c], .int .i64 k] W fun e w' => e = .returned (.string S) ∧ Below W.heap.size W w'
  size : S.size ≤ 100000000
/-- a type and what the document says it is written like -/
structure RTy (w : World) (k : Int) (A : Option Addr) (n c : Nat) (S : ByteArray) : Prop where
  says : ∀ W, Below w.heap.size w W → Calls Tryz.prog 54 #[.agg #[.int .i8 k, .slice A n c]] W fun e w' => e = .returned (.string S) ∧ Below W.heap.size W w'
  size : S.size ≤ 100000000

set_option maxHeartbeats 4000000 in
set_option maxRecDepth 100000 in
theorem rw_10 (w : World) (h : Hd) (p : Pl) (bb oo : Nat) (hk : h.kind = 10) (hA : p.A = some ⟨bb, oo, none⟩) (hn : p.n = 1) (h0 : Hd) (p0 : Pl) (S0 : ByteArray) (K0 : RKid w bb oo h0 p0 4 S0) :
    Calls Tryz.prog 27 #[.agg #[.int .i8 h.kind, .string h.name, .string h.arg, .int .i64 h.num, .int .i8 h.tk, .slice p.TA p.tn p.tc, .int .i8 h.uk, .slice p.UA p.un p.uc, .int .i64 h.label, .int .i64 h.pos, .slice p.A p.n p.c]] w fun e w' => e = .returned (.string (⟨#[102, 115, 116, 32]⟩ ++ S0)) ∧ Below w.heap.size w w' := by
  have hB0 : Below w.heap.size w (w.alloc (.cells #[.int .i8 h.kind, .string h.name, .string h.arg, .int .i64 h.num, .int .i8 h.tk, .slice p.TA p.tn p.tc, .int .i8 h.uk, .slice p.UA p.un p.uc, .int .i64 h.label, .int .i64 h.pos, .slice p.A p.n p.c] 28)) := (Below.refl _ _).alloc (Nat.le_refl _) _
  have D0 := Lib.hid (K0.says _ hB0)
  have HB := Lib.hid (fun (W : World) (hb : Below (w.alloc (.cells #[.int .i8 h.kind, .string h.name, .string h.arg, .int .i64 h.num, .int .i8 h.tk, .slice p.TA p.tn p.tc, .int .i8 h.uk, .slice p.UA p.un p.uc, .int .i64 h.label, .int .i64 h.pos, .slice p.A p.n p.c] 28)).heap.size (w.alloc (.cells #[.int .i8 h.kind, .string h.name, .string h.arg, .int .i64 h.num, .int .i8 h.tk, .slice p.TA p.tn p.tc, .int .i8 h.uk, .slice p.UA p.un p.uc, .int .i64 h.label, .int .i64 h.pos, .slice p.A p.n p.c] 28)) W) => hB0.trans (hb.mono hB0.size))
  have z0 := K0.size
  obtain ⟨c0_0, c0_1, c0_2, c0_3, c0_4, c0_5, c0_6, c0_7, c0_8, c0_9, c0_10⟩ := Tm.row K0.cells
  have hlt := Ty.cell_lt c0_0
  have hne : bb ≠ w.heap.size := by omega
  clear hB0 K0
  generalize h.kind = x1 at *
  generalize p.A = x2 at *
  generalize p.n = x3 at *
  subst hk hA hn
  go_enter Tryz.func27, Tryz.ntmps27
  go_wp2_with fail
  refine D0.out.mono ?_
  rintro e w3 ⟨rfl, hb3⟩
  have HB3 := Lib.hid (HB.out _ hb3)
  clear hb3
  go_wp2_with fail
  go_ret
  exact ⟨rfl, HB3.out⟩

set_option maxHeartbeats 4000000 in
set_option maxRecDepth 100000 in
theorem rw_11 (w : World) (h : Hd) (p : Pl) (bb oo : Nat) (hk : h.kind = 11) (hA : p.A = some ⟨bb, oo, none⟩) (hn : p.n = 1) (h0 : Hd) (p0 : Pl) (S0 : ByteArray) (K0 : RKid w bb oo h0 p0 4 S0) :
    Calls Tryz.prog 27 #[.agg #[.int .i8 h.kind, .string h.name, .string h.arg, .int .i64 h.num, .int .i8 h.tk, .slice p.TA p.tn p.tc, .int .i8 h.uk, .slice p.UA p.un p.uc, .int .i64 h.label, .int .i64 h.pos, .slice p.A p.n p.c]] w fun e w' => e = .returned (.string (⟨#[115, 110, 100, 32]⟩ ++ S0)) ∧ Below w.heap.size w w' := by
  have hB0 : Below w.heap.size w (w.alloc (.cells #[.int .i8 h.kind, .string h.name, .string h.arg, .int .i64 h.num, .int .i8 h.tk, .slice p.TA p.tn p.tc, .int .i8 h.uk, .slice p.UA p.un p.uc, .int .i64 h.label, .int .i64 h.pos, .slice p.A p.n p.c] 28)) := (Below.refl _ _).alloc (Nat.le_refl _) _
  have D0 := Lib.hid (K0.says _ hB0)
  have HB := Lib.hid (fun (W : World) (hb : Below (w.alloc (.cells #[.int .i8 h.kind, .string h.name, .string h.arg, .int .i64 h.num, .int .i8 h.tk, .slice p.TA p.tn p.tc, .int .i8 h.uk, .slice p.UA p.un p.uc, .int .i64 h.label, .int .i64 h.pos, .slice p.A p.n p.c] 28)).heap.size (w.alloc (.cells #[.int .i8 h.kind, .string h.name, .string h.arg, .int .i64 h.num, .int .i8 h.tk, .slice p.TA p.tn p.tc, .int .i8 h.uk, .slice p.UA p.un p.uc, .int .i64 h.label, .int .i64 h.pos, .slice p.A p.n p.c] 28)) W) => hB0.trans (hb.mono hB0.size))
  have z0 := K0.size
  obtain ⟨c0_0, c0_1, c0_2, c0_3, c0_4, c0_5, c0_6, c0_7, c0_8, c0_9, c0_10⟩ := Tm.row K0.cells
  have hlt := Ty.cell_lt c0_0
  have hne : bb ≠ w.heap.size := by omega
  clear hB0 K0
  generalize h.kind = x1 at *
  generalize p.A = x2 at *
  generalize p.n = x3 at *
  subst hk hA hn
  go_enter Tryz.func27, Tryz.ntmps27
  go_wp2_with fail
  refine D0.out.mono ?_
  rintro e w3 ⟨rfl, hb3⟩
  have HB3 := Lib.hid (HB.out _ hb3)
  clear hb3
  go_wp2_with fail
  go_ret
  exact ⟨rfl, HB3.out⟩

set_option maxHeartbeats 4000000 in
set_option maxRecDepth 100000 in
theorem rw_4 (w : World) (h : Hd) (p : Pl) (bb oo : Nat) (hk : h.kind = 4) (hA : p.A = some ⟨bb, oo, none⟩) (hn : p.n = 1) (h0 : Hd) (p0 : Pl) (S0 : ByteArray) (T : ByteArray) (K0 : RKid w bb oo h0 p0 (-1) S0) (TY : RTy w h.tk p.TA p.tn p.tc T) (hnm : h.name.size ≤ 100000000) :
    Calls Tryz.prog 27 #[.agg #[.int .i8 h.kind, .string h.name, .string h.arg, .int .i64 h.num, .int .i8 h.tk, .slice p.TA p.tn p.tc, .int .i8 h.uk, .slice p.UA p.un p.uc, .int .i64 h.label, .int .i64 h.pos, .slice p.A p.n p.c]] w fun e w' => e = .returned (.string (⟨#[92, 32]⟩ ++ h.name ++ ⟨#[32, 58, 32]⟩ ++ T ++ ⟨#[32, 46, 32]⟩ ++ S0)) ∧ Below w.heap.size w w' := by
  have hB0 : Below w.heap.size w (w.alloc (.cells #[.int .i8 h.kind, .string h.name, .string h.arg, .int .i64 h.num, .int .i8 h.tk, .slice p.TA p.tn p.tc, .int .i8 h.uk, .slice p.UA p.un p.uc, .int .i64 h.label, .int .i64 h.pos, .slice p.A p.n p.c] 28)) := (Below.refl _ _).alloc (Nat.le_refl _) _
  have hbox := heap_new w (.cells #[.int .i8 h.kind, .string h.name, .string h.arg, .int .i64 h.num, .int .i8 h.tk, .slice p.TA p.tn p.tc, .int .i8 h.uk, .slice p.UA p.un p.uc, .int .i64 h.label, .int .i64 h.pos, .slice p.A p.n p.c] 28)
  generalize hw1 : w.alloc (.cells #[.int .i8 h.kind, .string h.name, .string h.arg, .int .i64 h.num, .int .i8 h.tk, .slice p.TA p.tn p.tc, .int .i8 h.uk, .slice p.UA p.un p.uc, .int .i64 h.label, .int .i64 h.pos, .slice p.A p.n p.c] 28) = w1 at *
  have HW := Lib.hid hw1
  have HB := Lib.hid hB0
  have HX := Lib.hid hbox
  have D0 := Lib.hid (fun (W : World) (hb : Below w1.heap.size w1 W) => K0.says W (HB.out.trans (hb.mono HB.out.size)))
  have z0 := K0.size
  obtain ⟨c0_0, c0_1, c0_2, c0_3, c0_4, c0_5, c0_6, c0_7, c0_8, c0_9, c0_10⟩ := Tm.row (fun j v hj => by rw [(bcell HB.out).1 _ _ (Ty.cell_lt (K0.cells j v hj))]; exact K0.cells j v hj)
  have DT := Lib.hid (fun (W : World) (hb : Below w1.heap.size w1 W) => TY.says W (HB.out.trans (hb.mono HB.out.size)))
  have zt := TY.size
  obtain ⟨q0, q1, q2, q3, q4, q5, q6, q7, q8, q9, q10, ql⟩ := own11 HX.out
  clear hB0 hbox hw1 K0 TY
  generalize h.kind = x1 at *
  generalize p.A = x2 at *
  generalize p.n = x3 at *
  subst hk hA hn
  go_enter Tryz.func27, Tryz.ntmps27
  go_wp2_with fail
  rw [HW.out]
  go_wp2_with fail
  have Xq1 := later_cell q1
  have Xq4 := later_cell q4
  have Xq5 := later_cell q5
  have Xq10 := later_cell q10
  have Xc0_0 := later_cell c0_0
  have Xc0_1 := later_cell c0_1
  have Xc0_2 := later_cell c0_2
  have Xc0_3 := later_cell c0_3
  have Xc0_4 := later_cell c0_4
  have Xc0_5 := later_cell c0_5
  have Xc0_6 := later_cell c0_6
  have Xc0_7 := later_cell c0_7
  have Xc0_8 := later_cell c0_8
  have Xc0_9 := later_cell c0_9
  have Xc0_10 := later_cell c0_10
  clear q0 q1 q2 q3 q4 q5 q6 q7 q8 q9 q10 ql c0_0 c0_1 c0_2 c0_3 c0_4 c0_5 c0_6 c0_7 c0_8 c0_9 c0_10
  refine wp_region_low (by kernel_rfl) (by kernel_rfl) ?_
  repeat
    first
      | go_big_quiet_skip
      | (go_big_quiet_want
         go_big_quiet_op
         first
           | go_big_quiet_on
           | (refine ⟨_, fun _ => rfl, ?_⟩
              go_big_quiet_on)
           | (apply Exists.intro
              refine ⟨fun h => ?_, ?_⟩
              · first
                  | (go_at_call 16; with_reducible exact call_low h (D0.out h.u h.low))
                  | (go_at_call 54; with_reducible exact call_low h (DT.out h.u h.low))
              go_big_quiet_on))
  refine wpQuiet_nil ?_
  rintro _ ⟨⟨v1, E⟩, rfl⟩
  have hB2 := HB.out.trans (E.mono HB.out.size)
  clear E Xq1 Xq4 Xq5 Xq10 Xc0_0 Xc0_1 Xc0_2 Xc0_3 Xc0_4 Xc0_5 Xc0_6 Xc0_7 Xc0_8 Xc0_9 Xc0_10
  go_wp2_with fail
  go_ret
  exact ⟨rfl, hB2⟩

set_option maxHeartbeats 4000000 in
set_option maxRecDepth 100000 in
theorem rw_16 (w : World) (h : Hd) (p : Pl) (bb oo : Nat) (hk : h.kind = 16) (hA : p.A = some ⟨bb, oo, none⟩) (hn : p.n = 1) (h0 : Hd) (p0 : Pl) (S0 : ByteArray) (T : ByteArray) (K0 : RKid w bb oo h0 p0 0 S0) (TY : RTy w h.tk p.TA p.tn p.tc T) :
    Calls Tryz.prog 27 #[.agg #[.int .i8 h.kind, .string h.name, .string h.arg, .int .i64 h.num, .int .i8 h.tk, .slice p.TA p.tn p.tc, .int .i8 h.uk, .slice p.UA p.un p.uc, .int .i64 h.label, .int .i64 h.pos, .slice p.A p.n p.c]] w fun e w' => e = .returned (.string (S0 ++ ⟨#[32, 58, 32]⟩ ++ T)) ∧ Below w.heap.size w w' := by
  have hB0 : Below w.heap.size w (w.alloc (.cells #[.int .i8 h.kind, .string h.name, .string h.arg, .int .i64 h.num, .int .i8 h.tk, .slice p.TA p.tn p.tc, .int .i8 h.uk, .slice p.UA p.un p.uc, .int .i64 h.label, .int .i64 h.pos, .slice p.A p.n p.c] 28)) := (Below.refl _ _).alloc (Nat.le_refl _) _
  have hbox := heap_new w (.cells #[.int .i8 h.kind, .string h.name, .string h.arg, .int .i64 h.num, .int .i8 h.tk, .slice p.TA p.tn p.tc, .int .i8 h.uk, .slice p.UA p.un p.uc, .int .i64 h.label, .int .i64 h.pos, .slice p.A p.n p.c] 28)
  generalize hw1 : w.alloc (.cells #[.int .i8 h.kind, .string h.name, .string h.arg, .int .i64 h.num, .int .i8 h.tk, .slice p.TA p.tn p.tc, .int .i8 h.uk, .slice p.UA p.un p.uc, .int .i64 h.label, .int .i64 h.pos, .slice p.A p.n p.c] 28) = w1 at *
  have HW := Lib.hid hw1
  have HB := Lib.hid hB0
  have HX := Lib.hid hbox
  have D0 := Lib.hid (fun (W : World) (hb : Below w1.heap.size w1 W) => K0.says W (HB.out.trans (hb.mono HB.out.size)))
  have z0 := K0.size
  obtain ⟨c0_0, c0_1, c0_2, c0_3, c0_4, c0_5, c0_6, c0_7, c0_8, c0_9, c0_10⟩ := Tm.row (fun j v hj => by rw [(bcell HB.out).1 _ _ (Ty.cell_lt (K0.cells j v hj))]; exact K0.cells j v hj)
  have DT := Lib.hid (fun (W : World) (hb : Below w1.heap.size w1 W) => TY.says W (HB.out.trans (hb.mono HB.out.size)))
  have zt := TY.size
  obtain ⟨q0, q1, q2, q3, q4, q5, q6, q7, q8, q9, q10, ql⟩ := own11 HX.out
  clear hB0 hbox hw1 K0 TY
  generalize h.kind = x1 at *
  generalize p.A = x2 at *
  generalize p.n = x3 at *
  subst hk hA hn
  go_enter Tryz.func27, Tryz.ntmps27
  go_wp2_with fail
  rw [HW.out]
  go_wp2_with fail
  have Xq4 := later_cell q4
  have Xq5 := later_cell q5
  have Xq10 := later_cell q10
  have Xc0_0 := later_cell c0_0
  have Xc0_1 := later_cell c0_1
  have Xc0_2 := later_cell c0_2
  have Xc0_3 := later_cell c0_3
  have Xc0_4 := later_cell c0_4
  have Xc0_5 := later_cell c0_5
  have Xc0_6 := later_cell c0_6
  have Xc0_7 := later_cell c0_7
  have Xc0_8 := later_cell c0_8
  have Xc0_9 := later_cell c0_9
  have Xc0_10 := later_cell c0_10
  clear q0 q1 q2 q3 q4 q5 q6 q7 q8 q9 q10 ql c0_0 c0_1 c0_2 c0_3 c0_4 c0_5 c0_6 c0_7 c0_8 c0_9 c0_10
  refine wp_region_low (by kernel_rfl) (by kernel_rfl) ?_
  repeat
    first
      | go_big_quiet_skip
      | (go_big_quiet_want
         go_big_quiet_op
         first
           | go_big_quiet_on
           | (refine ⟨_, fun _ => rfl, ?_⟩
              go_big_quiet_on)
           | (apply Exists.intro
              refine ⟨fun h => ?_, ?_⟩
              · first
                  | (go_at_call 16; with_reducible exact call_low h (D0.out h.u h.low))
                  | (go_at_call 54; with_reducible exact call_low h (DT.out h.u h.low))
              go_big_quiet_on))
  refine wpQuiet_nil ?_
  rintro _ ⟨⟨v1, E⟩, rfl⟩
  have hB2 := HB.out.trans (E.mono HB.out.size)
  clear E Xq4 Xq5 Xq10 Xc0_0 Xc0_1 Xc0_2 Xc0_3 Xc0_4 Xc0_5 Xc0_6 Xc0_7 Xc0_8 Xc0_9 Xc0_10
  go_wp2_with fail
  go_ret
  exact ⟨rfl, hB2⟩
end Go.Proofs.YtdeomggkhbdkaaaGreatDoor
namespace Go.Proofs.YtdeomggkhbdkaaaGreatDoor
open Go.RowKit

set_option maxHeartbeats 4000000 in
set_option maxRecDepth 100000 in
theorem rw_0 (w : World) (h : Hd) (p : Pl) (hk : h.kind = 0) :
    Calls Tryz.prog 27 #[.agg #[.int .i8 h.kind, .string h.name, .string h.arg, .int .i64 h.num, .int .i8 h.tk, .slice p.TA p.tn p.tc, .int .i8 h.uk, .slice p.UA p.un p.uc, .int .i64 h.label, .int .i64 h.pos, .slice p.A p.n p.c]] w fun e w' => e = .returned (.string (h.name)) ∧ Below w.heap.size w w' := by
  have hB0 := Lib.hid (show Below w.heap.size w (w.alloc (.cells #[.int .i8 h.kind, .string h.name, .string h.arg, .int .i64 h.num, .int .i8 h.tk, .slice p.TA p.tn p.tc, .int .i8 h.uk, .slice p.UA p.un p.uc, .int .i64 h.label, .int .i64 h.pos, .slice p.A p.n p.c] 28)) from (Below.refl _ _).alloc (Nat.le_refl _) _)
  generalize h.kind = x1 at *
  subst hk
  go_enter Tryz.func27, Tryz.ntmps27
  go_wp2_with fail
  go_ret
  exact ⟨rfl, hB0.out⟩

set_option maxHeartbeats 4000000 in
set_option maxRecDepth 100000 in
theorem rw_2 (w : World) (h : Hd) (p : Pl) (hk : h.kind = 2) :
    Calls Tryz.prog 27 #[.agg #[.int .i8 h.kind, .string h.name, .string h.arg, .int .i64 h.num, .int .i8 h.tk, .slice p.TA p.tn p.tc, .int .i8 h.uk, .slice p.UA p.un p.uc, .int .i64 h.label, .int .i64 h.pos, .slice p.A p.n p.c]] w fun e w' => e = .returned (.string (⟨#[116, 114, 117, 101]⟩)) ∧ Below w.heap.size w w' := by
  have hB0 := Lib.hid (show Below w.heap.size w (w.alloc (.cells #[.int .i8 h.kind, .string h.name, .string h.arg, .int .i64 h.num, .int .i8 h.tk, .slice p.TA p.tn p.tc, .int .i8 h.uk, .slice p.UA p.un p.uc, .int .i64 h.label, .int .i64 h.pos, .slice p.A p.n p.c] 28)) from (Below.refl _ _).alloc (Nat.le_refl _) _)
  generalize h.kind = x1 at *
  subst hk
  go_enter Tryz.func27, Tryz.ntmps27
  go_wp2_with fail
  go_ret
  exact ⟨rfl, hB0.out⟩

set_option maxHeartbeats 4000000 in
set_option maxRecDepth 100000 in
theorem rw_3 (w : World) (h : Hd) (p : Pl) (hk : h.kind = 3) :
    Calls Tryz.prog 27 #[.agg #[.int .i8 h.kind, .string h.name, .string h.arg, .int .i64 h.num, .int .i8 h.tk, .slice p.TA p.tn p.tc, .int .i8 h.uk, .slice p.UA p.un p.uc, .int .i64 h.label, .int .i64 h.pos, .slice p.A p.n p.c]] w fun e w' => e = .returned (.string (⟨#[102, 97, 108, 115, 101]⟩)) ∧ Below w.heap.size w w' := by
  have hB0 := Lib.hid (show Below w.heap.size w (w.alloc (.cells #[.int .i8 h.kind, .string h.name, .string h.arg, .int .i64 h.num, .int .i8 h.tk, .slice p.TA p.tn p.tc, .int .i8 h.uk, .slice p.UA p.un p.uc, .int .i64 h.label, .int .i64 h.pos, .slice p.A p.n p.c] 28)) from (Below.refl _ _).alloc (Nat.le_refl _) _)
  generalize h.kind = x1 at *
  subst hk
  go_enter Tryz.func27, Tryz.ntmps27
  go_wp2_with fail
  go_ret
  exact ⟨rfl, hB0.out⟩

set_option maxHeartbeats 4000000 in
set_option maxRecDepth 100000 in
theorem rw_1 (w : World) (h : Hd) (p : Pl) (hk : h.kind = 1) (h0 : -9223372036854775808 < h.num) (h1 : h.num ≤ 9223372036854775807) :
    Calls Tryz.prog 27 #[.agg #[.int .i8 h.kind, .string h.name, .string h.arg, .int .i64 h.num, .int .i8 h.tk, .slice p.TA p.tn p.tc, .int .i8 h.uk, .slice p.UA p.un p.uc, .int .i64 h.label, .int .i64 h.pos, .slice p.A p.n p.c]] w fun e w' => e = .returned (.string (if h.num < 0 then ⟨#[45, 32]⟩ ++ ⟨(Lib.decDigits (-h.num).toNat).toArray⟩ else ⟨(Lib.decDigits h.num.toNat).toArray⟩)) ∧ Below w.heap.size w w' := by
  have hB0 := Lib.hid (show Below w.heap.size w (w.alloc (.cells #[.int .i8 h.kind, .string h.name, .string h.arg, .int .i64 h.num, .int .i8 h.tk, .slice p.TA p.tn p.tc, .int .i8 h.uk, .slice p.UA p.un p.uc, .int .i64 h.label, .int .i64 h.pos, .slice p.A p.n p.c] 28)) from (Below.refl _ _).alloc (Nat.le_refl _) _)
  generalize h.kind = x1 at *
  generalize h.num = m at *
  subst hk
  by_cases hm : m < 0
  · have hd : decide (m < 0) = true := decide_eq_true hm
    have j1 : IntKind.i64.wrap (-m) = -m := IntWalk.i64_in _ (by omega)
    have CD := Lib.hid (fun (W : World) => rdigits_any (-m) (by omega) (by omega) W)
    have hs : (Lib.decDigits (-m).toNat).length ≤ 19 := by have := Sh.decDigits_len (-m).toNat 19 (by omega); omega
    have hz : (⟨(Lib.decDigits (-m).toNat).toArray⟩ : ByteArray).size ≤ 19 := by simpa [ByteArray.size] using hs
    rw [if_pos hm]
    generalize (⟨(Lib.decDigits (-m).toNat).toArray⟩ : ByteArray) = S at *
    clear hm h0 h1 hs
    go_enter Tryz.func27, Tryz.ntmps27
    go_wp2_with fail
    refine (CD.out _).mono ?_
    rintro e w3 ⟨rfl, hw⟩
    rw [hw]
    go_wp2_with fail
    go_ret
    exact ⟨rfl, hB0.out⟩
  · have hd : decide (m < 0) = false := decide_eq_false hm
    have CD := Lib.hid (fun (W : World) => rdigits_any m (by omega) (by omega) W)
    rw [if_neg hm]
    clear hm h0 h1
    go_enter Tryz.func27, Tryz.ntmps27
    go_wp2_with fail
    refine (CD.out _).mono ?_
    rintro e w3 ⟨rfl, hw⟩
    rw [hw]
    go_wp2_with fail
    go_ret
    exact ⟨rfl, hB0.out⟩

set_option maxHeartbeats 4000000 in
set_option maxRecDepth 100000 in
theorem rop_any (w : World) (h : Hd) (p : Pl) (bb oo : Nat) (hA : p.A = some ⟨bb, oo, none⟩) (hn : p.n = 2) (h0 : Hd) (p0 : Pl) (S0 : ByteArray) (h1 : Hd) (p1 : Pl) (S1 : ByteArray)
    (K0 : RKid w bb oo h0 p0 (Sh.opS h.name).2.1 S0) (K1 : RKid w bb (oo + 11) h1 p1 (Sh.opS h.name).2.2 S1) (hnm : h.name.size ≤ 100000000) :
    Calls Tryz.prog 55 #[.agg #[.int .i8 h.kind, .string h.name, .string h.arg, .int .i64 h.num, .int .i8 h.tk, .slice p.TA p.tn p.tc, .int .i8 h.uk, .slice p.UA p.un p.uc, .int .i64 h.label, .int .i64 h.pos, .slice p.A p.n p.c]] w fun e w' => e = .returned (.string (S0 ++ ⟨#[32]⟩ ++ h.name ++ ⟨#[32]⟩ ++ S1)) ∧ Below w.heap.size w w' := by
  have hB0 : Below w.heap.size w (w.alloc (.cells #[.int .i8 h.kind, .string h.name, .string h.arg, .int .i64 h.num, .int .i8 h.tk, .slice p.TA p.tn p.tc, .int .i8 h.uk, .slice p.UA p.un p.uc, .int .i64 h.label, .int .i64 h.pos, .slice p.A p.n p.c] 28)) := (Below.refl _ _).alloc (Nat.le_refl _) _
  have hbox := heap_new w (.cells #[.int .i8 h.kind, .string h.name, .string h.arg, .int .i64 h.num, .int .i8 h.tk, .slice p.TA p.tn p.tc, .int .i8 h.uk, .slice p.UA p.un p.uc, .int .i64 h.label, .int .i64 h.pos, .slice p.A p.n p.c] 28)
  generalize hw1 : w.alloc (.cells #[.int .i8 h.kind, .string h.name, .string h.arg, .int .i64 h.num, .int .i8 h.tk, .slice p.TA p.tn p.tc, .int .i8 h.uk, .slice p.UA p.un p.uc, .int .i64 h.label, .int .i64 h.pos, .slice p.A p.n p.c] 28) = w1 at *
  have HW := Lib.hid hw1
  have HB := Lib.hid hB0
  have HX := Lib.hid hbox
  have D0 := Lib.hid (fun (W : World) (hb : Below w1.heap.size w1 W) => K0.says W (HB.out.trans (hb.mono HB.out.size)))
  have z0 := K0.size
  obtain ⟨c0_0, c0_1, c0_2, c0_3, c0_4, c0_5, c0_6, c0_7, c0_8, c0_9, c0_10⟩ := Tm.row (fun j v hj => by rw [(bcell HB.out).1 _ _ (Ty.cell_lt (K0.cells j v hj))]; exact K0.cells j v hj)
  have D1 := Lib.hid (fun (W : World) (hb : Below w1.heap.size w1 W) => K1.says W (HB.out.trans (hb.mono HB.out.size)))
  have z1 := K1.size
  obtain ⟨c1_0, c1_1, c1_2, c1_3, c1_4, c1_5, c1_6, c1_7, c1_8, c1_9, c1_10⟩ := Tm.row (fun j v hj => by rw [(bcell HB.out).1 _ _ (Ty.cell_lt (K1.cells j v hj))]; exact K1.cells j v hj)
  obtain ⟨q0, q1, q2, q3, q4, q5, q6, q7, q8, q9, q10, ql⟩ := own11 HX.out
  obtain ⟨b0, e0⟩ : ∃ b, (h.name.toList == [42]) = b := ⟨_, rfl⟩
  obtain ⟨b1, e1⟩ : ∃ b, (h.name.toList == [47]) = b := ⟨_, rfl⟩
  obtain ⟨b2, e2⟩ : ∃ b, (h.name.toList == [43]) = b := ⟨_, rfl⟩
  obtain ⟨b3, e3⟩ : ∃ b, (h.name.toList == [45]) = b := ⟨_, rfl⟩
  have eo := Sh.opS_of e0 e1 e2 e3
  rw [eo] at D0 D1
  clear hB0 hbox hw1 K0 K1 eo
  generalize p.A = x2 at *
  generalize p.n = x3 at *
  subst hA hn
  have Xq1 := later_cell q1
  have Xq10 := later_cell q10
  have Xc0_0 := later_cell c0_0
  have Xc0_1 := later_cell c0_1
  have Xc0_2 := later_cell c0_2
  have Xc0_3 := later_cell c0_3
  have Xc0_4 := later_cell c0_4
  have Xc0_5 := later_cell c0_5
  have Xc0_6 := later_cell c0_6
  have Xc0_7 := later_cell c0_7
  have Xc0_8 := later_cell c0_8
  have Xc0_9 := later_cell c0_9
  have Xc0_10 := later_cell c0_10
  have Xc1_0 := later_cell c1_0
  have Xc1_1 := later_cell c1_1
  have Xc1_2 := later_cell c1_2
  have Xc1_3 := later_cell c1_3
  have Xc1_4 := later_cell c1_4
  have Xc1_5 := later_cell c1_5
  have Xc1_6 := later_cell c1_6
  have Xc1_7 := later_cell c1_7
  have Xc1_8 := later_cell c1_8
  have Xc1_9 := later_cell c1_9
  have Xc1_10 := later_cell c1_10
  cases b0 <;> cases b1 <;> cases b2 <;> cases b3
  all_goals
    simp only [Bool.or_true, Bool.true_or, Bool.or_self, if_true, Bool.false_eq_true, if_false] at D0 D1
    go_enter Tryz.func55, Tryz.ntmps55
    go_wp2_with fail
    rw [HW.out]
    go_wp2_with fail
    clear q0 q1 q2 q3 q4 q5 q6 q7 q8 q9 q10 ql c0_0 c0_1 c0_2 c0_3 c0_4 c0_5 c0_6 c0_7 c0_8 c0_9 c0_10 c1_0 c1_1 c1_2 c1_3 c1_4 c1_5 c1_6 c1_7 c1_8 c1_9 c1_10
    refine wp_region_low (by kernel_rfl) (by kernel_rfl) ?_
    repeat
      first
        | go_big_quiet_skip
        | (go_big_quiet_want
           go_big_quiet_op
           first
             | go_big_quiet_on
             | (refine ⟨_, fun _ => rfl, ?_⟩
                go_big_quiet_on)
             | (apply Exists.intro
                refine ⟨fun h => ?_, ?_⟩
                · first
                  | (go_at_call 16; with_reducible exact call_low h (D0.out h.u h.low))
                  | (go_at_call 16; with_reducible exact call_low h (D1.out h.u h.low))
                go_big_quiet_on))
    refine wpQuiet_nil ?_
    rintro _ ⟨⟨v1, E⟩, rfl⟩
    have hB2 := HB.out.trans (E.mono HB.out.size)
    clear E
    go_wp2_with fail
    go_ret
    exact ⟨rfl, hB2⟩

set_option maxHeartbeats 4000000 in
set_option maxRecDepth 100000 in
theorem rw_15 (w : World) (h : Hd) (p : Pl) (hk : h.kind = 15) (S : ByteArray)
    (ho : ∀ W, Below w.heap.size w W → Calls Tryz.prog 55 #[.agg #[.int .i8 h.kind, .string h.name, .string h.arg, .int .i64 h.num, .int .i8 h.tk, .slice p.TA p.tn p.tc, .int .i8 h.uk, .slice p.UA p.un p.uc, .int .i64 h.label, .int .i64 h.pos, .slice p.A p.n p.c]] W fun e w' => e = .returned (.string S) ∧ Below W.heap.size W w') :
    Calls Tryz.prog 27 #[.agg #[.int .i8 h.kind, .string h.name, .string h.arg, .int .i64 h.num, .int .i8 h.tk, .slice p.TA p.tn p.tc, .int .i8 h.uk, .slice p.UA p.un p.uc, .int .i64 h.label, .int .i64 h.pos, .slice p.A p.n p.c]] w fun e w' => e = .returned (.string S) ∧ Below w.heap.size w w' := by
  have hB0 : Below w.heap.size w (w.alloc (.cells #[.int .i8 h.kind, .string h.name, .string h.arg, .int .i64 h.num, .int .i8 h.tk, .slice p.TA p.tn p.tc, .int .i8 h.uk, .slice p.UA p.un p.uc, .int .i64 h.label, .int .i64 h.pos, .slice p.A p.n p.c] 28)) := (Below.refl _ _).alloc (Nat.le_refl _) _
  have CO := Lib.hid (ho _ hB0)
  have HB := Lib.hid (fun (W : World) (hb : Below (w.alloc (.cells #[.int .i8 h.kind, .string h.name, .string h.arg, .int .i64 h.num, .int .i8 h.tk, .slice p.TA p.tn p.tc, .int .i8 h.uk, .slice p.UA p.un p.uc, .int .i64 h.label, .int .i64 h.pos, .slice p.A p.n p.c] 28)).heap.size (w.alloc (.cells #[.int .i8 h.kind, .string h.name, .string h.arg, .int .i64 h.num, .int .i8 h.tk, .slice p.TA p.tn p.tc, .int .i8 h.uk, .slice p.UA p.un p.uc, .int .i64 h.label, .int .i64 h.pos, .slice p.A p.n p.c] 28)) W) => hB0.trans (hb.mono hB0.size))
  clear hB0 ho
  generalize h.kind = x1 at *
  subst hk
  go_enter Tryz.func27, Tryz.ntmps27
  go_wp2_with fail
  refine CO.out.mono ?_
  rintro e w3 ⟨rfl, hb3⟩
  have HB3 := Lib.hid (HB.out _ hb3)
  clear hb3
  go_wp2_with fail
  go_ret
  exact ⟨rfl, HB3.out⟩
end Go.Proofs.YtdeomggkhbdkaaaGreatDoor
