/-
  The reference's free: what stands ahead of a body. The reference's free: branches.
-/
import Derived.Test.YtemdgpihifigoaaGreatDoorFreeR
import Derived.Deep.DeepCutAuto
namespace Go.Proofs.YtemdgpihifigoaaGreatDoor
open Go.RowKit Go.Maps

set_option maxHeartbeats 8000000 in
set_option maxRecDepth 100000 in
theorem free_let (h g0 g1 : Hd) (k0 k1 : Tm) (p q0 q1 : Pl) (w : World) (bd l : List (List UInt8)) (A LA : Option Addr) (c lc base bb oo : Nat) (h0 : h.kind = 7) (hbase : base ≤ w.heap.size) (hpA : p.A = some ⟨bb, oo, none⟩) (hpn : p.n = 2) (hK0 : KidAt base w g0 k0 q0 bb oo) (hK1 : KidAt base w g1 k1 q1 bb (oo + 11)) (hBR : BR w A bd LA) (hLR : LR base w LA lc l) (hn1 : bd.length + 2 * (Tm.nodes k0 + Tm.nodes k1 + 1) ≤ 500000) (hn2 : l.length + (Tm.nodes k0 + Tm.nodes k1 + 2) ≤ 500000) :
    Calls Tryz.prog 27 #[.agg #[.int .i8 h.kind, .string h.name, .string h.arg, .int .i64 h.num, .int .i8 h.tk, .slice p.TA p.tn p.tc, .int .i8 h.uk, .slice p.UA p.un p.uc, .int .i64 h.label, .int .i64 h.pos, .slice p.A p.n p.c], .slice A bd.length c, .slice LA l.length lc] w (FrPost base LA (Tm.frT h (.node g0 k0 (.node g1 k1 .nil)) bd l) w) := by
  obtain ⟨b10, hb10⟩ : ∃ x, x = bd ++ [Tm.nm h.name] := ⟨_, rfl⟩
  have hfr : Tm.frT h (.node g0 k0 (.node g1 k1 .nil)) bd l = (Tm.frT g1 k1 b10 (Tm.frT g0 k0 bd l)) := by
    have e0 : Tm.binds h 0 = [] := by unfold Tm.binds; rw [if_neg (by omega), if_neg (by omega), if_neg (by omega)]
    have e1 : Tm.binds h 1 = [Tm.nm h.name] := by unfold Tm.binds; rw [if_pos (by omega)]
    conv => lhs; unfold Tm.frT
    rw [if_neg (by omega), Tm.frG_node, Tm.frG_node, e0, e1, List.append_nil, hb10]
    rfl
  have x4 : (h.kind == 4) = false := by simp; omega
  have x5 : (h.kind == 5) = false := by simp; omega
  have x7 : (h.kind == 7) = true := by simp; omega
  have x0 : (h.kind == 0) = false := by simp; omega
  have hlens : bd.length ≤ bd.length + 0 ∧ b10.length ≤ bd.length + 1 ∧ b10.length ≤ bd.length + 2 ∧ True := by
    subst_vars; simp
  have hll : (Tm.frT g0 k0 bd l).length ≤ l.length + (Tm.nodes k0 + 1) ∧ (Tm.frT g1 k1 b10 (Tm.frT g0 k0 bd l)).length ≤ (Tm.frT g0 k0 bd l).length + (Tm.nodes k1 + 1) ∧ True := ⟨Tm.frT_len _ _ _ _, Tm.frT_len _ _ _ _, trivial⟩
  rw [hfr]
  have HK0 := Lib.hid hK0
  have HK1 := Lib.hid hK1
  have HS0 := Lib.hid (FS.start (.cells #[.int .i8 h.kind, .string h.name, .string h.arg, .int .i64 h.num, .int .i8 h.tk, .slice p.TA p.tn p.tc, .int .i8 h.uk, .slice p.UA p.un p.uc, .int .i64 h.label, .int .i64 h.pos, .slice p.A p.n p.c] 28) hbase hBR hLR)
  have HPA := Lib.hid hpA
  have HPN := Lib.hid hpn
  have HBS := Lib.hid hbase
  have HLL := Lib.hid hll
  have HLN := Lib.hid hlens
  have Hb10 := Lib.hid hb10
  clear hfr hlens hll hLR hBR h0 hpA hpn hbase hK0 hK1 hb10
  generalize p.A = PA at *
  generalize p.n = PN at *
  obtain rfl : PA = some ⟨bb, oo, none⟩ := HPA.out
  obtain rfl : PN = 2 := HPN.out
  generalize hw0 : w.alloc (.cells _ 28) = w0 at *
  have HW := Lib.hid hw0
  clear hw0
  go_enter Tryz.func27, Tryz.ntmps27
  go_upto_region 1 with fail
  rw [HW.out]
  obtain ⟨a0, a1, a2, a3, a4, a5, a6, a7, a8, a9, a10, al⟩ := own11 HS0.out.box
  obtain ⟨c0, c1, c2, c3, c4, c5, c6, c7, c8, c9, c10⟩ := Tm.row (HK0.out.rowAt HS0.out.low)
  go_wp2_with fail
  have SW := HS0
  refine (HK0.out.call _ _ _ _ _ _ _ HS0.out.low HS0.out.br HS0.out.lr (by have := HLN.out; omega) (by have := HLL.out; omega)).mono ?_
  rintro e v0 ⟨LB0, lb0, rfl, hL, hg, hu⟩
  have HS1 := Lib.hid (SW.out.next HBS.out hL hg hu)
  clear hL hg hu SW a0 a1 a2 a3 a4 a5 a6 a7 a8 a9 a10 al c0 c1 c2 c3 c4 c5 c6 c7 c8 c9 c10
  obtain ⟨a0, a1, a2, a3, a4, a5, a6, a7, a8, a9, a10, al⟩ := own11 HS1.out.box
  obtain ⟨c0, c1, c2, c3, c4, c5, c6, c7, c8, c9, c10⟩ := Tm.row (HK1.out.rowAt HS1.out.low)
  go_wp2_with fail
  go_region_law (first
    | (go_simp; go_at_call 55; (with_reducible refine (HS1.out.drew.with h.name Hb10.out (by have := HLN.out; omega)).mono ?_); rintro e u1 ⟨gg1, gc1, rfl, hr, hg, hb⟩; have SW := Lib.hid (HS1.out.drew.later hb HBS.out); have RW := Lib.hid (HS1.out.drew.bound hr hg); obtain ⟨x0, x1, x2, x3, x4, x5, x6, x7, x8, x9, x10, xl⟩ := own11 SW.out.box; obtain ⟨d0, d1, d2, d3, d4, d5, d6, d7, d8, d9, d10⟩ := Tm.row (HK1.out.rowAt SW.out.low); clear hr hg hb; go_wp2_with fail)
    | (go_simp; go_at_call 27; (with_reducible refine (HK1.out.call _ _ _ _ _ _ _ SW.out.low RW.out SW.out.lr (by have := HLN.out; omega) (by have := HLL.out; omega)).mono ?_); rintro e v1 ⟨LB1, lb1, rfl, hL, hg, hu⟩; have HS2 := Lib.hid (SW.out.next HBS.out hL hg hu); clear hL hg hu; go_wp2_with fail))
  all_goals
    go_wp2_with fail
    go_ret
    exact HS2.out.post
end Go.Proofs.YtemdgpihifigoaaGreatDoor
namespace Go.Proofs.YtemdgpihifigoaaGreatDoor
open Go.RowKit Go.Maps

set_option maxHeartbeats 8000000 in
set_option maxRecDepth 100000 in
theorem free_case (h g0 g1 g2 : Hd) (k0 k1 k2 : Tm) (p q0 q1 q2 : Pl) (w : World) (bd l : List (List UInt8)) (A LA : Option Addr) (c lc base bb oo : Nat) (h0 : h.kind = 14) (hbase : base ≤ w.heap.size) (hpA : p.A = some ⟨bb, oo, none⟩) (hpn : p.n = 3) (hK0 : KidAt base w g0 k0 q0 bb oo) (hK1 : KidAt base w g1 k1 q1 bb (oo + 11)) (hK2 : KidAt base w g2 k2 q2 bb (oo + 22)) (hBR : BR w A bd LA) (hLR : LR base w LA lc l) (hn1 : bd.length + 2 * (Tm.nodes k0 + Tm.nodes k1 + Tm.nodes k2 + 1) ≤ 500000) (hn2 : l.length + (Tm.nodes k0 + Tm.nodes k1 + Tm.nodes k2 + 3) ≤ 500000) :
    Calls Tryz.prog 27 #[.agg #[.int .i8 h.kind, .string h.name, .string h.arg, .int .i64 h.num, .int .i8 h.tk, .slice p.TA p.tn p.tc, .int .i8 h.uk, .slice p.UA p.un p.uc, .int .i64 h.label, .int .i64 h.pos, .slice p.A p.n p.c], .slice A bd.length c, .slice LA l.length lc] w (FrPost base LA (Tm.frT h (.node g0 k0 (.node g1 k1 (.node g2 k2 .nil))) bd l) w) := by
  obtain ⟨b10, hb10⟩ : ∃ x, x = bd ++ [Tm.nm h.name] := ⟨_, rfl⟩
  obtain ⟨b20, hb20⟩ : ∃ x, x = bd ++ [Tm.nm h.arg] := ⟨_, rfl⟩
  have hfr : Tm.frT h (.node g0 k0 (.node g1 k1 (.node g2 k2 .nil))) bd l = (Tm.frT g2 k2 b20 (Tm.frT g1 k1 b10 (Tm.frT g0 k0 bd l))) := by
    have e0 : Tm.binds h 0 = [] := by unfold Tm.binds; rw [if_neg (by omega), if_neg (by omega), if_neg (by omega)]
    have e1 : Tm.binds h 1 = [Tm.nm h.name] := by unfold Tm.binds; rw [if_pos (by omega)]
    have e2 : Tm.binds h 2 = [Tm.nm h.arg] := by unfold Tm.binds; rw [if_neg (by omega), if_pos (by omega)]
    conv => lhs; unfold Tm.frT
    rw [if_neg (by omega), Tm.frG_node, Tm.frG_node, Tm.frG_node, e0, e1, e2, List.append_nil, hb10, hb20]
    rfl
  have x4 : (h.kind == 4) = false := by simp; omega
  have x5 : (h.kind == 5) = false := by simp; omega
  have x7 : (h.kind == 7) = false := by simp; omega
  have x14 : (h.kind == 14) = true := by simp; omega
  have x0 : (h.kind == 0) = false := by simp; omega
  have hlens : bd.length ≤ bd.length + 0 ∧ b10.length ≤ bd.length + 1 ∧ b20.length ≤ bd.length + 1 ∧ b10.length ≤ bd.length + 2 ∧ b20.length ≤ bd.length + 2 ∧ True := by
    subst_vars; simp
  have hll : (Tm.frT g0 k0 bd l).length ≤ l.length + (Tm.nodes k0 + 1) ∧ (Tm.frT g1 k1 b10 (Tm.frT g0 k0 bd l)).length ≤ (Tm.frT g0 k0 bd l).length + (Tm.nodes k1 + 1) ∧ (Tm.frT g2 k2 b20 (Tm.frT g1 k1 b10 (Tm.frT g0 k0 bd l))).length ≤ (Tm.frT g1 k1 b10 (Tm.frT g0 k0 bd l)).length + (Tm.nodes k2 + 1) ∧ True := ⟨Tm.frT_len _ _ _ _, Tm.frT_len _ _ _ _, Tm.frT_len _ _ _ _, trivial⟩
  rw [hfr]
  have HK0 := Lib.hid hK0
  have HK1 := Lib.hid hK1
  have HK2 := Lib.hid hK2
  have HS0 := Lib.hid (FS.start (.cells #[.int .i8 h.kind, .string h.name, .string h.arg, .int .i64 h.num, .int .i8 h.tk, .slice p.TA p.tn p.tc, .int .i8 h.uk, .slice p.UA p.un p.uc, .int .i64 h.label, .int .i64 h.pos, .slice p.A p.n p.c] 28) hbase hBR hLR)
  have HPA := Lib.hid hpA
  have HPN := Lib.hid hpn
  have HBS := Lib.hid hbase
  have HLL := Lib.hid hll
  have HLN := Lib.hid hlens
  have Hb10 := Lib.hid hb10
  have Hb20 := Lib.hid hb20
  clear hfr hlens hll hLR hBR h0 hpA hpn hbase hK0 hK1 hK2 hb10 hb20
  generalize p.A = PA at *
  generalize p.n = PN at *
  obtain rfl : PA = some ⟨bb, oo, none⟩ := HPA.out
  obtain rfl : PN = 3 := HPN.out
  generalize hw0 : w.alloc (.cells _ 28) = w0 at *
  have HW := Lib.hid hw0
  clear hw0
  go_enter Tryz.func27, Tryz.ntmps27
  go_upto_region 1 with fail
  rw [HW.out]
  obtain ⟨a0, a1, a2, a3, a4, a5, a6, a7, a8, a9, a10, al⟩ := own11 HS0.out.box
  obtain ⟨c0, c1, c2, c3, c4, c5, c6, c7, c8, c9, c10⟩ := Tm.row (HK0.out.rowAt HS0.out.low)
  go_wp2_with fail
  have SW := HS0
  refine (HK0.out.call _ _ _ _ _ _ _ HS0.out.low HS0.out.br HS0.out.lr (by have := HLN.out; omega) (by have := HLL.out; omega)).mono ?_
  rintro e v0 ⟨LB0, lb0, rfl, hL, hg, hu⟩
  have HS1 := Lib.hid (SW.out.next HBS.out hL hg hu)
  clear hL hg hu SW a0 a1 a2 a3 a4 a5 a6 a7 a8 a9 a10 al c0 c1 c2 c3 c4 c5 c6 c7 c8 c9 c10
  obtain ⟨a0, a1, a2, a3, a4, a5, a6, a7, a8, a9, a10, al⟩ := own11 HS1.out.box
  obtain ⟨c0, c1, c2, c3, c4, c5, c6, c7, c8, c9, c10⟩ := Tm.row (HK1.out.rowAt HS1.out.low)
  go_wp2_with fail
  go_cut [2] (fun s2 wx => ∃ LB lb, s2 = .slice LB (Tm.frT g1 k1 b10 (Tm.frT g0 k0 bd l)).length lb ∧ FS base w.heap.size w (.cells #[.int .i8 h.kind, .string h.name, .string h.arg, .int .i64 h.num, .int .i8 h.tk, .slice p.TA p.tn p.tc, .int .i8 h.uk, .slice p.UA p.un p.uc, .int .i64 h.label, .int .i64 h.pos, .slice (some ⟨bb, oo, none⟩) 3 p.c] 28) A bd LA wx LB lb (Tm.frT g1 k1 b10 (Tm.frT g0 k0 bd l)))
  case first =>
    go_region_law (first
    | (go_simp; go_at_call 55; (with_reducible refine (HS1.out.drew.with h.name Hb10.out (by have := HLN.out; omega)).mono ?_); rintro e u1 ⟨gg1, gc1, rfl, hr, hg, hb⟩; have SW := Lib.hid (HS1.out.drew.later hb HBS.out); have RW := Lib.hid (HS1.out.drew.bound hr hg); obtain ⟨x0, x1, x2, x3, x4, x5, x6, x7, x8, x9, x10, xl⟩ := own11 SW.out.box; obtain ⟨d0, d1, d2, d3, d4, d5, d6, d7, d8, d9, d10⟩ := Tm.row (HK1.out.rowAt SW.out.low); clear hr hg hb; go_wp2_with fail)
    | (go_simp; go_at_call 27; (with_reducible refine (HK1.out.call _ _ _ _ _ _ _ SW.out.low RW.out SW.out.lr (by have := HLN.out; omega) (by have := HLL.out; omega)).mono ?_); rintro e v1 ⟨LB1, lb1, rfl, hL, hg, hu⟩; have HS2 := Lib.hid (SW.out.next HBS.out hL hg hu); clear hL hg hu; go_wp2_with fail))
    all_goals
      go_wp2_with fail
      go_meet
      exact ⟨LB1, lb1, rfl, HS2.out⟩
  case rest =>
  obtain ⟨LB1, lb1, rfl, hS⟩ := hcut
  have HS2 := Lib.hid hS
  clear hS a0 a1 a2 a3 a4 a5 a6 a7 a8 a9 a10 al c0 c1 c2 c3 c4 c5 c6 c7 c8 c9 c10
  obtain ⟨a0, a1, a2, a3, a4, a5, a6, a7, a8, a9, a10, al⟩ := own11 HS2.out.box
  obtain ⟨c0, c1, c2, c3, c4, c5, c6, c7, c8, c9, c10⟩ := Tm.row (HK2.out.rowAt HS2.out.low)
  go_wp2_with fail
  go_region_law (first
    | (go_simp; go_at_call 55; (with_reducible refine (HS2.out.drew.with h.arg Hb20.out (by have := HLN.out; omega)).mono ?_); rintro e u1 ⟨gg1, gc1, rfl, hr, hg, hb⟩; have SW := Lib.hid (HS2.out.drew.later hb HBS.out); have RW := Lib.hid (HS2.out.drew.bound hr hg); obtain ⟨x0, x1, x2, x3, x4, x5, x6, x7, x8, x9, x10, xl⟩ := own11 SW.out.box; obtain ⟨d0, d1, d2, d3, d4, d5, d6, d7, d8, d9, d10⟩ := Tm.row (HK2.out.rowAt SW.out.low); clear hr hg hb; go_wp2_with fail)
    | (go_simp; go_at_call 27; (with_reducible refine (HK2.out.call _ _ _ _ _ _ _ SW.out.low RW.out SW.out.lr (by have := HLN.out; omega) (by have := HLL.out; omega)).mono ?_); rintro e v2 ⟨LB2, lb2, rfl, hL, hg, hu⟩; have HS3 := Lib.hid (SW.out.next HBS.out hL hg hu); clear hL hg hu; go_wp2_with fail))
  all_goals
    go_wp2_with fail
    go_ret
    exact HS3.out.post
end Go.Proofs.YtemdgpihifigoaaGreatDoor
