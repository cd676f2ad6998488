/-
  The reference's free: two names.
-/
import Derived.Test.YtemdgpihifigoaaGreatDoorFreeR
import Derived.Deep.DeepCutAuto
namespace Go.Proofs.YtemdgpihifigoaaGreatDoor
open Go.RowKit Go.Maps

set_option maxHeartbeats 8000000 in
set_option maxRecDepth 100000 in
theorem free_rec (h g0 : Hd) (k0 : Tm) (p q0 : Pl) (w : World) (bd l : List (List UInt8)) (A LA : Option Addr) (c lc base bb oo : Nat) (h0 : h.kind = 5) (hbase : base ≤ w.heap.size) (hpA : p.A = some ⟨bb, oo, none⟩) (hpn : p.n = 1) (hK0 : KidAt base w g0 k0 q0 bb oo) (hBR : BR w A bd LA) (hLR : LR base w LA lc l) (hn1 : bd.length + 2 * (Tm.nodes k0 + 1) ≤ 500000) (hn2 : l.length + (Tm.nodes k0 + 1) ≤ 500000) :
    Calls Tryz.prog 27 #[.agg #[.int .i8 h.kind, .string h.name, .string h.arg, .int .i64 h.num, .int .i8 h.tk, .slice p.TA p.tn p.tc, .int .i8 h.uk, .slice p.UA p.un p.uc, .int .i64 h.label, .int .i64 h.pos, .slice p.A p.n p.c], .slice A bd.length c, .slice LA l.length lc] w (FrPost base LA (Tm.frT h (.node g0 k0 .nil) bd l) w) := by
  obtain ⟨b00, hb00⟩ : ∃ x, x = bd ++ [Tm.nm h.name] := ⟨_, rfl⟩
  obtain ⟨b01, hb01⟩ : ∃ x, x = b00 ++ [Tm.nm h.arg] := ⟨_, rfl⟩
  have hfr : Tm.frT h (.node g0 k0 .nil) bd l = (Tm.frT g0 k0 b01 l) := by
    have e : Tm.binds h 0 = [Tm.nm h.name, Tm.nm h.arg] := by unfold Tm.binds; rw [if_neg (by omega), if_neg (by omega), if_pos (by omega)]
    conv => lhs; unfold Tm.frT
    rw [if_neg (by omega), Tm.frG_node, e, hb01, hb00, List.append_assoc]
    rfl
  have x4 : (h.kind == 4) = false := by simp; omega
  have x5 : (h.kind == 5) = true := by simp; omega
  have x0 : (h.kind == 0) = false := by simp; omega
  have hlens : b01.length ≤ bd.length + 2 ∧ b00.length ≤ bd.length + 2 ∧ b01.length ≤ bd.length + 2 ∧ True := by
    subst_vars; simp
  have hll : (Tm.frT g0 k0 b01 l).length ≤ l.length + (Tm.nodes k0 + 1) ∧ True := ⟨Tm.frT_len _ _ _ _, trivial⟩
  rw [hfr]
  have HK0 := Lib.hid hK0
  have HS0 := Lib.hid (FS.start (.cells #[.int .i8 h.kind, .string h.name, .string h.arg, .int .i64 h.num, .int .i8 h.tk, .slice p.TA p.tn p.tc, .int .i8 h.uk, .slice p.UA p.un p.uc, .int .i64 h.label, .int .i64 h.pos, .slice p.A p.n p.c] 28) hbase hBR hLR)
  have HPA := Lib.hid hpA
  have HPN := Lib.hid hpn
  have HBS := Lib.hid hbase
  have HLL := Lib.hid hll
  have HLN := Lib.hid hlens
  have Hb00 := Lib.hid hb00
  have Hb01 := Lib.hid hb01
  clear hfr hlens hll hLR hBR h0 hpA hpn hbase hK0 hb00 hb01
  generalize p.A = PA at *
  generalize p.n = PN at *
  obtain rfl : PA = some ⟨bb, oo, none⟩ := HPA.out
  obtain rfl : PN = 1 := HPN.out
  generalize hw0 : w.alloc (.cells _ 28) = w0 at *
  have HW := Lib.hid hw0
  clear hw0
  go_enter Tryz.func27, Tryz.ntmps27
  go_upto_region 1 with fail
  rw [HW.out]
  obtain ⟨a0, a1, a2, a3, a4, a5, a6, a7, a8, a9, a10, al⟩ := own11 HS0.out.box
  obtain ⟨c0, c1, c2, c3, c4, c5, c6, c7, c8, c9, c10⟩ := Tm.row (HK0.out.rowAt HS0.out.low)
  go_wp2_with fail
  go_region_law (first
    | (go_simp; go_at_call 55; (with_reducible refine (HS0.out.drew.with h.name Hb00.out (by have := HLN.out; omega)).mono ?_); rintro e u1 ⟨gg1, gc1, rfl, hr, hg, hb⟩; have SW := Lib.hid (HS0.out.drew.later hb HBS.out); have RW := Lib.hid (HS0.out.drew.bound hr hg); obtain ⟨x0, x1, x2, x3, x4, x5, x6, x7, x8, x9, x10, xl⟩ := own11 SW.out.box; obtain ⟨d0, d1, d2, d3, d4, d5, d6, d7, d8, d9, d10⟩ := Tm.row (HK0.out.rowAt SW.out.low); clear hr hg hb; go_wp2_with fail)
    | (go_simp; go_at_call 55; (with_reducible refine (with_again RW.out h.arg Hb01.out (by have := HLN.out; omega)).mono ?_); rintro e u2 ⟨gg2, gc2, rfl, hr, hg, hb⟩; have SW2 := Lib.hid (SW.out.later hb HBS.out); have RW2 := Lib.hid (SW.out.bound hr hg); obtain ⟨y0, y1, y2, y3, y4, y5, y6, y7, y8, y9, y10, yl⟩ := own11 SW2.out.box; obtain ⟨e0, e1, e2, e3, e4, e5, e6, e7, e8, e9, e10⟩ := Tm.row (HK0.out.rowAt SW2.out.low); clear hr hg hb; go_wp2_with fail)
    | (go_simp; go_at_call 27; (with_reducible refine (HK0.out.call _ _ _ _ _ _ _ SW2.out.low RW2.out SW2.out.lr (by have := HLN.out; omega) (by have := HLL.out; omega)).mono ?_); rintro e v0 ⟨LB0, lb0, rfl, hL, hg, hu⟩; have HS1 := Lib.hid (SW2.out.next HBS.out hL hg hu); clear hL hg hu; go_wp2_with fail))
  all_goals
    go_wp2_with fail
    go_ret
    exact HS1.out.post
end Go.Proofs.YtemdgpihifigoaaGreatDoor
