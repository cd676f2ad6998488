/-
  Layer 9: typeOf of the kinds that one call tells; tell.
-/
import Derived.Test.YtknhoagicdfikaaGreatDoorCk21
import Derived.Test.YtknhoagicdfikaaGreatDoorCk16
import Derived.Test.YtknhoagicdfikaaGreatDoorCk17
import Derived.Test.YtknhoagicdfikaaGreatDoorCk18
import Derived.Test.YtknhoagicdfikaaGreatDoorCk19
namespace Go.Proofs.YtknhoagicdfikaaGreatDoor
open Go.RowKit
set_option maxHeartbeats 1000000 in
set_option maxRecDepth 100000 in
theorem cktype_var (rv : Cg.Rv) (Q : Nat → Prop) (h : Hd) (p : Pl) (A : Option Addr) (n c : Nat) (w : World) (R : Ck.R) (hk : h.kind = 0)
    (hC : ∀ w1 : World, Below w.heap.size w w1 → w.heap.size + 3 ≤ w1.heap.size → Calls Tryz.prog 70 #[.agg #[.int .i8 h.kind, .string h.name, .string h.arg, .int .i64 h.num, .int .i8 h.tk, .slice p.TA p.tn p.tc, .int .i8 h.uk, .slice p.UA p.un p.uc, .int .i64 h.label, .int .i64 h.pos, .slice p.A p.n p.c], .slice A n c] w1 (Ck.Post (Ck.Cut Q w.heap.size (w.heap.size + 3)) w1 R)) :
    Calls Tryz.prog 49 #[.agg #[.func (Fn.func rv.fr) #[] rv.cpt, .func (Fn.func rv.fa) #[] #[], .func (Fn.func rv.fm) #[] #[], .func (Fn.func rv.ft) #[] #[], rv.vg], .agg #[.int .i8 h.kind, .string h.name, .string h.arg, .int .i64 h.num, .int .i8 h.tk, .slice p.TA p.tn p.tc, .int .i8 h.uk, .slice p.UA p.un p.uc, .int .i64 h.label, .int .i64 h.pos, .slice p.A p.n p.c], .slice A n c] w (Ck.Post Q w R) := by
  obtain ⟨w1, hw1, hB3, x0, x1, x2, hz⟩ := boxes3 w (.cells #[.func (Fn.func rv.fr) #[] rv.cpt, .func (Fn.func rv.fa) #[] #[], .func (Fn.func rv.fm) #[] #[], .func (Fn.func rv.ft) #[] #[], rv.vg] 47) (.cells #[.int .i8 h.kind, .string h.name, .string h.arg, .int .i64 h.num, .int .i8 h.tk, .slice p.TA p.tn p.tc, .int .i8 h.uk, .slice p.UA p.un p.uc, .int .i64 h.label, .int .i64 h.pos, .slice p.A p.n p.c] 28) (.cells #[.int .i8 0, .slice none 0 0] 25)
  have HW1 := Lib.hid hw1
  have H0 := Lib.hid x0
  have H1 := Lib.hid x1
  have H2 := Lib.hid x2
  have HZ := Lib.hid hz
  have HB3 := Lib.hid hB3
  have CC := Lib.hid (hC w1 hB3 (by omega))
  try rw [hk] at CC
  have HKK := Lib.hid hk
  clear x0 x1 x2 hz hB3 hC hk
  go_enter Tryz.func49, Tryz.ntmps49
  go_upto_region 1 with fail
  rw [← HW1.out]
  clear hw1
  obtain ⟨r0, r1, r2, r3, r4, -, -, -, -, -, rl⟩ := own5 H0.out
  obtain ⟨q0, q1, q2, q3, q4, q5, q6, q7, q8, q9, q10, ql⟩ := own11 H1.out
  rw [HKK.out] at q0
  go_wp2_with fail
  refine CC.out.mono ?_
  rintro e w5 hg
  rcases Ck.Post.split hg with ⟨E, pp, x, hr1, hg⟩ | ⟨t1, hr1, hg⟩
  · have HP : Ck.Post Q w R e w5 := by rw [hr1]; exact Ck.Gave.from hg HB3.out
    obtain ⟨g, rfl, -⟩ := hg
    clear hr1 r0 r1 r2 r3 r4 rl q0 q1 q2 q3 q4 q5 q6 q7 q8 q9 q10 ql
    go_wp2_with fail
    exact ⟨rfl, HP⟩
  · obtain ⟨G, m, cg, rfl, hl, hb⟩ := hg
    have HL := Lib.hid hl
    have HB := Lib.hid hb
    have H5 := Lib.hid (heap_below hb (heap_lt H2.out) H2.out)
    have hzz := HZ.out
    clear hl hb hg r0 r1 r2 r3 r4 rl q0 q1 q2 q3 q4 q5 q6 q7 q8 q9 q10 ql
    obtain ⟨y0, y1, f0, f1, yl⟩ := own2 H5.out
    go_wp2_with fail
    have z3 := set_two H5.out (.int .i8 t1.1) (.slice G m cg)
    obtain ⟨k0, k1, -, -, -⟩ := own2 z3
    refine bodyPost_ret (v := .agg #[.int .i8 t1.1, .slice G m cg]) (by simp [results, Tryz.results49, go_sem, k0, k1]) rfl ?_
    rw [hr1]
    exact ⟨G, m, cg, rfl, (HL.out.set2 (fun b hq => (Ck.Cut.in (by omega) hq).ne (by omega) (by omega)) _ _).weak (fun b _ hq => (Ck.Cut.in (by omega) hq).out (by omega)), below_set2 (HB3.out.trans (HB.out.mono HB3.out.size)) (by omega) _ _⟩

set_option maxHeartbeats 1000000 in
set_option maxRecDepth 100000 in
theorem cktype_num (rv : Cg.Rv) (Q : Nat → Prop) (h : Hd) (p : Pl) (A : Option Addr) (n c : Nat) (w : World) (R : Ck.R) (hk : h.kind = 1)
    (hC : ∀ w1 : World, Below w.heap.size w w1 → w.heap.size + 3 ≤ w1.heap.size → Calls Tryz.prog 71 #[.int .i8 1, .slice none 0 0] w1 (Ck.Post (Ck.Cut Q w.heap.size (w.heap.size + 3)) w1 R)) :
    Calls Tryz.prog 49 #[.agg #[.func (Fn.func rv.fr) #[] rv.cpt, .func (Fn.func rv.fa) #[] #[], .func (Fn.func rv.fm) #[] #[], .func (Fn.func rv.ft) #[] #[], rv.vg], .agg #[.int .i8 h.kind, .string h.name, .string h.arg, .int .i64 h.num, .int .i8 h.tk, .slice p.TA p.tn p.tc, .int .i8 h.uk, .slice p.UA p.un p.uc, .int .i64 h.label, .int .i64 h.pos, .slice p.A p.n p.c], .slice A n c] w (Ck.Post Q w R) := by
  obtain ⟨w1, hw1, hB3, x0, x1, x2, hz⟩ := boxes3 w (.cells #[.func (Fn.func rv.fr) #[] rv.cpt, .func (Fn.func rv.fa) #[] #[], .func (Fn.func rv.fm) #[] #[], .func (Fn.func rv.ft) #[] #[], rv.vg] 47) (.cells #[.int .i8 h.kind, .string h.name, .string h.arg, .int .i64 h.num, .int .i8 h.tk, .slice p.TA p.tn p.tc, .int .i8 h.uk, .slice p.UA p.un p.uc, .int .i64 h.label, .int .i64 h.pos, .slice p.A p.n p.c] 28) (.cells #[.int .i8 0, .slice none 0 0] 25)
  have HW1 := Lib.hid hw1
  have H0 := Lib.hid x0
  have H1 := Lib.hid x1
  have H2 := Lib.hid x2
  have HZ := Lib.hid hz
  have HB3 := Lib.hid hB3
  have CC := Lib.hid (hC w1 hB3 (by omega))
  try rw [hk] at CC
  have HKK := Lib.hid hk
  clear x0 x1 x2 hz hB3 hC hk
  go_enter Tryz.func49, Tryz.ntmps49
  go_upto_region 1 with fail
  rw [← HW1.out]
  clear hw1
  obtain ⟨r0, r1, r2, r3, r4, -, -, -, -, -, rl⟩ := own5 H0.out
  obtain ⟨q0, q1, q2, q3, q4, q5, q6, q7, q8, q9, q10, ql⟩ := own11 H1.out
  rw [HKK.out] at q0
  go_wp2_with fail
  refine CC.out.mono ?_
  rintro e w5 hg
  rcases Ck.Post.split hg with ⟨E, pp, x, hr1, hg⟩ | ⟨t1, hr1, hg⟩
  · have HP : Ck.Post Q w R e w5 := by rw [hr1]; exact Ck.Gave.from hg HB3.out
    obtain ⟨g, rfl, -⟩ := hg
    clear hr1 r0 r1 r2 r3 r4 rl q0 q1 q2 q3 q4 q5 q6 q7 q8 q9 q10 ql
    go_wp2_with fail
    exact ⟨rfl, HP⟩
  · obtain ⟨G, m, cg, rfl, hl, hb⟩ := hg
    have HL := Lib.hid hl
    have HB := Lib.hid hb
    have H5 := Lib.hid (heap_below hb (heap_lt H2.out) H2.out)
    have hzz := HZ.out
    clear hl hb hg r0 r1 r2 r3 r4 rl q0 q1 q2 q3 q4 q5 q6 q7 q8 q9 q10 ql
    obtain ⟨y0, y1, f0, f1, yl⟩ := own2 H5.out
    go_wp2_with fail
    have z3 := set_two H5.out (.int .i8 t1.1) (.slice G m cg)
    obtain ⟨k0, k1, -, -, -⟩ := own2 z3
    refine bodyPost_ret (v := .agg #[.int .i8 t1.1, .slice G m cg]) (by simp [results, Tryz.results49, go_sem, k0, k1]) rfl ?_
    rw [hr1]
    exact ⟨G, m, cg, rfl, (HL.out.set2 (fun b hq => (Ck.Cut.in (by omega) hq).ne (by omega) (by omega)) _ _).weak (fun b _ hq => (Ck.Cut.in (by omega) hq).out (by omega)), below_set2 (HB3.out.trans (HB.out.mono HB3.out.size)) (by omega) _ _⟩

set_option maxHeartbeats 1000000 in
set_option maxRecDepth 100000 in
theorem cktype_yes (rv : Cg.Rv) (Q : Nat → Prop) (h : Hd) (p : Pl) (A : Option Addr) (n c : Nat) (w : World) (R : Ck.R) (hk : h.kind = 2)
    (hC : ∀ w1 : World, Below w.heap.size w w1 → w.heap.size + 3 ≤ w1.heap.size → Calls Tryz.prog 71 #[.int .i8 2, .slice none 0 0] w1 (Ck.Post (Ck.Cut Q w.heap.size (w.heap.size + 3)) w1 R)) :
    Calls Tryz.prog 49 #[.agg #[.func (Fn.func rv.fr) #[] rv.cpt, .func (Fn.func rv.fa) #[] #[], .func (Fn.func rv.fm) #[] #[], .func (Fn.func rv.ft) #[] #[], rv.vg], .agg #[.int .i8 h.kind, .string h.name, .string h.arg, .int .i64 h.num, .int .i8 h.tk, .slice p.TA p.tn p.tc, .int .i8 h.uk, .slice p.UA p.un p.uc, .int .i64 h.label, .int .i64 h.pos, .slice p.A p.n p.c], .slice A n c] w (Ck.Post Q w R) := by
  obtain ⟨w1, hw1, hB3, x0, x1, x2, hz⟩ := boxes3 w (.cells #[.func (Fn.func rv.fr) #[] rv.cpt, .func (Fn.func rv.fa) #[] #[], .func (Fn.func rv.fm) #[] #[], .func (Fn.func rv.ft) #[] #[], rv.vg] 47) (.cells #[.int .i8 h.kind, .string h.name, .string h.arg, .int .i64 h.num, .int .i8 h.tk, .slice p.TA p.tn p.tc, .int .i8 h.uk, .slice p.UA p.un p.uc, .int .i64 h.label, .int .i64 h.pos, .slice p.A p.n p.c] 28) (.cells #[.int .i8 0, .slice none 0 0] 25)
  have HW1 := Lib.hid hw1
  have H0 := Lib.hid x0
  have H1 := Lib.hid x1
  have H2 := Lib.hid x2
  have HZ := Lib.hid hz
  have HB3 := Lib.hid hB3
  have CC := Lib.hid (hC w1 hB3 (by omega))
  try rw [hk] at CC
  have HKK := Lib.hid hk
  clear x0 x1 x2 hz hB3 hC hk
  go_enter Tryz.func49, Tryz.ntmps49
  go_upto_region 1 with fail
  rw [← HW1.out]
  clear hw1
  obtain ⟨r0, r1, r2, r3, r4, -, -, -, -, -, rl⟩ := own5 H0.out
  obtain ⟨q0, q1, q2, q3, q4, q5, q6, q7, q8, q9, q10, ql⟩ := own11 H1.out
  rw [HKK.out] at q0
  go_wp2_with fail
  refine CC.out.mono ?_
  rintro e w5 hg
  rcases Ck.Post.split hg with ⟨E, pp, x, hr1, hg⟩ | ⟨t1, hr1, hg⟩
  · have HP : Ck.Post Q w R e w5 := by rw [hr1]; exact Ck.Gave.from hg HB3.out
    obtain ⟨g, rfl, -⟩ := hg
    clear hr1 r0 r1 r2 r3 r4 rl q0 q1 q2 q3 q4 q5 q6 q7 q8 q9 q10 ql
    go_wp2_with fail
    exact ⟨rfl, HP⟩
  · obtain ⟨G, m, cg, rfl, hl, hb⟩ := hg
    have HL := Lib.hid hl
    have HB := Lib.hid hb
    have H5 := Lib.hid (heap_below hb (heap_lt H2.out) H2.out)
    have hzz := HZ.out
    clear hl hb hg r0 r1 r2 r3 r4 rl q0 q1 q2 q3 q4 q5 q6 q7 q8 q9 q10 ql
    obtain ⟨y0, y1, f0, f1, yl⟩ := own2 H5.out
    go_wp2_with fail
    have z3 := set_two H5.out (.int .i8 t1.1) (.slice G m cg)
    obtain ⟨k0, k1, -, -, -⟩ := own2 z3
    refine bodyPost_ret (v := .agg #[.int .i8 t1.1, .slice G m cg]) (by simp [results, Tryz.results49, go_sem, k0, k1]) rfl ?_
    rw [hr1]
    exact ⟨G, m, cg, rfl, (HL.out.set2 (fun b hq => (Ck.Cut.in (by omega) hq).ne (by omega) (by omega)) _ _).weak (fun b _ hq => (Ck.Cut.in (by omega) hq).out (by omega)), below_set2 (HB3.out.trans (HB.out.mono HB3.out.size)) (by omega) _ _⟩

set_option maxHeartbeats 1000000 in
set_option maxRecDepth 100000 in
theorem cktype_no (rv : Cg.Rv) (Q : Nat → Prop) (h : Hd) (p : Pl) (A : Option Addr) (n c : Nat) (w : World) (R : Ck.R) (hk : h.kind = 3)
    (hC : ∀ w1 : World, Below w.heap.size w w1 → w.heap.size + 3 ≤ w1.heap.size → Calls Tryz.prog 71 #[.int .i8 2, .slice none 0 0] w1 (Ck.Post (Ck.Cut Q w.heap.size (w.heap.size + 3)) w1 R)) :
    Calls Tryz.prog 49 #[.agg #[.func (Fn.func rv.fr) #[] rv.cpt, .func (Fn.func rv.fa) #[] #[], .func (Fn.func rv.fm) #[] #[], .func (Fn.func rv.ft) #[] #[], rv.vg], .agg #[.int .i8 h.kind, .string h.name, .string h.arg, .int .i64 h.num, .int .i8 h.tk, .slice p.TA p.tn p.tc, .int .i8 h.uk, .slice p.UA p.un p.uc, .int .i64 h.label, .int .i64 h.pos, .slice p.A p.n p.c], .slice A n c] w (Ck.Post Q w R) := by
  obtain ⟨w1, hw1, hB3, x0, x1, x2, hz⟩ := boxes3 w (.cells #[.func (Fn.func rv.fr) #[] rv.cpt, .func (Fn.func rv.fa) #[] #[], .func (Fn.func rv.fm) #[] #[], .func (Fn.func rv.ft) #[] #[], rv.vg] 47) (.cells #[.int .i8 h.kind, .string h.name, .string h.arg, .int .i64 h.num, .int .i8 h.tk, .slice p.TA p.tn p.tc, .int .i8 h.uk, .slice p.UA p.un p.uc, .int .i64 h.label, .int .i64 h.pos, .slice p.A p.n p.c] 28) (.cells #[.int .i8 0, .slice none 0 0] 25)
  have HW1 := Lib.hid hw1
  have H0 := Lib.hid x0
  have H1 := Lib.hid x1
  have H2 := Lib.hid x2
  have HZ := Lib.hid hz
  have HB3 := Lib.hid hB3
  have CC := Lib.hid (hC w1 hB3 (by omega))
  try rw [hk] at CC
  have HKK := Lib.hid hk
  clear x0 x1 x2 hz hB3 hC hk
  go_enter Tryz.func49, Tryz.ntmps49
  go_upto_region 1 with fail
  rw [← HW1.out]
  clear hw1
  obtain ⟨r0, r1, r2, r3, r4, -, -, -, -, -, rl⟩ := own5 H0.out
  obtain ⟨q0, q1, q2, q3, q4, q5, q6, q7, q8, q9, q10, ql⟩ := own11 H1.out
  rw [HKK.out] at q0
  go_wp2_with fail
  refine CC.out.mono ?_
  rintro e w5 hg
  rcases Ck.Post.split hg with ⟨E, pp, x, hr1, hg⟩ | ⟨t1, hr1, hg⟩
  · have HP : Ck.Post Q w R e w5 := by rw [hr1]; exact Ck.Gave.from hg HB3.out
    obtain ⟨g, rfl, -⟩ := hg
    clear hr1 r0 r1 r2 r3 r4 rl q0 q1 q2 q3 q4 q5 q6 q7 q8 q9 q10 ql
    go_wp2_with fail
    exact ⟨rfl, HP⟩
  · obtain ⟨G, m, cg, rfl, hl, hb⟩ := hg
    have HL := Lib.hid hl
    have HB := Lib.hid hb
    have H5 := Lib.hid (heap_below hb (heap_lt H2.out) H2.out)
    have hzz := HZ.out
    clear hl hb hg r0 r1 r2 r3 r4 rl q0 q1 q2 q3 q4 q5 q6 q7 q8 q9 q10 ql
    obtain ⟨y0, y1, f0, f1, yl⟩ := own2 H5.out
    go_wp2_with fail
    have z3 := set_two H5.out (.int .i8 t1.1) (.slice G m cg)
    obtain ⟨k0, k1, -, -, -⟩ := own2 z3
    refine bodyPost_ret (v := .agg #[.int .i8 t1.1, .slice G m cg]) (by simp [results, Tryz.results49, go_sem, k0, k1]) rfl ?_
    rw [hr1]
    exact ⟨G, m, cg, rfl, (HL.out.set2 (fun b hq => (Ck.Cut.in (by omega) hq).ne (by omega) (by omega)) _ _).weak (fun b _ hq => (Ck.Cut.in (by omega) hq).out (by omega)), below_set2 (HB3.out.trans (HB.out.mono HB3.out.size)) (by omega) _ _⟩

set_option maxHeartbeats 1000000 in
set_option maxRecDepth 100000 in
theorem cktype_rec (rv : Cg.Rv) (Q : Nat → Prop) (h : Hd) (p : Pl) (A : Option Addr) (n c : Nat) (w : World) (R : Ck.R) (hk : h.kind = 5)
    (hC : ∀ w1 : World, Below w.heap.size w w1 → w.heap.size + 3 ≤ w1.heap.size → Calls Tryz.prog 74 #[.agg #[.func (Fn.func rv.fr) #[] rv.cpt, .func (Fn.func rv.fa) #[] #[], .func (Fn.func rv.fm) #[] #[], .func (Fn.func rv.ft) #[] #[], rv.vg], .agg #[.int .i8 h.kind, .string h.name, .string h.arg, .int .i64 h.num, .int .i8 h.tk, .slice p.TA p.tn p.tc, .int .i8 h.uk, .slice p.UA p.un p.uc, .int .i64 h.label, .int .i64 h.pos, .slice p.A p.n p.c], .slice A n c] w1 (Ck.Post (Ck.Cut Q w.heap.size (w.heap.size + 3)) w1 R)) :
    Calls Tryz.prog 49 #[.agg #[.func (Fn.func rv.fr) #[] rv.cpt, .func (Fn.func rv.fa) #[] #[], .func (Fn.func rv.fm) #[] #[], .func (Fn.func rv.ft) #[] #[], rv.vg], .agg #[.int .i8 h.kind, .string h.name, .string h.arg, .int .i64 h.num, .int .i8 h.tk, .slice p.TA p.tn p.tc, .int .i8 h.uk, .slice p.UA p.un p.uc, .int .i64 h.label, .int .i64 h.pos, .slice p.A p.n p.c], .slice A n c] w (Ck.Post Q w R) := by
  obtain ⟨w1, hw1, hB3, x0, x1, x2, hz⟩ := boxes3 w (.cells #[.func (Fn.func rv.fr) #[] rv.cpt, .func (Fn.func rv.fa) #[] #[], .func (Fn.func rv.fm) #[] #[], .func (Fn.func rv.ft) #[] #[], rv.vg] 47) (.cells #[.int .i8 h.kind, .string h.name, .string h.arg, .int .i64 h.num, .int .i8 h.tk, .slice p.TA p.tn p.tc, .int .i8 h.uk, .slice p.UA p.un p.uc, .int .i64 h.label, .int .i64 h.pos, .slice p.A p.n p.c] 28) (.cells #[.int .i8 0, .slice none 0 0] 25)
  have HW1 := Lib.hid hw1
  have H0 := Lib.hid x0
  have H1 := Lib.hid x1
  have H2 := Lib.hid x2
  have HZ := Lib.hid hz
  have HB3 := Lib.hid hB3
  have CC := Lib.hid (hC w1 hB3 (by omega))
  try rw [hk] at CC
  have HKK := Lib.hid hk
  clear x0 x1 x2 hz hB3 hC hk
  go_enter Tryz.func49, Tryz.ntmps49
  go_upto_region 1 with fail
  rw [← HW1.out]
  clear hw1
  obtain ⟨r0, r1, r2, r3, r4, -, -, -, -, -, rl⟩ := own5 H0.out
  obtain ⟨q0, q1, q2, q3, q4, q5, q6, q7, q8, q9, q10, ql⟩ := own11 H1.out
  rw [HKK.out] at q0
  go_wp2_with fail
  refine CC.out.mono ?_
  rintro e w5 hg
  rcases Ck.Post.split hg with ⟨E, pp, x, hr1, hg⟩ | ⟨t1, hr1, hg⟩
  · have HP : Ck.Post Q w R e w5 := by rw [hr1]; exact Ck.Gave.from hg HB3.out
    obtain ⟨g, rfl, -⟩ := hg
    clear hr1 r0 r1 r2 r3 r4 rl q0 q1 q2 q3 q4 q5 q6 q7 q8 q9 q10 ql
    go_wp2_with fail
    exact ⟨rfl, HP⟩
  · obtain ⟨G, m, cg, rfl, hl, hb⟩ := hg
    have HL := Lib.hid hl
    have HB := Lib.hid hb
    have H5 := Lib.hid (heap_below hb (heap_lt H2.out) H2.out)
    have hzz := HZ.out
    clear hl hb hg r0 r1 r2 r3 r4 rl q0 q1 q2 q3 q4 q5 q6 q7 q8 q9 q10 ql
    obtain ⟨y0, y1, f0, f1, yl⟩ := own2 H5.out
    go_wp2_with fail
    have z3 := set_two H5.out (.int .i8 t1.1) (.slice G m cg)
    obtain ⟨k0, k1, -, -, -⟩ := own2 z3
    refine bodyPost_ret (v := .agg #[.int .i8 t1.1, .slice G m cg]) (by simp [results, Tryz.results49, go_sem, k0, k1]) rfl ?_
    rw [hr1]
    exact ⟨G, m, cg, rfl, (HL.out.set2 (fun b hq => (Ck.Cut.in (by omega) hq).ne (by omega) (by omega)) _ _).weak (fun b _ hq => (Ck.Cut.in (by omega) hq).out (by omega)), below_set2 (HB3.out.trans (HB.out.mono HB3.out.size)) (by omega) _ _⟩

set_option maxHeartbeats 1000000 in
set_option maxRecDepth 100000 in
theorem cktype_let (rv : Cg.Rv) (Q : Nat → Prop) (h : Hd) (p : Pl) (A : Option Addr) (n c : Nat) (w : World) (R : Ck.R) (hk : h.kind = 7)
    (hC : ∀ w1 : World, Below w.heap.size w w1 → w.heap.size + 3 ≤ w1.heap.size → Calls Tryz.prog 75 #[.agg #[.func (Fn.func rv.fr) #[] rv.cpt, .func (Fn.func rv.fa) #[] #[], .func (Fn.func rv.fm) #[] #[], .func (Fn.func rv.ft) #[] #[], rv.vg], .agg #[.int .i8 h.kind, .string h.name, .string h.arg, .int .i64 h.num, .int .i8 h.tk, .slice p.TA p.tn p.tc, .int .i8 h.uk, .slice p.UA p.un p.uc, .int .i64 h.label, .int .i64 h.pos, .slice p.A p.n p.c], .slice A n c] w1 (Ck.Post (Ck.Cut Q w.heap.size (w.heap.size + 3)) w1 R)) :
    Calls Tryz.prog 49 #[.agg #[.func (Fn.func rv.fr) #[] rv.cpt, .func (Fn.func rv.fa) #[] #[], .func (Fn.func rv.fm) #[] #[], .func (Fn.func rv.ft) #[] #[], rv.vg], .agg #[.int .i8 h.kind, .string h.name, .string h.arg, .int .i64 h.num, .int .i8 h.tk, .slice p.TA p.tn p.tc, .int .i8 h.uk, .slice p.UA p.un p.uc, .int .i64 h.label, .int .i64 h.pos, .slice p.A p.n p.c], .slice A n c] w (Ck.Post Q w R) := by
  obtain ⟨w1, hw1, hB3, x0, x1, x2, hz⟩ := boxes3 w (.cells #[.func (Fn.func rv.fr) #[] rv.cpt, .func (Fn.func rv.fa) #[] #[], .func (Fn.func rv.fm) #[] #[], .func (Fn.func rv.ft) #[] #[], rv.vg] 47) (.cells #[.int .i8 h.kind, .string h.name, .string h.arg, .int .i64 h.num, .int .i8 h.tk, .slice p.TA p.tn p.tc, .int .i8 h.uk, .slice p.UA p.un p.uc, .int .i64 h.label, .int .i64 h.pos, .slice p.A p.n p.c] 28) (.cells #[.int .i8 0, .slice none 0 0] 25)
  have HW1 := Lib.hid hw1
  have H0 := Lib.hid x0
  have H1 := Lib.hid x1
  have H2 := Lib.hid x2
  have HZ := Lib.hid hz
  have HB3 := Lib.hid hB3
  have CC := Lib.hid (hC w1 hB3 (by omega))
  try rw [hk] at CC
  have HKK := Lib.hid hk
  clear x0 x1 x2 hz hB3 hC hk
  go_enter Tryz.func49, Tryz.ntmps49
  go_upto_region 1 with fail
  rw [← HW1.out]
  clear hw1
  obtain ⟨r0, r1, r2, r3, r4, -, -, -, -, -, rl⟩ := own5 H0.out
  obtain ⟨q0, q1, q2, q3, q4, q5, q6, q7, q8, q9, q10, ql⟩ := own11 H1.out
  rw [HKK.out] at q0
  go_wp2_with fail
  refine CC.out.mono ?_
  rintro e w5 hg
  rcases Ck.Post.split hg with ⟨E, pp, x, hr1, hg⟩ | ⟨t1, hr1, hg⟩
  · have HP : Ck.Post Q w R e w5 := by rw [hr1]; exact Ck.Gave.from hg HB3.out
    obtain ⟨g, rfl, -⟩ := hg
    clear hr1 r0 r1 r2 r3 r4 rl q0 q1 q2 q3 q4 q5 q6 q7 q8 q9 q10 ql
    go_wp2_with fail
    exact ⟨rfl, HP⟩
  · obtain ⟨G, m, cg, rfl, hl, hb⟩ := hg
    have HL := Lib.hid hl
    have HB := Lib.hid hb
    have H5 := Lib.hid (heap_below hb (heap_lt H2.out) H2.out)
    have hzz := HZ.out
    clear hl hb hg r0 r1 r2 r3 r4 rl q0 q1 q2 q3 q4 q5 q6 q7 q8 q9 q10 ql
    obtain ⟨y0, y1, f0, f1, yl⟩ := own2 H5.out
    go_wp2_with fail
    have z3 := set_two H5.out (.int .i8 t1.1) (.slice G m cg)
    obtain ⟨k0, k1, -, -, -⟩ := own2 z3
    refine bodyPost_ret (v := .agg #[.int .i8 t1.1, .slice G m cg]) (by simp [results, Tryz.results49, go_sem, k0, k1]) rfl ?_
    rw [hr1]
    exact ⟨G, m, cg, rfl, (HL.out.set2 (fun b hq => (Ck.Cut.in (by omega) hq).ne (by omega) (by omega)) _ _).weak (fun b _ hq => (Ck.Cut.in (by omega) hq).out (by omega)), below_set2 (HB3.out.trans (HB.out.mono HB3.out.size)) (by omega) _ _⟩

set_option maxHeartbeats 1000000 in
set_option maxRecDepth 100000 in
theorem cktype_case (rv : Cg.Rv) (Q : Nat → Prop) (h : Hd) (p : Pl) (A : Option Addr) (n c : Nat) (w : World) (R : Ck.R) (hk : h.kind = 14)
    (hC : ∀ w1 : World, Below w.heap.size w w1 → w.heap.size + 3 ≤ w1.heap.size → Calls Tryz.prog 76 #[.agg #[.func (Fn.func rv.fr) #[] rv.cpt, .func (Fn.func rv.fa) #[] #[], .func (Fn.func rv.fm) #[] #[], .func (Fn.func rv.ft) #[] #[], rv.vg], .agg #[.int .i8 h.kind, .string h.name, .string h.arg, .int .i64 h.num, .int .i8 h.tk, .slice p.TA p.tn p.tc, .int .i8 h.uk, .slice p.UA p.un p.uc, .int .i64 h.label, .int .i64 h.pos, .slice p.A p.n p.c], .slice A n c] w1 (Ck.Post (Ck.Cut Q w.heap.size (w.heap.size + 3)) w1 R)) :
    Calls Tryz.prog 49 #[.agg #[.func (Fn.func rv.fr) #[] rv.cpt, .func (Fn.func rv.fa) #[] #[], .func (Fn.func rv.fm) #[] #[], .func (Fn.func rv.ft) #[] #[], rv.vg], .agg #[.int .i8 h.kind, .string h.name, .string h.arg, .int .i64 h.num, .int .i8 h.tk, .slice p.TA p.tn p.tc, .int .i8 h.uk, .slice p.UA p.un p.uc, .int .i64 h.label, .int .i64 h.pos, .slice p.A p.n p.c], .slice A n c] w (Ck.Post Q w R) := by
  obtain ⟨w1, hw1, hB3, x0, x1, x2, hz⟩ := boxes3 w (.cells #[.func (Fn.func rv.fr) #[] rv.cpt, .func (Fn.func rv.fa) #[] #[], .func (Fn.func rv.fm) #[] #[], .func (Fn.func rv.ft) #[] #[], rv.vg] 47) (.cells #[.int .i8 h.kind, .string h.name, .string h.arg, .int .i64 h.num, .int .i8 h.tk, .slice p.TA p.tn p.tc, .int .i8 h.uk, .slice p.UA p.un p.uc, .int .i64 h.label, .int .i64 h.pos, .slice p.A p.n p.c] 28) (.cells #[.int .i8 0, .slice none 0 0] 25)
  have HW1 := Lib.hid hw1
  have H0 := Lib.hid x0
  have H1 := Lib.hid x1
  have H2 := Lib.hid x2
  have HZ := Lib.hid hz
  have HB3 := Lib.hid hB3
  have CC := Lib.hid (hC w1 hB3 (by omega))
  try rw [hk] at CC
  have HKK := Lib.hid hk
  clear x0 x1 x2 hz hB3 hC hk
  go_enter Tryz.func49, Tryz.ntmps49
  go_upto_region 1 with fail
  rw [← HW1.out]
  clear hw1
  obtain ⟨r0, r1, r2, r3, r4, -, -, -, -, -, rl⟩ := own5 H0.out
  obtain ⟨q0, q1, q2, q3, q4, q5, q6, q7, q8, q9, q10, ql⟩ := own11 H1.out
  rw [HKK.out] at q0
  go_wp2_with fail
  refine CC.out.mono ?_
  rintro e w5 hg
  rcases Ck.Post.split hg with ⟨E, pp, x, hr1, hg⟩ | ⟨t1, hr1, hg⟩
  · have HP : Ck.Post Q w R e w5 := by rw [hr1]; exact Ck.Gave.from hg HB3.out
    obtain ⟨g, rfl, -⟩ := hg
    clear hr1 r0 r1 r2 r3 r4 rl q0 q1 q2 q3 q4 q5 q6 q7 q8 q9 q10 ql
    go_wp2_with fail
    exact ⟨rfl, HP⟩
  · obtain ⟨G, m, cg, rfl, hl, hb⟩ := hg
    have HL := Lib.hid hl
    have HB := Lib.hid hb
    have H5 := Lib.hid (heap_below hb (heap_lt H2.out) H2.out)
    have hzz := HZ.out
    clear hl hb hg r0 r1 r2 r3 r4 rl q0 q1 q2 q3 q4 q5 q6 q7 q8 q9 q10 ql
    obtain ⟨y0, y1, f0, f1, yl⟩ := own2 H5.out
    go_wp2_with fail
    have z3 := set_two H5.out (.int .i8 t1.1) (.slice G m cg)
    obtain ⟨k0, k1, -, -, -⟩ := own2 z3
    refine bodyPost_ret (v := .agg #[.int .i8 t1.1, .slice G m cg]) (by simp [results, Tryz.results49, go_sem, k0, k1]) rfl ?_
    rw [hr1]
    exact ⟨G, m, cg, rfl, (HL.out.set2 (fun b hq => (Ck.Cut.in (by omega) hq).ne (by omega) (by omega)) _ _).weak (fun b _ hq => (Ck.Cut.in (by omega) hq).out (by omega)), below_set2 (HB3.out.trans (HB.out.mono HB3.out.size)) (by omega) _ _⟩

set_option maxHeartbeats 1000000 in
set_option maxRecDepth 100000 in
/-- tell, given what typeOf tells -/
theorem cktell_of (rv : Cg.Rv) (Q : Nat → Prop) (h : Hd) (p : Pl) (A : Option Addr) (n c : Nat) (w : World) (R : Ck.R) (hS : Shapes w)
    (hC : ∀ w1 : World, Below w.heap.size w w1 → w.heap.size + 3 ≤ w1.heap.size → Calls Tryz.prog 49 #[.agg #[.func (Fn.func rv.fr) #[] rv.cpt, .func (Fn.func rv.fa) #[] #[], .func (Fn.func rv.fm) #[] #[], .func (Fn.func rv.ft) #[] #[], rv.vg], .agg #[.int .i8 h.kind, .string h.name, .string h.arg, .int .i64 h.num, .int .i8 h.tk, .slice p.TA p.tn p.tc, .int .i8 h.uk, .slice p.UA p.un p.uc, .int .i64 h.label, .int .i64 h.pos, .slice p.A p.n p.c], .slice A n c] w1 (Ck.Post (Ck.Cut Q w.heap.size (w.heap.size + 3)) w1 R)) :
    Calls Tryz.prog 28 #[.agg #[.func (Fn.func rv.fr) #[] rv.cpt, .func (Fn.func rv.fa) #[] #[], .func (Fn.func rv.fm) #[] #[], .func (Fn.func rv.ft) #[] #[], rv.vg], .agg #[.int .i8 h.kind, .string h.name, .string h.arg, .int .i64 h.num, .int .i8 h.tk, .slice p.TA p.tn p.tc, .int .i8 h.uk, .slice p.UA p.un p.uc, .int .i64 h.label, .int .i64 h.pos, .slice p.A p.n p.c], .slice A n c] w (Ck.Post Q w (Ck.lift h R)) := by
  obtain ⟨w1, hw1, hB3, x0, x1, x2, hz⟩ := boxes3 w (.cells #[.func (Fn.func rv.fr) #[] rv.cpt, .func (Fn.func rv.fa) #[] #[], .func (Fn.func rv.fm) #[] #[], .func (Fn.func rv.ft) #[] #[], rv.vg] 47) (.cells #[.int .i8 h.kind, .string h.name, .string h.arg, .int .i64 h.num, .int .i8 h.tk, .slice p.TA p.tn p.tc, .int .i8 h.uk, .slice p.UA p.un p.uc, .int .i64 h.label, .int .i64 h.pos, .slice p.A p.n p.c] 28) (.cells #[.int .i8 0, .slice none 0 0] 25)
  have HW1 := Lib.hid hw1
  have H0 := Lib.hid x0
  have H1 := Lib.hid x1
  have H2 := Lib.hid x2
  have HZ := Lib.hid hz
  have HB3 := Lib.hid hB3
  have CC := Lib.hid (hC w1 hB3 (by omega))
  have HS := Lib.hid (hS.below hB3)
  clear x0 x1 x2 hz hB3 hC hS
  go_enter Tryz.func28, Tryz.ntmps28
  go_upto_region 1 with fail
  rw [← HW1.out]
  clear hw1
  obtain ⟨r0, r1, r2, r3, r4, -, -, -, -, -, rl⟩ := own5 H0.out
  obtain ⟨q0, q1, q2, q3, q4, q5, q6, q7, q8, q9, q10, ql⟩ := own11 H1.out
  go_wp2_with fail
  refine CC.out.mono ?_
  rintro e w2 hg
  rcases Ck.Post.split hg with ⟨E, pp, x, hr1, hg⟩ | ⟨t1, hr1, hg⟩
  · have HP : Ck.Post Q w (Ck.lift h R) e w2 := by rw [hr1]; exact Ck.Gave.from hg HB3.out
    obtain ⟨g, rfl, -⟩ := hg
    clear hr1 r0 r1 r2 r3 r4 rl q0 q1 q2 q3 q4 q5 q6 q7 q8 q9 q10 ql
    go_wp2_with fail
    exact ⟨rfl, HP⟩
  · obtain ⟨G, m, cg, rfl, hl, hb⟩ := hg
    have hb3 := below_n1 w2 (.cells #[.int .i8 t1.1, .slice G m cg] 25)
    have HX := Lib.hid (heap_new w2 (.cells #[.int .i8 t1.1, .slice G m cg] 25))
    have HL := Lib.hid ((hl.weak (Q' := Ck.Cut Q w.heap.size (w.heap.size + 3)) (fun b _ hq => Ck.Cut.in (by have := HZ.out; omega) hq)).later hb3)
    have HBW := Lib.hid (hb.trans (hb3.mono hb.size))
    clear hl hb hb3 hg r0 r1 r2 r3 r4 rl q0 q1 q2 q3 q4 q5 q6 q7 q8 q9 q10 ql
    go_upto_region 2 with fail
    generalize hw4 : w2.alloc (.cells #[.int .i8 t1.1, .slice G m cg] 25) = w4 at *
    clear hw4
    generalize w2.heap.size = S2 at *
    have CH := Lib.hid (check_any t1.1 t1.2 G m cg w4 HL.out.is (HS.out.below HBW.out))
    have hfrom := Lib.hid (HB3.out.trans (HBW.out.mono HB3.out.size))
    have H1 := Lib.hid (heap_below HBW.out (heap_lt H1.out) H1.out)
    have H2 := Lib.hid (heap_below HBW.out (heap_lt H2.out) H2.out)
    have hzz : w.heap.size + 3 ≤ w4.heap.size := by have h1 := HZ.out; have h2 := HBW.out.size; omega
    have hlift : Ck.lift h R = if Ck.chk t1 = 0 then .ok t1 else .bad (Ck.chk t1) h.pos Ck.e0 := by rw [hr1]; rfl
    rw [show Ty.chk t1.1 t1.2 = Ck.chk t1 from rfl] at CH
    generalize Ck.chk t1 = CC' at *
    have HLI := Lib.hid hlift
    clear hlift hr1
    obtain ⟨s0, s1, -, -, sl⟩ := own2 HX.out
    go_wp2_with fail
    refine CH.out.mono ?_
    rintro e w5 ⟨rfl, hb5⟩
    have HX5 := Lib.hid (heap_below hb5 (heap_lt HX.out) HX.out)
    have H15 := Lib.hid (heap_below hb5 (heap_lt H1.out) H1.out)
    have H25 := Lib.hid (heap_below hb5 (heap_lt H2.out) H2.out)
    have HF5 := Lib.hid (hfrom.out.trans (hb5.mono hfrom.out.size))
    have HL5 := Lib.hid (HL.out.later hb5)
    have hs5 := hb5.size
    clear hb5 s0 s1 sl
    by_cases h0 : CC' = 0
    · subst h0
      obtain ⟨s0, s1, -, -, sl⟩ := own2 HX5.out
      obtain ⟨y0, y1, f0, f1, yl⟩ := own2 H25.out
      go_wp2_with fail
      have z3 := set_two H25.out (.int .i8 t1.1) (.slice G m cg)
      obtain ⟨k0, k1, -, -, -⟩ := own2 z3
      refine bodyPost_ret (v := .agg #[.int .i8 t1.1, .slice G m cg]) (by simp [results, Tryz.results28, go_sem, k0, k1]) rfl ?_
      rw [show Ck.lift h R = .ok t1 from by rw [HLI.out]; simp]
      exact ⟨G, m, cg, rfl, (HL5.out.set2 (fun b hq => hq.ne (by omega) (by omega)) _ _).weak (fun b _ hq => hq.out (by omega)), below_set2 HF5.out (by omega) _ _⟩
    · have hcn : (((CC' : Nat) : Int) != 0) = true := by simp; omega
      obtain ⟨q0, q1, q2, q3, q4, q5, q6, q7, q8, q9, q10, ql⟩ := own11 H15.out
      have CF := Lib.hid (ckfail_any h p (CC' : Int) w5)
      go_wp2_with fail
      refine CF.out.mono ?_
      rintro e w6 hg
      have HP : Ck.Post Q w (Ck.lift h R) e w6 := by rw [HLI.out, if_neg h0]; exact Ck.Gave.from hg HF5.out
      obtain ⟨g, rfl, -⟩ := hg
      clear q0 q1 q2 q3 q4 q5 q6 q7 q8 q9 q10 ql
      go_wp2_with fail
      exact ⟨rfl, HP⟩

end Go.Proofs.YtknhoagicdfikaaGreatDoor
