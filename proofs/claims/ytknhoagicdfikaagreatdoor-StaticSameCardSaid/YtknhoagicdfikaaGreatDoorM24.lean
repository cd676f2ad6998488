/-
  Layer 11: static.Type, whole. P11.3, P11.4 in plain terms: of a static term both sets of rules tell the same, and the type is known.
-/
import Derived.Test.YtknhoagicdfikaaGreatDoorM23
import Derived.Test.YtknhoagicdfikaaGreatDoorM20
import Derived.Test.YtknhoagicdfikaaGreatDoorM25
import Derived.Test.YtknhoagicdfikaaGreatDoorM17
import Derived.Test.YtknhoagicdfikaaGreatDoorM22
namespace Go.Proofs.YtknhoagicdfikaaGreatDoor
open Go.RowKit
set_option maxHeartbeats 1000000 in
set_option maxRecDepth 100000 in
theorem stType_ok (h : Hd) (p : Pl) (w : World) (a : Ck.T2)
    (hC : ∀ (W : World), Below w.heap.size w W → Calls Tryz.prog 13 #[.agg #[.func (Fn.func 17) #[] #[], .func (Fn.func 33) #[] #[], .func (Fn.func 34) #[] #[], .func (Fn.func 35) #[] #[], .nilFunc], .agg #[.int .i8 h.kind, .string h.name, .string h.arg, .int .i64 h.num, .int .i8 h.tk, .slice p.TA p.tn p.tc, .int .i8 h.uk, .slice p.UA p.un p.uc, .int .i64 h.label, .int .i64 h.pos, .slice p.A p.n p.c]] W (Ck.TyPost W (.ok a))) :
    Calls Tryz.prog 8 #[.agg #[.int .i8 h.kind, .string h.name, .string h.arg, .int .i64 h.num, .int .i8 h.tk, .slice p.TA p.tn p.tc, .int .i8 h.uk, .slice p.UA p.un p.uc, .int .i64 h.label, .int .i64 h.pos, .slice p.A p.n p.c]] w (Ck.TyPost w (.ok a)) := by
  have hB2 := below_n2 w (.cells #[.int .i8 h.kind, .string h.name, .string h.arg, .int .i64 h.num, .int .i8 h.tk, .slice p.TA p.tn p.tc, .int .i8 h.uk, .slice p.UA p.un p.uc, .int .i64 h.label, .int .i64 h.pos, .slice p.A p.n p.c] 28) (.cells #[.int .i8 0, .slice none 0 0] 25)
  obtain ⟨h0, h1⟩ := heap_n2 w (.cells #[.int .i8 h.kind, .string h.name, .string h.arg, .int .i64 h.num, .int .i8 h.tk, .slice p.TA p.tn p.tc, .int .i8 h.uk, .slice p.UA p.un p.uc, .int .i64 h.label, .int .i64 h.pos, .slice p.A p.n p.c] 28) (.cells #[.int .i8 0, .slice none 0 0] 25)
  have hz : ((w.alloc (.cells #[.int .i8 h.kind, .string h.name, .string h.arg, .int .i64 h.num, .int .i8 h.tk, .slice p.TA p.tn p.tc, .int .i8 h.uk, .slice p.UA p.un p.uc, .int .i64 h.label, .int .i64 h.pos, .slice p.A p.n p.c] 28)).alloc (.cells #[.int .i8 0, .slice none 0 0] 25)).heap.size = w.heap.size + 2 := by simp
  obtain ⟨w1, hw1⟩ : ∃ w1, w1 = (w.alloc (.cells #[.int .i8 h.kind, .string h.name, .string h.arg, .int .i64 h.num, .int .i8 h.tk, .slice p.TA p.tn p.tc, .int .i8 h.uk, .slice p.UA p.un p.uc, .int .i64 h.label, .int .i64 h.pos, .slice p.A p.n p.c] 28)).alloc (.cells #[.int .i8 0, .slice none 0 0] 25) := ⟨_, rfl⟩
  rw [← hw1] at hB2 h0 h1 hz
  have HW1 := Lib.hid hw1
  have HZ := Lib.hid hz
  have H2 := Lib.hid h1
  have hfrom := Lib.hid (fun (W : World) (hb : Below w1.heap.size w1 W) => hB2.trans (hb.mono hB2.size))
  have CT := Lib.hid (fun (W : World) (hb : Below w1.heap.size w1 W) => hC W (hB2.trans (hb.mono hB2.size)))
  have HK := Lib.hid (fun (W : World) (hb : Below w1.heap.size w1 W) => (own11 (heap_below hb (heap_lt h0) h0)))
  clear hB2 h0 h1 hz hC
  go_enter Tryz.func8, Tryz.ntmps8
  go_upto_region 1 with fail
  rw [← HW1.out]
  clear hw1 HW1
  refine region_inv_end2 9 rfl [4, 5, 6, 7, 8, 3] (by kernel_rfl) (by kernel_rfl) (by kernel_rfl) (fun listed a' w' => a'.defers = [] ∧ a'.tmps.size = 9 ∧ (a'.eval (.tmp 1) = .pointer (some ⟨w.heap.size, 0, none⟩) ∧ a'.eval (.tmp 2) = .pointer (some ⟨w.heap.size + 1, 0, none⟩)) ∧ ∃ G m c, (listed[0]? = some true → (a'.eval (.tmp 4) = .agg #[.func (Fn.func 17) #[] #[], .func (Fn.func 33) #[] #[], .func (Fn.func 34) #[] #[], .func (Fn.func 35) #[] #[], .nilFunc])) ∧ (listed[1]? = some true → (a'.eval (.tmp 5) = .agg #[.int .i8 h.kind, .string h.name, .string h.arg, .int .i64 h.num, .int .i8 h.tk, .slice p.TA p.tn p.tc, .int .i8 h.uk, .slice p.UA p.un p.uc, .int .i64 h.label, .int .i64 h.pos, .slice p.A p.n p.c])) ∧ (listed[2]? = some true → (a'.eval (.tmp 6) = .tuple #[.agg #[.int .i8 a.1, .slice G m c], .nilIface]) ∧ (listed[0]? = some true) ∧ (listed[1]? = some true) ∧ (Ck.Ly (fun b => w1.heap.size ≤ b) w' a G m c)) ∧ (listed[3]? = some true → (a'.eval (.tmp 7) = .agg #[.int .i8 a.1, .slice G m c]) ∧ (listed[0]? = some true) ∧ (listed[1]? = some true) ∧ (listed[2]? = some true)) ∧ (listed[4]? = some true → (a'.eval (.tmp 8) = .nilIface)) ∧ (listed[5]? = some true → (listed[0]? = some true) ∧ (listed[1]? = some true) ∧ (listed[2]? = some true) ∧ (listed[3]? = some true) ∧ (w'.heap[w.heap.size + 1]? = some (.cells #[.int .i8 a.1, .slice G m c] 25 (0, 0))) ∧ (Below w.heap.size w w')) ∧ (listed[6]? = some true → (a'.eval (.tmp 3) = .nilIface)) ∧ (listed[5]? = some false → Below w1.heap.size w1 w')) (fun _ _ _ h => h.1) ?_ ?_ ?_
  · have hz := HZ.out
    refine ⟨rfl, rfl, ⟨rfl, rfl⟩, none, 0, 0, FH, FH, FH, FH, FH, FH, FH, (fun _ => (Below.refl _ _).drew)⟩
  · rintro listed a' w' i o ⟨hdf, hsz, hx, G, m, c, y0, y1, y2, y3, y4, y5, y6, hbw⟩ hz hsz0 ho hi hp
    have hi13 : i < 7 := by
      rcases Nat.lt_or_ge i 7 with q | q
      · exact q
      · rw [Array.getElem?_eq_none (by simpa using q)] at ho; cases ho
    rcases (by omega : i = 0 ∨ i = 1 ∨ i = 2 ∨ i = 3 ∨ i = 4 ∨ i = 5 ∨ i = 6) with rfl | rfl | rfl | rfl | rfl | rfl | rfl
    · obtain rfl := SI ho
      have hbw := hbw (nf (by rw [hz]; decide) (fun q => (y5 q).1) hi)
      refine C_ ho 4 (sstrict_any 17 #[] w') fun e u hg => ?_
      · obtain ⟨he, hb⟩ := hg
        refine ⟨.agg #[.func (Fn.func 17) #[] #[], .func (Fn.func 33) #[] #[], .func (Fn.func 34) #[] #[], .func (Fn.func 35) #[] #[], .nilFunc], he, ?_⟩
        have hbs := hbw.size
        have hzz := HZ.out
        have hbs2 := hb.size
        exact ⟨pd hdf, ps hsz, KX hx, G, m, c, (fun _ => pS hsz), K1 y1, KN y2, KN y3, K1 y4, KN y5, K1 y6, (fun _ => hbw.trans (hb.mono hbw.size))⟩
    · obtain rfl := SI ho
      have hbu := hbw
      have hbw := hbw (nf (by rw [hz]; decide) (fun q => (y5 q).2.1) hi)
      obtain ⟨q0, q1, q2, q3, q4, q5, q6, q7, q8, q9, q10, -⟩ := HK.out w' hbw
      exact V_ ho 5 ⟨pd hdf, ps hsz, KX hx, G, m, c, K1 y0, (fun _ => pS hsz), KN y2, KN y3, K1 y4, KN y5, K1 y6, (kU hbu id)⟩
    · obtain rfl := SI ho
      have v0 := hpv hp 0 (by simp)
      have ww0 := (y0 v0)
      have v1 := hpv hp 1 (by simp)
      have ww1 := (y1 v1)
      have hbw := hbw (nf (by rw [hz]; decide) (fun q => (y5 q).2.2.1) hi)
      refine C_ ho 6 (CT.out w' hbw) fun e u hg => ?_
      · obtain ⟨G', m', c', rfl, hl, hb⟩ := hg
        refine ⟨.tuple #[.agg #[.int .i8 a.1, .slice G' m' c'], .nilIface], rfl, ?_⟩
        have hbs := hbw.size
        have hzz := HZ.out
        have hbs2 := hb.size
        exact ⟨pd hdf, ps hsz, KX hx, G', m', c', K1 y0, K1 y1, (fun _ => ⟨pS hsz, (set_keep v0), (set_keep v1), Ck.Ly.weak hl (fun b _ hq => Nat.le_trans hbw.size hq)⟩), KN y3, K1 y4, KN y5, K1 y6, (fun _ => hbw.trans (hb.mono hbw.size))⟩
    · obtain rfl := SI ho
      have v2 := hpv hp 2 (by simp)
      have ww2 := (y2 v2).1
      exact V_ ho 7 ⟨pd hdf, ps hsz, KX hx, G, m, c, K1 y0, K1 y1, K1 y2, (fun _ => ⟨pS hsz, (set_keep ((y2 v2).2.1)), (set_keep ((y2 v2).2.2.1)), (set_keep v2)⟩), K1 y4, KN y5, K1 y6, (kU hbw id)⟩
    · obtain rfl := SI ho
      have v2 := hpv hp 2 (by simp)
      have ww2 := (y2 v2).1
      exact V_ ho 8 ⟨pd hdf, ps hsz, KX hx, G, m, c, K1 y0, K1 y1, K1 y2, K1 y3, (fun _ => pS hsz), K1 y5, K1 y6, (kU hbw id)⟩
    · obtain rfl := SI ho
      have v3 := hpv hp 3 (by simp)
      have ww3 := (y3 v3).1
      have hbw := hbw hi
      have hbox := heap_below hbw (heap_lt H2.out) H2.out
      obtain ⟨bc0, bc1, bf0, bf1, -⟩ := own2 hbox
      refine wpOp_at ho rfl (wp_store rfl (w2 := (w'.setCell ⟨w.heap.size + 1, 0, none⟩ (.int .i8 a.1)).setCell ⟨w.heap.size + 1, 1, none⟩ (.slice G m c)) ?_ ?_)
      · exact EV
      · have hsa : ((w'.setCell ⟨w.heap.size + 1, 0, none⟩ (.int .i8 a.1)).setCell ⟨w.heap.size + 1, 1, none⟩ (.slice G m c)).heap.size = w'.heap.size := by simp
        have hbs := hbw.size
        have hzz := HZ.out
        exact ⟨hdf, hsz, hx, G, m, c, K1 y0, K1 y1, K1 y2, K1 y3, K1 y4, (fun _ => ⟨(set_keep ((y3 v3).2.1)), (set_keep ((y3 v3).2.2.1)), (set_keep ((y3 v3).2.2.2)), (set_keep v3), set_two hbox _ _, below_set2 (hfrom.out w' hbw) (by omega) _ _⟩), K1 y6, (fun qu => (set_self_false qu).elim)⟩
    · obtain rfl := SI ho
      have v4 := hpv hp 4 (by simp)
      have ww4 := (y4 v4)
      exact V_ ho 3 ⟨pd hdf, ps hsz, KX hx, G, m, c, K1 y0, K1 y1, K1 y2, K1 y3, K1 y4, K1 y5, (fun _ => pS hsz), (kU hbw id)⟩
  · rintro listed u w' t ht hu ⟨-, -, -, G, m, c, y0, y1, y2, y3, y4, y5, y6, hbw⟩ hall
    have v2 := hall 2 (by decide)
    have v5 := hall 5 (by decide)
    have v6 := hall 6 (by decide)
    have HBX := Lib.hid ((y5 v5).2.2.2.2.2)
    have hl := ((y2 v2).2.2.2)
    have hx := ((y5 v5).2.2.2.2.1)
    have e3 := ((y6 v6))
    rw [hu 3 (by decide) (by decide)] at e3
    clear y0 y1 y2 y3 y4 y5 y6 v2 v5 v6 hall hu
    clear hbw
    simp only [over, List.setIfInBounds_toArray, List.set_cons_succ, List.set_cons_zero] at ht
    subst ht
    obtain ⟨k0, k1', -, -, -⟩ := own2 hx
    have hz := HZ.out
    go_wp2_with fail
    refine ⟨rfl, .tuple #[.agg #[.int .i8 a.1, .slice G m c], .nilIface], by simp [results, Tryz.results8, go_sem, k0, k1', e3], ?_⟩
    exact ⟨G, m, c, rfl, hl.weak (fun b _ hq => by have h1 : w1.heap.size ≤ b := hq; show w.heap.size ≤ b; omega), HBX.out⟩

set_option maxHeartbeats 1000000 in
set_option maxRecDepth 100000 in
theorem stType_bad (h : Hd) (p : Pl) (w : World) (E at' : Int) (x : ByteArray)
    (hC : ∀ (W : World), Below w.heap.size w W → Calls Tryz.prog 13 #[.agg #[.func (Fn.func 17) #[] #[], .func (Fn.func 33) #[] #[], .func (Fn.func 34) #[] #[], .func (Fn.func 35) #[] #[], .nilFunc], .agg #[.int .i8 h.kind, .string h.name, .string h.arg, .int .i64 h.num, .int .i8 h.tk, .slice p.TA p.tn p.tc, .int .i8 h.uk, .slice p.UA p.un p.uc, .int .i64 h.label, .int .i64 h.pos, .slice p.A p.n p.c]] W (Ck.TyPost W (.bad E at' x))) :
    Calls Tryz.prog 8 #[.agg #[.int .i8 h.kind, .string h.name, .string h.arg, .int .i64 h.num, .int .i8 h.tk, .slice p.TA p.tn p.tc, .int .i8 h.uk, .slice p.UA p.un p.uc, .int .i64 h.label, .int .i64 h.pos, .slice p.A p.n p.c]] w (Ck.TyPost w (.bad E at' x)) := by
  have hB2 := below_n2 w (.cells #[.int .i8 h.kind, .string h.name, .string h.arg, .int .i64 h.num, .int .i8 h.tk, .slice p.TA p.tn p.tc, .int .i8 h.uk, .slice p.UA p.un p.uc, .int .i64 h.label, .int .i64 h.pos, .slice p.A p.n p.c] 28) (.cells #[.int .i8 0, .slice none 0 0] 25)
  obtain ⟨h0, h1⟩ := heap_n2 w (.cells #[.int .i8 h.kind, .string h.name, .string h.arg, .int .i64 h.num, .int .i8 h.tk, .slice p.TA p.tn p.tc, .int .i8 h.uk, .slice p.UA p.un p.uc, .int .i64 h.label, .int .i64 h.pos, .slice p.A p.n p.c] 28) (.cells #[.int .i8 0, .slice none 0 0] 25)
  have hz : ((w.alloc (.cells #[.int .i8 h.kind, .string h.name, .string h.arg, .int .i64 h.num, .int .i8 h.tk, .slice p.TA p.tn p.tc, .int .i8 h.uk, .slice p.UA p.un p.uc, .int .i64 h.label, .int .i64 h.pos, .slice p.A p.n p.c] 28)).alloc (.cells #[.int .i8 0, .slice none 0 0] 25)).heap.size = w.heap.size + 2 := by simp
  obtain ⟨w1, hw1⟩ : ∃ w1, w1 = (w.alloc (.cells #[.int .i8 h.kind, .string h.name, .string h.arg, .int .i64 h.num, .int .i8 h.tk, .slice p.TA p.tn p.tc, .int .i8 h.uk, .slice p.UA p.un p.uc, .int .i64 h.label, .int .i64 h.pos, .slice p.A p.n p.c] 28)).alloc (.cells #[.int .i8 0, .slice none 0 0] 25) := ⟨_, rfl⟩
  rw [← hw1] at hB2 h0 h1 hz
  have HW1 := Lib.hid hw1
  have HZ := Lib.hid hz
  have H2 := Lib.hid h1
  have hfrom := Lib.hid (fun (W : World) (hb : Below w1.heap.size w1 W) => hB2.trans (hb.mono hB2.size))
  have CT := Lib.hid (fun (W : World) (hb : Below w1.heap.size w1 W) => hC W (hB2.trans (hb.mono hB2.size)))
  have HK := Lib.hid (fun (W : World) (hb : Below w1.heap.size w1 W) => (own11 (heap_below hb (heap_lt h0) h0)))
  clear hB2 h0 h1 hz hC
  go_enter Tryz.func8, Tryz.ntmps8
  go_upto_region 1 with fail
  rw [← HW1.out]
  clear hw1 HW1
  refine region_inv_end2 9 rfl [4, 5, 6, 7, 8, 3] (by kernel_rfl) (by kernel_rfl) (by kernel_rfl) (fun listed a' w' => a'.defers = [] ∧ a'.tmps.size = 9 ∧ (a'.eval (.tmp 1) = .pointer (some ⟨w.heap.size, 0, none⟩) ∧ a'.eval (.tmp 2) = .pointer (some ⟨w.heap.size + 1, 0, none⟩)) ∧ ∃ g, (listed[0]? = some true → (a'.eval (.tmp 4) = .agg #[.func (Fn.func 17) #[] #[], .func (Fn.func 33) #[] #[], .func (Fn.func 34) #[] #[], .func (Fn.func 35) #[] #[], .nilFunc])) ∧ (listed[1]? = some true → (a'.eval (.tmp 5) = .agg #[.int .i8 h.kind, .string h.name, .string h.arg, .int .i64 h.num, .int .i8 h.tk, .slice p.TA p.tn p.tc, .int .i8 h.uk, .slice p.UA p.un p.uc, .int .i64 h.label, .int .i64 h.pos, .slice p.A p.n p.c])) ∧ (listed[2]? = some true → (a'.eval (.tmp 6) = .tuple #[.agg #[.int .i8 0, .slice none 0 0], .iface 52 (.pointer (some ⟨g, 0, none⟩))]) ∧ (listed[0]? = some true) ∧ (listed[1]? = some true) ∧ (w'.heap[g]? = some (.cells #[.int .i64 E, .int .i64 at', .string x] 56 (0, 0))) ∧ (w1.heap.size ≤ g)) ∧ (listed[3]? = some true → (a'.eval (.tmp 7) = .agg #[.int .i8 0, .slice none 0 0]) ∧ (listed[0]? = some true) ∧ (listed[1]? = some true) ∧ (listed[2]? = some true)) ∧ (listed[4]? = some true → (a'.eval (.tmp 8) = .iface 52 (.pointer (some ⟨g, 0, none⟩))) ∧ (listed[2]? = some true)) ∧ (listed[5]? = some true → (listed[0]? = some true) ∧ (listed[1]? = some true) ∧ (listed[2]? = some true) ∧ (listed[3]? = some true) ∧ (w'.heap[w.heap.size + 1]? = some (.cells #[.int .i8 0, .slice none 0 0] 25 (0, 0))) ∧ (Below w.heap.size w w')) ∧ (listed[6]? = some true → (a'.eval (.tmp 3) = .iface 52 (.pointer (some ⟨g, 0, none⟩))) ∧ (listed[2]? = some true)) ∧ (listed[5]? = some false → Below w1.heap.size w1 w')) (fun _ _ _ h => h.1) ?_ ?_ ?_
  · have hz := HZ.out
    refine ⟨rfl, rfl, ⟨rfl, rfl⟩, 0, FH, FH, FH, FH, FH, FH, FH, (fun _ => (Below.refl _ _).drew)⟩
  · rintro listed a' w' i o ⟨hdf, hsz, hx, g, y0, y1, y2, y3, y4, y5, y6, hbw⟩ hz hsz0 ho hi hp
    have hi13 : i < 7 := by
      rcases Nat.lt_or_ge i 7 with q | q
      · exact q
      · rw [Array.getElem?_eq_none (by simpa using q)] at ho; cases ho
    rcases (by omega : i = 0 ∨ i = 1 ∨ i = 2 ∨ i = 3 ∨ i = 4 ∨ i = 5 ∨ i = 6) with rfl | rfl | rfl | rfl | rfl | rfl | rfl
    · obtain rfl := SI ho
      have hbw := hbw (nf (by rw [hz]; decide) (fun q => (y5 q).1) hi)
      refine C_ ho 4 (sstrict_any 17 #[] w') fun e u hg => ?_
      · obtain ⟨he, hb⟩ := hg
        refine ⟨.agg #[.func (Fn.func 17) #[] #[], .func (Fn.func 33) #[] #[], .func (Fn.func 34) #[] #[], .func (Fn.func 35) #[] #[], .nilFunc], he, ?_⟩
        have hbs := hbw.size
        have hzz := HZ.out
        have hbs2 := hb.size
        exact ⟨pd hdf, ps hsz, KX hx, g, (fun _ => pS hsz), K1 y1, KN y2, KN y3, K1 y4, KN y5, K1 y6, (fun _ => hbw.trans (hb.mono hbw.size))⟩
    · obtain rfl := SI ho
      have hbu := hbw
      have hbw := hbw (nf (by rw [hz]; decide) (fun q => (y5 q).2.1) hi)
      obtain ⟨q0, q1, q2, q3, q4, q5, q6, q7, q8, q9, q10, -⟩ := HK.out w' hbw
      exact V_ ho 5 ⟨pd hdf, ps hsz, KX hx, g, K1 y0, (fun _ => pS hsz), KN y2, KN y3, K1 y4, KN y5, K1 y6, (kU hbu id)⟩
    · obtain rfl := SI ho
      have v0 := hpv hp 0 (by simp)
      have ww0 := (y0 v0)
      have v1 := hpv hp 1 (by simp)
      have ww1 := (y1 v1)
      have hbw := hbw (nf (by rw [hz]; decide) (fun q => (y5 q).2.2.1) hi)
      refine C_ ho 6 (CT.out w' hbw) fun e u hg => ?_
      · obtain ⟨g', rfl, hf, hg, hb⟩ := hg
        refine ⟨.tuple #[.agg #[.int .i8 0, .slice none 0 0], .iface 52 (.pointer (some ⟨g', 0, none⟩))], rfl, ?_⟩
        have hbs := hbw.size
        have hzz := HZ.out
        have hbs2 := hb.size
        exact ⟨pd hdf, ps hsz, KX hx, g', K1 y0, K1 y1, (fun _ => ⟨pS hsz, (set_keep v0), (set_keep v1), hf, (Nat.le_trans hbw.size hg)⟩), KN y3, KN y4, KN y5, KN y6, (fun _ => hbw.trans (hb.mono hbw.size))⟩
    · obtain rfl := SI ho
      have v2 := hpv hp 2 (by simp)
      have ww2 := (y2 v2).1
      exact V_ ho 7 ⟨pd hdf, ps hsz, KX hx, g, K1 y0, K1 y1, K1 y2, (fun _ => ⟨pS hsz, (set_keep ((y2 v2).2.1)), (set_keep ((y2 v2).2.2.1)), (set_keep v2)⟩), K1 y4, KN y5, K1 y6, (kU hbw id)⟩
    · obtain rfl := SI ho
      have v2 := hpv hp 2 (by simp)
      have ww2 := (y2 v2).1
      exact V_ ho 8 ⟨pd hdf, ps hsz, KX hx, g, K1 y0, K1 y1, K1 y2, K1 y3, (fun _ => ⟨pS hsz, (set_keep v2)⟩), K1 y5, K1 y6, (kU hbw id)⟩
    · obtain rfl := SI ho
      have v3 := hpv hp 3 (by simp)
      have ww3 := (y3 v3).1
      have hbw := hbw hi
      have hbox := heap_below hbw (heap_lt H2.out) H2.out
      obtain ⟨bc0, bc1, bf0, bf1, -⟩ := own2 hbox
      refine wpOp_at ho rfl (wp_store rfl (w2 := (w'.setCell ⟨w.heap.size + 1, 0, none⟩ (.int .i8 0)).setCell ⟨w.heap.size + 1, 1, none⟩ (.slice none 0 0)) ?_ ?_)
      · exact EV
      · have hsa : ((w'.setCell ⟨w.heap.size + 1, 0, none⟩ (.int .i8 0)).setCell ⟨w.heap.size + 1, 1, none⟩ (.slice none 0 0)).heap.size = w'.heap.size := by simp
        have hbs := hbw.size
        have hzz := HZ.out
        exact ⟨hdf, hsz, hx, g, K1 y0, K1 y1, (kF y2 (fun q => ⟨q.1, set_keep q.2.1, set_keep q.2.2.1, (set_two_ne q.2.2.2.1 (by omega) _ _), q.2.2.2.2⟩)), K1 y3, K1 y4, (fun _ => ⟨(set_keep ((y3 v3).2.1)), (set_keep ((y3 v3).2.2.1)), (set_keep ((y3 v3).2.2.2)), (set_keep v3), set_two hbox _ _, below_set2 (hfrom.out w' hbw) (by omega) _ _⟩), K1 y6, (fun qu => (set_self_false qu).elim)⟩
    · obtain rfl := SI ho
      have v4 := hpv hp 4 (by simp)
      have ww4 := (y4 v4).1
      exact V_ ho 3 ⟨pd hdf, ps hsz, KX hx, g, K1 y0, K1 y1, K1 y2, K1 y3, K1 y4, K1 y5, (fun _ => ⟨pS hsz, (set_keep ((y4 v4).2))⟩), (kU hbw id)⟩
  · rintro listed u w' t ht hu ⟨-, -, -, g, y0, y1, y2, y3, y4, y5, y6, hbw⟩ hall
    have v2 := hall 2 (by decide)
    have v5 := hall 5 (by decide)
    have v6 := hall 6 (by decide)
    have HBX := Lib.hid ((y5 v5).2.2.2.2.2)
    have hf := ((y2 v2).2.2.2.1)
    have hg := ((y2 v2).2.2.2.2)
    have hx := ((y5 v5).2.2.2.2.1)
    have e3 := ((y6 v6).1)
    rw [hu 3 (by decide) (by decide)] at e3
    clear y0 y1 y2 y3 y4 y5 y6 v2 v5 v6 hall hu
    clear hbw
    simp only [over, List.setIfInBounds_toArray, List.set_cons_succ, List.set_cons_zero] at ht
    subst ht
    obtain ⟨k0, k1', -, -, -⟩ := own2 hx
    have hz := HZ.out
    have HF := Lib.hid hf
    clear hf
    go_wp2_with fail
    refine ⟨rfl, .tuple #[.agg #[.int .i8 0, .slice none 0 0], .iface 52 (.pointer (some ⟨g, 0, none⟩))], by simp [results, Tryz.results8, go_sem, k0, k1', e3], ?_⟩
    exact ⟨g, rfl, HF.out, (by omega), HBX.out⟩

theorem stType_of (h : Hd) (p : Pl) (w : World) (R : Ck.R) (hC : ∀ (W : World), Below w.heap.size w W → Calls Tryz.prog 13 #[.agg #[.func (Fn.func 17) #[] #[], .func (Fn.func 33) #[] #[], .func (Fn.func 34) #[] #[], .func (Fn.func 35) #[] #[], .nilFunc], .agg #[.int .i8 h.kind, .string h.name, .string h.arg, .int .i64 h.num, .int .i8 h.tk, .slice p.TA p.tn p.tc, .int .i8 h.uk, .slice p.UA p.un p.uc, .int .i64 h.label, .int .i64 h.pos, .slice p.A p.n p.c]] W (Ck.TyPost W R)) :
    Calls Tryz.prog 8 #[.agg #[.int .i8 h.kind, .string h.name, .string h.arg, .int .i64 h.num, .int .i8 h.tk, .slice p.TA p.tn p.tc, .int .i8 h.uk, .slice p.UA p.un p.uc, .int .i64 h.label, .int .i64 h.pos, .slice p.A p.n p.c]] w (Ck.TyPost w R) := by
  cases R with
  | ok a => exact stType_ok h p w a hC
  | bad E at' x => exact stType_bad h p w E at' x hC
/-- static.Type -/
theorem stType_any (h : Hd) (kids : Tm) (p : Pl) (w : World) (hIs : Tm.Is w h kids p) (hG : TGlob w) :
    Calls Tryz.prog 8 #[.agg #[.int .i8 h.kind, .string h.name, .string h.arg, .int .i64 h.num, .int .i8 h.tk, .slice p.TA p.tn p.tc, .int .i8 h.uk, .slice p.UA p.un p.uc, .int .i64 h.label, .int .i64 h.pos, .slice p.A p.n p.c]] w (Ck.TyPost w (Cg.tellR St.ops (St.ref h kids) h kids)) := by
  refine stType_of h p w _ fun W hb => ?_
  exact rType_any statRv h kids p W (St.ref h kids) (hIs.below hb) (hG.below hb) (fun e => ⟨(St.ref_ok e).1.1, .inr (St.ref_ok e).1.2⟩) (fun U hu => srefuse_any h kids p U ((hIs.below hb).below hu) ((hG.below hb).below hu))
end Go.Proofs.YtknhoagicdfikaaGreatDoor
namespace Go.Proofs.YtknhoagicdfikaaGreatDoor
namespace Ty
theorem agF_kn : ∀ f g : Fo, okF f = true → okF g = true → knF f = true → knF g = true → len f = len g → agF f g = eqF f g
  | .nil, .nil, _, _, _, _, _ => rfl
  | .nil, .node _ _ _ _ _, _, _, _, _, h => by simp [len] at h
  | .node _ _ _ _ _, .nil, _, _, _, _, h => by simp [len] at h
  | .node _ _ k kids r, .node _ _ k' kids' r', h1, h2, h3, h4, h5 => by
    simp only [okF, knF, len, Bool.and_eq_true, bne_iff_ne, ne_eq] at h1 h2 h3 h4 h5
    have ir := agF_kn r r' h1.2 h2.2 h3.2 h4.2 (by omega)
    simp only [agF, eqF]
    rw [ir]
    have z1 : (k == 0) = false := by simpa using h3.1.1
    have z2 : (k' == 0) = false := by simpa using h4.1.1
    rw [z1, z2]
    by_cases hk : k = k'
    · subst hk
      have il := agF_kn kids kids' h1.1.2 h2.1.2 h3.1.2 h4.1.2 (okK_len h1.1.1 h2.1.1)
      rw [il]; simp
    · have : (k == k') = false := by simpa using hk
      rw [this]; simp
theorem mF_kn : ∀ f g : Fo, knF f = true → mF f g = f
  | .nil, _, _ => rfl
  | .node _ _ _ _ _, .nil, _ => rfl
  | .node _ _ k kids r, .node _ _ k' kids' r', h => by
    simp only [knF, Bool.and_eq_true, bne_iff_ne, ne_eq] at h
    simp only [mF]
    rw [mF_kn r r' h.2, if_neg h.1.1, if_neg h.1.1]
    by_cases hk : k' = 0
    · rw [if_pos hk]
    · rw [if_neg hk, mF_kn kids kids' h.1.2]
end Ty
namespace St
open Ck
/-- a known type -/
def kn (a : T2) : Prop := chk a = 0 ∧ Ty.knT a.1 a.2 = true
theorem kn.parts {a : T2} (h : kn a) : a.1 ≠ 0 ∧ Ty.knF a.2 = true := by
  have := h.2
  unfold Ty.knT at this
  simpa using this
theorem kn.ok {a : T2} (h : kn a) : Ty.okT a.1 a.2 = true := (Ty.chk_ok h.1).1
theorem ag_eq {a b : T2} (ha : kn a) (hb : kn b) : ops.ag a b = ag a b := by
  have oa := ha.ok
  have ob := hb.ok
  unfold Ty.okT at oa ob
  rw [Bool.and_eq_true] at oa ob
  show Ty.sameT a.1 a.2 b.1 b.2 = Ty.agreeT a.1 a.2 b.1 b.2
  unfold Ty.sameT Ty.agreeT Ty.eqT Ty.agT
  have z1 : (a.1 == 0) = false := by simpa using ha.parts.1
  have z2 : (b.1 == 0) = false := by simpa using hb.parts.1
  rw [z1, z2]
  by_cases hk : a.1 = b.1
  · rw [Ty.agF_kn a.2 b.2 oa.2 ob.2 ha.parts.2 hb.parts.2 (Ty.okK_len oa.1 (hk ▸ ob.1))]; simp
  · have : (a.1 == b.1) = false := by simpa using hk
    rw [this]; simp
theorem as_eq {k : Int} {a : T2} (h1 : 3 ≤ k) (h2 : k ≤ 5) (ha : kn a) : ops.asO k a = asO k a ∧ (asO k a = true → ops.asl k a = asl k a ∧ ops.asr k a = asr k a ∧ kn (asl k a) ∧ kn (asr k a)) := by
  obtain ⟨k', kids⟩ := a
  have hz := ha.parts.1
  have hkn := ha.parts.2
  have hok := ha.ok
  have hc := ha.1
  dsimp only at hz hkn hok
  by_cases hk : k' = k
  · subst hk
    obtain ⟨a1, a2, p1, f1, a3, a4, p2, f2, rfl, o1, o2⟩ := Ty.two_of hok h1
    obtain ⟨e1, e2, e3⟩ := Ty.as_yes h1 h2 hc
    have hkd := chk_kids hc
    simp only [Ty.knF, Bool.and_eq_true, bne_iff_ne, ne_eq] at hkn
    have e1' : asO k' (k', .node a1 a2 p1 f1 (.node a3 a4 p2 f2 .nil)) = true := e1
    have e2' : asl k' (k', .node a1 a2 p1 f1 (.node a3 a4 p2 f2 .nil)) = (p1, f1) := e2
    have e3' : asr k' (k', .node a1 a2 p1 f1 (.node a3 a4 p2 f2 .nil)) = (p2, f2) := e3
    refine ⟨?_, fun _ => ⟨?_, ?_, ?_, ?_⟩⟩
    · rw [e1']; show (k' == k') = true; simp
    · rw [e2']; show (if k' = k' then _ else _) = _; rw [if_pos rfl]; rfl
    · rw [e3']; show (if k' = k' then _ else _) = _; rw [if_pos rfl]; rfl
    · rw [e2']; exact ⟨hkd.1, by unfold Ty.knT; simp [hkn.1.1, hkn.1.2]⟩
    · rw [e3']; exact ⟨hkd.2, by unfold Ty.knT; simp [hkn.2.1.1, hkn.2.1.2]⟩
  · have e : asO k (k', kids) = false := by
      show ((Ty.chk k' kids == 0) && decide (3 ≤ k ∧ k ≤ 5) && ((k' == k) || (k' == 0))) = false
      have z1 : (k' == 0) = false := by simpa using hz
      have z2 : (k' == k) = false := by simpa using hk
      rw [z1, z2]; simp
    rw [e]
    refine ⟨?_, fun q => by cases q⟩
    show (k' == k) = false
    simpa using hk
theorem mt_eq {a b : T2} (ha : kn a) : mt a b = a := by
  obtain ⟨hz, hk⟩ := ha.parts
  show (Ty.mK a.1 b.1, Ty.mT a.1 a.2 b.1 b.2) = a
  unfold Ty.mK Ty.mT
  rw [if_neg hz, if_neg hz]
  by_cases hb : b.1 = 0
  · rw [if_pos hb]
  · rw [if_neg hb, Ty.mF_kn a.2 b.2 hk]
/-- whatever is told is known -/
def KnR (r : R) : Prop := ∀ a, r = .ok a → Ty.knT a.1 a.2 = true
theorem KnR.fault (h : Hd) (E : Int) : KnR (fault h E) := fun _ e => by cases e
theorem KnR.ok {a : T2} (h : Ty.knT a.1 a.2 = true) : KnR (.ok a) := fun b e => by injection e with e; rw [← e]; exact h
theorem kn_mk2 {k : Int} {a b : T2} (hk : k ≠ 0) (ha : kn a) (hb : kn b) : Ty.knT (mk2 k a b).1 (mk2 k a b).2 = true := by
  obtain ⟨h1, h2⟩ := ha.parts
  obtain ⟨h3, h4⟩ := hb.parts
  show ((k != 0) && ((a.1 != 0) && Ty.knF a.2 && ((b.1 != 0) && Ty.knF b.2 && true))) = true
  simp [hk, h1, h2, h3, h4]
theorem kn_one : kn (1, .nil) := ⟨rfl, rfl⟩
theorem kn_two : kn (2, .nil) := ⟨rfl, rfl⟩
theorem meet_eq (h : Hd) {a b : T2} (ha : kn a) (hb : kn b) : Cg.meet ops h a b = Ck.meet h a b ∧ KnR (Ck.meet h a b) := by
  unfold Cg.meet Ck.meet
  rw [ag_eq ha hb, mt_eq ha]
  refine ⟨rfl, ?_⟩
  split
  · exact KnR.ok ha.2
  · exact KnR.fault _ _
theorem if_kn {c : Prop} [Decidable c] {x y : R} (hx : c → KnR x) (hy : KnR y) : KnR (if c then x else y) := by
  by_cases h : c
  · rw [if_pos h]; exact hx h
  · rw [if_neg h]; exact hy
/-- the rules' words agree on known types -/
theorem over_eq (h : Hd) (a b c : T2) (hk : h.kind = 6 ∨ h.kind = 8 ∨ h.kind = 9 ∨ h.kind = 10 ∨ h.kind = 11 ∨ h.kind = 12 ∨ h.kind = 13 ∨ h.kind = 15 ∨ h.kind = 16) (ha : kn a) (hb : h.kind = 6 ∨ h.kind = 8 ∨ h.kind = 9 ∨ h.kind = 15 → kn b) (hc : h.kind = 8 → kn c) (hT : Tm.hasType h.kind = true → kn (TT h)) :
    Cg.over ops h a b c = Ck.over h a b c ∧ KnR (Ck.over h a b c) := by
  rcases hk with hk | hk | hk | hk | hk | hk | hk | hk | hk
  · have hb := hb (.inl hk)
    rw [Cg.over_6 _ _ _ _ _ hk, Ck.over_6 _ _ _ _ hk]
    obtain ⟨e1, e2⟩ := as_eq (k := 3) (by decide) (by decide) ha
    rw [e1]
    by_cases q : asO 3 a = true
    · obtain ⟨e3, e4, k1, k2⟩ := e2 q
      rw [if_pos q, if_pos q, e3, e4, ag_eq hb k1]
      exact ⟨rfl, if_kn (fun _ => KnR.ok k2.2) (KnR.fault _ _)⟩
    · rw [if_neg q, if_neg q]; exact ⟨rfl, KnR.fault _ _⟩
  · have hb := hb (.inr (.inl hk))
    have hc := hc hk
    rw [Cg.over_8 _ _ _ _ _ hk, Ck.over_8 _ _ _ _ hk, ag_eq ha kn_two, (meet_eq h hb hc).1]
    exact ⟨rfl, if_kn (fun _ => (meet_eq h hb hc).2) (KnR.fault _ _)⟩
  · have hb := hb (.inr (.inr (.inl hk)))
    rw [Cg.over_9 _ _ _ _ _ hk, Ck.over_9 _ _ _ _ hk]
    exact ⟨rfl, KnR.ok (kn_mk2 (by decide) ha hb)⟩
  · rw [Cg.over_10 _ _ _ _ _ hk, Ck.over_10 _ _ _ _ hk]
    obtain ⟨e1, e2⟩ := as_eq (k := 4) (by decide) (by decide) ha
    rw [e1]
    by_cases q : asO 4 a = true
    · obtain ⟨e3, e4, k1, k2⟩ := e2 q
      rw [if_pos q, if_pos q, e3]
      exact ⟨rfl, KnR.ok k1.2⟩
    · rw [if_neg q, if_neg q]; exact ⟨rfl, KnR.fault _ _⟩
  · rw [Cg.over_11 _ _ _ _ _ hk, Ck.over_11 _ _ _ _ hk]
    obtain ⟨e1, e2⟩ := as_eq (k := 4) (by decide) (by decide) ha
    rw [e1]
    by_cases q : asO 4 a = true
    · obtain ⟨e3, e4, k1, k2⟩ := e2 q
      rw [if_pos q, if_pos q, e4]
      exact ⟨rfl, KnR.ok k2.2⟩
    · rw [if_neg q, if_neg q]; exact ⟨rfl, KnR.fault _ _⟩
  · have hT := hT (by rw [hk]; rfl)
    rw [Cg.over_12 _ _ _ _ _ hk, Ck.over_12 _ _ _ _ hk]
    obtain ⟨e1, e2⟩ := as_eq (k := 5) (by decide) (by decide) hT
    rw [e1]
    by_cases q : asO 5 (TT h) = true
    · obtain ⟨e3, e4, k1, k2⟩ := e2 q
      rw [if_pos q, if_pos q, e3, e4, ag_eq ha k1]
      exact ⟨rfl, if_kn (fun _ => KnR.ok (kn_mk2 (by decide) k1 k2)) (KnR.fault _ _)⟩
    · rw [if_neg q, if_neg q]; exact ⟨rfl, KnR.fault _ _⟩
  · have hT := hT (by rw [hk]; rfl)
    rw [Cg.over_13 _ _ _ _ _ hk, Ck.over_13 _ _ _ _ hk]
    obtain ⟨e1, e2⟩ := as_eq (k := 5) (by decide) (by decide) hT
    rw [e1]
    by_cases q : asO 5 (TT h) = true
    · obtain ⟨e3, e4, k1, k2⟩ := e2 q
      rw [if_pos q, if_pos q, e3, e4, ag_eq ha k2]
      exact ⟨rfl, if_kn (fun _ => KnR.ok (kn_mk2 (by decide) k1 k2)) (KnR.fault _ _)⟩
    · rw [if_neg q, if_neg q]; exact ⟨rfl, KnR.fault _ _⟩
  · have hb := hb (.inr (.inr (.inr hk)))
    rw [Cg.over_15 _ _ _ _ _ hk, Ck.over_15 _ _ _ _ hk, ag_eq ha kn_one, ag_eq hb kn_one]
    refine ⟨rfl, if_kn (fun _ => if_kn (fun _ => KnR.ok ?_) (KnR.fault _ _)) (KnR.fault _ _)⟩
    unfold opAns; split <;> rfl
  · have hT := hT (by rw [hk]; rfl)
    rw [Cg.over_16 _ _ _ _ _ hk, Ck.over_16 _ _ _ _ hk, ag_eq ha hT]
    exact ⟨rfl, if_kn (fun _ => KnR.ok hT.2) (KnR.fault _ _)⟩
/-- what is around is known -/
def KnE (l : Env) : Prop := ∀ x ∈ l, Ty.knT x.2.1 x.2.2 = true
theorem KnE.snoc {l : Env} {x : ByteArray} {a : T2} (h : KnE l) (ha : Ty.knT a.1 a.2 = true) : KnE (l ++ [(x, a)]) := fun y hy => by
  rcases List.mem_append.1 hy with q | q
  · exact h y q
  · rw [List.mem_singleton.1 q]; exact ha
theorem fnd_mem : ∀ {l : Env} {x : ByteArray} {a : T2}, fnd l x = some a → ∃ y ∈ l, y.2 = a
  | [], _, _, e => by cases e
  | b :: l, x, a, e => by
    unfold fnd at e
    cases hq : fnd l x with
    | some c =>
      rw [hq] at e
      injection e with e
      obtain ⟨y, hy, hz⟩ := fnd_mem hq
      exact ⟨y, List.mem_cons_of_mem _ hy, by rw [hz, e]⟩
    | none =>
      rw [hq] at e
      dsimp only at e
      split at e
      · injection e with e; exact ⟨b, List.mem_cons_self .., e⟩
      · cases e
theorem bnd_eq {r r' : R} {f f' : T2 → R} (h : r' = r ∧ KnR r ∧ ∀ a, r = .ok a → chk a = 0) (hf : ∀ a, kn a → f' a = f a ∧ KnR (f a)) : bnd r' f' = bnd r f ∧ KnR (bnd r f) := by
  obtain ⟨rfl, h2, h3⟩ := h
  cases r' with
  | bad _ _ _ => exact ⟨rfl, fun _ e => by cases e⟩
  | ok a => exact hf a ⟨h3 a rfl, h2 a rfl⟩
theorem opnK_kn {k : Int} {f : Fo} (h : opnK k f = false) : kn (k, f) := by
  unfold opnK Ty.knownT at h
  rw [Bool.not_eq_false'] at h
  rw [Bool.and_eq_true, beq_iff_eq] at h
  exact h
theorem anno_kn {h : Hd} (_h17 : h.kind ≠ 17) (ho : opn h = false) : (Tm.hasType h.kind = true → kn (TT h)) ∧ (Tm.hasTo h.kind = true → kn (UU h)) := by
  unfold opn anno Tm.tys at ho
  refine ⟨fun ht => ?_, fun ht => ?_⟩
  · rw [if_pos ht] at ho
    by_cases hu : Tm.hasTo h.kind = true
    · rw [if_pos hu] at ho
      simp only [Ty.anyF, Bool.or_eq_false_iff] at ho
      exact opnK_kn ho.1
    · rw [if_neg hu] at ho
      simp only [Ty.anyF, Bool.or_eq_false_iff] at ho
      exact opnK_kn ho.1
  · rw [if_pos (Tm.hasTo_type ht), if_pos ht] at ho
    simp only [Ty.anyF, Bool.or_eq_false_iff] at ho
    exact opnK_kn ho.2.1
theorem foF_parts {h : Hd} {k r : Tm} (e : foF (.node h k r) = none) : fo h k = none ∧ foF r = none := by
  rw [foF_node] at e
  cases q : fo h k with
  | none => rw [q] at e; exact ⟨rfl, e⟩
  | some x => rw [q] at e; cases e
theorem fo_parts {h : Hd} {k : Tm} (e : fo h k = none) : opn h = false ∧ foF k = none := by
  unfold fo at e
  by_cases q : opn h = true
  · rw [if_pos q] at e; cases e
  · rw [if_neg q] at e; exact ⟨by simpa using q, e⟩
theorem KnR.lift {h : Hd} {r : R} (k : KnR r) : KnR (Ck.lift h r) := fun a e => k a (lift_ok e).1
theorem bnd_ty {K : Nat} {h : Hd} {kids : Tm} {l : Env} {f f' : T2 → R} (ih : Cg.ty ops K h kids l = Ck.ty K h kids l ∧ KnR (Ck.ty K h kids l)) (hf : ∀ a, kn a → f' a = f a ∧ KnR (f a)) :
    bnd (Cg.ty ops K h kids l) f' = bnd (Ck.ty K h kids l) f ∧ KnR (bnd (Ck.ty K h kids l) f) := bnd_eq ⟨ih.1, ih.2, fun _ e => Ck.ty_ok e⟩ hf
/-- both sets of rules tell the same -/
theorem ty_eq : ∀ (K : Nat) (h : Hd) (kids : Tm) (l : Env), Tm.okT h kids = true → castT h kids = false → fo h kids = none → KnE l → Cg.ty ops K h kids l = Ck.ty K h kids l ∧ KnR (Ck.ty K h kids l)
  | 0, h, _, _, _, _, _, _ => ⟨rfl, KnR.fault h 0⟩
  | K + 1, h, kids, l, ho, hc, hf, hl => by
    obtain ⟨hik, hlen, hokF⟩ := Ck.okT_parts ho
    obtain ⟨h17, hcF⟩ := Ck.castT_parts hc
    obtain ⟨hop, hfF⟩ := fo_parts hf
    obtain ⟨hT, hU⟩ := anno_kn h17 hop
    have key : Cg.raw ops (Cg.ty ops K) h kids l = Ck.raw (Ck.ty K) h kids l ∧ KnR (Ck.raw (Ck.ty K) h kids l) := by
      simp only [Tm.isKind, decide_eq_true_eq] at hik
      have hkk : h.kind = 0 ∨ h.kind = 1 ∨ h.kind = 2 ∨ h.kind = 3 ∨ h.kind = 4 ∨ h.kind = 5 ∨ h.kind = 6 ∨ h.kind = 7 ∨ h.kind = 8 ∨ h.kind = 9 ∨ h.kind = 10 ∨ h.kind = 11 ∨ h.kind = 12 ∨ h.kind = 13 ∨ h.kind = 14 ∨ h.kind = 15 ∨ h.kind = 16 := by omega
      have I1 : ∀ {g : Hd} {k r : Tm} (l : Env), kids = .node g k r → KnE l → Cg.ty ops K (k1 kids).1 (k1 kids).2 l = Ck.ty K (k1 kids).1 (k1 kids).2 l ∧ KnR (Ck.ty K (k1 kids).1 (k1 kids).2 l) := by
        intro g k r l e hl
        subst e
        have a1 := Ck.okF_node' hokF
        simp only [Ck.castF, Bool.or_eq_false_iff] at hcF
        exact ty_eq K g k l a1.1 (by unfold Ck.castT; rw [hcF.1.1, hcF.1.2]; rfl) (foF_parts hfF).1 hl
      have I2 : ∀ {g g' : Hd} {k k' r : Tm} (l : Env), kids = .node g k (.node g' k' r) → KnE l → Cg.ty ops K (k2 kids).1 (k2 kids).2 l = Ck.ty K (k2 kids).1 (k2 kids).2 l ∧ KnR (Ck.ty K (k2 kids).1 (k2 kids).2 l) := by
        intro g g' k k' r l e hl
        subst e
        have a1 := Ck.okF_node' (Ck.okF_node' hokF).2
        simp only [Ck.castF, Bool.or_eq_false_iff] at hcF
        exact ty_eq K g' k' l a1.1 (by unfold Ck.castT; rw [hcF.2.1.1, hcF.2.1.2]; rfl) (foF_parts (foF_parts hfF).2).1 hl
      have I3 : ∀ {g g' g2 : Hd} {k k' k2 r : Tm} (l : Env), kids = .node g k (.node g' k' (.node g2 k2 r)) → KnE l → Cg.ty ops K (k3 kids).1 (k3 kids).2 l = Ck.ty K (k3 kids).1 (k3 kids).2 l ∧ KnR (Ck.ty K (k3 kids).1 (k3 kids).2 l) := by
        intro g g' g2 k k' k2 r l e hl
        subst e
        have a1 := Ck.okF_node' (Ck.okF_node' (Ck.okF_node' hokF).2).2
        simp only [Ck.castF, Bool.or_eq_false_iff] at hcF
        exact ty_eq K g2 k2 l a1.1 (by unfold Ck.castT; rw [hcF.2.2.1.1, hcF.2.2.1.2]; rfl) (foF_parts (foF_parts (foF_parts hfF).2).2).1 hl
      have L1 : Tm.kidsN h.kind = 1 → ∃ g k r, kids = .node g k r := by
        intro e; rw [e] at hlen
        match kids, hlen with
        | .node g k r, _ => exact ⟨g, k, r, rfl⟩
        | .nil, q => simp [Tm.len] at q
      have L2 : Tm.kidsN h.kind = 2 → ∃ g k g' k' r, kids = .node g k (.node g' k' r) := by
        intro e; rw [e] at hlen
        match kids, hlen with
        | .node g k (.node g' k' r), _ => exact ⟨g, k, g', k', r, rfl⟩
        | .node _ _ .nil, q => simp [Tm.len] at q
        | .nil, q => simp [Tm.len] at q
      have L3 : Tm.kidsN h.kind = 3 → ∃ g k g' k' g2 k2 r, kids = .node g k (.node g' k' (.node g2 k2 r)) := by
        intro e; rw [e] at hlen
        match kids, hlen with
        | .node g k (.node g' k' (.node g2 k2 r)), _ => exact ⟨g, k, g', k', g2, k2, r, rfl⟩
        | .node _ _ (.node _ _ .nil), q => simp [Tm.len] at q
        | .node _ _ .nil, q => simp [Tm.len] at q
        | .nil, q => simp [Tm.len] at q
      clear ho hc hf hop hfF hcF hokF hlen hik
      have one : (h.kind = 10 ∨ h.kind = 11 ∨ h.kind = 12 ∨ h.kind = 13 ∨ h.kind = 16) → Tm.kidsN h.kind = 1 → bnd (Cg.ty ops K (k1 kids).1 (k1 kids).2 l) (fun a => Cg.over ops h a (0, .nil) (0, .nil)) = bnd (Ck.ty K (k1 kids).1 (k1 kids).2 l) (fun a => Ck.over h a (0, .nil) (0, .nil)) ∧ KnR (bnd (Ck.ty K (k1 kids).1 (k1 kids).2 l) (fun a => Ck.over h a (0, .nil) (0, .nil))) := by
        intro hk e
        obtain ⟨g, k, r, q⟩ := L1 e
        exact bnd_ty (I1 l q hl) fun a ha => over_eq h a _ _ (by omega) ha (fun q => by omega) (fun q => by omega) hT
      have two : (h.kind = 6 ∨ h.kind = 9 ∨ h.kind = 15) → Tm.kidsN h.kind = 2 → bnd (Cg.ty ops K (k1 kids).1 (k1 kids).2 l) (fun a => bnd (Cg.ty ops K (k2 kids).1 (k2 kids).2 l) fun b => Cg.over ops h a b (0, .nil)) = bnd (Ck.ty K (k1 kids).1 (k1 kids).2 l) (fun a => bnd (Ck.ty K (k2 kids).1 (k2 kids).2 l) fun b => Ck.over h a b (0, .nil)) ∧ KnR (bnd (Ck.ty K (k1 kids).1 (k1 kids).2 l) (fun a => bnd (Ck.ty K (k2 kids).1 (k2 kids).2 l) fun b => Ck.over h a b (0, .nil))) := by
        intro hk e
        obtain ⟨g, k, g', k', r, q⟩ := L2 e
        exact bnd_ty (I1 l q hl) fun a ha => bnd_ty (I2 l q hl) fun b hb => over_eq h a b _ (by omega) ha (fun _ => hb) (fun q => by omega) hT
      rcases hkk with hk | hk | hk | hk | hk | hk | hk | hk | hk | hk | hk | hk | hk | hk | hk | hk | hk
      · rw [Cg.raw_0 _ _ _ _ _ hk, Ck.raw_0 _ _ _ _ hk]
        refine ⟨rfl, ?_⟩
        cases q : fnd l h.name with
        | some a =>
          obtain ⟨y, hy, hz⟩ := fnd_mem q
          exact KnR.ok (hz ▸ hl y hy)
        | none => exact fun _ e => by cases e
      · rw [Cg.raw_1 _ _ _ _ _ hk, Ck.raw_1 _ _ _ _ hk]; exact ⟨rfl, KnR.ok rfl⟩
      · rw [Cg.raw_2 _ _ _ _ _ hk, Ck.raw_2 _ _ _ _ hk]; exact ⟨rfl, KnR.ok rfl⟩
      · rw [Cg.raw_3 _ _ _ _ _ hk, Ck.raw_3 _ _ _ _ hk]; exact ⟨rfl, KnR.ok rfl⟩
      · have hT := hT (by rw [hk]; rfl)
        obtain ⟨g, k, r, q⟩ := L1 (by rw [hk]; rfl)
        rw [Cg.raw_4 _ _ _ _ _ hk, Ck.raw_4 _ _ _ _ hk]
        exact bnd_ty (I1 _ q (hl.snoc hT.2)) fun b hb => ⟨rfl, KnR.ok (kn_mk2 (by decide) hT hb)⟩
      · have hT := hT (by rw [hk]; rfl)
        have hU := hU (by rw [hk]; rfl)
        obtain ⟨g, k, r, q⟩ := L1 (by rw [hk]; rfl)
        rw [Cg.raw_5 _ _ _ _ _ hk, Ck.raw_5 _ _ _ _ hk]
        have hm : Ty.knT (mk2 3 (TT h) (UU h)).1 (mk2 3 (TT h) (UU h)).2 = true := kn_mk2 (by decide) hT hU
        refine bnd_ty (I1 _ q (fun x hx => ?_)) fun b hb => ?_
        · rcases List.mem_append.1 hx with q | q
          · exact hl x q
          · simp only [List.mem_cons, List.not_mem_nil, or_false] at q
            rcases q with q | q
            · rw [q]; exact hm
            · rw [q]; exact hT.2
        · rw [ag_eq hb hU]
          exact ⟨rfl, if_kn (fun _ => KnR.ok hm) (KnR.fault _ _)⟩
      · rw [Cg.raw_6 _ _ _ _ _ hk, Ck.raw_6 _ _ _ _ hk]; exact two (.inl hk) (by rw [hk]; rfl)
      · have hT := hT (by rw [hk]; rfl)
        obtain ⟨g, k, g', k', r, q⟩ := L2 (by rw [hk]; rfl)
        rw [Cg.raw_7 _ _ _ _ _ hk, Ck.raw_7 _ _ _ _ hk]
        refine bnd_ty (I1 l q hl) fun a ha => ?_
        rw [ag_eq ha hT, (I2 _ q (hl.snoc hT.2)).1]
        exact ⟨rfl, if_kn (fun _ => (I2 _ q (hl.snoc hT.2)).2) (KnR.fault _ _)⟩
      · obtain ⟨g, k, g', k', g2, k2', r, q⟩ := L3 (by rw [hk]; rfl)
        rw [Cg.raw_8 _ _ _ _ _ hk, Ck.raw_8 _ _ _ _ hk]
        exact bnd_ty (I1 l q hl) fun a ha => bnd_ty (I2 l q hl) fun b hb => bnd_ty (I3 l q hl) fun c hc => over_eq h a b c (by omega) ha (fun _ => hb) (fun _ => hc) hT
      · rw [Cg.raw_9 _ _ _ _ _ hk, Ck.raw_9 _ _ _ _ hk]; exact two (.inr (.inl hk)) (by rw [hk]; rfl)
      · rw [Cg.raw_10 _ _ _ _ _ hk, Ck.raw_10 _ _ _ _ hk]; exact one (.inl hk) (by rw [hk]; rfl)
      · rw [Cg.raw_11 _ _ _ _ _ hk, Ck.raw_11 _ _ _ _ hk]; exact one (.inr (.inl hk)) (by rw [hk]; rfl)
      · rw [Cg.raw_12 _ _ _ _ _ hk, Ck.raw_12 _ _ _ _ hk]; exact one (.inr (.inr (.inl hk))) (by rw [hk]; rfl)
      · rw [Cg.raw_13 _ _ _ _ _ hk, Ck.raw_13 _ _ _ _ hk]; exact one (.inr (.inr (.inr (.inl hk)))) (by rw [hk]; rfl)
      · obtain ⟨g, k, g', k', g2, k2', r, q⟩ := L3 (by rw [hk]; rfl)
        rw [Cg.raw_14 _ _ _ _ _ hk, Ck.raw_14 _ _ _ _ hk]
        refine bnd_ty (I1 l q hl) fun a ha => ?_
        obtain ⟨e1, e2⟩ := as_eq (k := 5) (by decide) (by decide) ha
        rw [e1]
        by_cases qa : asO 5 a = true
        · obtain ⟨e3, e4, n1, n2⟩ := e2 qa
          rw [if_pos qa, if_pos qa, e3, e4]
          exact bnd_ty (I2 _ q (hl.snoc n1.2)) fun b hb => bnd_ty (I3 _ q (hl.snoc n2.2)) fun c hc => meet_eq h hb hc
        · rw [if_neg qa, if_neg qa]; exact ⟨rfl, KnR.fault _ _⟩
      · rw [Cg.raw_15 _ _ _ _ _ hk, Ck.raw_15 _ _ _ _ hk]; exact two (.inr (.inr hk)) (by rw [hk]; rfl)
      · rw [Cg.raw_16 _ _ _ _ _ hk, Ck.raw_16 _ _ _ _ hk]; exact one (.inr (.inr (.inr (.inr hk)))) (by rw [hk]; rfl)
    rw [Cg.ty_succ, Ck.ty_succ, key.1]
    exact ⟨rfl, key.2.lift⟩
/-- of a static term check.Type tells what static.Type does, and it is known -/
theorem tell_eq {h : Hd} {kids : Tm} (e : ref h kids = none) : Cg.tellR St.ops (St.ref h kids) h kids = Ck.tell h kids ∧ KnR (Ck.tell h kids) := by
  obtain ⟨⟨h0, hc⟩, hf⟩ := ref_ok e
  have ho := (Ck.chk_parts h0).2.2
  have q := ty_eq (Tm.nodes kids + 1) h kids [] ho hc hf (fun _ hx => by cases hx)
  rw [Ck.tell_eq h0 hc]
  have e2 : St.ref h kids = none := e
  unfold Cg.tellR
  rw [e2]
  exact q
end St
end Go.Proofs.YtknhoagicdfikaaGreatDoor
