/-
  Layer 11: static.Type, whole.
-/
import Derived.Test.YtjpohjcnjanoaaaGreatDoorM23
import Derived.Test.YtjpohjcnjanoaaaGreatDoorM18
namespace Go.Proofs.YtjpohjcnjanoaaaGreatDoor
open Go.RowKit
set_option maxHeartbeats 1000000 in
set_option maxRecDepth 100000 in
theorem closed_any (w : World) : Calls Tryz.prog 32 #[] w fun e w' => e = .returned (.agg #[.func (Fn.func 34) #[] #[], .func (Fn.func 65) #[] #[], .func (Fn.func 66) #[] #[], .func (Fn.func 67) #[] #[]]) ∧ Below w.heap.size w w' := by
  have HB := Lib.hid (below_n1 w (.cells #[.func (Fn.func 34) #[] #[], .func (Fn.func 65) #[] #[], .func (Fn.func 66) #[] #[], .func (Fn.func 67) #[] #[]] 54))
  go_enter Tryz.func32, Tryz.ntmps32
  go_wp2_with fail
  refine bodyPost_ret (v := .agg #[.func (Fn.func 34) #[] #[], .func (Fn.func 65) #[] #[], .func (Fn.func 66) #[] #[], .func (Fn.func 67) #[] #[]]) (by simp [results, Tryz.results32, go_sem, *]) rfl ⟨rfl, HB.out⟩

set_option maxHeartbeats 1000000 in
set_option maxRecDepth 100000 in
theorem stType_ok (h : Hd) (p : Pl) (w : World) (a : Ck.T2)
    (hC : ∀ W : World, Below w.heap.size w W → Calls Tryz.prog 23 #[.agg #[.func (Fn.func 34) #[] #[], .func (Fn.func 65) #[] #[], .func (Fn.func 66) #[] #[], .func (Fn.func 67) #[] #[]], .agg #[.int .i8 h.kind, .string h.name, .string h.arg, .int .i64 h.num, .int .i8 h.tk, .slice p.TA p.tn p.tc, .int .i8 h.uk, .slice p.UA p.un p.uc, .int .i64 h.label, .int .i64 h.pos, .slice p.A p.n p.c]] W (Ck.TyPost W (.ok a))) :
    Calls Tryz.prog 16 #[.agg #[.int .i8 h.kind, .string h.name, .string h.arg, .int .i64 h.num, .int .i8 h.tk, .slice p.TA p.tn p.tc, .int .i8 h.uk, .slice p.UA p.un p.uc, .int .i64 h.label, .int .i64 h.pos, .slice p.A p.n p.c]] w (Ck.TyPost w (.ok a)) := by
  have hB2 := below_n2 w (.cells #[.int .i8 h.kind, .string h.name, .string h.arg, .int .i64 h.num, .int .i8 h.tk, .slice p.TA p.tn p.tc, .int .i8 h.uk, .slice p.UA p.un p.uc, .int .i64 h.label, .int .i64 h.pos, .slice p.A p.n p.c] 28) (.cells #[.int .i8 0, .slice none 0 0] 25)
  obtain ⟨h0, h1⟩ := heap_n2 w (.cells #[.int .i8 h.kind, .string h.name, .string h.arg, .int .i64 h.num, .int .i8 h.tk, .slice p.TA p.tn p.tc, .int .i8 h.uk, .slice p.UA p.un p.uc, .int .i64 h.label, .int .i64 h.pos, .slice p.A p.n p.c] 28) (.cells #[.int .i8 0, .slice none 0 0] 25)
  have hz : ((w.alloc (.cells #[.int .i8 h.kind, .string h.name, .string h.arg, .int .i64 h.num, .int .i8 h.tk, .slice p.TA p.tn p.tc, .int .i8 h.uk, .slice p.UA p.un p.uc, .int .i64 h.label, .int .i64 h.pos, .slice p.A p.n p.c] 28)).alloc (.cells #[.int .i8 0, .slice none 0 0] 25)).heap.size = w.heap.size + 2 := by simp
  obtain ⟨w1, hw1⟩ : ∃ w1, w1 = (w.alloc (.cells #[.int .i8 h.kind, .string h.name, .string h.arg, .int .i64 h.num, .int .i8 h.tk, .slice p.TA p.tn p.tc, .int .i8 h.uk, .slice p.UA p.un p.uc, .int .i64 h.label, .int .i64 h.pos, .slice p.A p.n p.c] 28)).alloc (.cells #[.int .i8 0, .slice none 0 0] 25) := ⟨_, rfl⟩
  rw [← hw1] at hB2 h0 h1 hz
  have HW1 := Lib.hid hw1
  have HZ := Lib.hid hz
  have H2 := Lib.hid h1
  have hfrom := Lib.hid (fun (W : World) (hb : Below w1.heap.size w1 W) => hB2.trans (hb.mono hB2.size))
  have CT := Lib.hid (fun (W : World) (hb : Below w1.heap.size w1 W) => hC W (hB2.trans (hb.mono hB2.size)))
  have HK := Lib.hid (fun (W : World) (hb : Below w1.heap.size w1 W) => (own11 (heap_below hb (heap_lt h0) h0)))
  clear hB2 h0 h1 hz hC
  go_enter Tryz.func16, Tryz.ntmps16
  go_upto_region 1 with fail
  rw [← HW1.out]
  clear hw1 HW1
  refine region_inv_end2 9 rfl [4, 5, 6, 7, 8, 3] (by kernel_rfl) (by kernel_rfl) (by kernel_rfl) (fun listed a' w' => a'.defers = [] ∧ a'.tmps.size = 9 ∧ a'.eval (.tmp 1) = .pointer (some ⟨w.heap.size, 0, none⟩) ∧ a'.eval (.tmp 2) = .pointer (some ⟨w.heap.size + 1, 0, none⟩) ∧ ∃ G m c, (listed[0]? = some true → (a'.eval (.tmp 4) = .agg #[.func (Fn.func 34) #[] #[], .func (Fn.func 65) #[] #[], .func (Fn.func 66) #[] #[], .func (Fn.func 67) #[] #[]])) ∧ (listed[1]? = some true → (a'.eval (.tmp 5) = .agg #[.int .i8 h.kind, .string h.name, .string h.arg, .int .i64 h.num, .int .i8 h.tk, .slice p.TA p.tn p.tc, .int .i8 h.uk, .slice p.UA p.un p.uc, .int .i64 h.label, .int .i64 h.pos, .slice p.A p.n p.c])) ∧ (listed[2]? = some true → (a'.eval (.tmp 6) = .tuple #[.agg #[.int .i8 a.1, .slice G m c], .nilIface]) ∧ (listed[0]? = some true) ∧ (listed[1]? = some true) ∧ (Ck.Ly (fun b => w1.heap.size ≤ b) w' a G m c)) ∧ (listed[3]? = some true → (a'.eval (.tmp 7) = .agg #[.int .i8 a.1, .slice G m c]) ∧ (listed[0]? = some true) ∧ (listed[1]? = some true) ∧ (listed[2]? = some true)) ∧ (listed[4]? = some true → (a'.eval (.tmp 8) = .nilIface)) ∧ (listed[5]? = some true → (listed[0]? = some true) ∧ (listed[1]? = some true) ∧ (listed[2]? = some true) ∧ (listed[3]? = some true) ∧ (w'.heap[w.heap.size + 1]? = some (.cells #[.int .i8 a.1, .slice G m c] 25 (0, 0))) ∧ (Below w.heap.size w w')) ∧ (listed[6]? = some true → (a'.eval (.tmp 3) = .nilIface)) ∧ (listed[5]? = some false → Below w1.heap.size w1 w')) (fun _ _ _ h => h.1) ?_ ?_ ?_
  · have hz := HZ.out
    refine ⟨rfl, rfl, rfl, rfl, none, 0, 0, (fun h => ?_), (fun h => ?_), (fun h => ?_), (fun h => ?_), (fun h => ?_), (fun h => ?_), (fun h => ?_), (fun _ => (Below.refl _ _).drew)⟩ <;> simp at h
  · rintro listed a' w' i o ⟨hdf, hsz, x1, x2, G, m, c, y0, y1, y2, y3, y4, y5, y6, hbw⟩ hz hsz0 ho hi hp
    have hi13 : i < 7 := by
      rcases Nat.lt_or_ge i 7 with q | q
      · exact q
      · rw [Array.getElem?_eq_none (by simpa using q)] at ho; cases ho
    rcases (by omega : i = 0 ∨ i = 1 ∨ i = 2 ∨ i = 3 ∨ i = 4 ∨ i = 5 ∨ i = 6) with rfl | rfl | rfl | rfl | rfl | rfl | rfl
    · obtain rfl := Option.some.inj ho
      have hbw := hbw (nf (by rw [hz]; decide) (fun q => (y5 q).1) hi)
      refine wpOp_at ho rfl (wp_calls 4 rfl (f := 32) (args := #[]) ?_ (closed_any w') fun e u hg => ?_)
      · obtain ⟨hcst, hfn⟩ := evc a'; generalize a'.eval = ev at *
        clear hp y0 y1 y2 y3 y4 y5 y6
        go_simp
      · obtain ⟨he, hb⟩ := hg
        refine ⟨.agg #[.func (Fn.func 34) #[] #[], .func (Fn.func 65) #[] #[], .func (Fn.func 66) #[] #[], .func (Fn.func 67) #[] #[]], he, ?_⟩
        have hbs := hbw.size
        have hzz := HZ.out
        have hbs2 := hb.size
        exact ⟨pd hdf, ps hsz, pn x1, pn x2, G, m, c, (fun _ => pS hsz), (kE y1), (kN y2 (fun q => q.2.1) hi), (kN y3 (fun q => q.2.1) hi), (kE y4), (kN y5 (fun q => q.1) hi), (kE y6), (fun _ => hbw.trans (hb.mono hbw.size))⟩
    · obtain rfl := Option.some.inj ho
      refine wpOp_at ho rfl (wp_value 5 rfl (v := .agg #[.int .i8 h.kind, .string h.name, .string h.arg, .int .i64 h.num, .int .i8 h.tk, .slice p.TA p.tn p.tc, .int .i8 h.uk, .slice p.UA p.un p.uc, .int .i64 h.label, .int .i64 h.pos, .slice p.A p.n p.c]) ?_ ?_)
      · have hbw := hbw (nf (by rw [hz]; decide) (fun q => (y5 q).2.1) hi)
        obtain ⟨q0, q1, q2, q3, q4, q5, q6, q7, q8, q9, q10, -⟩ := HK.out w' hbw
        obtain ⟨hcst, hfn⟩ := evc a'; generalize a'.eval = ev at *
        clear hp y0 y1 y2 y3 y4 y5 y6
        go_simp
      · exact ⟨pd hdf, ps hsz, pn x1, pn x2, G, m, c, (kE y0), (fun _ => pS hsz), (kN y2 (fun q => q.2.2.1) hi), (kN y3 (fun q => q.2.2.1) hi), (kE y4), (kN y5 (fun q => q.2.1) hi), (kE y6), (kU hbw id)⟩
    · obtain rfl := Option.some.inj ho
      have v0 := hpv hp 0 (by simp)
      have ww0 := (y0 v0)
      have v1 := hpv hp 1 (by simp)
      have ww1 := (y1 v1)
      have hbw := hbw (nf (by rw [hz]; decide) (fun q => (y5 q).2.2.1) hi)
      refine wpOp_at ho rfl (wp_calls 6 rfl (f := 23) (args := #[.agg #[.func (Fn.func 34) #[] #[], .func (Fn.func 65) #[] #[], .func (Fn.func 66) #[] #[], .func (Fn.func 67) #[] #[]], .agg #[.int .i8 h.kind, .string h.name, .string h.arg, .int .i64 h.num, .int .i8 h.tk, .slice p.TA p.tn p.tc, .int .i8 h.uk, .slice p.UA p.un p.uc, .int .i64 h.label, .int .i64 h.pos, .slice p.A p.n p.c]]) ?_ (CT.out w' hbw) fun e u hg => ?_)
      · obtain ⟨hcst, hfn⟩ := evc a'; generalize a'.eval = ev at *
        clear hp y0 y1 y2 y3 y4 y5 y6
        go_simp
      · obtain ⟨G', m', c', rfl, hl, hb⟩ := hg
        refine ⟨.tuple #[.agg #[.int .i8 a.1, .slice G' m' c'], .nilIface], rfl, ?_⟩
        have hbs := hbw.size
        have hzz := HZ.out
        have hbs2 := hb.size
        exact ⟨pd hdf, ps hsz, pn x1, pn x2, G', m', c', (kE y0), (kE y1), (fun _ => ⟨pS hsz, (set_keep v0), (set_keep v1), Ck.Ly.weak hl (fun b _ hq => Nat.le_trans hbw.size hq)⟩), (kN y3 (fun q => q.2.2.2) hi), (kE y4), (kN y5 (fun q => q.2.2.1) hi), (kE y6), (fun _ => hbw.trans (hb.mono hbw.size))⟩
    · obtain rfl := Option.some.inj ho
      refine wpOp_at ho rfl (wp_value 7 rfl (v := .agg #[.int .i8 a.1, .slice G m c]) ?_ ?_)
      · have v2 := hpv hp 2 (by simp)
        have ww2 := (y2 v2).1
        obtain ⟨hcst, hfn⟩ := evc a'; generalize a'.eval = ev at *
        clear hp y0 y1 y2 y3 y4 y5 y6
        go_simp
      · have v2 := hpv hp 2 (by simp)
        exact ⟨pd hdf, ps hsz, pn x1, pn x2, G, m, c, (kE y0), (kE y1), (kF y2 (fun q => ⟨pn q.1, set_keep q.2.1, set_keep q.2.2.1, q.2.2.2⟩)), (fun _ => ⟨pS hsz, (set_keep ((y2 v2).2.1)), (set_keep ((y2 v2).2.2.1)), (set_keep v2)⟩), (kE y4), (kN y5 (fun q => q.2.2.2.1) hi), (kE y6), (kU hbw id)⟩
    · obtain rfl := Option.some.inj ho
      refine wpOp_at ho rfl (wp_value 8 rfl (v := .nilIface) ?_ ?_)
      · have v2 := hpv hp 2 (by simp)
        have ww2 := (y2 v2).1
        obtain ⟨hcst, hfn⟩ := evc a'; generalize a'.eval = ev at *
        clear hp y0 y1 y2 y3 y4 y5 y6
        go_simp
      · have v2 := hpv hp 2 (by simp)
        exact ⟨pd hdf, ps hsz, pn x1, pn x2, G, m, c, (kE y0), (kE y1), (kF y2 (fun q => ⟨pn q.1, set_keep q.2.1, set_keep q.2.2.1, q.2.2.2⟩)), (kF y3 (fun q => ⟨pn q.1, set_keep q.2.1, set_keep q.2.2.1, set_keep q.2.2.2⟩)), (fun _ => pS hsz), (kF y5 (fun q => ⟨set_keep q.1, set_keep q.2.1, set_keep q.2.2.1, set_keep q.2.2.2.1, q.2.2.2.2.1, q.2.2.2.2.2⟩)), (kE y6), (kU hbw id)⟩
    · obtain rfl := Option.some.inj ho
      have v3 := hpv hp 3 (by simp)
      have ww3 := (y3 v3).1
      have hbw := hbw hi
      have hbox := heap_below hbw (heap_lt H2.out) H2.out
      obtain ⟨bc0, bc1, bf0, bf1, -⟩ := own2 hbox
      refine wpOp_at ho rfl (wp_store rfl (w2 := (w'.setCell ⟨w.heap.size + 1, 0, none⟩ (.int .i8 a.1)).setCell ⟨w.heap.size + 1, 1, none⟩ (.slice G m c)) ?_ ?_)
      · obtain ⟨hcst, hfn⟩ := evc a'; generalize a'.eval = ev at *
        clear hp y0 y1 y2 y3 y4 y5 y6
        go_simp
      · have hsa : ((w'.setCell ⟨w.heap.size + 1, 0, none⟩ (.int .i8 a.1)).setCell ⟨w.heap.size + 1, 1, none⟩ (.slice G m c)).heap.size = w'.heap.size := by simp
        have hbs := hbw.size
        have hzz := HZ.out
        exact ⟨hdf, hsz, x1, x2, G, m, c, (kF y0 id), (kF y1 id), (kF y2 (fun q => ⟨q.1, set_keep q.2.1, set_keep q.2.2.1, (Ck.Ly.set2 q.2.2.2 (fun b hq => by have h1 : w1.heap.size ≤ b := hq; omega) _ _)⟩)), (kF y3 (fun q => ⟨q.1, set_keep q.2.1, set_keep q.2.2.1, set_keep q.2.2.2⟩)), (kF y4 id), (fun _ => ⟨(set_keep ((y3 v3).2.1)), (set_keep ((y3 v3).2.2.1)), (set_keep ((y3 v3).2.2.2)), (set_keep v3), set_two hbox _ _, below_set2 (hfrom.out w' hbw) (by omega) _ _⟩), (kF y6 id), (fun qu => (set_self_false qu).elim)⟩
    · obtain rfl := Option.some.inj ho
      refine wpOp_at ho rfl (wp_value 3 rfl (v := .nilIface) ?_ ?_)
      · have v4 := hpv hp 4 (by simp)
        have ww4 := (y4 v4)
        obtain ⟨hcst, hfn⟩ := evc a'; generalize a'.eval = ev at *
        clear hp y0 y1 y2 y3 y4 y5 y6
        go_simp
      · have v4 := hpv hp 4 (by simp)
        exact ⟨pd hdf, ps hsz, pn x1, pn x2, G, m, c, (kE y0), (kE y1), (kF y2 (fun q => ⟨pn q.1, set_keep q.2.1, set_keep q.2.2.1, q.2.2.2⟩)), (kF y3 (fun q => ⟨pn q.1, set_keep q.2.1, set_keep q.2.2.1, set_keep q.2.2.2⟩)), (kE y4), (kF y5 (fun q => ⟨set_keep q.1, set_keep q.2.1, set_keep q.2.2.1, set_keep q.2.2.2.1, q.2.2.2.2.1, q.2.2.2.2.2⟩)), (fun _ => pS hsz), (kU hbw id)⟩
  · rintro listed u w' t ht hu ⟨-, -, -, -, G, m, c, y0, y1, y2, y3, y4, y5, y6, hbw⟩ hall
    have v2 := hall 2 (by decide)
    have v5 := hall 5 (by decide)
    have v6 := hall 6 (by decide)
    have HBX := Lib.hid ((y5 v5).2.2.2.2.2)
    have hl := ((y2 v2).2.2.2)
    have hx := ((y5 v5).2.2.2.2.1)
    have e3 := ((y6 v6))
    rw [hu 3 (by decide) (by decide)] at e3
    clear y0 y1 y2 y3 y4 y5 y6 v2 v5 v6 hall hu
    clear hbw
    simp only [over, List.setIfInBounds_toArray, List.set_cons_succ, List.set_cons_zero] at ht
    subst ht
    obtain ⟨k0, k1', -, -, -⟩ := own2 hx
    have hz := HZ.out
    go_wp2_with fail
    refine ⟨rfl, .tuple #[.agg #[.int .i8 a.1, .slice G m c], .nilIface], by simp [results, Tryz.results16, go_sem, k0, k1', e3], ?_⟩
    exact ⟨G, m, c, rfl, hl.weak (fun b _ hq => by have h1 : w1.heap.size ≤ b := hq; show w.heap.size ≤ b; omega), HBX.out⟩

set_option maxHeartbeats 1000000 in
set_option maxRecDepth 100000 in
theorem stType_bad (h : Hd) (p : Pl) (w : World) (E at' : Int) (x : ByteArray)
    (hC : ∀ W : World, Below w.heap.size w W → Calls Tryz.prog 23 #[.agg #[.func (Fn.func 34) #[] #[], .func (Fn.func 65) #[] #[], .func (Fn.func 66) #[] #[], .func (Fn.func 67) #[] #[]], .agg #[.int .i8 h.kind, .string h.name, .string h.arg, .int .i64 h.num, .int .i8 h.tk, .slice p.TA p.tn p.tc, .int .i8 h.uk, .slice p.UA p.un p.uc, .int .i64 h.label, .int .i64 h.pos, .slice p.A p.n p.c]] W (Ck.TyPost W (.bad E at' x))) :
    Calls Tryz.prog 16 #[.agg #[.int .i8 h.kind, .string h.name, .string h.arg, .int .i64 h.num, .int .i8 h.tk, .slice p.TA p.tn p.tc, .int .i8 h.uk, .slice p.UA p.un p.uc, .int .i64 h.label, .int .i64 h.pos, .slice p.A p.n p.c]] w (Ck.TyPost w (.bad E at' x)) := by
  have hB2 := below_n2 w (.cells #[.int .i8 h.kind, .string h.name, .string h.arg, .int .i64 h.num, .int .i8 h.tk, .slice p.TA p.tn p.tc, .int .i8 h.uk, .slice p.UA p.un p.uc, .int .i64 h.label, .int .i64 h.pos, .slice p.A p.n p.c] 28) (.cells #[.int .i8 0, .slice none 0 0] 25)
  obtain ⟨h0, h1⟩ := heap_n2 w (.cells #[.int .i8 h.kind, .string h.name, .string h.arg, .int .i64 h.num, .int .i8 h.tk, .slice p.TA p.tn p.tc, .int .i8 h.uk, .slice p.UA p.un p.uc, .int .i64 h.label, .int .i64 h.pos, .slice p.A p.n p.c] 28) (.cells #[.int .i8 0, .slice none 0 0] 25)
  have hz : ((w.alloc (.cells #[.int .i8 h.kind, .string h.name, .string h.arg, .int .i64 h.num, .int .i8 h.tk, .slice p.TA p.tn p.tc, .int .i8 h.uk, .slice p.UA p.un p.uc, .int .i64 h.label, .int .i64 h.pos, .slice p.A p.n p.c] 28)).alloc (.cells #[.int .i8 0, .slice none 0 0] 25)).heap.size = w.heap.size + 2 := by simp
  obtain ⟨w1, hw1⟩ : ∃ w1, w1 = (w.alloc (.cells #[.int .i8 h.kind, .string h.name, .string h.arg, .int .i64 h.num, .int .i8 h.tk, .slice p.TA p.tn p.tc, .int .i8 h.uk, .slice p.UA p.un p.uc, .int .i64 h.label, .int .i64 h.pos, .slice p.A p.n p.c] 28)).alloc (.cells #[.int .i8 0, .slice none 0 0] 25) := ⟨_, rfl⟩
  rw [← hw1] at hB2 h0 h1 hz
  have HW1 := Lib.hid hw1
  have HZ := Lib.hid hz
  have H2 := Lib.hid h1
  have hfrom := Lib.hid (fun (W : World) (hb : Below w1.heap.size w1 W) => hB2.trans (hb.mono hB2.size))
  have CT := Lib.hid (fun (W : World) (hb : Below w1.heap.size w1 W) => hC W (hB2.trans (hb.mono hB2.size)))
  have HK := Lib.hid (fun (W : World) (hb : Below w1.heap.size w1 W) => (own11 (heap_below hb (heap_lt h0) h0)))
  clear hB2 h0 h1 hz hC
  go_enter Tryz.func16, Tryz.ntmps16
  go_upto_region 1 with fail
  rw [← HW1.out]
  clear hw1 HW1
  refine region_inv_end2 9 rfl [4, 5, 6, 7, 8, 3] (by kernel_rfl) (by kernel_rfl) (by kernel_rfl) (fun listed a' w' => a'.defers = [] ∧ a'.tmps.size = 9 ∧ a'.eval (.tmp 1) = .pointer (some ⟨w.heap.size, 0, none⟩) ∧ a'.eval (.tmp 2) = .pointer (some ⟨w.heap.size + 1, 0, none⟩) ∧ ∃ g, (listed[0]? = some true → (a'.eval (.tmp 4) = .agg #[.func (Fn.func 34) #[] #[], .func (Fn.func 65) #[] #[], .func (Fn.func 66) #[] #[], .func (Fn.func 67) #[] #[]])) ∧ (listed[1]? = some true → (a'.eval (.tmp 5) = .agg #[.int .i8 h.kind, .string h.name, .string h.arg, .int .i64 h.num, .int .i8 h.tk, .slice p.TA p.tn p.tc, .int .i8 h.uk, .slice p.UA p.un p.uc, .int .i64 h.label, .int .i64 h.pos, .slice p.A p.n p.c])) ∧ (listed[2]? = some true → (a'.eval (.tmp 6) = .tuple #[.agg #[.int .i8 0, .slice none 0 0], .iface 65 (.pointer (some ⟨g, 0, none⟩))]) ∧ (listed[0]? = some true) ∧ (listed[1]? = some true) ∧ (w'.heap[g]? = some (.cells #[.int .i64 E, .int .i64 at', .string x] 69 (0, 0))) ∧ (w1.heap.size ≤ g)) ∧ (listed[3]? = some true → (a'.eval (.tmp 7) = .agg #[.int .i8 0, .slice none 0 0]) ∧ (listed[0]? = some true) ∧ (listed[1]? = some true) ∧ (listed[2]? = some true)) ∧ (listed[4]? = some true → (a'.eval (.tmp 8) = .iface 65 (.pointer (some ⟨g, 0, none⟩))) ∧ (listed[2]? = some true)) ∧ (listed[5]? = some true → (listed[0]? = some true) ∧ (listed[1]? = some true) ∧ (listed[2]? = some true) ∧ (listed[3]? = some true) ∧ (w'.heap[w.heap.size + 1]? = some (.cells #[.int .i8 0, .slice none 0 0] 25 (0, 0))) ∧ (Below w.heap.size w w')) ∧ (listed[6]? = some true → (a'.eval (.tmp 3) = .iface 65 (.pointer (some ⟨g, 0, none⟩))) ∧ (listed[2]? = some true)) ∧ (listed[5]? = some false → Below w1.heap.size w1 w')) (fun _ _ _ h => h.1) ?_ ?_ ?_
  · have hz := HZ.out
    refine ⟨rfl, rfl, rfl, rfl, 0, (fun h => ?_), (fun h => ?_), (fun h => ?_), (fun h => ?_), (fun h => ?_), (fun h => ?_), (fun h => ?_), (fun _ => (Below.refl _ _).drew)⟩ <;> simp at h
  · rintro listed a' w' i o ⟨hdf, hsz, x1, x2, g, y0, y1, y2, y3, y4, y5, y6, hbw⟩ hz hsz0 ho hi hp
    have hi13 : i < 7 := by
      rcases Nat.lt_or_ge i 7 with q | q
      · exact q
      · rw [Array.getElem?_eq_none (by simpa using q)] at ho; cases ho
    rcases (by omega : i = 0 ∨ i = 1 ∨ i = 2 ∨ i = 3 ∨ i = 4 ∨ i = 5 ∨ i = 6) with rfl | rfl | rfl | rfl | rfl | rfl | rfl
    · obtain rfl := Option.some.inj ho
      have hbw := hbw (nf (by rw [hz]; decide) (fun q => (y5 q).1) hi)
      refine wpOp_at ho rfl (wp_calls 4 rfl (f := 32) (args := #[]) ?_ (closed_any w') fun e u hg => ?_)
      · obtain ⟨hcst, hfn⟩ := evc a'; generalize a'.eval = ev at *
        clear hp y0 y1 y2 y3 y4 y5 y6
        go_simp
      · obtain ⟨he, hb⟩ := hg
        refine ⟨.agg #[.func (Fn.func 34) #[] #[], .func (Fn.func 65) #[] #[], .func (Fn.func 66) #[] #[], .func (Fn.func 67) #[] #[]], he, ?_⟩
        have hbs := hbw.size
        have hzz := HZ.out
        have hbs2 := hb.size
        exact ⟨pd hdf, ps hsz, pn x1, pn x2, g, (fun _ => pS hsz), (kE y1), (kN y2 (fun q => q.2.1) hi), (kN y3 (fun q => q.2.1) hi), (kF y4 (fun q => ⟨pn q.1, set_keep q.2⟩)), (kN y5 (fun q => q.1) hi), (kF y6 (fun q => ⟨pn q.1, set_keep q.2⟩)), (fun _ => hbw.trans (hb.mono hbw.size))⟩
    · obtain rfl := Option.some.inj ho
      refine wpOp_at ho rfl (wp_value 5 rfl (v := .agg #[.int .i8 h.kind, .string h.name, .string h.arg, .int .i64 h.num, .int .i8 h.tk, .slice p.TA p.tn p.tc, .int .i8 h.uk, .slice p.UA p.un p.uc, .int .i64 h.label, .int .i64 h.pos, .slice p.A p.n p.c]) ?_ ?_)
      · have hbw := hbw (nf (by rw [hz]; decide) (fun q => (y5 q).2.1) hi)
        obtain ⟨q0, q1, q2, q3, q4, q5, q6, q7, q8, q9, q10, -⟩ := HK.out w' hbw
        obtain ⟨hcst, hfn⟩ := evc a'; generalize a'.eval = ev at *
        clear hp y0 y1 y2 y3 y4 y5 y6
        go_simp
      · exact ⟨pd hdf, ps hsz, pn x1, pn x2, g, (kE y0), (fun _ => pS hsz), (kN y2 (fun q => q.2.2.1) hi), (kN y3 (fun q => q.2.2.1) hi), (kF y4 (fun q => ⟨pn q.1, set_keep q.2⟩)), (kN y5 (fun q => q.2.1) hi), (kF y6 (fun q => ⟨pn q.1, set_keep q.2⟩)), (kU hbw id)⟩
    · obtain rfl := Option.some.inj ho
      have v0 := hpv hp 0 (by simp)
      have ww0 := (y0 v0)
      have v1 := hpv hp 1 (by simp)
      have ww1 := (y1 v1)
      have hbw := hbw (nf (by rw [hz]; decide) (fun q => (y5 q).2.2.1) hi)
      refine wpOp_at ho rfl (wp_calls 6 rfl (f := 23) (args := #[.agg #[.func (Fn.func 34) #[] #[], .func (Fn.func 65) #[] #[], .func (Fn.func 66) #[] #[], .func (Fn.func 67) #[] #[]], .agg #[.int .i8 h.kind, .string h.name, .string h.arg, .int .i64 h.num, .int .i8 h.tk, .slice p.TA p.tn p.tc, .int .i8 h.uk, .slice p.UA p.un p.uc, .int .i64 h.label, .int .i64 h.pos, .slice p.A p.n p.c]]) ?_ (CT.out w' hbw) fun e u hg => ?_)
      · obtain ⟨hcst, hfn⟩ := evc a'; generalize a'.eval = ev at *
        clear hp y0 y1 y2 y3 y4 y5 y6
        go_simp
      · obtain ⟨g', rfl, hf, hg, hb⟩ := hg
        refine ⟨.tuple #[.agg #[.int .i8 0, .slice none 0 0], .iface 65 (.pointer (some ⟨g', 0, none⟩))], rfl, ?_⟩
        have hbs := hbw.size
        have hzz := HZ.out
        have hbs2 := hb.size
        exact ⟨pd hdf, ps hsz, pn x1, pn x2, g', (kE y0), (kE y1), (fun _ => ⟨pS hsz, (set_keep v0), (set_keep v1), hf, (Nat.le_trans hbw.size hg)⟩), (kN y3 (fun q => q.2.2.2) hi), (kN y4 (fun q => q.2) hi), (kN y5 (fun q => q.2.2.1) hi), (kN y6 (fun q => q.2) hi), (fun _ => hbw.trans (hb.mono hbw.size))⟩
    · obtain rfl := Option.some.inj ho
      refine wpOp_at ho rfl (wp_value 7 rfl (v := .agg #[.int .i8 0, .slice none 0 0]) ?_ ?_)
      · have v2 := hpv hp 2 (by simp)
        have ww2 := (y2 v2).1
        obtain ⟨hcst, hfn⟩ := evc a'; generalize a'.eval = ev at *
        clear hp y0 y1 y2 y3 y4 y5 y6
        go_simp
      · have v2 := hpv hp 2 (by simp)
        exact ⟨pd hdf, ps hsz, pn x1, pn x2, g, (kE y0), (kE y1), (kF y2 (fun q => ⟨pn q.1, set_keep q.2.1, set_keep q.2.2.1, q.2.2.2.1, q.2.2.2.2⟩)), (fun _ => ⟨pS hsz, (set_keep ((y2 v2).2.1)), (set_keep ((y2 v2).2.2.1)), (set_keep v2)⟩), (kF y4 (fun q => ⟨pn q.1, set_keep q.2⟩)), (kN y5 (fun q => q.2.2.2.1) hi), (kF y6 (fun q => ⟨pn q.1, set_keep q.2⟩)), (kU hbw id)⟩
    · obtain rfl := Option.some.inj ho
      refine wpOp_at ho rfl (wp_value 8 rfl (v := .iface 65 (.pointer (some ⟨g, 0, none⟩))) ?_ ?_)
      · have v2 := hpv hp 2 (by simp)
        have ww2 := (y2 v2).1
        obtain ⟨hcst, hfn⟩ := evc a'; generalize a'.eval = ev at *
        clear hp y0 y1 y2 y3 y4 y5 y6
        go_simp
      · have v2 := hpv hp 2 (by simp)
        exact ⟨pd hdf, ps hsz, pn x1, pn x2, g, (kE y0), (kE y1), (kF y2 (fun q => ⟨pn q.1, set_keep q.2.1, set_keep q.2.2.1, q.2.2.2.1, q.2.2.2.2⟩)), (kF y3 (fun q => ⟨pn q.1, set_keep q.2.1, set_keep q.2.2.1, set_keep q.2.2.2⟩)), (fun _ => ⟨pS hsz, (set_keep v2)⟩), (kF y5 (fun q => ⟨set_keep q.1, set_keep q.2.1, set_keep q.2.2.1, set_keep q.2.2.2.1, q.2.2.2.2.1, q.2.2.2.2.2⟩)), (kF y6 (fun q => ⟨pn q.1, set_keep q.2⟩)), (kU hbw id)⟩
    · obtain rfl := Option.some.inj ho
      have v3 := hpv hp 3 (by simp)
      have ww3 := (y3 v3).1
      have hbw := hbw hi
      have hbox := heap_below hbw (heap_lt H2.out) H2.out
      obtain ⟨bc0, bc1, bf0, bf1, -⟩ := own2 hbox
      refine wpOp_at ho rfl (wp_store rfl (w2 := (w'.setCell ⟨w.heap.size + 1, 0, none⟩ (.int .i8 0)).setCell ⟨w.heap.size + 1, 1, none⟩ (.slice none 0 0)) ?_ ?_)
      · obtain ⟨hcst, hfn⟩ := evc a'; generalize a'.eval = ev at *
        clear hp y0 y1 y2 y3 y4 y5 y6
        go_simp
      · have hsa : ((w'.setCell ⟨w.heap.size + 1, 0, none⟩ (.int .i8 0)).setCell ⟨w.heap.size + 1, 1, none⟩ (.slice none 0 0)).heap.size = w'.heap.size := by simp
        have hbs := hbw.size
        have hzz := HZ.out
        exact ⟨hdf, hsz, x1, x2, g, (kF y0 id), (kF y1 id), (kF y2 (fun q => ⟨q.1, set_keep q.2.1, set_keep q.2.2.1, (set_two_ne q.2.2.2.1 (by omega) _ _), q.2.2.2.2⟩)), (kF y3 (fun q => ⟨q.1, set_keep q.2.1, set_keep q.2.2.1, set_keep q.2.2.2⟩)), (kF y4 (fun q => ⟨q.1, set_keep q.2⟩)), (fun _ => ⟨(set_keep ((y3 v3).2.1)), (set_keep ((y3 v3).2.2.1)), (set_keep ((y3 v3).2.2.2)), (set_keep v3), set_two hbox _ _, below_set2 (hfrom.out w' hbw) (by omega) _ _⟩), (kF y6 (fun q => ⟨q.1, set_keep q.2⟩)), (fun qu => (set_self_false qu).elim)⟩
    · obtain rfl := Option.some.inj ho
      refine wpOp_at ho rfl (wp_value 3 rfl (v := .iface 65 (.pointer (some ⟨g, 0, none⟩))) ?_ ?_)
      · have v4 := hpv hp 4 (by simp)
        have ww4 := (y4 v4).1
        obtain ⟨hcst, hfn⟩ := evc a'; generalize a'.eval = ev at *
        clear hp y0 y1 y2 y3 y4 y5 y6
        go_simp
      · have v4 := hpv hp 4 (by simp)
        exact ⟨pd hdf, ps hsz, pn x1, pn x2, g, (kE y0), (kE y1), (kF y2 (fun q => ⟨pn q.1, set_keep q.2.1, set_keep q.2.2.1, q.2.2.2.1, q.2.2.2.2⟩)), (kF y3 (fun q => ⟨pn q.1, set_keep q.2.1, set_keep q.2.2.1, set_keep q.2.2.2⟩)), (kF y4 (fun q => ⟨pn q.1, set_keep q.2⟩)), (kF y5 (fun q => ⟨set_keep q.1, set_keep q.2.1, set_keep q.2.2.1, set_keep q.2.2.2.1, q.2.2.2.2.1, q.2.2.2.2.2⟩)), (fun _ => ⟨pS hsz, (set_keep ((y4 v4).2))⟩), (kU hbw id)⟩
  · rintro listed u w' t ht hu ⟨-, -, -, -, g, y0, y1, y2, y3, y4, y5, y6, hbw⟩ hall
    have v2 := hall 2 (by decide)
    have v5 := hall 5 (by decide)
    have v6 := hall 6 (by decide)
    have HBX := Lib.hid ((y5 v5).2.2.2.2.2)
    have hf := ((y2 v2).2.2.2.1)
    have hg := ((y2 v2).2.2.2.2)
    have hx := ((y5 v5).2.2.2.2.1)
    have e3 := ((y6 v6).1)
    rw [hu 3 (by decide) (by decide)] at e3
    clear y0 y1 y2 y3 y4 y5 y6 v2 v5 v6 hall hu
    clear hbw
    simp only [over, List.setIfInBounds_toArray, List.set_cons_succ, List.set_cons_zero] at ht
    subst ht
    obtain ⟨k0, k1', -, -, -⟩ := own2 hx
    have hz := HZ.out
    have HF := Lib.hid hf
    clear hf
    go_wp2_with fail
    refine ⟨rfl, .tuple #[.agg #[.int .i8 0, .slice none 0 0], .iface 65 (.pointer (some ⟨g, 0, none⟩))], by simp [results, Tryz.results16, go_sem, k0, k1', e3], ?_⟩
    exact ⟨g, rfl, HF.out, (by omega), HBX.out⟩

theorem stType_of (h : Hd) (p : Pl) (w : World) (R : Ck.R) (hC : ∀ W : World, Below w.heap.size w W → Calls Tryz.prog 23 #[.agg #[.func (Fn.func 34) #[] #[], .func (Fn.func 65) #[] #[], .func (Fn.func 66) #[] #[], .func (Fn.func 67) #[] #[]], .agg #[.int .i8 h.kind, .string h.name, .string h.arg, .int .i64 h.num, .int .i8 h.tk, .slice p.TA p.tn p.tc, .int .i8 h.uk, .slice p.UA p.un p.uc, .int .i64 h.label, .int .i64 h.pos, .slice p.A p.n p.c]] W (Ck.TyPost W R)) :
    Calls Tryz.prog 16 #[.agg #[.int .i8 h.kind, .string h.name, .string h.arg, .int .i64 h.num, .int .i8 h.tk, .slice p.TA p.tn p.tc, .int .i8 h.uk, .slice p.UA p.un p.uc, .int .i64 h.label, .int .i64 h.pos, .slice p.A p.n p.c]] w (Ck.TyPost w R) := by
  cases R with
  | ok a => exact stType_ok h p w a hC
  | bad E at' x => exact stType_bad h p w E at' x hC
/-- static.Type -/
theorem stType_any (h : Hd) (kids : Tm) (p : Pl) (w : World) (hIs : Tm.Is w h kids p) (hG : TGlob w) :
    Calls Tryz.prog 16 #[.agg #[.int .i8 h.kind, .string h.name, .string h.arg, .int .i64 h.num, .int .i8 h.tk, .slice p.TA p.tn p.tc, .int .i8 h.uk, .slice p.UA p.un p.uc, .int .i64 h.label, .int .i64 h.pos, .slice p.A p.n p.c]] w (Ck.TyPost w (Cg.tell statRv h kids)) := by
  refine stType_of h p w _ fun W hb => ?_
  exact rType_any statRv h kids p W (hIs.below hb) (hG.below hb) (fun e => (St.ref_ok e).1)
end Go.Proofs.YtjpohjcnjanoaaaGreatDoor
