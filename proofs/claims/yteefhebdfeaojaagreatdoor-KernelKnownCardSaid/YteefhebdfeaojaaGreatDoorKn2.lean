/-
  Layer 13: kernel.Type, whole.
-/
import Derived.Test.YteefhebdfeaojaaGreatDoorM22
import Derived.Test.YteefhebdfeaojaaGreatDoorKnN
import Derived.Test.YteefhebdfeaojaaGreatDoorM20
namespace Go.Proofs.YteefhebdfeaojaaGreatDoor
open Go.RowKit
theorem own3 {w : World} {b : Nat} {v0 v1 v2 : Value} {t : TypeId} (h : w.heap[b]? = some (.cells #[v0, v1, v2] t (0, 0))) : w.cell? ⟨b, 0, none⟩ = some v0 := by
  simp [World.cell?, h]
set_option maxHeartbeats 2000000 in
set_option maxRecDepth 100000 in
theorem kType_ok (h : Hd) (p : Pl) (w : World) (a : Ck.T2)
    (hC : ∀ (gK : Nat) (W : World), Below w.heap.size w W → W.heap[gK]? = some (.cells #[.int .i8 16] 22 (0, 0)) → Calls Tryz.prog 12 #[.agg #[.func (Fn.func 39) #[] #[.pointer (some ⟨gK, 0, none⟩)], .func (Fn.func 10) #[] #[], .func (Fn.func 37) #[] #[], .func (Fn.func 38) #[] #[], .func (Fn.func 9) #[] #[]], .agg #[.int .i8 h.kind, .string h.name, .string h.arg, .int .i64 h.num, .int .i8 h.tk, .slice p.TA p.tn p.tc, .int .i8 h.uk, .slice p.UA p.un p.uc, .int .i64 h.label, .int .i64 h.pos, .slice p.A p.n p.c]] W (Ck.TyPost W (.ok a))) :
    Calls Tryz.prog 6 #[.agg #[.int .i8 h.kind, .string h.name, .string h.arg, .int .i64 h.num, .int .i8 h.tk, .slice p.TA p.tn p.tc, .int .i8 h.uk, .slice p.UA p.un p.uc, .int .i64 h.label, .int .i64 h.pos, .slice p.A p.n p.c]] w (Kn.TyPost w (.ok a)) := by
  have hB2 := below_n2 w (.cells #[.int .i8 h.kind, .string h.name, .string h.arg, .int .i64 h.num, .int .i8 h.tk, .slice p.TA p.tn p.tc, .int .i8 h.uk, .slice p.UA p.un p.uc, .int .i64 h.label, .int .i64 h.pos, .slice p.A p.n p.c] 28) (.cells #[.int .i8 0, .slice none 0 0] 25)
  obtain ⟨h0, h1⟩ := heap_n2 w (.cells #[.int .i8 h.kind, .string h.name, .string h.arg, .int .i64 h.num, .int .i8 h.tk, .slice p.TA p.tn p.tc, .int .i8 h.uk, .slice p.UA p.un p.uc, .int .i64 h.label, .int .i64 h.pos, .slice p.A p.n p.c] 28) (.cells #[.int .i8 0, .slice none 0 0] 25)
  have hz : ((w.alloc (.cells #[.int .i8 h.kind, .string h.name, .string h.arg, .int .i64 h.num, .int .i8 h.tk, .slice p.TA p.tn p.tc, .int .i8 h.uk, .slice p.UA p.un p.uc, .int .i64 h.label, .int .i64 h.pos, .slice p.A p.n p.c] 28)).alloc (.cells #[.int .i8 0, .slice none 0 0] 25)).heap.size = w.heap.size + 2 := by simp
  obtain ⟨w1, hw1⟩ : ∃ w1, w1 = (w.alloc (.cells #[.int .i8 h.kind, .string h.name, .string h.arg, .int .i64 h.num, .int .i8 h.tk, .slice p.TA p.tn p.tc, .int .i8 h.uk, .slice p.UA p.un p.uc, .int .i64 h.label, .int .i64 h.pos, .slice p.A p.n p.c] 28)).alloc (.cells #[.int .i8 0, .slice none 0 0] 25) := ⟨_, rfl⟩
  rw [← hw1] at hB2 h0 h1 hz
  have HW1 := Lib.hid hw1
  have HZ := Lib.hid hz
  have H2 := Lib.hid h1
  have hfrom := Lib.hid (fun (W : World) (hb : Below w1.heap.size w1 W) => hB2.trans (hb.mono hB2.size))
  have CT := Lib.hid (fun (gK : Nat) (W : World) (hb : Below w1.heap.size w1 W) => hC gK W (hB2.trans (hb.mono hB2.size)))
  have HK := Lib.hid (fun (W : World) (hb : Below w1.heap.size w1 W) => (own11 (heap_below hb (heap_lt h0) h0)))
  clear hB2 h0 h1 hz hC
  go_enter Tryz.func6, Tryz.ntmps6
  go_upto_region 1 with fail
  rw [← HW1.out]
  clear hw1 HW1
  refine region_inv_end2 15 rfl [7, 8, 9, 6, 10, 11, 4, 5] (by kernel_rfl) (by kernel_rfl) (by kernel_rfl) (fun listed a' w' => a'.defers = [] ∧ a'.tmps.size = 15 ∧ (a'.eval (.tmp 1) = .pointer (some ⟨w.heap.size, 0, none⟩) ∧ a'.eval (.tmp 2) = .pointer (some ⟨w.heap.size + 1, 0, none⟩)) ∧ ∃ Z gK G m c, (listed[0]? = some true → (a'.eval (.tmp 7) = .agg #[.func (Fn.func 39) #[] #[.pointer (some ⟨gK, 0, none⟩)], .func (Fn.func 10) #[] #[], .func (Fn.func 37) #[] #[], .func (Fn.func 38) #[] #[], .func (Fn.func 9) #[] #[]]) ∧ ((listed[2]? = some false → w'.heap[gK]? = some (.cells #[.int .i8 16] 22 (0, 0))))) ∧ (listed[1]? = some true → (a'.eval (.tmp 8) = .agg #[.int .i8 h.kind, .string h.name, .string h.arg, .int .i64 h.num, .int .i8 h.tk, .slice p.TA p.tn p.tc, .int .i8 h.uk, .slice p.UA p.un p.uc, .int .i64 h.label, .int .i64 h.pos, .slice p.A p.n p.c])) ∧ (listed[2]? = some true → (a'.eval (.tmp 9) = .tuple #[.agg #[.int .i8 a.1, .slice G m c], .nilIface]) ∧ (Ck.Ly (fun b => w1.heap.size ≤ b ∧ b ≠ Z) w' a G m c)) ∧ (listed[3]? = some true → (a'.eval (.tmp 6) = .tuple #[.agg #[.int .i8 a.1, .slice G m c], .nilIface]) ∧ (listed[2]? = some true)) ∧ (listed[4]? = some true → (a'.eval (.tmp 10) = .agg #[.int .i8 a.1, .slice G m c]) ∧ (listed[2]? = some true)) ∧ (listed[5]? = some true → (a'.eval (.tmp 11) = .nilIface)) ∧ (listed[6]? = some true → (a'.eval (.tmp 4) = .pointer (some ⟨Z, 0, none⟩)) ∧ (w1.heap.size ≤ Z) ∧ (∃ u0 u1, w'.heap[Z]? = some (.cells #[u0, u1] 25 (0, 0)))) ∧ (listed[7]? = some true → (listed[2]? = some true) ∧ (listed[6]? = some true) ∧ (w'.heap[Z]? = some (.cells #[.int .i8 a.1, .slice G m c] 25 (0, 0)))) ∧ (listed[8]? = some true → (a'.eval (.tmp 5) = .nilIface)) ∧ (Z < w'.heap.size ∧ (Z = w.heap.size + 1 ∨ w1.heap.size ≤ Z)) ∧ Below w1.heap.size w1 w') (fun _ _ _ h => h.1) ?_ ?_ ?_
  · have hz := HZ.out
    refine ⟨rfl, rfl, ⟨rfl, rfl⟩, (w.heap.size + 1), 0, none, 0, 0, FH, FH, FH, FH, FH, FH, FH, FH, FH, ⟨(Nat.lt_of_lt_of_le (by omega) (show Below w1.heap.size w1 w1.drew from (Below.refl _ _).drew).size), .inl rfl⟩, (Below.refl _ _).drew⟩
  · rintro listed a' w' i o ⟨hdf, hsz, hx, Z, gK, G, m, c, y0, y1, y2, y3, y4, y5, y6, y7, y8, ⟨sZ, hZZ⟩, hbw⟩ hz hsz0 ho hi hp
    have hi13 : i < 9 := by
      rcases Nat.lt_or_ge i 9 with q | q
      · exact q
      · rw [Array.getElem?_eq_none (by simpa using q)] at ho; cases ho
    rcases (by omega : i = 0 ∨ i = 1 ∨ i = 2 ∨ i = 3 ∨ i = 4 ∨ i = 5 ∨ i = 6 ∨ i = 7 ∨ i = 8) with rfl | rfl | rfl | rfl | rfl | rfl | rfl | rfl | rfl
    · obtain rfl := SI ho
      refine C_ ho 7 (kofcasts_any w') fun e u hg => ?_
      · obtain ⟨gK', he, hkb, hlo, hb⟩ := hg
        refine ⟨.agg #[.func (Fn.func 39) #[] #[.pointer (some ⟨gK', 0, none⟩)], .func (Fn.func 10) #[] #[], .func (Fn.func 37) #[] #[], .func (Fn.func 38) #[] #[], .func (Fn.func 9) #[] #[]], he, ?_⟩
        have hbs := hbw.size
        have hzz := HZ.out
        have hbs2 := hb.size
        exact ⟨pd hdf, ps hsz, KX hx, Z, gK', G, m, c, (fun _ => ⟨pS hsz, (fun _ => hkb)⟩), K1 y1, K1 y2, K1 y3, K1 y4, K1 y5, K1 y6, K1 y7, K1 y8, ⟨(by omega), hZZ⟩, hbw.trans (hb.mono hbw.size)⟩
    · obtain rfl := SI ho
      obtain ⟨q0, q1, q2, q3, q4, q5, q6, q7, q8, q9, q10, -⟩ := HK.out w' hbw
      exact V_ ho 8 ⟨pd hdf, ps hsz, KX hx, Z, gK, G, m, c, (kF y0 (fun q => ⟨pn q.1, (kU q.2 (fun q => q))⟩)), (fun _ => pS hsz), K1 y2, K1 y3, K1 y4, K1 y5, K1 y6, K1 y7, K1 y8, ⟨sZ, hZZ⟩, hbw⟩
    · obtain rfl := SI ho
      have v0 := hpv hp 0 (by simp)
      have ww0 := (y0 v0).1
      have v1 := hpv hp 1 (by simp)
      have ww1 := (y1 v1)
      refine C_ ho 9 (CT.out gK w' hbw (((y0 v0).2) hi)) fun e u hg => ?_
      · obtain ⟨G', m', c', rfl, hl, hb⟩ := hg
        refine ⟨.tuple #[.agg #[.int .i8 a.1, .slice G' m' c'], .nilIface], rfl, ?_⟩
        have hbs := hbw.size
        have hzz := HZ.out
        have hbs2 := hb.size
        exact ⟨pd hdf, ps hsz, KX hx, Z, gK, G', m', c', (kF y0 (fun q => ⟨pn q.1, (fun qu => (set_self_false qu).elim)⟩)), K1 y1, (fun _ => ⟨pS hsz, Ck.Ly.weak hl (fun b _ hq => ⟨Nat.le_trans hbw.size hq, (by have q : w'.heap.size ≤ b := hq; omega)⟩)⟩), KN y3, KN y4, K1 y5, K1 y6, KN y7, K1 y8, ⟨(by omega), hZZ⟩, hbw.trans (hb.mono hbw.size)⟩
    · obtain rfl := SI ho
      have v2 := hpv hp 2 (by simp)
      have ww2 := (y2 v2).1
      exact V_ ho 6 ⟨pd hdf, ps hsz, KX hx, Z, gK, G, m, c, (kF y0 (fun q => ⟨pn q.1, (kU q.2 (fun q => q))⟩)), K1 y1, K1 y2, (fun _ => ⟨pS hsz, (set_keep v2)⟩), K1 y4, K1 y5, K1 y6, K1 y7, K1 y8, ⟨sZ, hZZ⟩, hbw⟩
    · obtain rfl := SI ho
      have v3 := hpv hp 3 (by simp)
      have ww3 := (y3 v3).1
      exact V_ ho 10 ⟨pd hdf, ps hsz, KX hx, Z, gK, G, m, c, (kF y0 (fun q => ⟨pn q.1, (kU q.2 (fun q => q))⟩)), K1 y1, K1 y2, K1 y3, (fun _ => ⟨pS hsz, (set_keep ((y3 v3).2))⟩), K1 y5, K1 y6, K1 y7, K1 y8, ⟨sZ, hZZ⟩, hbw⟩
    · obtain rfl := SI ho
      have v3 := hpv hp 3 (by simp)
      have ww3 := (y3 v3).1
      exact V_ ho 11 ⟨pd hdf, ps hsz, KX hx, Z, gK, G, m, c, (kF y0 (fun q => ⟨pn q.1, (kU q.2 (fun q => q))⟩)), K1 y1, K1 y2, K1 y3, K1 y4, (fun _ => pS hsz), K1 y6, K1 y7, K1 y8, ⟨sZ, hZZ⟩, hbw⟩
    · obtain rfl := SI ho
      refine wpOp_at ho rfl (wp_value2 4 rfl (v := .pointer (some ⟨w'.heap.size, 0, none⟩)) (w2 := w'.alloc (.cells #[.int .i8 0, .slice none 0 0] 25)) ?_ ?_)
      · exact EV
      · have hbs := hbw.size
        have hzz := HZ.out
        have hsa : (w'.alloc (.cells #[.int .i8 0, .slice none 0 0] 25)).heap.size = w'.heap.size + 1 := by simp
        have hba : Below w'.heap.size w' (w'.alloc (.cells #[.int .i8 0, .slice none 0 0] 25)) := (Below.refl _ _).alloc (Nat.le_refl _) _
        have hnew := heap_new w' (.cells #[.int .i8 0, .slice none 0 0] 25)
        exact ⟨pd hdf, ps hsz, KX hx, w'.heap.size, gK, G, m, c, (kF y0 (fun q => ⟨pn q.1, (kU q.2 (fun q => (heap_old q _)))⟩)), K1 y1, (kF y2 (fun q => ⟨pn q.1, (Ck.Ly.later (Ck.Ly.weak q.2 (fun b hl hq => ⟨hq.1, Nat.ne_of_lt hl⟩)) hba)⟩)), K1 y3, K1 y4, K1 y5, (fun _ => ⟨pS hsz, hbs, ⟨_, _, hnew⟩⟩), KN y7, K1 y8, ⟨(by omega), .inr hbs⟩, hbw.alloc hbw.size _⟩
    · obtain rfl := SI ho
      have v6 := hpv hp 6 (by simp)
      have ww6 := (y6 v6).1
      have v4 := hpv hp 4 (by simp)
      have ww4 := (y4 v4).1
      have hlo := ((y6 v6).2.1)
      obtain ⟨u0, u1, hbox⟩ := ((y6 v6).2.2)
      obtain ⟨bc0, bc1, bf0, bf1, -⟩ := own2 hbox
      refine wpOp_at ho rfl (wp_store rfl (w2 := (w'.setCell ⟨Z, 0, none⟩ (.int .i8 a.1)).setCell ⟨Z, 1, none⟩ (.slice G m c)) ?_ ?_)
      · exact EV
      · have hsa : ((w'.setCell ⟨Z, 0, none⟩ (.int .i8 a.1)).setCell ⟨Z, 1, none⟩ (.slice G m c)).heap.size = w'.heap.size := by simp
        have hbs := hbw.size
        have hzz := HZ.out
        exact ⟨hdf, hsz, hx, Z, gK, G, m, c, (kF y0 (fun q => ⟨q.1, (kT ((y4 v4).2))⟩)), K1 y1, K1 y2, K1 y3, K1 y4, K1 y5, (kF y6 (fun q => ⟨q.1, q.2.1, (eh_set q.2.2)⟩)), (fun _ => ⟨(set_keep ((y4 v4).2)), (set_keep v6), set_two hbox _ _⟩), K1 y8, ⟨(by omega), hZZ⟩, below_set2 hbw hlo _ _⟩
    · obtain rfl := SI ho
      have v5 := hpv hp 5 (by simp)
      have ww5 := (y5 v5)
      exact V_ ho 5 ⟨pd hdf, ps hsz, KX hx, Z, gK, G, m, c, (kF y0 (fun q => ⟨pn q.1, (kU q.2 (fun q => q))⟩)), K1 y1, K1 y2, K1 y3, K1 y4, K1 y5, K1 y6, K1 y7, (fun _ => pS hsz), ⟨sZ, hZZ⟩, hbw⟩
  · rintro listed u w' t ht hu ⟨-, -, -, Z, gK, G, m, c, y0, y1, y2, y3, y4, y5, y6, y7, y8, ⟨sZ, hZZ⟩, hbw⟩ hall
    have v2 := hall 2 (by decide)
    have v6 := hall 6 (by decide)
    have v7 := hall 7 (by decide)
    have v8 := hall 8 (by decide)
    have HBW := Lib.hid hbw
    have HLY := Lib.hid ((y2 v2).2)
    have HZL := Lib.hid (And.intro ((y6 v6).2.1) (rfl : 0 = 0))
    have HZB := Lib.hid ((y7 v7).2.2)
    have e4 := ((y6 v6).1)
    have e5 := ((y8 v8))
    rw [hu 4 (by decide) (by decide)] at e4
    rw [hu 5 (by decide) (by decide)] at e5
    clear y0 y1 y2 y3 y4 y5 y6 y7 y8 v2 v6 v7 v8 hall hu
    clear hbw
    simp only [over, List.setIfInBounds_toArray, List.set_cons_succ, List.set_cons_zero, e4, e5] at ht
    subst ht
    clear e4 e5
    generalize hw : w' = w4 at *
    clear hw
    have hfrom := Lib.hid (fun (W : World) (hb : Below w4.heap.size w4 W) => hfrom.out W (HBW.out.trans (hb.mono HBW.out.size)))
    have H2 := Lib.hid (heap_below HBW.out (heap_lt H2.out) H2.out)
    have HZ' := Lib.hid (show w.heap.size + 2 ≤ w4.heap.size from by have h1 := HZ.out; have h2 := HBW.out.size; omega)
    have HZ1 := Lib.hid (show w1.heap.size = w.heap.size + 2 from HZ.out)
    clear HZ
    have HZ := HZ'
    clear HZ'
    clear CT HK
    obtain ⟨k0, k1', -, -, -⟩ := own2 HZB.out
    go_upto_region 2 with fail
    clear k0 k1'
    refine region_inv_end2 15 rfl [12, 13, 14, 3] (by kernel_rfl) (by kernel_rfl) (by kernel_rfl) (fun listed a' w' => a'.defers = [] ∧ a'.tmps.size = 15 ∧ (a'.eval (.tmp 1) = .pointer (some ⟨w.heap.size, 0, none⟩) ∧ a'.eval (.tmp 2) = .pointer (some ⟨w.heap.size + 1, 0, none⟩) ∧ a'.eval (.tmp 4) = .pointer (some ⟨Z, 0, none⟩) ∧ a'.eval (.tmp 5) = .nilIface) ∧ (listed[0]? = some true → (a'.eval (.tmp 12) = .agg #[.int .i8 a.1, .slice G m c])) ∧ (listed[1]? = some true → (a'.eval (.tmp 13) = .nilIface)) ∧ (listed[2]? = some true → (a'.eval (.tmp 14) = .int .i64 0)) ∧ (listed[3]? = some true → (w'.heap[w.heap.size + 1]? = some (.cells #[.int .i8 a.1, .slice G m c] 25 (0, 0)))) ∧ (listed[4]? = some true → (a'.eval (.tmp 3) = .int .i64 0)) ∧ (∃ u0 u1, w'.heap[w.heap.size + 1]? = some (.cells #[u0, u1] 25 (0, 0))) ∧ (w'.heap[Z]? = some (.cells #[.int .i8 a.1, .slice G m c] 25 (0, 0))) ∧ (Ck.Ly (fun b => w1.heap.size ≤ b ∧ b ≠ Z) w' a G m c) ∧ Below w.heap.size w w') (fun _ _ _ h => h.1) ?_ ?_ ?_
    · have hz0 := HZ.out
      refine ⟨rfl, rfl, ⟨rfl, rfl, rfl, rfl⟩, FH, FH, FH, FH, FH, ⟨_, _, H2.out⟩, HZB.out, HLY.out.later (Below.refl _ _).drew, (hfrom.out w4 (Below.refl _ _)).drew⟩
    · rintro listed a' w' i o ⟨hdf, hsz, hx, y0, y1, y2, y3, y4, hB0, hH0, hH1, hbw⟩ hz hsz0 ho hi hp
      have hi13 : i < 5 := by
        rcases Nat.lt_or_ge i 5 with q | q
        · exact q
        · rw [Array.getElem?_eq_none (by simpa using q)] at ho; cases ho
      rcases (by omega : i = 0 ∨ i = 1 ∨ i = 2 ∨ i = 3 ∨ i = 4) with rfl | rfl | rfl | rfl | rfl
      · obtain rfl := SI ho
        obtain ⟨e0, e1, -, -, -⟩ := own2 hH0
        exact V_ ho 12 ⟨pd hdf, ps hsz, KX hx, (fun _ => pS hsz), K2 y1, K2 y2, K2 y3, K2 y4, hB0, hH0, hH1, hbw⟩
      · obtain rfl := SI ho
        exact V_ ho 13 ⟨pd hdf, ps hsz, KX hx, K2 y0, (fun _ => pS hsz), K2 y2, K2 y3, K2 y4, hB0, hH0, hH1, hbw⟩
      · obtain rfl := SI ho
        have v1 := hpv hp 1 (by simp)
        have ww1 := (y1 v1)
        refine C_ ho 14 ((knumber_nil w').mono (fun e u q => (show e = _ ∧ Below w'.heap.size w' u from ⟨q.1, q.2 ▸ Below.refl _ _⟩))) fun e u hg => ?_
        · obtain ⟨he, hb⟩ := hg
          refine ⟨.int .i64 0, he, ?_⟩
          have hbs := hbw.size
          have hz1 := HZ1.out
          have hzl := HZL.out
          have hbs2 := hb.size
          exact ⟨pd hdf, ps hsz, KX hx, K2 y0, K2 y1, (fun _ => pS hsz), K2 y3, K2 y4, (eh2_below hb hB0), (heap_below hb (heap_lt hH0) hH0), (Ck.Ly.later hH1 hb), hbw.trans (hb.mono hbw.size)⟩
      · obtain rfl := SI ho
        have v0 := hpv hp 0 (by simp)
        have ww0 := (y0 v0)
        obtain ⟨u0, u1, hbox⟩ := id hB0
        obtain ⟨bc0, bc1, bf0, bf1, -⟩ := own2 hbox
        refine wpOp_at ho rfl (wp_store rfl (w2 := ((w'.setCell ⟨w.heap.size + 1, 0, none⟩ (.int .i8 a.1)).setCell ⟨w.heap.size + 1, 1, none⟩ (.slice G m c))) ?_ ?_)
        · exact EV
        · have hsa : (((w'.setCell ⟨w.heap.size + 1, 0, none⟩ (.int .i8 a.1)).setCell ⟨w.heap.size + 1, 1, none⟩ (.slice G m c))).heap.size = w'.heap.size := by simp
          have hbs := hbw.size
          have hz1 := HZ1.out
          have hzl := HZL.out
          exact ⟨hdf, hsz, hx, K2 y0, K2 y1, K2 y2, (fun _ => set_two hbox _ _), K2 y4, ⟨_, _, set_two hbox _ _⟩, (set_two_ne hH0 (by omega) _ _), (Ck.Ly.set2 hH1 (fun b hq => by have h1 : w1.heap.size ≤ b := hq.1; have h2 := HZ1.out; omega) _ _), below_set2 hbw (by omega) _ _⟩
      · obtain rfl := SI ho
        have v2 := hpv hp 2 (by simp)
        have ww2 := (y2 v2)
        exact V_ ho 3 ⟨pd hdf, ps hsz, KX hx, K2 y0, K2 y1, K2 y2, K2 y3, (fun _ => pS hsz), hB0, hH0, hH1, hbw⟩
    · rintro listed u w' t ht hu ⟨-, -, -, y0, y1, y2, y3, y4, hB0, hH0, hH1, hbw⟩ hall
      have v3 := hall 3 (by decide)
      have v4 := hall 4 (by decide)
      have HBX := Lib.hid hbw
      have hx := ((y3 v3))
      have e3 := ((y4 v4))
      rw [hu 3 (by decide) (by decide)] at e3
      have HLZ := Lib.hid (Ck.Ly.weak hH1 (Q' := fun b => w.heap.size ≤ b) (fun b _ hq => by have h1 : w1.heap.size ≤ b := hq.1; have h2 := HZ1.out; show w.heap.size ≤ b; omega))
      clear y0 y1 y2 y3 y4 v3 v4 hall hu
      clear hbw
      simp only [over, List.setIfInBounds_toArray, List.set_cons_succ, List.set_cons_zero] at ht
      subst ht
      obtain ⟨k0, k1', -, -, -⟩ := own2 hx
      go_wp2_with fail
      refine ⟨rfl, .tuple #[.agg #[.int .i8 a.1, .slice G m c], .int .i64 0], by simp [results, Tryz.results6, go_sem, k0, k1'], ?_⟩
      exact ⟨G, m, c, rfl, HLZ.out, HBX.out⟩
set_option maxHeartbeats 2000000 in
set_option maxRecDepth 100000 in
theorem kType_bad (h : Hd) (p : Pl) (w : World) (E at' : Int) (x : ByteArray)
    (hC : ∀ (gK : Nat) (W : World), Below w.heap.size w W → W.heap[gK]? = some (.cells #[.int .i8 16] 22 (0, 0)) → Calls Tryz.prog 12 #[.agg #[.func (Fn.func 39) #[] #[.pointer (some ⟨gK, 0, none⟩)], .func (Fn.func 10) #[] #[], .func (Fn.func 37) #[] #[], .func (Fn.func 38) #[] #[], .func (Fn.func 9) #[] #[]], .agg #[.int .i8 h.kind, .string h.name, .string h.arg, .int .i64 h.num, .int .i8 h.tk, .slice p.TA p.tn p.tc, .int .i8 h.uk, .slice p.UA p.un p.uc, .int .i64 h.label, .int .i64 h.pos, .slice p.A p.n p.c]] W (Ck.TyPost W (.bad E at' x))) :
    Calls Tryz.prog 6 #[.agg #[.int .i8 h.kind, .string h.name, .string h.arg, .int .i64 h.num, .int .i8 h.tk, .slice p.TA p.tn p.tc, .int .i8 h.uk, .slice p.UA p.un p.uc, .int .i64 h.label, .int .i64 h.pos, .slice p.A p.n p.c]] w (Kn.TyPost w (.bad E at' x)) := by
  have hB2 := below_n2 w (.cells #[.int .i8 h.kind, .string h.name, .string h.arg, .int .i64 h.num, .int .i8 h.tk, .slice p.TA p.tn p.tc, .int .i8 h.uk, .slice p.UA p.un p.uc, .int .i64 h.label, .int .i64 h.pos, .slice p.A p.n p.c] 28) (.cells #[.int .i8 0, .slice none 0 0] 25)
  obtain ⟨h0, h1⟩ := heap_n2 w (.cells #[.int .i8 h.kind, .string h.name, .string h.arg, .int .i64 h.num, .int .i8 h.tk, .slice p.TA p.tn p.tc, .int .i8 h.uk, .slice p.UA p.un p.uc, .int .i64 h.label, .int .i64 h.pos, .slice p.A p.n p.c] 28) (.cells #[.int .i8 0, .slice none 0 0] 25)
  have hz : ((w.alloc (.cells #[.int .i8 h.kind, .string h.name, .string h.arg, .int .i64 h.num, .int .i8 h.tk, .slice p.TA p.tn p.tc, .int .i8 h.uk, .slice p.UA p.un p.uc, .int .i64 h.label, .int .i64 h.pos, .slice p.A p.n p.c] 28)).alloc (.cells #[.int .i8 0, .slice none 0 0] 25)).heap.size = w.heap.size + 2 := by simp
  obtain ⟨w1, hw1⟩ : ∃ w1, w1 = (w.alloc (.cells #[.int .i8 h.kind, .string h.name, .string h.arg, .int .i64 h.num, .int .i8 h.tk, .slice p.TA p.tn p.tc, .int .i8 h.uk, .slice p.UA p.un p.uc, .int .i64 h.label, .int .i64 h.pos, .slice p.A p.n p.c] 28)).alloc (.cells #[.int .i8 0, .slice none 0 0] 25) := ⟨_, rfl⟩
  rw [← hw1] at hB2 h0 h1 hz
  have HW1 := Lib.hid hw1
  have HZ := Lib.hid hz
  have H2 := Lib.hid h1
  have hfrom := Lib.hid (fun (W : World) (hb : Below w1.heap.size w1 W) => hB2.trans (hb.mono hB2.size))
  have CT := Lib.hid (fun (gK : Nat) (W : World) (hb : Below w1.heap.size w1 W) => hC gK W (hB2.trans (hb.mono hB2.size)))
  have HK := Lib.hid (fun (W : World) (hb : Below w1.heap.size w1 W) => (own11 (heap_below hb (heap_lt h0) h0)))
  clear hB2 h0 h1 hz hC
  go_enter Tryz.func6, Tryz.ntmps6
  go_upto_region 1 with fail
  rw [← HW1.out]
  clear hw1 HW1
  refine region_inv_end2 15 rfl [7, 8, 9, 6, 10, 11, 4, 5] (by kernel_rfl) (by kernel_rfl) (by kernel_rfl) (fun listed a' w' => a'.defers = [] ∧ a'.tmps.size = 15 ∧ (a'.eval (.tmp 1) = .pointer (some ⟨w.heap.size, 0, none⟩) ∧ a'.eval (.tmp 2) = .pointer (some ⟨w.heap.size + 1, 0, none⟩)) ∧ ∃ Z gK g, (listed[0]? = some true → (a'.eval (.tmp 7) = .agg #[.func (Fn.func 39) #[] #[.pointer (some ⟨gK, 0, none⟩)], .func (Fn.func 10) #[] #[], .func (Fn.func 37) #[] #[], .func (Fn.func 38) #[] #[], .func (Fn.func 9) #[] #[]]) ∧ ((listed[2]? = some false → w'.heap[gK]? = some (.cells #[.int .i8 16] 22 (0, 0))))) ∧ (listed[1]? = some true → (a'.eval (.tmp 8) = .agg #[.int .i8 h.kind, .string h.name, .string h.arg, .int .i64 h.num, .int .i8 h.tk, .slice p.TA p.tn p.tc, .int .i8 h.uk, .slice p.UA p.un p.uc, .int .i64 h.label, .int .i64 h.pos, .slice p.A p.n p.c])) ∧ (listed[2]? = some true → (a'.eval (.tmp 9) = .tuple #[.agg #[.int .i8 0, .slice none 0 0], .iface 54 (.pointer (some ⟨g, 0, none⟩))]) ∧ (w'.heap[g]? = some (.cells #[.int .i64 E, .int .i64 at', .string x] 81 (0, 0))) ∧ (w1.heap.size ≤ g) ∧ (Z ≠ g)) ∧ (listed[3]? = some true → (a'.eval (.tmp 6) = .tuple #[.agg #[.int .i8 0, .slice none 0 0], .iface 54 (.pointer (some ⟨g, 0, none⟩))]) ∧ (listed[2]? = some true)) ∧ (listed[4]? = some true → (a'.eval (.tmp 10) = .agg #[.int .i8 0, .slice none 0 0]) ∧ (listed[2]? = some true)) ∧ (listed[5]? = some true → (a'.eval (.tmp 11) = .iface 54 (.pointer (some ⟨g, 0, none⟩))) ∧ (listed[2]? = some true)) ∧ (listed[6]? = some true → (a'.eval (.tmp 4) = .pointer (some ⟨Z, 0, none⟩)) ∧ (w1.heap.size ≤ Z) ∧ (∃ u0 u1, w'.heap[Z]? = some (.cells #[u0, u1] 25 (0, 0)))) ∧ (listed[7]? = some true → (listed[6]? = some true) ∧ (w'.heap[Z]? = some (.cells #[.int .i8 0, .slice none 0 0] 25 (0, 0)))) ∧ (listed[8]? = some true → (a'.eval (.tmp 5) = .iface 54 (.pointer (some ⟨g, 0, none⟩))) ∧ (listed[2]? = some true)) ∧ (Z < w'.heap.size ∧ (Z = w.heap.size + 1 ∨ w1.heap.size ≤ Z)) ∧ Below w1.heap.size w1 w') (fun _ _ _ h => h.1) ?_ ?_ ?_
  · have hz := HZ.out
    refine ⟨rfl, rfl, ⟨rfl, rfl⟩, (w.heap.size + 1), 0, 0, FH, FH, FH, FH, FH, FH, FH, FH, FH, ⟨(Nat.lt_of_lt_of_le (by omega) (show Below w1.heap.size w1 w1.drew from (Below.refl _ _).drew).size), .inl rfl⟩, (Below.refl _ _).drew⟩
  · rintro listed a' w' i o ⟨hdf, hsz, hx, Z, gK, g, y0, y1, y2, y3, y4, y5, y6, y7, y8, ⟨sZ, hZZ⟩, hbw⟩ hz hsz0 ho hi hp
    have hi13 : i < 9 := by
      rcases Nat.lt_or_ge i 9 with q | q
      · exact q
      · rw [Array.getElem?_eq_none (by simpa using q)] at ho; cases ho
    rcases (by omega : i = 0 ∨ i = 1 ∨ i = 2 ∨ i = 3 ∨ i = 4 ∨ i = 5 ∨ i = 6 ∨ i = 7 ∨ i = 8) with rfl | rfl | rfl | rfl | rfl | rfl | rfl | rfl | rfl
    · obtain rfl := SI ho
      refine C_ ho 7 (kofcasts_any w') fun e u hg => ?_
      · obtain ⟨gK', he, hkb, hlo, hb⟩ := hg
        refine ⟨.agg #[.func (Fn.func 39) #[] #[.pointer (some ⟨gK', 0, none⟩)], .func (Fn.func 10) #[] #[], .func (Fn.func 37) #[] #[], .func (Fn.func 38) #[] #[], .func (Fn.func 9) #[] #[]], he, ?_⟩
        have hbs := hbw.size
        have hzz := HZ.out
        have hbs2 := hb.size
        exact ⟨pd hdf, ps hsz, KX hx, Z, gK', g, (fun _ => ⟨pS hsz, (fun _ => hkb)⟩), K1 y1, K1 y2, K1 y3, K1 y4, K1 y5, K1 y6, K1 y7, K1 y8, ⟨(by omega), hZZ⟩, hbw.trans (hb.mono hbw.size)⟩
    · obtain rfl := SI ho
      obtain ⟨q0, q1, q2, q3, q4, q5, q6, q7, q8, q9, q10, -⟩ := HK.out w' hbw
      exact V_ ho 8 ⟨pd hdf, ps hsz, KX hx, Z, gK, g, (kF y0 (fun q => ⟨pn q.1, (kU q.2 (fun q => q))⟩)), (fun _ => pS hsz), K1 y2, K1 y3, K1 y4, K1 y5, K1 y6, K1 y7, K1 y8, ⟨sZ, hZZ⟩, hbw⟩
    · obtain rfl := SI ho
      have v0 := hpv hp 0 (by simp)
      have ww0 := (y0 v0).1
      have v1 := hpv hp 1 (by simp)
      have ww1 := (y1 v1)
      refine C_ ho 9 (CT.out gK w' hbw (((y0 v0).2) hi)) fun e u hg => ?_
      · obtain ⟨g', rfl, hf, hgl, hb⟩ := hg
        refine ⟨.tuple #[.agg #[.int .i8 0, .slice none 0 0], .iface 54 (.pointer (some ⟨g', 0, none⟩))], rfl, ?_⟩
        have hbs := hbw.size
        have hzz := HZ.out
        have hbs2 := hb.size
        exact ⟨pd hdf, ps hsz, KX hx, Z, gK, g', (kF y0 (fun q => ⟨pn q.1, (fun qu => (set_self_false qu).elim)⟩)), K1 y1, (fun _ => ⟨pS hsz, hf, (Nat.le_trans hbw.size hgl), (by omega)⟩), KN y3, KN y4, KN y5, K1 y6, K1 y7, KN y8, ⟨(by omega), hZZ⟩, hbw.trans (hb.mono hbw.size)⟩
    · obtain rfl := SI ho
      have v2 := hpv hp 2 (by simp)
      have ww2 := (y2 v2).1
      exact V_ ho 6 ⟨pd hdf, ps hsz, KX hx, Z, gK, g, (kF y0 (fun q => ⟨pn q.1, (kU q.2 (fun q => q))⟩)), K1 y1, K1 y2, (fun _ => ⟨pS hsz, (set_keep v2)⟩), K1 y4, K1 y5, K1 y6, K1 y7, K1 y8, ⟨sZ, hZZ⟩, hbw⟩
    · obtain rfl := SI ho
      have v3 := hpv hp 3 (by simp)
      have ww3 := (y3 v3).1
      exact V_ ho 10 ⟨pd hdf, ps hsz, KX hx, Z, gK, g, (kF y0 (fun q => ⟨pn q.1, (kU q.2 (fun q => q))⟩)), K1 y1, K1 y2, K1 y3, (fun _ => ⟨pS hsz, (set_keep ((y3 v3).2))⟩), K1 y5, K1 y6, K1 y7, K1 y8, ⟨sZ, hZZ⟩, hbw⟩
    · obtain rfl := SI ho
      have v3 := hpv hp 3 (by simp)
      have ww3 := (y3 v3).1
      exact V_ ho 11 ⟨pd hdf, ps hsz, KX hx, Z, gK, g, (kF y0 (fun q => ⟨pn q.1, (kU q.2 (fun q => q))⟩)), K1 y1, K1 y2, K1 y3, K1 y4, (fun _ => ⟨pS hsz, (set_keep ((y3 v3).2))⟩), K1 y6, K1 y7, K1 y8, ⟨sZ, hZZ⟩, hbw⟩
    · obtain rfl := SI ho
      refine wpOp_at ho rfl (wp_value2 4 rfl (v := .pointer (some ⟨w'.heap.size, 0, none⟩)) (w2 := w'.alloc (.cells #[.int .i8 0, .slice none 0 0] 25)) ?_ ?_)
      · exact EV
      · have hbs := hbw.size
        have hzz := HZ.out
        have hsa : (w'.alloc (.cells #[.int .i8 0, .slice none 0 0] 25)).heap.size = w'.heap.size + 1 := by simp
        have hba : Below w'.heap.size w' (w'.alloc (.cells #[.int .i8 0, .slice none 0 0] 25)) := (Below.refl _ _).alloc (Nat.le_refl _) _
        have hnew := heap_new w' (.cells #[.int .i8 0, .slice none 0 0] 25)
        exact ⟨pd hdf, ps hsz, KX hx, w'.heap.size, gK, g, (kF y0 (fun q => ⟨pn q.1, (kU q.2 (fun q => (heap_old q _)))⟩)), K1 y1, (kF y2 (fun q => ⟨pn q.1, (heap_old q.2.1 _), q.2.2.1, (Nat.ne_of_gt (heap_lt q.2.1))⟩)), K1 y3, K1 y4, K1 y5, (fun _ => ⟨pS hsz, hbs, ⟨_, _, hnew⟩⟩), KN y7, K1 y8, ⟨(by omega), .inr hbs⟩, hbw.alloc hbw.size _⟩
    · obtain rfl := SI ho
      have v6 := hpv hp 6 (by simp)
      have ww6 := (y6 v6).1
      have v4 := hpv hp 4 (by simp)
      have ww4 := (y4 v4).1
      have hlo := ((y6 v6).2.1)
      obtain ⟨u0, u1, hbox⟩ := ((y6 v6).2.2)
      obtain ⟨bc0, bc1, bf0, bf1, -⟩ := own2 hbox
      refine wpOp_at ho rfl (wp_store rfl (w2 := (w'.setCell ⟨Z, 0, none⟩ (.int .i8 0)).setCell ⟨Z, 1, none⟩ (.slice none 0 0)) ?_ ?_)
      · exact EV
      · have hsa : ((w'.setCell ⟨Z, 0, none⟩ (.int .i8 0)).setCell ⟨Z, 1, none⟩ (.slice none 0 0)).heap.size = w'.heap.size := by simp
        have hbs := hbw.size
        have hzz := HZ.out
        exact ⟨hdf, hsz, hx, Z, gK, g, (kF y0 (fun q => ⟨q.1, (kT ((y4 v4).2))⟩)), K1 y1, (kF y2 (fun q => ⟨q.1, (set_two_ne q.2.1 (by omega) _ _), q.2.2.1, q.2.2.2⟩)), K1 y3, K1 y4, K1 y5, (kF y6 (fun q => ⟨q.1, q.2.1, (eh_set q.2.2)⟩)), (fun _ => ⟨(set_keep v6), set_two hbox _ _⟩), K1 y8, ⟨(by omega), hZZ⟩, below_set2 hbw hlo _ _⟩
    · obtain rfl := SI ho
      have v5 := hpv hp 5 (by simp)
      have ww5 := (y5 v5).1
      exact V_ ho 5 ⟨pd hdf, ps hsz, KX hx, Z, gK, g, (kF y0 (fun q => ⟨pn q.1, (kU q.2 (fun q => q))⟩)), K1 y1, K1 y2, K1 y3, K1 y4, K1 y5, K1 y6, K1 y7, (fun _ => ⟨pS hsz, (set_keep ((y5 v5).2))⟩), ⟨sZ, hZZ⟩, hbw⟩
  · rintro listed u w' t ht hu ⟨-, -, -, Z, gK, g, y0, y1, y2, y3, y4, y5, y6, y7, y8, ⟨sZ, hZZ⟩, hbw⟩ hall
    have v2 := hall 2 (by decide)
    have v6 := hall 6 (by decide)
    have v7 := hall 7 (by decide)
    have v8 := hall 8 (by decide)
    have HBW := Lib.hid hbw
    have HFL := Lib.hid ((y2 v2).2.1)
    have HZL := Lib.hid (And.intro ((y6 v6).2.1) ((y2 v2).2.2.1))
    have HZB := Lib.hid ((y7 v7).2)
    have e4 := ((y6 v6).1)
    have e5 := ((y8 v8).1)
    rw [hu 4 (by decide) (by decide)] at e4
    rw [hu 5 (by decide) (by decide)] at e5
    clear y0 y1 y2 y3 y4 y5 y6 y7 y8 v2 v6 v7 v8 hall hu
    clear hbw
    simp only [over, List.setIfInBounds_toArray, List.set_cons_succ, List.set_cons_zero, e4, e5] at ht
    subst ht
    clear e4 e5
    generalize hw : w' = w4 at *
    clear hw
    have hfrom := Lib.hid (fun (W : World) (hb : Below w4.heap.size w4 W) => hfrom.out W (HBW.out.trans (hb.mono HBW.out.size)))
    have H2 := Lib.hid (heap_below HBW.out (heap_lt H2.out) H2.out)
    have HZ' := Lib.hid (show w.heap.size + 2 ≤ w4.heap.size from by have h1 := HZ.out; have h2 := HBW.out.size; omega)
    have HZ1 := Lib.hid (show w1.heap.size = w.heap.size + 2 from HZ.out)
    clear HZ
    have HZ := HZ'
    clear HZ'
    clear CT HK
    obtain ⟨k0, k1', -, -, -⟩ := own2 HZB.out
    go_upto_region 2 with fail
    clear k0 k1'
    refine region_inv_end2 15 rfl [12, 13, 14, 3] (by kernel_rfl) (by kernel_rfl) (by kernel_rfl) (fun listed a' w' => a'.defers = [] ∧ a'.tmps.size = 15 ∧ (a'.eval (.tmp 1) = .pointer (some ⟨w.heap.size, 0, none⟩) ∧ a'.eval (.tmp 2) = .pointer (some ⟨w.heap.size + 1, 0, none⟩) ∧ a'.eval (.tmp 4) = .pointer (some ⟨Z, 0, none⟩) ∧ a'.eval (.tmp 5) = .iface 54 (.pointer (some ⟨g, 0, none⟩))) ∧ (listed[0]? = some true → (a'.eval (.tmp 12) = .agg #[.int .i8 0, .slice none 0 0])) ∧ (listed[1]? = some true → (a'.eval (.tmp 13) = .iface 54 (.pointer (some ⟨g, 0, none⟩)))) ∧ (listed[2]? = some true → (a'.eval (.tmp 14) = .int .i64 (Kn.num E))) ∧ (listed[3]? = some true → (w'.heap[w.heap.size + 1]? = some (.cells #[.int .i8 0, .slice none 0 0] 25 (0, 0)))) ∧ (listed[4]? = some true → (a'.eval (.tmp 3) = .int .i64 (Kn.num E))) ∧ (∃ u0 u1, w'.heap[w.heap.size + 1]? = some (.cells #[u0, u1] 25 (0, 0))) ∧ (w'.heap[Z]? = some (.cells #[.int .i8 0, .slice none 0 0] 25 (0, 0))) ∧ (w'.heap[g]? = some (.cells #[.int .i64 E, .int .i64 at', .string x] 81 (0, 0))) ∧ Below w.heap.size w w') (fun _ _ _ h => h.1) ?_ ?_ ?_
    · have hz0 := HZ.out
      refine ⟨rfl, rfl, ⟨rfl, rfl, rfl, rfl⟩, FH, FH, FH, FH, FH, ⟨_, _, H2.out⟩, HZB.out, HFL.out, (hfrom.out w4 (Below.refl _ _)).drew⟩
    · rintro listed a' w' i o ⟨hdf, hsz, hx, y0, y1, y2, y3, y4, hB0, hH0, hH1, hbw⟩ hz hsz0 ho hi hp
      have hi13 : i < 5 := by
        rcases Nat.lt_or_ge i 5 with q | q
        · exact q
        · rw [Array.getElem?_eq_none (by simpa using q)] at ho; cases ho
      rcases (by omega : i = 0 ∨ i = 1 ∨ i = 2 ∨ i = 3 ∨ i = 4) with rfl | rfl | rfl | rfl | rfl
      · obtain rfl := SI ho
        obtain ⟨e0, e1, -, -, -⟩ := own2 hH0
        exact V_ ho 12 ⟨pd hdf, ps hsz, KX hx, (fun _ => pS hsz), K2 y1, K2 y2, K2 y3, K2 y4, hB0, hH0, hH1, hbw⟩
      · obtain rfl := SI ho
        exact V_ ho 13 ⟨pd hdf, ps hsz, KX hx, K2 y0, (fun _ => pS hsz), K2 y2, K2 y3, K2 y4, hB0, hH0, hH1, hbw⟩
      · obtain rfl := SI ho
        have v1 := hpv hp 1 (by simp)
        have ww1 := (y1 v1)
        refine C_ ho 14 ((knumber_any g E w' (own3 hH1)).mono (fun e u q => (show e = _ ∧ Below w'.heap.size w' u from ⟨q.1, q.2 ▸ Below.refl _ _⟩))) fun e u hg => ?_
        · obtain ⟨he, hb⟩ := hg
          refine ⟨.int .i64 (Kn.num E), he, ?_⟩
          have hbs := hbw.size
          have hz1 := HZ1.out
          have hzl := HZL.out
          have hbs2 := hb.size
          exact ⟨pd hdf, ps hsz, KX hx, K2 y0, K2 y1, (fun _ => pS hsz), K2 y3, K2 y4, (eh2_below hb hB0), (heap_below hb (heap_lt hH0) hH0), (heap_below hb (heap_lt hH1) hH1), hbw.trans (hb.mono hbw.size)⟩
      · obtain rfl := SI ho
        have v0 := hpv hp 0 (by simp)
        have ww0 := (y0 v0)
        obtain ⟨u0, u1, hbox⟩ := id hB0
        obtain ⟨bc0, bc1, bf0, bf1, -⟩ := own2 hbox
        refine wpOp_at ho rfl (wp_store rfl (w2 := ((w'.setCell ⟨w.heap.size + 1, 0, none⟩ (.int .i8 0)).setCell ⟨w.heap.size + 1, 1, none⟩ (.slice none 0 0))) ?_ ?_)
        · exact EV
        · have hsa : (((w'.setCell ⟨w.heap.size + 1, 0, none⟩ (.int .i8 0)).setCell ⟨w.heap.size + 1, 1, none⟩ (.slice none 0 0))).heap.size = w'.heap.size := by simp
          have hbs := hbw.size
          have hz1 := HZ1.out
          have hzl := HZL.out
          exact ⟨hdf, hsz, hx, K2 y0, K2 y1, K2 y2, (fun _ => set_two hbox _ _), K2 y4, ⟨_, _, set_two hbox _ _⟩, (set_two_ne hH0 (by omega) _ _), (set_two_ne hH1 (by omega) _ _), below_set2 hbw (by omega) _ _⟩
      · obtain rfl := SI ho
        have v2 := hpv hp 2 (by simp)
        have ww2 := (y2 v2)
        exact V_ ho 3 ⟨pd hdf, ps hsz, KX hx, K2 y0, K2 y1, K2 y2, K2 y3, (fun _ => pS hsz), hB0, hH0, hH1, hbw⟩
    · rintro listed u w' t ht hu ⟨-, -, -, y0, y1, y2, y3, y4, hB0, hH0, hH1, hbw⟩ hall
      have v3 := hall 3 (by decide)
      have v4 := hall 4 (by decide)
      have HBX := Lib.hid hbw
      have hx := ((y3 v3))
      have e3 := ((y4 v4))
      rw [hu 3 (by decide) (by decide)] at e3
      clear y0 y1 y2 y3 y4 v3 v4 hall hu
      clear hbw
      simp only [over, List.setIfInBounds_toArray, List.set_cons_succ, List.set_cons_zero] at ht
      subst ht
      obtain ⟨k0, k1', -, -, -⟩ := own2 hx
      go_wp2_with fail
      refine ⟨rfl, .tuple #[.agg #[.int .i8 0, .slice none 0 0], .int .i64 (Kn.num E)], by simp [results, Tryz.results6, go_sem, k0, k1', e3], ?_⟩
      exact ⟨rfl, HBX.out⟩
theorem kType_of (h : Hd) (p : Pl) (w : World) (R : Ck.R)
    (hC : ∀ (gK : Nat) (W : World), Below w.heap.size w W → W.heap[gK]? = some (.cells #[.int .i8 16] 22 (0, 0)) → Calls Tryz.prog 12 #[.agg #[.func (Fn.func 39) #[] #[.pointer (some ⟨gK, 0, none⟩)], .func (Fn.func 10) #[] #[], .func (Fn.func 37) #[] #[], .func (Fn.func 38) #[] #[], .func (Fn.func 9) #[] #[]], .agg #[.int .i8 h.kind, .string h.name, .string h.arg, .int .i64 h.num, .int .i8 h.tk, .slice p.TA p.tn p.tc, .int .i8 h.uk, .slice p.UA p.un p.uc, .int .i64 h.label, .int .i64 h.pos, .slice p.A p.n p.c]] W (Ck.TyPost W R)) :
    Calls Tryz.prog 6 #[.agg #[.int .i8 h.kind, .string h.name, .string h.arg, .int .i64 h.num, .int .i8 h.tk, .slice p.TA p.tn p.tc, .int .i8 h.uk, .slice p.UA p.un p.uc, .int .i64 h.label, .int .i64 h.pos, .slice p.A p.n p.c]] w (Kn.TyPost w R) := by
  cases R with
  | ok a => exact kType_ok h p w a hC
  | bad E at' x => exact kType_bad h p w E at' x hC
/-- kernel.Type -/
theorem kType_any (h : Hd) (kids : Tm) (p : Pl) (w : World) (hIs : Tm.Is w h kids p) (hG : TGlob w) :
    Calls Tryz.prog 6 #[.agg #[.int .i8 h.kind, .string h.name, .string h.arg, .int .i64 h.num, .int .i8 h.tk, .slice p.TA p.tn p.tc, .int .i8 h.uk, .slice p.UA p.un p.uc, .int .i64 h.label, .int .i64 h.pos, .slice p.A p.n p.c]] w (Kn.TyPost w (Kn.tell h kids)) := by
  refine kType_of h p w _ fun gK W hb hk => ?_
  exact rType_any (kernRv gK) h kids p W (Ck.refKO 16 h kids) (hIs.below hb) (hG.below hb) (fun e => ⟨(Ck.refKO_ok e).1, .inl rfl⟩)
    (fun U hu => ckwithout1_any 16 gK h kids p U ((hIs.below hb).below hu) ((hG.below hb).below hu) (heap_below hu (heap_lt hk) hk))
end Go.Proofs.YteefhebdfeaojaaGreatDoor
