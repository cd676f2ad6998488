/-
  parts.Copy. casts.Erase.
-/
import Derived.Test.YtfkbdpehdabepaaGreatDoorCa5
import Derived.Test.YtfkbdpehdabepaaGreatDoorM10
import Derived.Test.YtfkbdpehdabepaaGreatDoorCa8
namespace Go.Proofs.YtfkbdpehdabepaaGreatDoor
open Go.RowKit
/-- what Copy leaves -/
def CopyP (w : World) (h : Hd) (kids : Tm) (e : Ending) (w' : World) : Prop :=
  (Tm.chk h kids = 0 → ∃ p, e = .returned (.agg #[.int .i8 (Ca.plH h).kind, .string (Ca.plH h).name, .string (Ca.plH h).arg, .int .i64 (Ca.plH h).num, .int .i8 (Ca.plH h).tk, .slice p.TA p.tn p.tc, .int .i8 (Ca.plH h).uk, .slice p.UA p.un p.uc, .int .i64 (Ca.plH h).label, .int .i64 (Ca.plH h).pos, .slice p.A p.n p.c]) ∧ Tm.SepK w' (Ca.plH h) (Ca.plF kids) p w.heap.size w'.heap.size) ∧ (Tm.chk h kids ≠ 0 → e = .returned (.agg #[.int .i8 0, .string ⟨#[]⟩, .string ⟨#[]⟩, .int .i64 0, .int .i8 0, .slice none 0 0, .int .i8 0, .slice none 0 0, .int .i64 0, .int .i64 0, .slice none 0 0])) ∧ Below w.heap.size w w'
set_option maxHeartbeats 4000000 in
set_option maxRecDepth 100000 in
theorem pcopy_any (h : Hd) (kids : Tm) (p : Pl) (w : World) (hIs : Tm.Is w h kids p) (hG : TGlob w) :
    Calls Tryz.prog 65 #[.agg #[.int .i8 h.kind, .string h.name, .string h.arg, .int .i64 h.num, .int .i8 h.tk, .slice p.TA p.tn p.tc, .int .i8 h.uk, .slice p.UA p.un p.uc, .int .i64 h.label, .int .i64 h.pos, .slice p.A p.n p.c]] w (CopyP w h kids) := by
  have hB1 := below_n2 w (.cells #[.int .i8 h.kind, .string h.name, .string h.arg, .int .i64 h.num, .int .i8 h.tk, .slice p.TA p.tn p.tc, .int .i8 h.uk, .slice p.UA p.un p.uc, .int .i64 h.label, .int .i64 h.pos, .slice p.A p.n p.c] 28) (.cells #[.int .i8 0, .string ⟨#[]⟩, .string ⟨#[]⟩, .int .i64 0, .int .i8 0, .slice none 0 0, .int .i8 0, .slice none 0 0, .int .i64 0, .int .i64 0, .slice none 0 0] 28)
  obtain ⟨h0, h1⟩ := heap_n2 w (.cells #[.int .i8 h.kind, .string h.name, .string h.arg, .int .i64 h.num, .int .i8 h.tk, .slice p.TA p.tn p.tc, .int .i8 h.uk, .slice p.UA p.un p.uc, .int .i64 h.label, .int .i64 h.pos, .slice p.A p.n p.c] 28) (.cells #[.int .i8 0, .string ⟨#[]⟩, .string ⟨#[]⟩, .int .i64 0, .int .i8 0, .slice none 0 0, .int .i8 0, .slice none 0 0, .int .i64 0, .int .i64 0, .slice none 0 0] 28)
  obtain ⟨w1, hw1⟩ : ∃ w1, w1 = (w.alloc (.cells #[.int .i8 h.kind, .string h.name, .string h.arg, .int .i64 h.num, .int .i8 h.tk, .slice p.TA p.tn p.tc, .int .i8 h.uk, .slice p.UA p.un p.uc, .int .i64 h.label, .int .i64 h.pos, .slice p.A p.n p.c] 28)).alloc (.cells #[.int .i8 0, .string ⟨#[]⟩, .string ⟨#[]⟩, .int .i64 0, .int .i8 0, .slice none 0 0, .int .i8 0, .slice none 0 0, .int .i64 0, .int .i64 0, .slice none 0 0] 28) := ⟨_, rfl⟩
  have hz : w1.heap.size = w.heap.size + 2 := by rw [hw1]; simp
  rw [← hw1] at hB1 h0 h1
  have CK := Lib.hid (tcheck_any h kids p w1 (hIs.below hB1) (hG.below hB1))
  have CB := Lib.hid (fun (W : World) (hb : Below w.heap.size w W) => tbare_sp h kids p W (hIs.below hb) (hG.below hb))
  have CP := Lib.hid (fun (pb : Pl) (lo : Nat) (U : World) (hb : Below w.heap.size w U) (hlo : w.heap.size ≤ lo) (hs : Tm.SepK U (Tm.cnt h) (Tm.bF kids) pb lo U.heap.size) => placed_any w (Tm.nodes kids + 1) h kids p pb lo U.heap.size U (Nat.lt_succ_self _) hIs hb hlo (Nat.le_refl _) hs)
  have HW := Lib.hid hw1
  have HB1 := Lib.hid hB1
  have H0 := Lib.hid h0
  have H1 := Lib.hid h1
  have HZ := Lib.hid hz
  obtain ⟨q0, q1, q2, q3, q4, q5, q6, q7, q8, q9, q10, ql⟩ := own11 h0
  clear hw1 hB1 h0 h1 hIs hG hz
  by_cases hc : Tm.chk h kids = 0
  · have hne : (((Tm.chk h kids : Nat) : Int) != 0) = false := by rw [hc]; rfl
    have HC := Lib.hid hc
    generalize ((Tm.chk h kids : Nat) : Int) = x0 at *
    clear hc
    go_enter Tryz.func65, Tryz.ntmps65
    go_upto_region 1 with fail
    rw [← HW.out]
    clear HW
    go_wp2_with fail
    refine CK.out.mono ?_
    rintro e w2 ⟨rfl, hb⟩
    have HB2 := Lib.hid (HB1.out.trans (hb.mono HB1.out.size))
    have HZ2 := Lib.hid (show w.heap.size + 2 ≤ w2.heap.size by have := HZ.out; have := hb.size; omega)
    have H0 := Lib.hid (heap_below hb (heap_lt H0.out) H0.out)
    have H1 := Lib.hid (heap_below hb (heap_lt H1.out) H1.out)
    clear hb q0 q1 q2 q3 q4 q5 q6 q7 q8 q9 q10 ql CK
    obtain ⟨q0, q1, q2, q3, q4, q5, q6, q7, q8, q9, q10, ql⟩ := own11 H0.out
    go_upto_region 3 with fail
    have D0 : Below w2.heap.size w2 w2.drew := (Below.refl _ _).drew
    have E0 : Below w.heap.size w w2.drew := HB2.out.trans (D0.mono HB2.out.size)
    go_region_law (first
      | (go_simp; go_at_call 10; (with_reducible refine (CB.out _ E0).mono ?_); rintro e u1 ⟨hg1, -, hb⟩; obtain ⟨pb, rfl, hsp⟩ := hg1 HC.out; have D1 := D0.trans (hb.mono D0.size); have E1 := E0.trans (hb.mono E0.size); have CPP := Lib.hid (CP.out pb _ u1 E1 E0.size hsp); have HSZ := Lib.hid (show w2.heap.size ≤ w2.drew.heap.size from D0.size); have HUZ := Lib.hid (show w2.drew.heap.size ≤ u1.heap.size from hb.size); have H0' := Lib.hid (heap_below D1 (heap_lt H0.out) H0.out); have H1' := Lib.hid (heap_below D1 (heap_lt H1.out) H1.out); have HE1 := Lib.hid E1; obtain ⟨a0, a1, a2, a3, a4, a5, a6, a7, a8, a9, a10, al⟩ := own11 H0'.out; clear hb hsp hg1; go_wp2_with fail)
      | (go_simp; go_at_call 109; (with_reducible refine CPP.out.mono ?_); rintro e u2 ⟨p2, rfl, hs2, ha⟩; have HS2 := Lib.hid hs2; have HA := Lib.hid ha; have H1'' := Lib.hid (ha.heap H1'.out (by have := HZ2.out; have := HSZ.out; omega)); obtain ⟨b0, b1, b2, b3, b4, b5, b6, b7, b8, b9, b10, bl⟩ := own11 H1''.out; have f0 := froz_of H1''.out 0; have f1 := froz_of H1''.out 1; have f2 := froz_of H1''.out 2; have f3 := froz_of H1''.out 3; have f4 := froz_of H1''.out 4; have f5 := froz_of H1''.out 5; have f6 := froz_of H1''.out 6; have f7 := froz_of H1''.out 7; have f8 := froz_of H1''.out 8; have f9 := froz_of H1''.out 9; have f10 := froz_of H1''.out 10; clear hs2 ha; go_wp2_with fail))
    all_goals
      simp only [Exit.then]
      go_at_K
      go_wp2_with fail
      refine bodyPost_ret (v := .agg #[.int .i8 (Ca.plH h).kind, .string (Ca.plH h).name, .string (Ca.plH h).arg, .int .i64 (Ca.plH h).num, .int .i8 (Ca.plH h).tk, .slice p2.TA p2.tn p2.tc, .int .i8 (Ca.plH h).uk, .slice p2.UA p2.un p2.uc, .int .i64 (Ca.plH h).label, .int .i64 (Ca.plH h).pos, .slice p2.A p2.n p2.c]) (by simp [results, Tryz.results65, go_sem, *]) rfl ⟨fun _ => ⟨p2, rfl, ?_⟩, fun hn => (hn HC.out).elim, ?_⟩
      · rw [← set11_zero, set11_size]
        exact (HS2.out.keep fun b q1 q2 => set11_heap _ _ _ _ _ b (by have := HZ2.out; have := HSZ.out; omega)).mono (by have := HZ2.out; have := HSZ.out; omega) HA.out.size
      · rw [← set11_zero]
        exact (set11_apart (a := w) ((Apart.of_below HE1.out).trans (HA.out.mono (lo2 := w.heap.size) (hi2 := _) (by have := HZ2.out; have := HSZ.out; omega) (Nat.le_refl _))) (.inl (by omega)) _ _ _).below (Nat.le_refl _) (Nat.le_refl _)
  · have hne : (((Tm.chk h kids : Nat) : Int) != 0) = true := by simp; omega
    have HC := Lib.hid hc
    generalize ((Tm.chk h kids : Nat) : Int) = x0 at *
    clear hc
    go_enter Tryz.func65, Tryz.ntmps65
    go_upto_region 1 with fail
    rw [← HW.out]
    clear HW
    go_wp2_with fail
    refine CK.out.mono ?_
    rintro e w2 ⟨rfl, hb⟩
    have HB2 := Lib.hid (HB1.out.trans (hb.mono HB1.out.size))
    have H1 := Lib.hid (heap_below hb (heap_lt H1.out) H1.out)
    clear hb q0 q1 q2 q3 q4 q5 q6 q7 q8 q9 q10 ql CK
    obtain ⟨q0, q1, q2, q3, q4, q5, q6, q7, q8, q9, q10, ql⟩ := own11 H1.out
    have f0 := froz_of H1.out 0; have f1 := froz_of H1.out 1; have f2 := froz_of H1.out 2; have f3 := froz_of H1.out 3; have f4 := froz_of H1.out 4; have f5 := froz_of H1.out 5; have f6 := froz_of H1.out 6; have f7 := froz_of H1.out 7; have f8 := froz_of H1.out 8; have f9 := froz_of H1.out 9; have f10 := froz_of H1.out 10
    go_wp2_with fail
    refine bodyPost_ret (v := .agg #[.int .i8 0, .string ⟨#[]⟩, .string ⟨#[]⟩, .int .i64 0, .int .i8 0, .slice none 0 0, .int .i8 0, .slice none 0 0, .int .i64 0, .int .i64 0, .slice none 0 0]) (by simp [results, Tryz.results65, go_sem, *]) rfl ⟨fun hn => (HC.out hn).elim, fun _ => rfl, ?_⟩
    exact below_only11 HB2.out (by omega) _ _ _ _ _ _ _ _ _ _ _
end Go.Proofs.YtfkbdpehdabepaaGreatDoor
namespace Go.Proofs.YtfkbdpehdabepaaGreatDoor
open Go.RowKit
/-- what Erase gives -/
def Ca.eH (h : Hd) (kids : Tm) : Hd := if Tm.chk h kids = 0 then Ca.erH (Ca.plH h) (Ca.plF kids) else Tm.zero
def Ca.eK (h : Hd) (kids : Tm) : Tm := if Tm.chk h kids = 0 then Ca.erK (Ca.plH h) (Ca.plF kids) else .nil
/-- what Erase leaves -/
def EraseP (w : World) (h : Hd) (kids : Tm) (e : Ending) (w' : World) : Prop :=
  ∃ p, e = .returned (.agg #[.int .i8 (Ca.eH h kids).kind, .string (Ca.eH h kids).name, .string (Ca.eH h kids).arg, .int .i64 (Ca.eH h kids).num, .int .i8 (Ca.eH h kids).tk, .slice p.TA p.tn p.tc, .int .i8 (Ca.eH h kids).uk, .slice p.UA p.un p.uc, .int .i64 (Ca.eH h kids).label, .int .i64 (Ca.eH h kids).pos, .slice p.A p.n p.c]) ∧ Tm.SepK w' (Ca.eH h kids) (Ca.eK h kids) p w.heap.size w'.heap.size ∧ Below w.heap.size w w'
/-- what Copy gives, handed on -/
theorem erase_in {W W' : World} {h : Hd} {kids : Tm} {e : Ending} (hc : CopyP W h kids e W') : ∃ (a : Hd) (ak : Tm) (p : Pl), e = .returned (.agg #[.int .i8 a.kind, .string a.name, .string a.arg, .int .i64 a.num, .int .i8 a.tk, .slice p.TA p.tn p.tc, .int .i8 a.uk, .slice p.UA p.un p.uc, .int .i64 a.label, .int .i64 a.pos, .slice p.A p.n p.c]) ∧ Tm.SepK W' a ak p W.heap.size W'.heap.size ∧ Ca.c1F (.node a ak .nil) = true ∧ Ca.erH a ak = Ca.eH h kids ∧ Ca.erK a ak = Ca.eK h kids ∧ Below W.heap.size W W' := by
  obtain ⟨h1, h2, h3⟩ := hc
  by_cases q : Tm.chk h kids = 0
  · obtain ⟨p, e1, e2⟩ := h1 q
    refine ⟨_, _, p, e1, e2, ?_, by rw [Ca.eH, if_pos q], by rw [Ca.eK, if_pos q], h3⟩
    have hok : Tm.okF (.node h kids .nil) = true := by
      unfold Tm.chk at q
      split at q
      · omega
      · split at q
        · omega
        · split at q
          · rename_i ho
            simp only [Tm.okF, Bool.and_true]
            exact ho
          · omega
    have := Ca.c1_ok _ (by rw [Ca.ok_pl]; exact hok : Tm.okF (Ca.plF (.node h kids .nil)) = true)
    simpa only [Ca.plF] using this
  · refine ⟨Tm.zero, .nil, ⟨none, 0, 0, none, 0, 0, none, 0, 0⟩, h2 q, ?_, by decide, by rw [Ca.eH, if_neg q]; rfl, by rw [Ca.eK, if_neg q]; rfl, h3⟩
    exact ⟨W'.heap.size, h3.size, Nat.le_refl _, (Tm.is_zero _).fit, .inl rfl⟩
set_option maxHeartbeats 4000000 in
set_option maxRecDepth 100000 in
theorem erase_any (h : Hd) (kids : Tm) (p : Pl) (w : World) (hIs : Tm.Is w h kids p) (hG : TGlob w) :
    Calls Tryz.prog 29 #[.agg #[.int .i8 h.kind, .string h.name, .string h.arg, .int .i64 h.num, .int .i8 h.tk, .slice p.TA p.tn p.tc, .int .i8 h.uk, .slice p.UA p.un p.uc, .int .i64 h.label, .int .i64 h.pos, .slice p.A p.n p.c]] w (EraseP w h kids) := by
  have hB1 := below_n2 w (.cells #[.int .i8 h.kind, .string h.name, .string h.arg, .int .i64 h.num, .int .i8 h.tk, .slice p.TA p.tn p.tc, .int .i8 h.uk, .slice p.UA p.un p.uc, .int .i64 h.label, .int .i64 h.pos, .slice p.A p.n p.c] 28) (.cells #[.int .i8 0, .string ⟨#[]⟩, .string ⟨#[]⟩, .int .i64 0, .int .i8 0, .slice none 0 0, .int .i8 0, .slice none 0 0, .int .i64 0, .int .i64 0, .slice none 0 0] 28)
  obtain ⟨h0, h1⟩ := heap_n2 w (.cells #[.int .i8 h.kind, .string h.name, .string h.arg, .int .i64 h.num, .int .i8 h.tk, .slice p.TA p.tn p.tc, .int .i8 h.uk, .slice p.UA p.un p.uc, .int .i64 h.label, .int .i64 h.pos, .slice p.A p.n p.c] 28) (.cells #[.int .i8 0, .string ⟨#[]⟩, .string ⟨#[]⟩, .int .i64 0, .int .i8 0, .slice none 0 0, .int .i8 0, .slice none 0 0, .int .i64 0, .int .i64 0, .slice none 0 0] 28)
  obtain ⟨w1, hw1⟩ : ∃ w1, w1 = (w.alloc (.cells #[.int .i8 h.kind, .string h.name, .string h.arg, .int .i64 h.num, .int .i8 h.tk, .slice p.TA p.tn p.tc, .int .i8 h.uk, .slice p.UA p.un p.uc, .int .i64 h.label, .int .i64 h.pos, .slice p.A p.n p.c] 28)).alloc (.cells #[.int .i8 0, .string ⟨#[]⟩, .string ⟨#[]⟩, .int .i64 0, .int .i8 0, .slice none 0 0, .int .i8 0, .slice none 0 0, .int .i64 0, .int .i64 0, .slice none 0 0] 28) := ⟨_, rfl⟩
  have hz : w1.heap.size = w.heap.size + 2 := by rw [hw1]; simp
  rw [← hw1] at hB1 h0 h1
  have CC := Lib.hid (pcopy_any h kids p w1 (hIs.below hB1) (hG.below hB1))
  have HW := Lib.hid hw1
  have HB1 := Lib.hid hB1
  have H1 := Lib.hid h1
  have HZ := Lib.hid hz
  obtain ⟨q0, q1, q2, q3, q4, q5, q6, q7, q8, q9, q10, ql⟩ := own11 h0
  clear hw1 hB1 h0 h1 hIs hG hz
  unfold EraseP
  generalize hA : Ca.eH h kids = eh at *
  generalize hK : Ca.eK h kids = ek at *
  have HA := Lib.hid hA
  have HK := Lib.hid hK
  clear hA hK
  go_enter Tryz.func29, Tryz.ntmps29
  go_upto_region 1 with fail
  rw [← HW.out]
  clear HW
  go_wp2_with fail
  refine CC.out.mono ?_
  intro e u1 hcp
  obtain ⟨a, ak, pa, rfl, hsa, hca, hea, hka, hb⟩ := erase_in hcp
  have HB2 := Lib.hid (HB1.out.trans (hb.mono HB1.out.size))
  have H1 := Lib.hid (heap_below hb (heap_lt H1.out) H1.out)
  have CE := Lib.hid (erased_any (Tm.nodes ak + 1) a ak pa w1.heap.size u1.heap.size u1 (Nat.lt_succ_self _) hca (Nat.le_refl _) hsa)
  have HE := Lib.hid (hea.trans HA.out)
  have HF := Lib.hid (hka.trans HK.out)
  have HUZ := Lib.hid hb.size
  clear hcp hsa hca hea hka hb CC q0 q1 q2 q3 q4 q5 q6 q7 q8 q9 q10 ql
  go_wp2_with fail
  refine CE.out.mono ?_
  rintro e u2 ⟨p2, rfl, hs2, ha⟩
  have hx := ha.heap H1.out (.inl (by have := HZ.out; omega))
  obtain ⟨r0, r1, r2, r3, r4, r5, r6, r7, r8, r9, r10, rl⟩ := own11 hx
  have f0 := froz_of hx 0 ; have f1 := froz_of hx 1 ; have f2 := froz_of hx 2 ; have f3 := froz_of hx 3 ; have f4 := froz_of hx 4 ; have f5 := froz_of hx 5 ; have f6 := froz_of hx 6 ; have f7 := froz_of hx 7 ; have f8 := froz_of hx 8 ; have f9 := froz_of hx 9 ; have f10 := froz_of hx 10
  have HS2 := Lib.hid hs2
  have HAP := Lib.hid ha
  rw [HE.out, HF.out] at HS2
  rw [HE.out]
  clear hs2 ha hx
  go_wp2_with fail
  refine bodyPost_ret (v := .agg #[.int .i8 eh.kind, .string eh.name, .string eh.arg, .int .i64 eh.num, .int .i8 eh.tk, .slice p2.TA p2.tn p2.tc, .int .i8 eh.uk, .slice p2.UA p2.un p2.uc, .int .i64 eh.label, .int .i64 eh.pos, .slice p2.A p2.n p2.c]) (by simp [results, Tryz.results29, go_sem, *]) rfl ⟨p2, rfl, ?_, ?_⟩
  · rw [← set11_zero, set11_size]
    exact (HS2.out.keep fun b q1 q2 => set11_heap _ _ _ _ _ b (by have := HZ.out; omega)).mono (by have := HZ.out; omega) HAP.out.size
  · rw [← set11_zero]
    exact (set11_apart (a := w) ((Apart.of_below HB2.out).trans (HAP.out.mono (lo2 := w.heap.size) (hi2 := u1.heap.size) (by have := HZ.out; omega) (Nat.le_refl _))) (.inl (by omega)) _ _ _).below (Nat.le_refl _) (Nat.le_refl _)
end Go.Proofs.YtfkbdpehdabepaaGreatDoor
