/-
  Layer 14: both sides of a label, and the term beneath.
-/
import Derived.Test.YtfkbdpehdabepaaGreatDoorM18
import Derived.Test.YtfkbdpehdabepaaGreatDoorCaW
import Derived.Test.YtfkbdpehdabepaaGreatDoorLow
namespace Go.Proofs.YtfkbdpehdabepaaGreatDoor
open Go.RowKit
set_option maxHeartbeats 8000000 in
set_option maxRecDepth 100000 in
theorem law_CastsSides (h : Hd) (kids : Tm) (p : Pl) (n : Int) (w : World) (hIs : Tm.Is w h kids p) (hn : -9223372036854775808 ≤ n ∧ n ≤ 9223372036854775807) (hG : TGlob w) :
    Calls Tryz.prog 7 #[.agg #[.int .i8 h.kind, .string h.name, .string h.arg, .int .i64 h.num, .int .i8 h.tk, .slice p.TA p.tn p.tc, .int .i8 h.uk, .slice p.UA p.un p.uc, .int .i64 h.label, .int .i64 h.pos, .slice p.A p.n p.c], .int .i64 n] w fun e w' => e = .returned (.bool true) ∧ Below w.heap.size w w' := by
  have hB1 : Below w.heap.size w (w.alloc (.cells #[.int .i8 h.kind, .string h.name, .string h.arg, .int .i64 h.num, .int .i8 h.tk, .slice p.TA p.tn p.tc, .int .i8 h.uk, .slice p.UA p.un p.uc, .int .i64 h.label, .int .i64 h.pos, .slice p.A p.n p.c] 28)) := (Below.refl _ _).alloc (Nat.le_refl _) _
  have h0 := heap_new w (.cells #[.int .i8 h.kind, .string h.name, .string h.arg, .int .i64 h.num, .int .i8 h.tk, .slice p.TA p.tn p.tc, .int .i8 h.uk, .slice p.UA p.un p.uc, .int .i64 h.label, .int .i64 h.pos, .slice p.A p.n p.c] 28)
  obtain ⟨w1, hw1⟩ : ∃ w1, w1 = w.alloc (.cells #[.int .i8 h.kind, .string h.name, .string h.arg, .int .i64 h.num, .int .i8 h.tk, .slice p.TA p.tn p.tc, .int .i8 h.uk, .slice p.UA p.un p.uc, .int .i64 h.label, .int .i64 h.pos, .slice p.A p.n p.c] 28) := ⟨_, rfl⟩
  rw [← hw1] at hB1 h0
  have HW := Lib.hid hw1
  have HB1 := Lib.hid hB1
  have H0 := Lib.hid h0
  have CWK := Lib.hid (fun (U : World) (hb : Below w1.heap.size w1 U) => wakes14_any U (hG.below (hB1.trans (hb.mono hB1.size))))
  have CK := Lib.hid (fun (U : World) (hb : Below w1.heap.size w1 U) => tcheck_any h kids p U (hIs.below (hB1.trans (hb.mono hB1.size))) (hG.below (hB1.trans (hb.mono hB1.size))))
  have CS := Lib.hid (fun (n : Int) (U : World) (hb : Below w1.heap.size w1 U) (hn : -9223372036854775808 < n ∧ n ≤ 9223372036854775807) => csafe_any h kids p n U (hIs.below (hB1.trans (hb.mono hB1.size))) (hG.below (hB1.trans (hb.mono hB1.size))) hn)
  have CA := Lib.hid (fun (U : World) (hb : Below w1.heap.size w1 U) => call_any h kids p U (hIs.below (hB1.trans (hb.mono hB1.size))) (hG.below (hB1.trans (hb.mono hB1.size))))
  have CE := Lib.hid (fun (U : World) (hb : Below w1.heap.size w1 U) => erase_any h kids p U (hIs.below (hB1.trans (hb.mono hB1.size))) (hG.below (hB1.trans (hb.mono hB1.size))))
  have CH := Lib.hid (fun (U : World) (hb : Below w1.heap.size w1 U) => cheight_any h kids p U (hIs.below (hB1.trans (hb.mono hB1.size))) (hG.below (hB1.trans (hb.mono hB1.size))))
  have CN := Lib.hid (fun (U : World) (hb : Below w1.heap.size w1 U) => tnodes_any h kids p U (hIs.below (hB1.trans (hb.mono hB1.size))) (hG.below (hB1.trans (hb.mono hB1.size))).terms)
  have HGG := Lib.hid (fun (U : World) (hb : Below w1.heap.size w1 U) => hG.below (hB1.trans (hb.mono hB1.size)))
  obtain ⟨q0, q1, q2, q3, q4, q5, q6, q7, q8, q9, q10, ql⟩ := own11 H0.out
  clear hw1 hB1 h0 hIs hG
  go_enter Tryz.func7, Tryz.ntmps7
  go_upto_region 1 with fail
  rw [← HW.out]
  clear HW
  by_cases hm : n = -9223372036854775808
  · subst hm
    go_wp2_with fail
    refine (CWK.out w1 (Below.refl _ _)).mono ?_
    rintro e w2 ⟨rfl, hb⟩
    have HBF := Lib.hid (HB1.out.trans (hb.mono HB1.out.size))
    clear hb
    go_wp2_with fail
    go_ret
    exact ⟨rfl, HBF.out⟩
  have hne : (n == -9223372036854775808) = false := by simp [hm]
  have CS1 := Lib.hid (fun (U : World) (hb : Below w1.heap.size w1 U) => CS.out n U hb ⟨by omega, hn.2⟩)
  have CS2 := Lib.hid (fun (U : World) (hb : Below w1.heap.size w1 U) => CS.out (-n) U hb ⟨by omega, by omega⟩)
  rw [(Ca.sf_swap n h kids).1, (Ca.sf_swap n h kids).2] at CS2
  obtain ⟨a5, ha5⟩ : ∃ b, b = Ca.sfP n h kids := ⟨_, rfl⟩
  obtain ⟨a6, ha6⟩ : ∃ b, b = Ca.sfN n h kids := ⟨_, rfl⟩
  rw [← ha5, ← ha6] at CS1 CS2
  have HA5 := Lib.hid ha5
  have HA6 := Lib.hid ha6
  have hn1 := hn.1
  have hn2 := hn.2
  clear ha5 ha6 CS hn
  go_wp2_with fail
  refine (CS1.out w1 (Below.refl _ _)).mono ?_
  rintro e w2 ⟨rfl, hb⟩
  have E2 := Lib.hid hb
  have H2 := Lib.hid (heap_below hb (heap_lt H0.out) H0.out)
  clear q0 q1 q2 q3 q4 q5 q6 q7 q8 q9 q10 ql hb
  obtain ⟨q0, q1, q2, q3, q4, q5, q6, q7, q8, q9, q10, ql⟩ := own11 H2.out
  go_wp2_with fail
  refine (CS2.out w2 E2.out).mono ?_
  rintro e w3 ⟨rfl, hb⟩
  have E3 := Lib.hid (E2.out.trans (hb.mono E2.out.size))
  have H3 := Lib.hid (heap_below hb (heap_lt H2.out) H2.out)
  clear q0 q1 q2 q3 q4 q5 q6 q7 q8 q9 q10 ql hb CS1 CS2
  obtain ⟨q0, q1, q2, q3, q4, q5, q6, q7, q8, q9, q10, ql⟩ := own11 H3.out
  have hd5 : (a5 != a5) = false := by cases a5 <;> rfl
  have hd6 : (a6 != a6) = false := by cases a6 <;> rfl
  go_wp2_with fail
  refine (CA.out w3 E3.out).mono ?_
  rintro e w4 ⟨G, m, c, rfl, hr, hb⟩
  have HR := Lib.hid hr
  have E4 := Lib.hid (E3.out.trans (hb.mono E3.out.size))
  have H4 := Lib.hid (heap_below hb (heap_lt H3.out) H3.out)
  clear q0 q1 q2 q3 q4 q5 q6 q7 q8 q9 q10 ql hb hr hd5 hd6
  obtain ⟨q0, q1, q2, q3, q4, q5, q6, q7, q8, q9, q10, ql⟩ := own11 H4.out
  go_wp2_with fail
  refine (CE.out w4 E4.out).mono ?_
  rintro e w5 ⟨pu, rfl, hs, hb⟩
  obtain ⟨w6, hw6⟩ : ∃ w6, w6 = w5.alloc (.cells #[.int .i8 (Ca.eH h kids).kind, .string (Ca.eH h kids).name, .string (Ca.eH h kids).arg, .int .i64 (Ca.eH h kids).num, .int .i8 (Ca.eH h kids).tk, .slice pu.TA pu.tn pu.tc, .int .i8 (Ca.eH h kids).uk, .slice pu.UA pu.un pu.uc, .int .i64 (Ca.eH h kids).label, .int .i64 (Ca.eH h kids).pos, .slice pu.A pu.n pu.c] 28) := ⟨_, rfl⟩
  have hb56 : Below w5.heap.size w5 w6 := by rw [hw6]; exact (Below.refl _ _).alloc (Nat.le_refl _) _
  have HU := Lib.hid (show w6.heap[w5.heap.size]? = some (.cells #[.int .i8 (Ca.eH h kids).kind, .string (Ca.eH h kids).name, .string (Ca.eH h kids).arg, .int .i64 (Ca.eH h kids).num, .int .i8 (Ca.eH h kids).tk, .slice pu.TA pu.tn pu.tc, .int .i8 (Ca.eH h kids).uk, .slice pu.UA pu.un pu.uc, .int .i64 (Ca.eH h kids).label, .int .i64 (Ca.eH h kids).pos, .slice pu.A pu.n pu.c] 28 (0, 0)) by rw [hw6]; exact heap_new _ _)
  have HUI := Lib.hid (show Tm.Is w6 (Ca.eH h kids) (Ca.eK h kids) pu from (hs.is fun _ _ _ _ _ q => q : Tm.Is w5 (Ca.eH h kids) (Ca.eK h kids) pu).below hb56)
  have hb46 : Below w4.heap.size w4 w6 := hb.trans (hb56.mono hb.size)
  have E6 := Lib.hid (E4.out.trans (hb46.mono E4.out.size))
  have H6 := Lib.hid (heap_below hb46 (heap_lt H4.out) H4.out)
  have HR6 := Lib.hid (HR.out.below hb46)
  obtain ⟨X10, hX10⟩ : ∃ x, x = w5.heap.size := ⟨_, rfl⟩
  rw [← hX10] at HU
  have HW6 := Lib.hid hw6
  have HX10 := Lib.hid hX10
  clear q0 q1 q2 q3 q4 q5 q6 q7 q8 q9 q10 ql hb hs hw6 hb56 hb46 hX10 HR
  obtain ⟨q0, q1, q2, q3, q4, q5, q6, q7, q8, q9, q10, ql⟩ := own11 H6.out
  go_upto_region 9 with fail
  rw [← HW6.out, ← HX10.out]
  clear HW6 HX10
  go_wp2_with fail
  refine (CK.out w6 E6.out).mono ?_
  rintro e w7 ⟨rfl, hb⟩
  have E7 := Lib.hid (E6.out.trans (hb.mono E6.out.size))
  have H7 := Lib.hid (heap_below hb (heap_lt H6.out) H6.out)
  have HR7 := Lib.hid (HR6.out.below hb)
  have HU7 := Lib.hid (heap_below hb (heap_lt HU.out) HU.out)
  have HUI7 := Lib.hid (HUI.out.below hb)
  clear q0 q1 q2 q3 q4 q5 q6 q7 q8 q9 q10 ql hb H6 HR6 HU HUI CK
  obtain ⟨q0, q1, q2, q3, q4, q5, q6, q7, q8, q9, q10, ql⟩ := own11 H7.out
  by_cases hc : ¬ Tm.chk h kids = 0
  · have hcne : (((Tm.chk h kids : Nat) : Int) != 0) = true := by simp; omega
    have hm0 : m = 0 := by have := HR7.out.1; rw [Ca.allL, if_neg hc] at this; exact this
    have h5 : a5 = false := by have := HA5.out; rw [Ca.sfP, if_neg hc] at this; exact this
    have h6 : a6 = false := by have := HA6.out; rw [Ca.sfN, if_neg hc] at this; exact this
    subst hm0
    subst h5
    subst h6
    simp only [if_neg hc] at CH
    generalize ((Tm.chk h kids : Nat) : Int) = x0 at *
    clear hc
    go_wp2_with fail
    refine (CH.out w7 E7.out).mono ?_
    rintro e w8 ⟨rfl, hb⟩
    have E8 := Lib.hid (E7.out.trans (hb.mono E7.out.size))
    clear hb
    go_wp2_with fail
    refine (CWK.out w8 E8.out).mono ?_
    rintro e w9 ⟨rfl, hb⟩
    have HBF := Lib.hid (HB1.out.trans ((E8.out.trans (hb.mono E8.out.size)).mono HB1.out.size))
    clear hb
    go_wp2_with fail
    go_ret
    exact ⟨rfl, HBF.out⟩
  have hc := Classical.not_not.mp hc
  have hcne : (((Tm.chk h kids : Nat) : Int) != 0) = false := by rw [hc]; rfl
  obtain ⟨hkc, hke, hkk, hka, hknd, hkh⟩ := Ca.er_facts hc
  obtain ⟨Lc, hLc⟩ : ∃ l, l = Ca.cs (.node h kids .nil) := ⟨_, rfl⟩
  have hRL := HR7.out
  rw [Ca.allL, if_pos hc, ← hLc] at hRL
  have hml : m = Lc.length := by have := hRL.1; rwa [List.length_map] at this
  have hwl : Ca.wt Lc ≤ 8192 := by rw [hLc]; have := (Ca.chk_dp hc).1; omega
  have hmle := hRL.2.2.2.1
  have HTH : Ca.there n Lc = false → a5 = true ∧ a6 = true := fun q => by
    have := Ca.not_there n Lc q
    rw [HA5.out, HA6.out, Ca.sfP, if_pos hc, Ca.sfN, if_pos hc, ← hLc]; exact this
  have HKND := Lib.hid (show (Tm.nd h kids : Int) - (Tm.nd (Ca.eH h kids) (Ca.eK h kids)) = Ca.wt Lc by rw [hLc]; omega)
  have HKC := Lib.hid hkc
  have HUE := Lib.hid (⟨hke, hkk⟩ : Ca.eH (Ca.eH h kids) (Ca.eK h kids) = Ca.eH h kids ∧ Ca.eK (Ca.eH h kids) (Ca.eK h kids) = Ca.eK h kids)
  have HUA := Lib.hid hka
  have HKH := Lib.hid hkh
  have HND := Lib.hid (Ca.chk_dp hc).1
  have HRL := Lib.hid hRL
  have HML := Lib.hid hml
  have HWL := Lib.hid hwl
  have HTT := Lib.hid HTH
  have HLC := Lib.hid (show ∀ x ∈ Lc, x.kind = 17 from fun x hx => by rw [hLc] at hx; exact (Ca.mem_cs hx).2)
  have HC0 := Lib.hid hc
  simp only [if_pos hc] at CH
  have i5 : (m : Int) ≤ 8192 := by omega
  generalize ((Tm.chk h kids : Nat) : Int) = x0 at *
  clear hkc hke hkk hka hknd hkh hRL hml hwl HTH hLc hc HR7 HA5 HA6 hmle
  go_wp2_with fail
  clear q0 q1 q2 q3 q4 q5 q6 q7 q8 q9 q10 ql
  go_loopw [11, 12, 13] (fun v11 v12 v13 wr => ∃ (i : Nat) (dn rs : List Hd), v13 = .int .i64 i ∧ v11 = .int .i64 (Ca.wt dn) ∧ v12 = .bool (Ca.there n dn) ∧ dn ++ rs = Lc ∧ dn.length = i ∧ Below w7.heap.size w7 wr) (fun _ _ v _ => m - (intOf v).toNat)
  case atStart => exact ⟨0, [], Lc, rfl, rfl, rfl, rfl, rfl, Below.refl _ _⟩
  case round =>
    obtain ⟨i, dn, rs, rfl, rfl, rfl, hLd, hdl, hB⟩ := hrel
    cases rs with
    | nil =>
      rw [List.append_nil] at hLd
      subst hLd
      have hi2 : (i : Int) = m := by have := HML.out; omega
      have hlt : ¬ (i : Int) < m := by omega
      have HB := Lib.hid hB
      have E8 := Lib.hid (E7.out.trans (hB.mono E7.out.size))
      have H8 := Lib.hid (heap_below hB (heap_lt H7.out) H7.out)
      have HU := Lib.hid (heap_below hB (heap_lt HU7.out) HU7.out)
      have HUI := Lib.hid (HUI7.out.below hB)
      have CAU := Lib.hid (fun (U : World) (hb : Below wr.heap.size wr U) => call_any (Ca.eH h kids) (Ca.eK h kids) pu U (HUI.out.below hb) (HGG.out U (E8.out.trans (hb.mono E8.out.size))))
      have CEU := Lib.hid (fun (U : World) (hb : Below wr.heap.size wr U) => erase_any (Ca.eH h kids) (Ca.eK h kids) pu U (HUI.out.below hb) (HGG.out U (E8.out.trans (hb.mono E8.out.size))))
      have CHU := Lib.hid (fun (U : World) (hb : Below wr.heap.size wr U) => cheight_any (Ca.eH h kids) (Ca.eK h kids) pu U (HUI.out.below hb) (HGG.out U (E8.out.trans (hb.mono E8.out.size))))
      have CNU := Lib.hid (fun (U : World) (hb : Below wr.heap.size wr U) => tnodes_any (Ca.eH h kids) (Ca.eK h kids) pu U (HUI.out.below hb) (HGG.out U (E8.out.trans (hb.mono E8.out.size))).terms)
      simp only [if_pos HKC.out] at CHU
      clear hB
      obtain ⟨T, hT⟩ : ∃ b, b = Ca.there n dn := ⟨_, rfl⟩
      rw [← hT]
      have HTQ := Lib.hid hT
      clear hT
      go_upto_region 18 with fail
      have HFIN : ∀ (K : World → Prop), (∀ u, Below wr.heap.size wr u → K u) → ∀ u, Below wr.heap.size wr u → K u := fun _ h => h
      clear HFIN
      cases T
      · obtain ⟨h5, h6⟩ := HTT.out HTQ.out.symm
        subst h5
        subst h6
        refine Rg.region_rel 146 rfl [106, 107, 108, 109, 110, 111, 112, 113, 114, 115, 116, 117, 118, 119, 120, 121, 122, 123, 124, 125, 126, 127, 128] [(10, .pointer (some ⟨X10, 0, none⟩)), (12, .bool false), (5, .bool true), (6, .bool true)] [.is (.bool false), .is (.bool true), .is (.bool true), .is (.bool true), .is (.bool false), .is (.bool false), .is (.bool true), .is (.bool false), .is (.bool false), .is (.bool false), .is (.bool false), .is (.agg #[.int .i8 (Ca.eH h kids).kind, .string (Ca.eH h kids).name, .string (Ca.eH h kids).arg, .int .i64 (Ca.eH h kids).num, .int .i8 (Ca.eH h kids).tk, .slice pu.TA pu.tn pu.tc, .int .i8 (Ca.eH h kids).uk, .slice pu.UA pu.un pu.uc, .int .i64 (Ca.eH h kids).label, .int .i64 (Ca.eH h kids).pos, .slice pu.A pu.n pu.c]), .sp (fun v _ => ∃ (G : Option Addr) (c : Nat), v = .slice G 0 c), .is (.int .i64 0), .is (.bool false), .is (.bool false), .is (.bool false), .is (.agg #[.int .i8 (Ca.eH h kids).kind, .string (Ca.eH h kids).name, .string (Ca.eH h kids).arg, .int .i64 (Ca.eH h kids).num, .int .i8 (Ca.eH h kids).tk, .slice pu.TA pu.tn pu.tc, .int .i8 (Ca.eH h kids).uk, .slice pu.UA pu.un pu.uc, .int .i64 (Ca.eH h kids).label, .int .i64 (Ca.eH h kids).pos, .slice pu.A pu.n pu.c]), .sp (fun v u => ∃ p : Pl, v = .agg #[.int .i8 (Ca.eH h kids).kind, .string (Ca.eH h kids).name, .string (Ca.eH h kids).arg, .int .i64 (Ca.eH h kids).num, .int .i8 (Ca.eH h kids).tk, .slice p.TA p.tn p.tc, .int .i8 (Ca.eH h kids).uk, .slice p.UA p.un p.uc, .int .i64 (Ca.eH h kids).label, .int .i64 (Ca.eH h kids).pos, .slice p.A p.n p.c] ∧ Tm.Is u (Ca.eH h kids) (Ca.eK h kids) p), .is (.agg #[.int .i8 (Ca.eH h kids).kind, .string (Ca.eH h kids).name, .string (Ca.eH h kids).arg, .int .i64 (Ca.eH h kids).num, .int .i8 (Ca.eH h kids).tk, .slice pu.TA pu.tn pu.tc, .int .i8 (Ca.eH h kids).uk, .slice pu.UA pu.un pu.uc, .int .i64 (Ca.eH h kids).label, .int .i64 (Ca.eH h kids).pos, .slice pu.A pu.n pu.c]), .is (.bool true), .is (.bool false), .is (.bool false)] (by kernel_rfl) (by kernel_rfl) (by kernel_rfl) (by kernel_rfl) ?_ ?_ ?_ ?_
        · intro P hP v w5 w6 h5 hb5
          simp only [List.mem_cons, List.not_mem_nil, or_false, false_or, reduceCtorEq, Rg.Gd.sp.injEq] at hP
          rcases hP with rfl | rfl
          · exact h5
          · exact h5.elim fun p q => ⟨p, q.1, q.2.below hb5⟩
        · intro s v hx
          simp only [List.mem_cons, Prod.mk.injEq, List.not_mem_nil, or_false] at hx
          rcases hx with ⟨rfl, rfl⟩ | ⟨rfl, rfl⟩ | ⟨rfl, rfl⟩ | ⟨rfl, rfl⟩ <;> rfl
        · intro i o a' w' ho hF hbw hdep
          have hi13 : i < 23 := by
            rcases Nat.lt_or_ge i 23 with q | q
            · exact q
            · rw [Array.getElem?_eq_none (by simpa using q)] at ho; cases ho
          rcases (by omega : i = 0 ∨ i = 1 ∨ i = 2 ∨ i = 3 ∨ i = 4 ∨ i = 5 ∨ i = 6 ∨ i = 7 ∨ i = 8 ∨ i = 9 ∨ i = 10 ∨ i = 11 ∨ i = 12 ∨ i = 13 ∨ i = 14 ∨ i = 15 ∨ i = 16 ∨ i = 17 ∨ i = 18 ∨ i = 19 ∨ i = 20 ∨ i = 21 ∨ i = 22) with rfl | rfl | rfl | rfl | rfl | rfl | rfl | rfl | rfl | rfl | rfl | rfl | rfl | rfl | rfl | rfl | rfl | rfl | rfl | rfl | rfl | rfl | rfl
          · obtain rfl := Rg.SI ho
            have z12 : a'.eval (.tmp 12) = .bool false := hF.fx 12 _ (by simp)
            refine .inl ⟨Rg.want_none rfl, Rg.rel_val 106 rfl (v := .bool false) rfl ?_⟩
            clear hF hbw hdep hi13
            obtain ⟨hcst, hfn⟩ := Rg.evc a'
            generalize a'.eval = ev at *
            go_simp
          · obtain rfl := Rg.SI ho
            have z106 : a'.eval (.tmp 106) = .bool false := hdep ⟨0, .data⟩ (by simp) rfl _ 106 rfl rfl
            refine .inl ⟨Rg.want_none rfl, Rg.rel_val 107 rfl (v := .bool true) rfl ?_⟩
            clear hF hbw hdep hi13
            obtain ⟨hcst, hfn⟩ := Rg.evc a'
            generalize a'.eval = ev at *
            go_simp
          · obtain rfl := Rg.SI ho
            have z107 : a'.eval (.tmp 107) = .bool true := hdep ⟨1, .data⟩ (by simp) rfl _ 107 rfl rfl
            refine .inl ⟨Rg.want_none rfl, Rg.rel_val 108 rfl (v := .bool true) rfl ?_⟩
            clear hF hbw hdep hi13
            obtain ⟨hcst, hfn⟩ := Rg.evc a'
            generalize a'.eval = ev at *
            go_simp
          · obtain rfl := Rg.SI ho
            have zg : a'.eval (.tmp 108) = .bool true := hdep ⟨2, .guard⟩ (by simp) rfl _ 108 rfl rfl
            have z5 : a'.eval (.tmp 5) = .bool true := hF.fx 5 _ (by simp)
            refine .inl ⟨Rg.want_at rfl rfl rfl hF.sz (by decide) zg, Rg.rel_val 109 rfl (v := .bool true) rfl ?_⟩
            clear hF hbw hdep hi13
            obtain ⟨hcst, hfn⟩ := Rg.evc a'
            generalize a'.eval = ev at *
            go_simp
          · obtain rfl := Rg.SI ho
            have zg : a'.eval (.tmp 108) = .bool true := hdep ⟨2, .guard⟩ (by simp) rfl _ 108 rfl rfl
            have z109 : a'.eval (.tmp 109) = .bool true := hdep ⟨3, .data⟩ (by simp) rfl _ 109 rfl rfl
            refine .inl ⟨Rg.want_at rfl rfl rfl hF.sz (by decide) zg, Rg.rel_val 110 rfl (v := .bool false) rfl ?_⟩
            clear hF hbw hdep hi13
            obtain ⟨hcst, hfn⟩ := Rg.evc a'
            generalize a'.eval = ev at *
            go_simp
          · obtain rfl := Rg.SI ho
            have zg : a'.eval (.tmp 108) = .bool true := hdep ⟨2, .guard⟩ (by simp) rfl _ 108 rfl rfl
            have z110 : a'.eval (.tmp 110) = .bool false := hdep ⟨4, .data⟩ (by simp) rfl _ 110 rfl rfl
            refine .inl ⟨Rg.want_at rfl rfl rfl hF.sz (by decide) zg, Rg.rel_val 111 rfl (v := .bool false) rfl ?_⟩
            clear hF hbw hdep hi13
            obtain ⟨hcst, hfn⟩ := Rg.evc a'
            generalize a'.eval = ev at *
            go_simp
          · obtain rfl := Rg.SI ho
            have zg : a'.eval (.tmp 111) = .bool false := hdep ⟨5, .guard⟩ (by simp) rfl _ 111 rfl rfl
            have z6 : a'.eval (.tmp 6) = .bool true := hF.fx 6 _ (by simp)
            refine .inl ⟨Rg.want_at rfl rfl rfl hF.sz (by decide) zg, Rg.rel_val 112 rfl (v := .bool true) rfl ?_⟩
            clear hF hbw hdep hi13
            obtain ⟨hcst, hfn⟩ := Rg.evc a'
            generalize a'.eval = ev at *
            go_simp
          · obtain rfl := Rg.SI ho
            have zg : a'.eval (.tmp 111) = .bool false := hdep ⟨5, .guard⟩ (by simp) rfl _ 111 rfl rfl
            have z112 : a'.eval (.tmp 112) = .bool true := hdep ⟨6, .data⟩ (by simp) rfl _ 112 rfl rfl
            refine .inl ⟨Rg.want_at rfl rfl rfl hF.sz (by decide) zg, Rg.rel_val 113 rfl (v := .bool false) rfl ?_⟩
            clear hF hbw hdep hi13
            obtain ⟨hcst, hfn⟩ := Rg.evc a'
            generalize a'.eval = ev at *
            go_simp
          · obtain rfl := Rg.SI ho
            have zg : a'.eval (.tmp 108) = .bool true := hdep ⟨2, .guard⟩ (by simp) rfl _ 108 rfl rfl
            have z111 : a'.eval (.tmp 111) = .bool false := hdep ⟨5, .data⟩ (by simp) rfl _ 111 rfl rfl
            have z113 : a'.eval (.tmp 113) = .bool false := hdep ⟨7, .data⟩ (by simp) rfl _ 113 rfl rfl
            refine .inl ⟨Rg.want_at rfl rfl rfl hF.sz (by decide) zg, Rg.rel_val 114 rfl (v := .bool false) rfl ?_⟩
            clear hF hbw hdep hi13
            obtain ⟨hcst, hfn⟩ := Rg.evc a'
            generalize a'.eval = ev at *
            go_simp
          · obtain rfl := Rg.SI ho
            have z108 : a'.eval (.tmp 108) = .bool true := hdep ⟨2, .data⟩ (by simp) rfl _ 108 rfl rfl
            have z114 : a'.eval (.tmp 114) = .bool false := hdep ⟨8, .data⟩ (by simp) rfl _ 114 rfl rfl
            refine .inl ⟨Rg.want_none rfl, Rg.rel_val 115 rfl (v := .bool false) rfl ?_⟩
            clear hF hbw hdep hi13
            obtain ⟨hcst, hfn⟩ := Rg.evc a'
            generalize a'.eval = ev at *
            go_simp
          · obtain rfl := Rg.SI ho
            have z115 : a'.eval (.tmp 115) = .bool false := hdep ⟨9, .data⟩ (by simp) rfl _ 115 rfl rfl
            refine .inl ⟨Rg.want_none rfl, Rg.rel_val 116 rfl (v := .bool false) rfl ?_⟩
            clear hF hbw hdep hi13
            obtain ⟨hcst, hfn⟩ := Rg.evc a'
            generalize a'.eval = ev at *
            go_simp
          · obtain rfl := Rg.SI ho
            have zg : a'.eval (.tmp 116) = .bool false := hdep ⟨10, .guard⟩ (by simp) rfl _ 116 rfl rfl
            have z10 : a'.eval (.tmp 10) = .pointer (some ⟨X10, 0, none⟩) := hF.fx 10 _ (by simp)
            obtain ⟨q0, q1, q2, q3, q4, q5, q6, q7, q8, q9, q10, ql⟩ := own11 (heap_below hbw (heap_lt HU.out) HU.out)
            refine .inl ⟨Rg.want_at rfl rfl rfl hF.sz (by decide) zg, Rg.rel_val 117 rfl (v := .agg #[.int .i8 (Ca.eH h kids).kind, .string (Ca.eH h kids).name, .string (Ca.eH h kids).arg, .int .i64 (Ca.eH h kids).num, .int .i8 (Ca.eH h kids).tk, .slice pu.TA pu.tn pu.tc, .int .i8 (Ca.eH h kids).uk, .slice pu.UA pu.un pu.uc, .int .i64 (Ca.eH h kids).label, .int .i64 (Ca.eH h kids).pos, .slice pu.A pu.n pu.c]) rfl ?_⟩
            clear hF hbw hdep hi13
            obtain ⟨hcst, hfn⟩ := Rg.evc a'
            generalize a'.eval = ev at *
            go_simp
          · obtain rfl := Rg.SI ho
            have zg : a'.eval (.tmp 116) = .bool false := hdep ⟨10, .guard⟩ (by simp) rfl _ 116 rfl rfl
            have z117 : a'.eval (.tmp 117) = .agg #[.int .i8 (Ca.eH h kids).kind, .string (Ca.eH h kids).name, .string (Ca.eH h kids).arg, .int .i64 (Ca.eH h kids).num, .int .i8 (Ca.eH h kids).tk, .slice pu.TA pu.tn pu.tc, .int .i8 (Ca.eH h kids).uk, .slice pu.UA pu.un pu.uc, .int .i64 (Ca.eH h kids).label, .int .i64 (Ca.eH h kids).pos, .slice pu.A pu.n pu.c] := hdep ⟨11, .data⟩ (by simp) rfl _ 117 rfl rfl
            refine .inl ⟨Rg.want_at rfl rfl rfl hF.sz (by decide) zg, Rg.rel_call 118 rfl (CAU.out w' hbw) (fun e u hg => ?_) ?_⟩
            · obtain ⟨G', m', c', rfl, hr, hb⟩ := hg
              rw [HUA.out] at hr
              obtain rfl : m' = 0 := hr.1
              exact ⟨_, rfl, ⟨G', c', rfl⟩, hb⟩
            · clear hF hdep hi13
              obtain ⟨hcst, hfn⟩ := Rg.evc a'
              generalize a'.eval = ev at *
              go_simp
              try (first | rfl | exact ⟨rfl, rfl⟩ | exact ⟨rfl, rfl, rfl⟩)
          · obtain rfl := Rg.SI ho
            have zg : a'.eval (.tmp 116) = .bool false := hdep ⟨10, .guard⟩ (by simp) rfl _ 116 rfl rfl
            have z118 := hdep ⟨12, .data⟩ (by simp) rfl _ 118 rfl rfl
            obtain ⟨G', c', z118⟩ := z118
            refine .inl ⟨Rg.want_at rfl rfl rfl hF.sz (by decide) zg, Rg.rel_val 119 rfl (v := .int .i64 0) rfl ?_⟩
            clear hF hbw hdep hi13
            obtain ⟨hcst, hfn⟩ := Rg.evc a'
            generalize a'.eval = ev at *
            go_simp
          · obtain rfl := Rg.SI ho
            have zg : a'.eval (.tmp 116) = .bool false := hdep ⟨10, .guard⟩ (by simp) rfl _ 116 rfl rfl
            have z119 : a'.eval (.tmp 119) = .int .i64 0 := hdep ⟨13, .data⟩ (by simp) rfl _ 119 rfl rfl
            refine .inl ⟨Rg.want_at rfl rfl rfl hF.sz (by decide) zg, Rg.rel_val 120 rfl (v := .bool false) rfl ?_⟩
            clear hF hbw hdep hi13
            obtain ⟨hcst, hfn⟩ := Rg.evc a'
            generalize a'.eval = ev at *
            go_simp
          · obtain rfl := Rg.SI ho
            have z116 : a'.eval (.tmp 116) = .bool false := hdep ⟨10, .data⟩ (by simp) rfl _ 116 rfl rfl
            have z120 : a'.eval (.tmp 120) = .bool false := hdep ⟨14, .data⟩ (by simp) rfl _ 120 rfl rfl
            refine .inl ⟨Rg.want_none rfl, Rg.rel_val 121 rfl (v := .bool false) rfl ?_⟩
            clear hF hbw hdep hi13
            obtain ⟨hcst, hfn⟩ := Rg.evc a'
            generalize a'.eval = ev at *
            go_simp
          · obtain rfl := Rg.SI ho
            have z121 : a'.eval (.tmp 121) = .bool false := hdep ⟨15, .data⟩ (by simp) rfl _ 121 rfl rfl
            refine .inl ⟨Rg.want_none rfl, Rg.rel_val 122 rfl (v := .bool false) rfl ?_⟩
            clear hF hbw hdep hi13
            obtain ⟨hcst, hfn⟩ := Rg.evc a'
            generalize a'.eval = ev at *
            go_simp
          · obtain rfl := Rg.SI ho
            have zg : a'.eval (.tmp 122) = .bool false := hdep ⟨16, .guard⟩ (by simp) rfl _ 122 rfl rfl
            have z10 : a'.eval (.tmp 10) = .pointer (some ⟨X10, 0, none⟩) := hF.fx 10 _ (by simp)
            obtain ⟨q0, q1, q2, q3, q4, q5, q6, q7, q8, q9, q10, ql⟩ := own11 (heap_below hbw (heap_lt HU.out) HU.out)
            refine .inl ⟨Rg.want_at rfl rfl rfl hF.sz (by decide) zg, Rg.rel_val 123 rfl (v := .agg #[.int .i8 (Ca.eH h kids).kind, .string (Ca.eH h kids).name, .string (Ca.eH h kids).arg, .int .i64 (Ca.eH h kids).num, .int .i8 (Ca.eH h kids).tk, .slice pu.TA pu.tn pu.tc, .int .i8 (Ca.eH h kids).uk, .slice pu.UA pu.un pu.uc, .int .i64 (Ca.eH h kids).label, .int .i64 (Ca.eH h kids).pos, .slice pu.A pu.n pu.c]) rfl ?_⟩
            clear hF hbw hdep hi13
            obtain ⟨hcst, hfn⟩ := Rg.evc a'
            generalize a'.eval = ev at *
            go_simp
          · obtain rfl := Rg.SI ho
            have zg : a'.eval (.tmp 122) = .bool false := hdep ⟨16, .guard⟩ (by simp) rfl _ 122 rfl rfl
            have z123 : a'.eval (.tmp 123) = .agg #[.int .i8 (Ca.eH h kids).kind, .string (Ca.eH h kids).name, .string (Ca.eH h kids).arg, .int .i64 (Ca.eH h kids).num, .int .i8 (Ca.eH h kids).tk, .slice pu.TA pu.tn pu.tc, .int .i8 (Ca.eH h kids).uk, .slice pu.UA pu.un pu.uc, .int .i64 (Ca.eH h kids).label, .int .i64 (Ca.eH h kids).pos, .slice pu.A pu.n pu.c] := hdep ⟨17, .data⟩ (by simp) rfl _ 123 rfl rfl
            refine .inl ⟨Rg.want_at rfl rfl rfl hF.sz (by decide) zg, Rg.rel_call 124 rfl (CEU.out w' hbw) (fun e u hg => ?_) ?_⟩
            · obtain ⟨p2, rfl, hs, hb⟩ := hg
              rw [HUE.out.1, HUE.out.2] at hs
              exact ⟨_, rfl, ⟨p2, by rw [HUE.out.1], hs.is fun _ _ _ _ _ q => q⟩, hb⟩
            · clear hF hdep hi13
              obtain ⟨hcst, hfn⟩ := Rg.evc a'
              generalize a'.eval = ev at *
              go_simp
              try (first | rfl | exact ⟨rfl, rfl⟩ | exact ⟨rfl, rfl, rfl⟩)
          · obtain rfl := Rg.SI ho
            have zg : a'.eval (.tmp 122) = .bool false := hdep ⟨16, .guard⟩ (by simp) rfl _ 122 rfl rfl
            have z10 : a'.eval (.tmp 10) = .pointer (some ⟨X10, 0, none⟩) := hF.fx 10 _ (by simp)
            obtain ⟨q0, q1, q2, q3, q4, q5, q6, q7, q8, q9, q10, ql⟩ := own11 (heap_below hbw (heap_lt HU.out) HU.out)
            refine .inl ⟨Rg.want_at rfl rfl rfl hF.sz (by decide) zg, Rg.rel_val 125 rfl (v := .agg #[.int .i8 (Ca.eH h kids).kind, .string (Ca.eH h kids).name, .string (Ca.eH h kids).arg, .int .i64 (Ca.eH h kids).num, .int .i8 (Ca.eH h kids).tk, .slice pu.TA pu.tn pu.tc, .int .i8 (Ca.eH h kids).uk, .slice pu.UA pu.un pu.uc, .int .i64 (Ca.eH h kids).label, .int .i64 (Ca.eH h kids).pos, .slice pu.A pu.n pu.c]) rfl ?_⟩
            clear hF hbw hdep hi13
            obtain ⟨hcst, hfn⟩ := Rg.evc a'
            generalize a'.eval = ev at *
            go_simp
          · obtain rfl := Rg.SI ho
            have zg : a'.eval (.tmp 122) = .bool false := hdep ⟨16, .guard⟩ (by simp) rfl _ 122 rfl rfl
            have z124 := hdep ⟨18, .data⟩ (by simp) rfl _ 124 rfl rfl
            have z125 : a'.eval (.tmp 125) = .agg #[.int .i8 (Ca.eH h kids).kind, .string (Ca.eH h kids).name, .string (Ca.eH h kids).arg, .int .i64 (Ca.eH h kids).num, .int .i8 (Ca.eH h kids).tk, .slice pu.TA pu.tn pu.tc, .int .i8 (Ca.eH h kids).uk, .slice pu.UA pu.un pu.uc, .int .i64 (Ca.eH h kids).label, .int .i64 (Ca.eH h kids).pos, .slice pu.A pu.n pu.c] := hdep ⟨19, .data⟩ (by simp) rfl _ 125 rfl rfl
            obtain ⟨p2, z124, hi2⟩ := z124
            refine .inl ⟨Rg.want_at rfl rfl rfl hF.sz (by decide) zg, Rg.rel_call 126 rfl (liket_any (Tm.nodes (Ca.eK h kids) + 1) (Ca.eH h kids) (Ca.eK h kids) p2 pu w' (Nat.lt_succ_self _) hi2 (HUI.out.below hbw)) (fun e u hg => ?_) ?_⟩
            · obtain ⟨rfl, hb⟩ := hg
              exact ⟨_, rfl, rfl, hb⟩
            · clear hF hdep hi13
              obtain ⟨hcst, hfn⟩ := Rg.evc a'
              generalize a'.eval = ev at *
              go_simp
              try (first | rfl | exact ⟨rfl, rfl⟩ | exact ⟨rfl, rfl, rfl⟩)
          · obtain rfl := Rg.SI ho
            have zg : a'.eval (.tmp 122) = .bool false := hdep ⟨16, .guard⟩ (by simp) rfl _ 122 rfl rfl
            have z126 : a'.eval (.tmp 126) = .bool true := hdep ⟨20, .data⟩ (by simp) rfl _ 126 rfl rfl
            refine .inl ⟨Rg.want_at rfl rfl rfl hF.sz (by decide) zg, Rg.rel_val 127 rfl (v := .bool false) rfl ?_⟩
            clear hF hbw hdep hi13
            obtain ⟨hcst, hfn⟩ := Rg.evc a'
            generalize a'.eval = ev at *
            go_simp
          · obtain rfl := Rg.SI ho
            have z122 : a'.eval (.tmp 122) = .bool false := hdep ⟨16, .data⟩ (by simp) rfl _ 122 rfl rfl
            have z127 : a'.eval (.tmp 127) = .bool false := hdep ⟨21, .data⟩ (by simp) rfl _ 127 rfl rfl
            refine .inl ⟨Rg.want_none rfl, Rg.rel_val 128 rfl (v := .bool false) rfl ?_⟩
            clear hF hbw hdep hi13
            obtain ⟨hcst, hfn⟩ := Rg.evc a'
            generalize a'.eval = ev at *
            go_simp
        · intro u w' t ht hb hG
          have h4 : u 128 = .bool false := hG 22 _ 128 rfl rfl
          have E9 := Lib.hid (E8.out.trans (hb.mono E8.out.size))
          have L9 := Lib.hid hb
          have H9 := Lib.hid (heap_below hb (heap_lt H8.out) H8.out)
          have HU9 := Lib.hid (heap_below hb (heap_lt HU.out) HU.out)
          clear hG hb
          simp only [over, List.setIfInBounds_toArray, List.set_cons_succ, List.set_cons_zero, h4] at ht
          subst ht
          clear h4
          go_upto_region 20 with fail
          have hnd1 : Tm.nod h kids = Tm.nd h kids := by have := HND.out; unfold Tm.nod; omega
          have hkd := HKND.out
          have hnd2 : Tm.nod (Ca.eH h kids) (Ca.eK h kids) = Tm.nd (Ca.eH h kids) (Ca.eK h kids) := by have := HND.out; unfold Tm.nod; omega
          obtain ⟨N1, hN1⟩ : ∃ x : Int, x = (Tm.nd h kids : Nat) := ⟨_, rfl⟩
          obtain ⟨N2, hN2⟩ : ∃ x : Int, x = (Tm.nd (Ca.eH h kids) (Ca.eK h kids) : Nat) := ⟨_, rfl⟩
          obtain ⟨W1, hW1⟩ : ∃ x : Int, x = (Ca.wt dn : Nat) := ⟨_, rfl⟩
          obtain ⟨K1, hK1⟩ : ∃ x : Int, x = (Ca.htL (Ca.pre (.node h kids .nil)) : Nat) := ⟨_, rfl⟩
          obtain ⟨K2, hK2⟩ : ∃ x : Int, x = (Ca.htL (Ca.pre (.node (Ca.eH h kids) (Ca.eK h kids) .nil)) : Nat) := ⟨_, rfl⟩
          have hsub : N1 - N2 = W1 := by rw [hN1, hN2, hW1]; exact hkd
          have hb1 : 0 ≤ N1 ∧ N1 ≤ 8192 := by have := HND.out; omega
          have hb2 : 0 ≤ N2 ∧ N2 ≤ 8192 := by omega
          have hle : K2 ≤ K1 := by have := HKH.out; omega
          have CNt := Lib.hid (fun (U : World) (hb : Below w'.heap.size w' U) => show Calls Tryz.prog 16 #[.agg #[.int .i8 h.kind, .string h.name, .string h.arg, .int .i64 h.num, .int .i8 h.tk, .slice p.TA p.tn p.tc, .int .i8 h.uk, .slice p.UA p.un p.uc, .int .i64 h.label, .int .i64 h.pos, .slice p.A p.n p.c]] U (fun e w' => e = .returned (.int .i64 N1) ∧ Below U.heap.size U w') from by have q := CN.out U (E9.out.trans (hb.mono E9.out.size)); rw [hnd1, ← hN1] at q; exact q)
          have CNv := Lib.hid (fun (U : World) (hb : Below w'.heap.size w' U) => show Calls Tryz.prog 16 #[.agg #[.int .i8 (Ca.eH h kids).kind, .string (Ca.eH h kids).name, .string (Ca.eH h kids).arg, .int .i64 (Ca.eH h kids).num, .int .i8 (Ca.eH h kids).tk, .slice pu.TA pu.tn pu.tc, .int .i8 (Ca.eH h kids).uk, .slice pu.UA pu.un pu.uc, .int .i64 (Ca.eH h kids).label, .int .i64 (Ca.eH h kids).pos, .slice pu.A pu.n pu.c]] U (fun e w' => e = .returned (.int .i64 N2) ∧ Below U.heap.size U w') from by have q := CNU.out U (L9.out.trans (hb.mono L9.out.size)); rw [hnd2, ← hN2] at q; exact q)
          have CHt := Lib.hid (fun (U : World) (hb : Below w'.heap.size w' U) => show Calls Tryz.prog 25 #[.agg #[.int .i8 h.kind, .string h.name, .string h.arg, .int .i64 h.num, .int .i8 h.tk, .slice p.TA p.tn p.tc, .int .i8 h.uk, .slice p.UA p.un p.uc, .int .i64 h.label, .int .i64 h.pos, .slice p.A p.n p.c]] U (fun e w' => e = .returned (.int .i64 K1) ∧ Below U.heap.size U w') from by have q := CH.out U (E9.out.trans (hb.mono E9.out.size)); rw [← hK1] at q; exact q)
          have CHv := Lib.hid (fun (U : World) (hb : Below w'.heap.size w' U) => show Calls Tryz.prog 25 #[.agg #[.int .i8 (Ca.eH h kids).kind, .string (Ca.eH h kids).name, .string (Ca.eH h kids).arg, .int .i64 (Ca.eH h kids).num, .int .i8 (Ca.eH h kids).tk, .slice pu.TA pu.tn pu.tc, .int .i8 (Ca.eH h kids).uk, .slice pu.UA pu.un pu.uc, .int .i64 (Ca.eH h kids).label, .int .i64 (Ca.eH h kids).pos, .slice pu.A pu.n pu.c]] U (fun e w' => e = .returned (.int .i64 K2) ∧ Below U.heap.size U w') from by have q := CHU.out U (L9.out.trans (hb.mono L9.out.size)); rw [← hK2] at q; exact q)
          have CWv := Lib.hid (fun (U : World) (hb : Below w'.heap.size w' U) => CWK.out U (E9.out.trans (hb.mono E9.out.size)))
          rw [← hW1]
          clear hnd1 hnd2 hkd hN1 hN2 hW1 hK1 hK2
          obtain ⟨q0, q1, q2, q3, q4, q5, q6, q7, q8, q9, q10, ql⟩ := own11 H9.out
          have Lq0 := later_cell q0
          have Lq1 := later_cell q1
          have Lq2 := later_cell q2
          have Lq3 := later_cell q3
          have Lq4 := later_cell q4
          have Lq5 := later_cell q5
          have Lq6 := later_cell q6
          have Lq7 := later_cell q7
          have Lq8 := later_cell q8
          have Lq9 := later_cell q9
          have Lq10 := later_cell q10
          clear q0 q1 q2 q3 q4 q5 q6 q7 q8 q9 q10 ql
          obtain ⟨y0, y1, y2, y3, y4, y5, y6, y7, y8, y9, y10, yl⟩ := own11 HU9.out
          have Ly0 := later_cell y0
          have Ly1 := later_cell y1
          have Ly2 := later_cell y2
          have Ly3 := later_cell y3
          have Ly4 := later_cell y4
          have Ly5 := later_cell y5
          have Ly6 := later_cell y6
          have Ly7 := later_cell y7
          have Ly8 := later_cell y8
          have Ly9 := later_cell y9
          have Ly10 := later_cell y10
          clear y0 y1 y2 y3 y4 y5 y6 y7 y8 y9 y10 yl
          refine wp_region_low (by kernel_rfl) (by kernel_rfl) ?_
          repeat
            first
              | go_big_quiet_skip
              | (go_big_quiet_want
                 go_big_quiet_op
                 first
                   | go_big_quiet_on
                   | (refine ⟨_, fun _ => rfl, ?_⟩
                      go_big_quiet_on)
                   | (apply Exists.intro
                      refine ⟨fun h => ?_, ?_⟩
                      · first
                          | (go_at_call 16; with_reducible exact call_low h (CNt.out h.u h.low))
                          | (go_at_call 16; with_reducible exact call_low h (CNv.out h.u h.low))
                          | (go_at_call 25; with_reducible exact call_low h (CHv.out h.u h.low))
                          | (go_at_call 25; with_reducible exact call_low h (CHt.out h.u h.low))
                          | (go_at_call 33; with_reducible exact call_low h (CWv.out h.u h.low))
                      go_big_quiet_on))
          refine wpQuiet_nil ?_
          rintro wz ⟨⟨_, Ez⟩, rfl⟩
          have HBF := Lib.hid (HB1.out.trans ((E9.out.trans (Ez.mono E9.out.size)).mono HB1.out.size))
          clear Ez
          go_wp2_with fail
          go_ret
          exact ⟨rfl, HBF.out⟩
      · skip
        refine Rg.region_rel 146 rfl [106, 107, 108, 109, 110, 111, 112, 113, 114, 115, 116, 117, 118, 119, 120, 121, 122, 123, 124, 125, 126, 127, 128] [(10, .pointer (some ⟨X10, 0, none⟩)), (12, .bool true), (5, .bool a5), (6, .bool a6)] [.is (.bool true), .is (.bool false), .is (.bool false), .is (undef), .is (undef), .is (undef), .is (undef), .is (undef), .is (undef), .is (.bool false), .is (.bool false), .is (.agg #[.int .i8 (Ca.eH h kids).kind, .string (Ca.eH h kids).name, .string (Ca.eH h kids).arg, .int .i64 (Ca.eH h kids).num, .int .i8 (Ca.eH h kids).tk, .slice pu.TA pu.tn pu.tc, .int .i8 (Ca.eH h kids).uk, .slice pu.UA pu.un pu.uc, .int .i64 (Ca.eH h kids).label, .int .i64 (Ca.eH h kids).pos, .slice pu.A pu.n pu.c]), .sp (fun v _ => ∃ (G : Option Addr) (c : Nat), v = .slice G 0 c), .is (.int .i64 0), .is (.bool false), .is (.bool false), .is (.bool false), .is (.agg #[.int .i8 (Ca.eH h kids).kind, .string (Ca.eH h kids).name, .string (Ca.eH h kids).arg, .int .i64 (Ca.eH h kids).num, .int .i8 (Ca.eH h kids).tk, .slice pu.TA pu.tn pu.tc, .int .i8 (Ca.eH h kids).uk, .slice pu.UA pu.un pu.uc, .int .i64 (Ca.eH h kids).label, .int .i64 (Ca.eH h kids).pos, .slice pu.A pu.n pu.c]), .sp (fun v u => ∃ p : Pl, v = .agg #[.int .i8 (Ca.eH h kids).kind, .string (Ca.eH h kids).name, .string (Ca.eH h kids).arg, .int .i64 (Ca.eH h kids).num, .int .i8 (Ca.eH h kids).tk, .slice p.TA p.tn p.tc, .int .i8 (Ca.eH h kids).uk, .slice p.UA p.un p.uc, .int .i64 (Ca.eH h kids).label, .int .i64 (Ca.eH h kids).pos, .slice p.A p.n p.c] ∧ Tm.Is u (Ca.eH h kids) (Ca.eK h kids) p), .is (.agg #[.int .i8 (Ca.eH h kids).kind, .string (Ca.eH h kids).name, .string (Ca.eH h kids).arg, .int .i64 (Ca.eH h kids).num, .int .i8 (Ca.eH h kids).tk, .slice pu.TA pu.tn pu.tc, .int .i8 (Ca.eH h kids).uk, .slice pu.UA pu.un pu.uc, .int .i64 (Ca.eH h kids).label, .int .i64 (Ca.eH h kids).pos, .slice pu.A pu.n pu.c]), .is (.bool true), .is (.bool false), .is (.bool false)] (by kernel_rfl) (by kernel_rfl) (by kernel_rfl) (by kernel_rfl) ?_ ?_ ?_ ?_
        · intro P hP v w5 w6 h5 hb5
          simp only [List.mem_cons, List.not_mem_nil, or_false, false_or, reduceCtorEq, Rg.Gd.sp.injEq] at hP
          rcases hP with rfl | rfl
          · exact h5
          · exact h5.elim fun p q => ⟨p, q.1, q.2.below hb5⟩
        · intro s v hx
          simp only [List.mem_cons, Prod.mk.injEq, List.not_mem_nil, or_false] at hx
          rcases hx with ⟨rfl, rfl⟩ | ⟨rfl, rfl⟩ | ⟨rfl, rfl⟩ | ⟨rfl, rfl⟩ <;> rfl
        · intro i o a' w' ho hF hbw hdep
          have hi13 : i < 23 := by
            rcases Nat.lt_or_ge i 23 with q | q
            · exact q
            · rw [Array.getElem?_eq_none (by simpa using q)] at ho; cases ho
          rcases (by omega : i = 0 ∨ i = 1 ∨ i = 2 ∨ i = 3 ∨ i = 4 ∨ i = 5 ∨ i = 6 ∨ i = 7 ∨ i = 8 ∨ i = 9 ∨ i = 10 ∨ i = 11 ∨ i = 12 ∨ i = 13 ∨ i = 14 ∨ i = 15 ∨ i = 16 ∨ i = 17 ∨ i = 18 ∨ i = 19 ∨ i = 20 ∨ i = 21 ∨ i = 22) with rfl | rfl | rfl | rfl | rfl | rfl | rfl | rfl | rfl | rfl | rfl | rfl | rfl | rfl | rfl | rfl | rfl | rfl | rfl | rfl | rfl | rfl | rfl
          · obtain rfl := Rg.SI ho
            have z12 : a'.eval (.tmp 12) = .bool true := hF.fx 12 _ (by simp)
            refine .inl ⟨Rg.want_none rfl, Rg.rel_val 106 rfl (v := .bool true) rfl ?_⟩
            clear hF hbw hdep hi13
            obtain ⟨hcst, hfn⟩ := Rg.evc a'
            generalize a'.eval = ev at *
            go_simp
          · obtain rfl := Rg.SI ho
            have z106 : a'.eval (.tmp 106) = .bool true := hdep ⟨0, .data⟩ (by simp) rfl _ 106 rfl rfl
            refine .inl ⟨Rg.want_none rfl, Rg.rel_val 107 rfl (v := .bool false) rfl ?_⟩
            clear hF hbw hdep hi13
            obtain ⟨hcst, hfn⟩ := Rg.evc a'
            generalize a'.eval = ev at *
            go_simp
          · obtain rfl := Rg.SI ho
            have z107 : a'.eval (.tmp 107) = .bool false := hdep ⟨1, .data⟩ (by simp) rfl _ 107 rfl rfl
            refine .inl ⟨Rg.want_none rfl, Rg.rel_val 108 rfl (v := .bool false) rfl ?_⟩
            clear hF hbw hdep hi13
            obtain ⟨hcst, hfn⟩ := Rg.evc a'
            generalize a'.eval = ev at *
            go_simp
          · obtain rfl := Rg.SI ho
            have zg : a'.eval (.tmp 108) = .bool false := hdep ⟨2, .guard⟩ (by simp) rfl _ 108 rfl rfl
            exact .inr ⟨Rg.want_not rfl rfl rfl hF.sz (by decide) zg, rfl⟩
          · obtain rfl := Rg.SI ho
            have zg : a'.eval (.tmp 108) = .bool false := hdep ⟨2, .guard⟩ (by simp) rfl _ 108 rfl rfl
            exact .inr ⟨Rg.want_not rfl rfl rfl hF.sz (by decide) zg, rfl⟩
          · obtain rfl := Rg.SI ho
            have zg : a'.eval (.tmp 108) = .bool false := hdep ⟨2, .guard⟩ (by simp) rfl _ 108 rfl rfl
            exact .inr ⟨Rg.want_not rfl rfl rfl hF.sz (by decide) zg, rfl⟩
          · obtain rfl := Rg.SI ho
            have zg : a'.eval (.tmp 111) = undef := hdep ⟨5, .guard⟩ (by simp) rfl _ 111 rfl rfl
            exact .inr ⟨Rg.want_undef rfl rfl rfl hF.sz (by decide) zg, rfl⟩
          · obtain rfl := Rg.SI ho
            have zg : a'.eval (.tmp 111) = undef := hdep ⟨5, .guard⟩ (by simp) rfl _ 111 rfl rfl
            exact .inr ⟨Rg.want_undef rfl rfl rfl hF.sz (by decide) zg, rfl⟩
          · obtain rfl := Rg.SI ho
            have zg : a'.eval (.tmp 108) = .bool false := hdep ⟨2, .guard⟩ (by simp) rfl _ 108 rfl rfl
            exact .inr ⟨Rg.want_not rfl rfl rfl hF.sz (by decide) zg, rfl⟩
          · obtain rfl := Rg.SI ho
            have z108 : a'.eval (.tmp 108) = .bool false := hdep ⟨2, .data⟩ (by simp) rfl _ 108 rfl rfl
            have z114 : a'.eval (.tmp 114) = undef := hdep ⟨8, .data⟩ (by simp) rfl _ 114 rfl rfl
            refine .inl ⟨Rg.want_none rfl, Rg.rel_val 115 rfl (v := .bool false) rfl ?_⟩
            clear hF hbw hdep hi13
            obtain ⟨hcst, hfn⟩ := Rg.evc a'
            generalize a'.eval = ev at *
            go_simp
          · obtain rfl := Rg.SI ho
            have z115 : a'.eval (.tmp 115) = .bool false := hdep ⟨9, .data⟩ (by simp) rfl _ 115 rfl rfl
            refine .inl ⟨Rg.want_none rfl, Rg.rel_val 116 rfl (v := .bool false) rfl ?_⟩
            clear hF hbw hdep hi13
            obtain ⟨hcst, hfn⟩ := Rg.evc a'
            generalize a'.eval = ev at *
            go_simp
          · obtain rfl := Rg.SI ho
            have zg : a'.eval (.tmp 116) = .bool false := hdep ⟨10, .guard⟩ (by simp) rfl _ 116 rfl rfl
            have z10 : a'.eval (.tmp 10) = .pointer (some ⟨X10, 0, none⟩) := hF.fx 10 _ (by simp)
            obtain ⟨q0, q1, q2, q3, q4, q5, q6, q7, q8, q9, q10, ql⟩ := own11 (heap_below hbw (heap_lt HU.out) HU.out)
            refine .inl ⟨Rg.want_at rfl rfl rfl hF.sz (by decide) zg, Rg.rel_val 117 rfl (v := .agg #[.int .i8 (Ca.eH h kids).kind, .string (Ca.eH h kids).name, .string (Ca.eH h kids).arg, .int .i64 (Ca.eH h kids).num, .int .i8 (Ca.eH h kids).tk, .slice pu.TA pu.tn pu.tc, .int .i8 (Ca.eH h kids).uk, .slice pu.UA pu.un pu.uc, .int .i64 (Ca.eH h kids).label, .int .i64 (Ca.eH h kids).pos, .slice pu.A pu.n pu.c]) rfl ?_⟩
            clear hF hbw hdep hi13
            obtain ⟨hcst, hfn⟩ := Rg.evc a'
            generalize a'.eval = ev at *
            go_simp
          · obtain rfl := Rg.SI ho
            have zg : a'.eval (.tmp 116) = .bool false := hdep ⟨10, .guard⟩ (by simp) rfl _ 116 rfl rfl
            have z117 : a'.eval (.tmp 117) = .agg #[.int .i8 (Ca.eH h kids).kind, .string (Ca.eH h kids).name, .string (Ca.eH h kids).arg, .int .i64 (Ca.eH h kids).num, .int .i8 (Ca.eH h kids).tk, .slice pu.TA pu.tn pu.tc, .int .i8 (Ca.eH h kids).uk, .slice pu.UA pu.un pu.uc, .int .i64 (Ca.eH h kids).label, .int .i64 (Ca.eH h kids).pos, .slice pu.A pu.n pu.c] := hdep ⟨11, .data⟩ (by simp) rfl _ 117 rfl rfl
            refine .inl ⟨Rg.want_at rfl rfl rfl hF.sz (by decide) zg, Rg.rel_call 118 rfl (CAU.out w' hbw) (fun e u hg => ?_) ?_⟩
            · obtain ⟨G', m', c', rfl, hr, hb⟩ := hg
              rw [HUA.out] at hr
              obtain rfl : m' = 0 := hr.1
              exact ⟨_, rfl, ⟨G', c', rfl⟩, hb⟩
            · clear hF hdep hi13
              obtain ⟨hcst, hfn⟩ := Rg.evc a'
              generalize a'.eval = ev at *
              go_simp
              try (first | rfl | exact ⟨rfl, rfl⟩ | exact ⟨rfl, rfl, rfl⟩)
          · obtain rfl := Rg.SI ho
            have zg : a'.eval (.tmp 116) = .bool false := hdep ⟨10, .guard⟩ (by simp) rfl _ 116 rfl rfl
            have z118 := hdep ⟨12, .data⟩ (by simp) rfl _ 118 rfl rfl
            obtain ⟨G', c', z118⟩ := z118
            refine .inl ⟨Rg.want_at rfl rfl rfl hF.sz (by decide) zg, Rg.rel_val 119 rfl (v := .int .i64 0) rfl ?_⟩
            clear hF hbw hdep hi13
            obtain ⟨hcst, hfn⟩ := Rg.evc a'
            generalize a'.eval = ev at *
            go_simp
          · obtain rfl := Rg.SI ho
            have zg : a'.eval (.tmp 116) = .bool false := hdep ⟨10, .guard⟩ (by simp) rfl _ 116 rfl rfl
            have z119 : a'.eval (.tmp 119) = .int .i64 0 := hdep ⟨13, .data⟩ (by simp) rfl _ 119 rfl rfl
            refine .inl ⟨Rg.want_at rfl rfl rfl hF.sz (by decide) zg, Rg.rel_val 120 rfl (v := .bool false) rfl ?_⟩
            clear hF hbw hdep hi13
            obtain ⟨hcst, hfn⟩ := Rg.evc a'
            generalize a'.eval = ev at *
            go_simp
          · obtain rfl := Rg.SI ho
            have z116 : a'.eval (.tmp 116) = .bool false := hdep ⟨10, .data⟩ (by simp) rfl _ 116 rfl rfl
            have z120 : a'.eval (.tmp 120) = .bool false := hdep ⟨14, .data⟩ (by simp) rfl _ 120 rfl rfl
            refine .inl ⟨Rg.want_none rfl, Rg.rel_val 121 rfl (v := .bool false) rfl ?_⟩
            clear hF hbw hdep hi13
            obtain ⟨hcst, hfn⟩ := Rg.evc a'
            generalize a'.eval = ev at *
            go_simp
          · obtain rfl := Rg.SI ho
            have z121 : a'.eval (.tmp 121) = .bool false := hdep ⟨15, .data⟩ (by simp) rfl _ 121 rfl rfl
            refine .inl ⟨Rg.want_none rfl, Rg.rel_val 122 rfl (v := .bool false) rfl ?_⟩
            clear hF hbw hdep hi13
            obtain ⟨hcst, hfn⟩ := Rg.evc a'
            generalize a'.eval = ev at *
            go_simp
          · obtain rfl := Rg.SI ho
            have zg : a'.eval (.tmp 122) = .bool false := hdep ⟨16, .guard⟩ (by simp) rfl _ 122 rfl rfl
            have z10 : a'.eval (.tmp 10) = .pointer (some ⟨X10, 0, none⟩) := hF.fx 10 _ (by simp)
            obtain ⟨q0, q1, q2, q3, q4, q5, q6, q7, q8, q9, q10, ql⟩ := own11 (heap_below hbw (heap_lt HU.out) HU.out)
            refine .inl ⟨Rg.want_at rfl rfl rfl hF.sz (by decide) zg, Rg.rel_val 123 rfl (v := .agg #[.int .i8 (Ca.eH h kids).kind, .string (Ca.eH h kids).name, .string (Ca.eH h kids).arg, .int .i64 (Ca.eH h kids).num, .int .i8 (Ca.eH h kids).tk, .slice pu.TA pu.tn pu.tc, .int .i8 (Ca.eH h kids).uk, .slice pu.UA pu.un pu.uc, .int .i64 (Ca.eH h kids).label, .int .i64 (Ca.eH h kids).pos, .slice pu.A pu.n pu.c]) rfl ?_⟩
            clear hF hbw hdep hi13
            obtain ⟨hcst, hfn⟩ := Rg.evc a'
            generalize a'.eval = ev at *
            go_simp
          · obtain rfl := Rg.SI ho
            have zg : a'.eval (.tmp 122) = .bool false := hdep ⟨16, .guard⟩ (by simp) rfl _ 122 rfl rfl
            have z123 : a'.eval (.tmp 123) = .agg #[.int .i8 (Ca.eH h kids).kind, .string (Ca.eH h kids).name, .string (Ca.eH h kids).arg, .int .i64 (Ca.eH h kids).num, .int .i8 (Ca.eH h kids).tk, .slice pu.TA pu.tn pu.tc, .int .i8 (Ca.eH h kids).uk, .slice pu.UA pu.un pu.uc, .int .i64 (Ca.eH h kids).label, .int .i64 (Ca.eH h kids).pos, .slice pu.A pu.n pu.c] := hdep ⟨17, .data⟩ (by simp) rfl _ 123 rfl rfl
            refine .inl ⟨Rg.want_at rfl rfl rfl hF.sz (by decide) zg, Rg.rel_call 124 rfl (CEU.out w' hbw) (fun e u hg => ?_) ?_⟩
            · obtain ⟨p2, rfl, hs, hb⟩ := hg
              rw [HUE.out.1, HUE.out.2] at hs
              exact ⟨_, rfl, ⟨p2, by rw [HUE.out.1], hs.is fun _ _ _ _ _ q => q⟩, hb⟩
            · clear hF hdep hi13
              obtain ⟨hcst, hfn⟩ := Rg.evc a'
              generalize a'.eval = ev at *
              go_simp
              try (first | rfl | exact ⟨rfl, rfl⟩ | exact ⟨rfl, rfl, rfl⟩)
          · obtain rfl := Rg.SI ho
            have zg : a'.eval (.tmp 122) = .bool false := hdep ⟨16, .guard⟩ (by simp) rfl _ 122 rfl rfl
            have z10 : a'.eval (.tmp 10) = .pointer (some ⟨X10, 0, none⟩) := hF.fx 10 _ (by simp)
            obtain ⟨q0, q1, q2, q3, q4, q5, q6, q7, q8, q9, q10, ql⟩ := own11 (heap_below hbw (heap_lt HU.out) HU.out)
            refine .inl ⟨Rg.want_at rfl rfl rfl hF.sz (by decide) zg, Rg.rel_val 125 rfl (v := .agg #[.int .i8 (Ca.eH h kids).kind, .string (Ca.eH h kids).name, .string (Ca.eH h kids).arg, .int .i64 (Ca.eH h kids).num, .int .i8 (Ca.eH h kids).tk, .slice pu.TA pu.tn pu.tc, .int .i8 (Ca.eH h kids).uk, .slice pu.UA pu.un pu.uc, .int .i64 (Ca.eH h kids).label, .int .i64 (Ca.eH h kids).pos, .slice pu.A pu.n pu.c]) rfl ?_⟩
            clear hF hbw hdep hi13
            obtain ⟨hcst, hfn⟩ := Rg.evc a'
            generalize a'.eval = ev at *
            go_simp
          · obtain rfl := Rg.SI ho
            have zg : a'.eval (.tmp 122) = .bool false := hdep ⟨16, .guard⟩ (by simp) rfl _ 122 rfl rfl
            have z124 := hdep ⟨18, .data⟩ (by simp) rfl _ 124 rfl rfl
            have z125 : a'.eval (.tmp 125) = .agg #[.int .i8 (Ca.eH h kids).kind, .string (Ca.eH h kids).name, .string (Ca.eH h kids).arg, .int .i64 (Ca.eH h kids).num, .int .i8 (Ca.eH h kids).tk, .slice pu.TA pu.tn pu.tc, .int .i8 (Ca.eH h kids).uk, .slice pu.UA pu.un pu.uc, .int .i64 (Ca.eH h kids).label, .int .i64 (Ca.eH h kids).pos, .slice pu.A pu.n pu.c] := hdep ⟨19, .data⟩ (by simp) rfl _ 125 rfl rfl
            obtain ⟨p2, z124, hi2⟩ := z124
            refine .inl ⟨Rg.want_at rfl rfl rfl hF.sz (by decide) zg, Rg.rel_call 126 rfl (liket_any (Tm.nodes (Ca.eK h kids) + 1) (Ca.eH h kids) (Ca.eK h kids) p2 pu w' (Nat.lt_succ_self _) hi2 (HUI.out.below hbw)) (fun e u hg => ?_) ?_⟩
            · obtain ⟨rfl, hb⟩ := hg
              exact ⟨_, rfl, rfl, hb⟩
            · clear hF hdep hi13
              obtain ⟨hcst, hfn⟩ := Rg.evc a'
              generalize a'.eval = ev at *
              go_simp
              try (first | rfl | exact ⟨rfl, rfl⟩ | exact ⟨rfl, rfl, rfl⟩)
          · obtain rfl := Rg.SI ho
            have zg : a'.eval (.tmp 122) = .bool false := hdep ⟨16, .guard⟩ (by simp) rfl _ 122 rfl rfl
            have z126 : a'.eval (.tmp 126) = .bool true := hdep ⟨20, .data⟩ (by simp) rfl _ 126 rfl rfl
            refine .inl ⟨Rg.want_at rfl rfl rfl hF.sz (by decide) zg, Rg.rel_val 127 rfl (v := .bool false) rfl ?_⟩
            clear hF hbw hdep hi13
            obtain ⟨hcst, hfn⟩ := Rg.evc a'
            generalize a'.eval = ev at *
            go_simp
          · obtain rfl := Rg.SI ho
            have z122 : a'.eval (.tmp 122) = .bool false := hdep ⟨16, .data⟩ (by simp) rfl _ 122 rfl rfl
            have z127 : a'.eval (.tmp 127) = .bool false := hdep ⟨21, .data⟩ (by simp) rfl _ 127 rfl rfl
            refine .inl ⟨Rg.want_none rfl, Rg.rel_val 128 rfl (v := .bool false) rfl ?_⟩
            clear hF hbw hdep hi13
            obtain ⟨hcst, hfn⟩ := Rg.evc a'
            generalize a'.eval = ev at *
            go_simp
        · intro u w' t ht hb hG
          have h4 : u 128 = .bool false := hG 22 _ 128 rfl rfl
          have E9 := Lib.hid (E8.out.trans (hb.mono E8.out.size))
          have L9 := Lib.hid hb
          have H9 := Lib.hid (heap_below hb (heap_lt H8.out) H8.out)
          have HU9 := Lib.hid (heap_below hb (heap_lt HU.out) HU.out)
          clear hG hb
          simp only [over, List.setIfInBounds_toArray, List.set_cons_succ, List.set_cons_zero, h4] at ht
          subst ht
          clear h4
          go_upto_region 20 with fail
          have hnd1 : Tm.nod h kids = Tm.nd h kids := by have := HND.out; unfold Tm.nod; omega
          have hkd := HKND.out
          have hnd2 : Tm.nod (Ca.eH h kids) (Ca.eK h kids) = Tm.nd (Ca.eH h kids) (Ca.eK h kids) := by have := HND.out; unfold Tm.nod; omega
          obtain ⟨N1, hN1⟩ : ∃ x : Int, x = (Tm.nd h kids : Nat) := ⟨_, rfl⟩
          obtain ⟨N2, hN2⟩ : ∃ x : Int, x = (Tm.nd (Ca.eH h kids) (Ca.eK h kids) : Nat) := ⟨_, rfl⟩
          obtain ⟨W1, hW1⟩ : ∃ x : Int, x = (Ca.wt dn : Nat) := ⟨_, rfl⟩
          obtain ⟨K1, hK1⟩ : ∃ x : Int, x = (Ca.htL (Ca.pre (.node h kids .nil)) : Nat) := ⟨_, rfl⟩
          obtain ⟨K2, hK2⟩ : ∃ x : Int, x = (Ca.htL (Ca.pre (.node (Ca.eH h kids) (Ca.eK h kids) .nil)) : Nat) := ⟨_, rfl⟩
          have hsub : N1 - N2 = W1 := by rw [hN1, hN2, hW1]; exact hkd
          have hb1 : 0 ≤ N1 ∧ N1 ≤ 8192 := by have := HND.out; omega
          have hb2 : 0 ≤ N2 ∧ N2 ≤ 8192 := by omega
          have hle : K2 ≤ K1 := by have := HKH.out; omega
          have CNt := Lib.hid (fun (U : World) (hb : Below w'.heap.size w' U) => show Calls Tryz.prog 16 #[.agg #[.int .i8 h.kind, .string h.name, .string h.arg, .int .i64 h.num, .int .i8 h.tk, .slice p.TA p.tn p.tc, .int .i8 h.uk, .slice p.UA p.un p.uc, .int .i64 h.label, .int .i64 h.pos, .slice p.A p.n p.c]] U (fun e w' => e = .returned (.int .i64 N1) ∧ Below U.heap.size U w') from by have q := CN.out U (E9.out.trans (hb.mono E9.out.size)); rw [hnd1, ← hN1] at q; exact q)
          have CNv := Lib.hid (fun (U : World) (hb : Below w'.heap.size w' U) => show Calls Tryz.prog 16 #[.agg #[.int .i8 (Ca.eH h kids).kind, .string (Ca.eH h kids).name, .string (Ca.eH h kids).arg, .int .i64 (Ca.eH h kids).num, .int .i8 (Ca.eH h kids).tk, .slice pu.TA pu.tn pu.tc, .int .i8 (Ca.eH h kids).uk, .slice pu.UA pu.un pu.uc, .int .i64 (Ca.eH h kids).label, .int .i64 (Ca.eH h kids).pos, .slice pu.A pu.n pu.c]] U (fun e w' => e = .returned (.int .i64 N2) ∧ Below U.heap.size U w') from by have q := CNU.out U (L9.out.trans (hb.mono L9.out.size)); rw [hnd2, ← hN2] at q; exact q)
          have CHt := Lib.hid (fun (U : World) (hb : Below w'.heap.size w' U) => show Calls Tryz.prog 25 #[.agg #[.int .i8 h.kind, .string h.name, .string h.arg, .int .i64 h.num, .int .i8 h.tk, .slice p.TA p.tn p.tc, .int .i8 h.uk, .slice p.UA p.un p.uc, .int .i64 h.label, .int .i64 h.pos, .slice p.A p.n p.c]] U (fun e w' => e = .returned (.int .i64 K1) ∧ Below U.heap.size U w') from by have q := CH.out U (E9.out.trans (hb.mono E9.out.size)); rw [← hK1] at q; exact q)
          have CHv := Lib.hid (fun (U : World) (hb : Below w'.heap.size w' U) => show Calls Tryz.prog 25 #[.agg #[.int .i8 (Ca.eH h kids).kind, .string (Ca.eH h kids).name, .string (Ca.eH h kids).arg, .int .i64 (Ca.eH h kids).num, .int .i8 (Ca.eH h kids).tk, .slice pu.TA pu.tn pu.tc, .int .i8 (Ca.eH h kids).uk, .slice pu.UA pu.un pu.uc, .int .i64 (Ca.eH h kids).label, .int .i64 (Ca.eH h kids).pos, .slice pu.A pu.n pu.c]] U (fun e w' => e = .returned (.int .i64 K2) ∧ Below U.heap.size U w') from by have q := CHU.out U (L9.out.trans (hb.mono L9.out.size)); rw [← hK2] at q; exact q)
          have CWv := Lib.hid (fun (U : World) (hb : Below w'.heap.size w' U) => CWK.out U (E9.out.trans (hb.mono E9.out.size)))
          rw [← hW1]
          clear hnd1 hnd2 hkd hN1 hN2 hW1 hK1 hK2
          obtain ⟨q0, q1, q2, q3, q4, q5, q6, q7, q8, q9, q10, ql⟩ := own11 H9.out
          have Lq0 := later_cell q0
          have Lq1 := later_cell q1
          have Lq2 := later_cell q2
          have Lq3 := later_cell q3
          have Lq4 := later_cell q4
          have Lq5 := later_cell q5
          have Lq6 := later_cell q6
          have Lq7 := later_cell q7
          have Lq8 := later_cell q8
          have Lq9 := later_cell q9
          have Lq10 := later_cell q10
          clear q0 q1 q2 q3 q4 q5 q6 q7 q8 q9 q10 ql
          obtain ⟨y0, y1, y2, y3, y4, y5, y6, y7, y8, y9, y10, yl⟩ := own11 HU9.out
          have Ly0 := later_cell y0
          have Ly1 := later_cell y1
          have Ly2 := later_cell y2
          have Ly3 := later_cell y3
          have Ly4 := later_cell y4
          have Ly5 := later_cell y5
          have Ly6 := later_cell y6
          have Ly7 := later_cell y7
          have Ly8 := later_cell y8
          have Ly9 := later_cell y9
          have Ly10 := later_cell y10
          clear y0 y1 y2 y3 y4 y5 y6 y7 y8 y9 y10 yl
          refine wp_region_low (by kernel_rfl) (by kernel_rfl) ?_
          repeat
            first
              | go_big_quiet_skip
              | (go_big_quiet_want
                 go_big_quiet_op
                 first
                   | go_big_quiet_on
                   | (refine ⟨_, fun _ => rfl, ?_⟩
                      go_big_quiet_on)
                   | (apply Exists.intro
                      refine ⟨fun h => ?_, ?_⟩
                      · first
                          | (go_at_call 16; with_reducible exact call_low h (CNt.out h.u h.low))
                          | (go_at_call 16; with_reducible exact call_low h (CNv.out h.u h.low))
                          | (go_at_call 25; with_reducible exact call_low h (CHv.out h.u h.low))
                          | (go_at_call 25; with_reducible exact call_low h (CHt.out h.u h.low))
                          | (go_at_call 33; with_reducible exact call_low h (CWv.out h.u h.low))
                      go_big_quiet_on))
          refine wpQuiet_nil ?_
          rintro wz ⟨⟨_, Ez⟩, rfl⟩
          have HBF := Lib.hid (HB1.out.trans ((E9.out.trans (Ez.mono E9.out.size)).mono HB1.out.size))
          clear Ez
          go_wp2_with fail
          go_ret
          exact ⟨rfl, HBF.out⟩
    | cons x r =>
      have hnth : (Lc.map Ca.cz)[i]? = some (Ca.cz x) := by rw [← hLd, List.map_append, List.map_cons, ← hdl, List.getElem?_append_right (by simp)]; simp
      obtain ⟨g, T, tn, tc, U, un, uc, hGe, iT, iU, c0, c1, c2, c3, c4⟩ := (HRL.out.below hB).nth hnth
      dsimp only [Ca.cz] at iT iU c0 c1 c2 c3 c4
      have hk17 := HLC.out x (by rw [← hLd]; simp)
      have htyN : Tm.tyN x = Ty.nod x.tkids + Ty.nod x.ukids := by unfold Tm.tyN; rw [hk17]; rfl
      have hwb : Ca.wt dn + 1 + (Ty.nod x.tkids + Ty.nod x.ukids) ≤ 8192 := by
        have h1 := HWL.out
        rw [← hLd, Ca.wt_append] at h1
        simp only [Ca.wt] at h1
        omega
      have j1 : (i : Int) < m := by have h1 := HML.out; rw [← hLd, List.length_append, List.length_cons] at h1; omega
      have C1 := Lib.hid (fun (W : World) (hb : Below wr.heap.size wr W) => nodes_any x.tk x.tkids T tn tc W (iT.below hb))
      have C2 := Lib.hid (fun (W : World) (hb : Below wr.heap.size wr W) => nodes_any x.uk x.ukids U un uc W (iU.below hb))
      have HNX := Lib.hid (fun (v1 v2 : Value) (wz : World) (hb : Below wr.heap.size wr wz) (h1 : v1 = .int .i64 (Ca.wt (dn ++ [x]) : Nat)) (h2 : v2 = .bool (Ca.there n (dn ++ [x]))) => (⟨i + 1, dn ++ [x], r, rfl, h1, h2, by rw [List.append_assoc]; exact hLd, by rw [List.length_append, hdl]; rfl, hB.trans (hb.mono hB.size)⟩ : ∃ (i' : Nat) (dn' rs' : List Hd), Value.int .i64 ((i + 1 : Nat) : Int) = .int .i64 i' ∧ v1 = .int .i64 (Ca.wt dn' : Nat) ∧ v2 = .bool (Ca.there n dn') ∧ dn' ++ rs' = Lc ∧ dn'.length = i' ∧ Below w7.heap.size w7 wz))
      rw [Ca.wt_snoc, htyN, Ca.there_snoc] at HNX
      have HC4 := Lib.hid c4
      have HGE := Lib.hid hGe
      have L0 := later_cell c0
      have L1 := later_cell c1
      have L2 := later_cell c2
      have L3 := later_cell c3
      obtain ⟨a1, ha1⟩ : ∃ a : Int, a = (Ty.nod x.tkids : Nat) := ⟨_, rfl⟩
      obtain ⟨a2, ha2⟩ : ∃ a : Int, a = (Ty.nod x.ukids : Nat) := ⟨_, rfl⟩
      obtain ⟨a0, ha0⟩ : ∃ a : Int, a = (Ca.wt dn : Nat) := ⟨_, rfl⟩
      rw [← ha1] at C1
      rw [← ha2] at C2
      have hs1 : 0 ≤ a0 ∧ 0 ≤ a1 ∧ 0 ≤ a2 ∧ a0 + 1 + (a1 + a2) ≤ 8192 := by omega
      have HSUM := Lib.hid (show a0 + 1 + a1 + a2 = ((Ca.wt dn + 1 + (Ty.nod x.tkids + Ty.nod x.ukids) : Nat) : Int) by omega)
      obtain ⟨b0, hb0⟩ : ∃ b, b = Ca.there n dn := ⟨_, rfl⟩
      rw [← hb0] at HNX ⊢
      rw [← ha0]
      clear hnth iT iU c0 c1 c2 c3 c4 hk17 htyN hwb ha1 ha2 ha0 hb0 hLd hdl hB hGe
      rw [HGE.out]
      go_upto_region 16 with fail
      refine wp_region_low (by kernel_rfl) (by kernel_rfl) ?_
      repeat
        first
          | go_big_quiet_skip
          | (go_big_quiet_want
             go_big_quiet_op
             first
               | go_big_quiet_on
               | (refine ⟨_, fun _ => rfl, ?_⟩
                  go_big_quiet_on)
               | (apply Exists.intro
                  refine ⟨fun h => ?_, ?_⟩
                  · first
                      | (go_at_call 34; with_reducible exact call_low h (C1.out h.u h.low))
                      | (go_at_call 34; with_reducible exact call_low h (C2.out h.u h.low))
                  go_big_quiet_on))
      refine wpQuiet_nil ?_
      rintro wz ⟨⟨wy, Ez⟩, rfl⟩
      have EZ := Lib.hid Ez
      have lc4 : wz.cell? ⟨g, i * 5 + 4, none⟩ = some (.int .i64 x.label) := by rw [Ez.cell (p := ⟨g, _, none⟩) (Ty.cell_lt HC4.out)]; exact HC4.out
      clear L0 L1 L2 L3 Ez
      cases b0
      · by_cases e1 : x.label = n
        · have hl1 : (x.label == n) = true := by simp [e1]
          go_wp2_with fail
          go_roundw
          case rel => exact HNX.out _ _ _ EZ.out (by rw [← HSUM.out]) (by simp [hl1])
          case measure => simp [intOf]; omega
        · have hl1 : (x.label == n) = false := by simp [e1]
          by_cases e2 : x.label = -n
          · have hl2 : (x.label == -n) = true := by simp [e2]
            go_wp2_with fail
            go_roundw
            case rel => exact HNX.out _ _ _ EZ.out (by rw [← HSUM.out]) (by simp [hl2])
            case measure => simp [intOf]; omega
          · have hl2 : (x.label == -n) = false := by simp [e2]
            go_wp2_with fail
            go_roundw
            case rel => exact HNX.out _ _ _ EZ.out (by rw [← HSUM.out]) (by simp [hl1, hl2])
            case measure => simp [intOf]; omega
      · go_wp2_with fail
        go_roundw
        case rel => exact HNX.out _ _ _ EZ.out (by rw [← HSUM.out]) (by simp)
        case measure => simp [intOf]; omega
end Go.Proofs.YtfkbdpehdabepaaGreatDoor
