/-
  P13.3: a cast over what the kernel takes. The law's walk. P13.1: some cast terms, told by hand. The law's walk.
-/
import Derived.Test.YteefhebdfeaojaaGreatDoorKn2
import Derived.Test.YteefhebdfeaojaaGreatDoorM22
namespace Go.Proofs.YteefhebdfeaojaaGreatDoor
open Go.RowKit
namespace Kn
theorem num_ne {E : Int} : num E ≠ 0 := by
  unfold num
  split
  · rename_i h; rcases h with h | h | h <;> omega
  · decide
/-- a cast, whose term a block holds -/
theorem one_is {w : World} {X : Nat} {h : Hd} {k : Tm} {p : Pl} {ty : TypeId} {a b : Ck.T2} {lab : Int} {G G' : Option Addr} {m c m' c' : Nat} (hX : w.heap[X]? = some (.cells #[.int .i8 h.kind, .string h.name, .string h.arg, .int .i64 h.num, .int .i8 h.tk, .slice p.TA p.tn p.tc, .int .i8 h.uk, .slice p.UA p.un p.uc, .int .i64 h.label, .int .i64 h.pos, .slice p.A p.n p.c] ty (0, 0))) (hI : Tm.Is w h k p) (hA : Ty.Is w a.1 a.2 G m c) (hB : Ty.Is w b.1 b.2 G' m' c') (hl : -9223372036854775808 ≤ lab ∧ lab ≤ 9223372036854775807) :
    Tm.Is w (castH a b lab) (.node h k .nil) ⟨G, m, c, G', m', c', some ⟨X, 0, none⟩, 1, 1⟩ := by
  refine ⟨⟨hA, hB, rfl, Nat.le_refl _, (show (1 : Nat) ≤ maxLen by decide), (show (-128 : Int) ≤ 17 by decide), (show (17 : Int) ≤ 127 by decide), hl.1, hl.2, (show (0 : Nat) ≤ 281474976710656 by decide), (show (0 : Nat) ≤ 281474976710656 by decide)⟩, ?_⟩
  refine ⟨X, 0, p, rfl, fun j v hj => ?_, hI.fit, hI.lies, trivial⟩
  have hlt : j < 11 := by
    rcases Nat.lt_or_ge j 11 with q | q
    · exact q
    · rw [List.getElem?_eq_none (by simpa using q)] at hj; cases hj
  refine cell_of_heap hX (0 + 0 * 11 + j) ?_
  rcases (by omega : j = 0 ∨ j = 1 ∨ j = 2 ∨ j = 3 ∨ j = 4 ∨ j = 5 ∨ j = 6 ∨ j = 7 ∨ j = 8 ∨ j = 9 ∨ j = 10) with rfl | rfl | rfl | rfl | rfl | rfl | rfl | rfl | rfl | rfl | rfl <;> exact hj
end Kn
set_option maxHeartbeats 4000000 in
set_option maxRecDepth 100000 in
theorem law_KernelCast (h : Hd) (kids : Tm) (p : Pl) (k' : Int) (kids' : Fo) (A' : Option Addr) (n' c' : Nat) (lab : Int) (w : World) (hI : Tm.Is w h kids p) (hT : Ty.Is w k' kids' A' n' c') (hl : -9223372036854775808 ≤ lab ∧ lab ≤ 9223372036854775807) (hG : TGlob w) :
    Calls Tryz.prog 4 #[.agg #[.int .i8 h.kind, .string h.name, .string h.arg, .int .i64 h.num, .int .i8 h.tk, .slice p.TA p.tn p.tc, .int .i8 h.uk, .slice p.UA p.un p.uc, .int .i64 h.label, .int .i64 h.pos, .slice p.A p.n p.c], .agg #[.int .i8 k', .slice A' n' c'], .int .i64 lab] w fun e w' => e = .returned (.bool true) ∧ Below w.heap.size w w' := by
  have hb0 := below_n2 w (.cells #[.int .i8 h.kind, .string h.name, .string h.arg, .int .i64 h.num, .int .i8 h.tk, .slice p.TA p.tn p.tc, .int .i8 h.uk, .slice p.UA p.un p.uc, .int .i64 h.label, .int .i64 h.pos, .slice p.A p.n p.c] 28) (.cells #[.int .i8 k', .slice A' n' c'] 25)
  obtain ⟨x0, x1⟩ := heap_n2 w (.cells #[.int .i8 h.kind, .string h.name, .string h.arg, .int .i64 h.num, .int .i8 h.tk, .slice p.TA p.tn p.tc, .int .i8 h.uk, .slice p.UA p.un p.uc, .int .i64 h.label, .int .i64 h.pos, .slice p.A p.n p.c] 28) (.cells #[.int .i8 k', .slice A' n' c'] 25)
  generalize hw1 : (w.alloc (.cells #[.int .i8 h.kind, .string h.name, .string h.arg, .int .i64 h.num, .int .i8 h.tk, .slice p.TA p.tn p.tc, .int .i8 h.uk, .slice p.UA p.un p.uc, .int .i64 h.label, .int .i64 h.pos, .slice p.A p.n p.c] 28)).alloc (.cells #[.int .i8 k', .slice A' n' c'] 25) = w1 at *
  have HW1 := Lib.hid hw1
  have HB0 := Lib.hid hb0
  have X0 := Lib.hid x0
  have X1 := Lib.hid x1
  have HI := Lib.hid (hI.below hb0)
  have HT := Lib.hid (hT.below hb0)
  have HG := Lib.hid (hG.below hb0)
  have HLB := Lib.hid hl
  have CT := Lib.hid (kType_any h kids p w1 HI.out HG.out)
  clear hb0 x0 x1 hI hT hG hl hw1
  cases ht : Kn.tell h kids with
  | bad E pp x =>
    rw [ht] at CT
    clear ht
    have CK := Lib.hid (fun (W : World) => kind9_any 1 0 .nil none 0 0 0 .nil none 0 0 W (by decide) (Ty.zero_is _) (Ty.zero_is _))
    have hne : (Kn.num E != 0) = true := by simpa using Kn.num_ne
    rw [show Ty.eqT 0 .nil 0 .nil = true from rfl] at CK
    go_enter Tryz.func4, Tryz.ntmps4
    go_upto_region 1 with fail
    rw [HW1.out]
    obtain ⟨q0, q1, q2, q3, q4, q5, q6, q7, q8, q9, q10, ql⟩ := own11 X0.out
    go_wp2_with fail
    refine CT.out.mono ?_
    rintro e w2 ⟨rfl, hb2⟩
    have hb3 := below_n1 w2 (.cells #[.int .i8 0, .slice none 0 0] 25)
    have HX2 := Lib.hid (heap_new w2 (.cells #[.int .i8 0, .slice none 0 0] 25))
    have HB2 := Lib.hid (HB0.out.trans ((hb2.trans (hb3.mono hb2.size)).mono HB0.out.size))
    clear hb2 hb3 q0 q1 q2 q3 q4 q5 q6 q7 q8 q9 q10 ql
    go_upto_region 2 with fail
    generalize hw3 : w2.alloc (.cells #[.int .i8 0, .slice none 0 0] 25) = w3 at *
    clear hw3
    obtain ⟨u0, u1, -, -, ul⟩ := own2 HX2.out
    go_wp2_with fail
    refine (CK.out _).mono ?_
    rintro e w4 ⟨rfl, hb4⟩
    have HB4 := Lib.hid (HB2.out.trans (hb4.mono HB2.out.size))
    clear hb4
    go_wp2_with fail
    go_ret
    exact ⟨rfl, HB4.out⟩
  | ok a =>
    rw [ht] at CT
    have hcast := Kn.tell_cast (k', kids') lab ht
    clear ht
    go_enter Tryz.func4, Tryz.ntmps4
    go_upto_region 1 with fail
    rw [HW1.out]
    obtain ⟨q0, q1, q2, q3, q4, q5, q6, q7, q8, q9, q10, ql⟩ := own11 X0.out
    go_wp2_with fail
    refine CT.out.mono ?_
    rintro e w2 ⟨G, m, cg, rfl, hl, hb2⟩
    have hb3 := below_n1 w2 (.cells #[.int .i8 a.1, .slice G m cg] 25)
    have HX2 := Lib.hid (heap_new w2 (.cells #[.int .i8 a.1, .slice G m cg] 25))
    have hb23 := hb2.trans (hb3.mono hb2.size)
    have HA := Lib.hid ((hl.is).below hb3)
    have HB2 := Lib.hid hb23
    clear hl hb2 hb3 hb23 q0 q1 q2 q3 q4 q5 q6 q7 q8 q9 q10 ql CT
    go_upto_region 2 with fail
    generalize hw3 : w2.alloc (.cells #[.int .i8 a.1, .slice G m cg] 25) = w3 at *
    clear hw3
    generalize w2.heap.size = S2 at *
    obtain ⟨q0, q1, q2, q3, q4, q5, q6, q7, q8, q9, q10, ql⟩ := own11 (heap_below HB2.out (heap_lt X0.out) X0.out)
    obtain ⟨v0, v1, -, -, vl⟩ := own2 (heap_below HB2.out (heap_lt X1.out) X1.out)
    obtain ⟨u0, u1, -, -, ul⟩ := own2 HX2.out
    have hb4 := below_n1 w3 (.cells #[.int .i8 h.kind, .string h.name, .string h.arg, .int .i64 h.num, .int .i8 h.tk, .slice p.TA p.tn p.tc, .int .i8 h.uk, .slice p.UA p.un p.uc, .int .i64 h.label, .int .i64 h.pos, .slice p.A p.n p.c] 28)
    have hn4 := heap_new w3 (.cells #[.int .i8 h.kind, .string h.name, .string h.arg, .int .i64 h.num, .int .i8 h.tk, .slice p.TA p.tn p.tc, .int .i8 h.uk, .slice p.UA p.un p.uc, .int .i64 h.label, .int .i64 h.pos, .slice p.A p.n p.c] 28)
    have hb5 := below_n1 (w3.alloc (.cells #[.int .i8 h.kind, .string h.name, .string h.arg, .int .i64 h.num, .int .i8 h.tk, .slice p.TA p.tn p.tc, .int .i8 h.uk, .slice p.UA p.un p.uc, .int .i64 h.label, .int .i64 h.pos, .slice p.A p.n p.c] 28)) (.cells #[.int .i8 17, .string ⟨#[]⟩, .string ⟨#[]⟩, .int .i64 0, .int .i8 a.1, .slice G m cg, .int .i8 k', .slice A' n' c', .int .i64 lab, .int .i64 0, .slice (some ⟨w3.heap.size, 0, none⟩) 1 1] 28)
    have hn5 := heap_new2 w3 (.cells #[.int .i8 h.kind, .string h.name, .string h.arg, .int .i64 h.num, .int .i8 h.tk, .slice p.TA p.tn p.tc, .int .i8 h.uk, .slice p.UA p.un p.uc, .int .i64 h.label, .int .i64 h.pos, .slice p.A p.n p.c] 28) (.cells #[.int .i8 17, .string ⟨#[]⟩, .string ⟨#[]⟩, .int .i64 0, .int .i8 a.1, .slice G m cg, .int .i8 k', .slice A' n' c', .int .i64 lab, .int .i64 0, .slice (some ⟨w3.heap.size, 0, none⟩) 1 1] 28)
    have hb45 := hb4.trans (hb5.mono hb4.size)
    have hIS := Kn.one_is (lab := lab) (a := a) (b := (k', kids')) (heap_below hb5 (heap_lt hn4) hn4) ((HI.out.below HB2.out).below hb45) (HA.out.below hb45) ((HT.out.below HB2.out).below hb45) HLB.out
    have HIS := Lib.hid hIS
    have HC5 := Lib.hid hn5
    have HX5 := Lib.hid (heap_below hb45 (heap_lt HX2.out) HX2.out)
    have HB5 := Lib.hid (HB2.out.trans (hb45.mono HB2.out.size))
    have HA5 := Lib.hid (HA.out.below hb45)
    clear hIS hb4 hn4 hb5 hn5 hb45
    go_upto_region 5 with fail
    generalize hw5 : (w3.alloc (.cells #[.int .i8 h.kind, .string h.name, .string h.arg, .int .i64 h.num, .int .i8 h.tk, .slice p.TA p.tn p.tc, .int .i8 h.uk, .slice p.UA p.un p.uc, .int .i64 h.label, .int .i64 h.pos, .slice p.A p.n p.c] 28)).alloc (.cells #[.int .i8 17, .string ⟨#[]⟩, .string ⟨#[]⟩, .int .i64 0, .int .i8 a.1, .slice G m cg, .int .i8 k', .slice A' n' c', .int .i64 lab, .int .i64 0, .slice (some ⟨w3.heap.size, 0, none⟩) 1 1] 28) = w5 at *
    clear hw5
    generalize w3.heap.size = S4 at *
    clear q0 q1 q2 q3 q4 q5 q6 q7 q8 q9 q10 ql v0 v1 vl u0 u1 ul
    have CT : Hid (Calls Tryz.prog 6 #[.agg #[.int .i8 17, .string ⟨#[]⟩, .string ⟨#[]⟩, .int .i64 0, .int .i8 a.1, .slice G m cg, .int .i8 k', .slice A' n' c', .int .i64 lab, .int .i64 0, .slice (some ⟨S4, 0, none⟩) 1 1]] w5 (Kn.TyPost w5 (Kn.tell (Kn.castH a (k', kids') lab) (.node h kids .nil)))) := Lib.hid (kType_any (Kn.castH a (k', kids') lab) (.node h kids .nil) (⟨G, m, cg, A', n', c', some ⟨S4, 0, none⟩, 1, 1⟩ : Pl) w5 HIS.out (HG.out.below HB5.out))
    have CC : Hid (∀ (W : World) (_ : Below w5.heap.size w5 W), Calls Tryz.prog 8 #[.agg #[.int .i8 17, .string ⟨#[]⟩, .string ⟨#[]⟩, .int .i64 0, .int .i8 a.1, .slice G m cg, .int .i8 k', .slice A' n' c', .int .i64 lab, .int .i64 0, .slice (some ⟨S4, 0, none⟩) 1 1]] W fun e w' => e = .returned (.int .i64 (Tm.chk (Kn.castH a (k', kids') lab) (.node h kids .nil))) ∧ Below W.heap.size W w') := Lib.hid (fun (W : World) (hb : Below w5.heap.size w5 W) => tcheck_any (Kn.castH a (k', kids') lab) (.node h kids .nil) (⟨G, m, cg, A', n', c', some ⟨S4, 0, none⟩, 1, 1⟩ : Pl) W (HIS.out.below hb) ((HG.out.below HB5.out).below hb))
    have CA := Lib.hid (fun (W : World) (hb : Below w5.heap.size w5 W) => agree_any a.1 a.2 G m cg k' kids' A' n' c' W (HA5.out.below hb) ((HT.out.below HB5.out).below hb) ((HG.out.below HB5.out).below hb).types)
    obtain ⟨q0, q1, q2, q3, q4, q5, q6, q7, q8, q9, q10, ql⟩ := own11 HC5.out
    rcases hcast with ⟨h0, ht⟩ | ⟨h0, hag, ht⟩ | ⟨h0, hag, hcb, ht⟩
    · rw [ht] at CT
      have hnum := Kn.chk_num h0
      generalize hC : Tm.chk (Kn.castH a (k', kids') lab) (.node h kids .nil) = C at *
      have hne : (((C : Nat) : Int) != 0) = true := by simpa using h0
      clear ht hC h0
      go_wp2_with fail
      refine CT.out.mono ?_
      rintro e w6 ⟨rfl, hb6⟩
      rw [hnum]
      have hb7 := below_n1 w6 (.cells #[.int .i8 0, .slice none 0 0] 25)
      have HB7 := Lib.hid (hb6.trans (hb7.mono hb6.size))
      clear hb6 hb7 q0 q1 q2 q3 q4 q5 q6 q7 q8 q9 q10 ql
      go_upto_region 6 with fail
      generalize hw7 : w6.alloc (.cells #[.int .i8 0, .slice none 0 0] 25) = w7 at *
      clear hw7
      obtain ⟨q0, q1, q2, q3, q4, q5, q6, q7, q8, q9, q10, ql⟩ := own11 (heap_below HB7.out (heap_lt HC5.out) HC5.out)
      go_wp2_with fail
      refine (CC.out _ HB7.out).mono ?_
      rintro e w8 ⟨rfl, hb8⟩
      have HB8 := Lib.hid (HB0.out.trans ((HB5.out.trans ((HB7.out.trans (hb8.mono HB7.out.size)).mono HB5.out.size)).mono HB0.out.size))
      clear hb8
      go_wp2_with fail
      go_ret
      exact ⟨by simp, HB8.out⟩
    · rw [ht] at CT
      rw [h0] at CC
      rw [hag] at CA
      clear ht h0 hag
      go_wp2_with fail
      refine CT.out.mono ?_
      rintro e w6 ⟨rfl, hb6⟩
      rw [show Kn.num 91 = 130 from rfl]
      have hb7 := below_n1 w6 (.cells #[.int .i8 0, .slice none 0 0] 25)
      have HB7 := Lib.hid (hb6.trans (hb7.mono hb6.size))
      clear hb6 hb7 q0 q1 q2 q3 q4 q5 q6 q7 q8 q9 q10 ql
      go_upto_region 6 with fail
      generalize hw7 : w6.alloc (.cells #[.int .i8 0, .slice none 0 0] 25) = w7 at *
      clear hw7
      obtain ⟨q0, q1, q2, q3, q4, q5, q6, q7, q8, q9, q10, ql⟩ := own11 (heap_below HB7.out (heap_lt HC5.out) HC5.out)
      go_wp2_with fail
      refine (CC.out _ HB7.out).mono ?_
      rintro e w8 ⟨rfl, hb8⟩
      have HB8 := Lib.hid (HB7.out.trans (hb8.mono HB7.out.size))
      clear hb8 q0 q1 q2 q3 q4 q5 q6 q7 q8 q9 q10 ql
      obtain ⟨u0, u1, -, -, ul⟩ := own2 (heap_below HB8.out (heap_lt HX5.out) HX5.out)
      obtain ⟨v0, v1, -, -, vl⟩ := own2 (heap_below (HB5.out.trans (HB8.out.mono HB5.out.size)) (heap_lt X1.out) X1.out)
      go_wp2_with fail
      refine (CA.out _ HB8.out).mono ?_
      rintro e w9 ⟨rfl, hb9⟩
      have HB9 := Lib.hid (HB0.out.trans ((HB5.out.trans ((HB8.out.trans (hb9.mono HB8.out.size)).mono HB5.out.size)).mono HB0.out.size))
      clear hb9
      go_wp2_with fail
      go_ret
      exact ⟨rfl, HB9.out⟩
    · rw [ht] at CT
      rw [h0] at CC
      rw [hag] at CA
      clear ht h0 hag
      go_wp2_with fail
      refine CT.out.mono ?_
      rintro e w6 ⟨G6, m6, c6, rfl, hl6, hb6⟩
      have hb7 := below_n1 w6 (.cells #[.int .i8 k', .slice G6 m6 c6] 25)
      have HX7 := Lib.hid (heap_new w6 (.cells #[.int .i8 k', .slice G6 m6 c6] 25))
      have HL7 := Lib.hid (Ty.Is.below (Ck.Ly.is (a := (k', kids')) hl6) hb7)
      have HB7 := Lib.hid (hb6.trans (hb7.mono hb6.size))
      clear hl6 hb6 hb7 q0 q1 q2 q3 q4 q5 q6 q7 q8 q9 q10 ql
      go_upto_region 6 with fail
      generalize hw7 : w6.alloc (.cells #[.int .i8 k', .slice G6 m6 c6] 25) = w7 at *
      clear hw7
      generalize w6.heap.size = S6 at *
      have CS := Lib.hid (fun (W : World) (hb : Below w7.heap.size w7 W) => same_any k' kids' G6 m6 c6 k' kids' A' n' c' W (HL7.out.below hb) ((HT.out.below (HB5.out.trans (HB7.out.mono HB5.out.size))).below hb) ((HG.out.below (HB5.out.trans (HB7.out.mono HB5.out.size))).below hb).types)
      rw [show Ty.sameT k' kids' k' kids' = true from Kn.same_self k' kids' hcb] at CS
      clear hcb
      obtain ⟨q0, q1, q2, q3, q4, q5, q6, q7, q8, q9, q10, ql⟩ := own11 (heap_below HB7.out (heap_lt HC5.out) HC5.out)
      go_wp2_with fail
      refine (CC.out _ HB7.out).mono ?_
      rintro e w8 ⟨rfl, hb8⟩
      have HB8 := Lib.hid hb8
      have HB78 := Lib.hid (HB7.out.trans (hb8.mono HB7.out.size))
      clear hb8 q0 q1 q2 q3 q4 q5 q6 q7 q8 q9 q10 ql
      obtain ⟨u0, u1, -, -, ul⟩ := own2 (heap_below HB78.out (heap_lt HX5.out) HX5.out)
      obtain ⟨v0, v1, -, -, vl⟩ := own2 (heap_below (HB5.out.trans (HB78.out.mono HB5.out.size)) (heap_lt X1.out) X1.out)
      go_wp2_with fail
      refine (CA.out _ HB78.out).mono ?_
      rintro e w9 ⟨rfl, hb9⟩
      have HB9 := Lib.hid (HB8.out.trans (hb9.mono HB8.out.size))
      have HB79 := Lib.hid (HB78.out.trans (hb9.mono HB78.out.size))
      clear hb9 u0 u1 ul v0 v1 vl
      obtain ⟨u0, u1, -, -, ul⟩ := own2 (heap_below HB9.out (heap_lt HX7.out) HX7.out)
      obtain ⟨v0, v1, -, -, vl⟩ := own2 (heap_below (HB5.out.trans (HB79.out.mono HB5.out.size)) (heap_lt X1.out) X1.out)
      go_wp2_with fail
      refine (CS.out _ HB9.out).mono ?_
      rintro e wa ⟨rfl, hba⟩
      have HBA := Lib.hid (HB0.out.trans ((HB5.out.trans ((HB79.out.trans (hba.mono HB79.out.size)).mono HB5.out.size)).mono HB0.out.size))
      clear hba
      go_wp2_with fail
      go_ret
      exact ⟨rfl, HBA.out⟩
end Go.Proofs.YteefhebdfeaojaaGreatDoor
namespace Go.Proofs.YteefhebdfeaojaaGreatDoor
open Go.RowKit
namespace Kn
def h3 : Hd := ⟨1, Ck.e0, Ck.e0, 3, 0, .nil, 0, .nil, 0, 0⟩
def h16 : Hd := ⟨16, Ck.e0, Ck.e0, 0, 0, .nil, 0, .nil, 0, 0⟩
def pl0 : Pl := ⟨none, 0, 0, none, 0, 0, none, 0, 0⟩
theorem three_is (w : World) : Tm.Is w h3 .nil pl0 := by
  have hz : Ty.Is w 0 .nil none 0 0 := Ty.zero_is w
  exact ⟨⟨hz, hz, rfl, Nat.le_refl _, Nat.zero_le _, (show (-128 : Int) ≤ 1 by decide), (show (1 : Int) ≤ 127 by decide), (show (-9223372036854775808 : Int) ≤ 0 by decide), (show (0 : Int) ≤ 9223372036854775807 by decide), (show (0 : Nat) ≤ 281474976710656 by decide), (show (0 : Nat) ≤ 281474976710656 by decide)⟩, trivial⟩
theorem leaf_is' (k : Int) (hk : -128 ≤ k ∧ k ≤ 127) (w : World) : Ty.Is w k .nil none 0 0 := ⟨trivial, rfl, Nat.le_refl _, Nat.zero_le _, hk.1, hk.2⟩
theorem cast3_is {w : World} {X : Nat} (f t lab : Int) (hf : -128 ≤ f ∧ f ≤ 127) (ht : -128 ≤ t ∧ t ≤ 127) (hl : -9223372036854775808 ≤ lab ∧ lab ≤ 9223372036854775807) (hX : w.heap[X]? = some (.cells #[.int .i8 1, .string ⟨#[]⟩, .string ⟨#[]⟩, .int .i64 3, .int .i8 0, .slice none 0 0, .int .i8 0, .slice none 0 0, .int .i64 0, .int .i64 0, .slice none 0 0] 28 (0, 0))) : Tm.Is w (castH (f, .nil) (t, .nil) lab) (.node h3 .nil .nil) ⟨none, 0, 0, none, 0, 0, some ⟨X, 0, none⟩, 1, 1⟩ :=
  one_is (h := h3) (k := .nil) (p := pl0) (a := (f, .nil)) (b := (t, .nil)) hX (three_is w) (leaf_is' f hf w) (leaf_is' t ht w) hl
theorem is3_is {w : World} {X : Nat} (hX : w.heap[X]? = some (.cells #[.int .i8 1, .string ⟨#[]⟩, .string ⟨#[]⟩, .int .i64 3, .int .i8 0, .slice none 0 0, .int .i8 0, .slice none 0 0, .int .i64 0, .int .i64 0, .slice none 0 0] 28 (0, 0))) : Tm.Is w h16 (.node h3 .nil .nil) ⟨none, 0, 0, none, 0, 0, some ⟨X, 0, none⟩, 1, 1⟩ := by
  have q := cast3_is (w := w) 0 0 0 (by decide) (by decide) (by decide) hX
  exact ⟨⟨q.fit.ty, q.fit.to, q.fit.n_eq, q.fit.n_le, q.fit.c_le, (show (-128 : Int) ≤ 16 by decide), (show (16 : Int) ≤ 127 by decide), q.fit.llo, q.fit.lhi, q.fit.nm, q.fit.ar⟩, q.lies⟩
end Kn
set_option maxHeartbeats 4000000 in
set_option maxRecDepth 100000 in
theorem kkcast_any (f t lab : Int) (w : World) : Calls Tryz.prog 5 #[.int .i8 f, .int .i8 t, .int .i64 lab, .agg #[.int .i8 1, .string ⟨#[]⟩, .string ⟨#[]⟩, .int .i64 3, .int .i8 0, .slice none 0 0, .int .i8 0, .slice none 0 0, .int .i64 0, .int .i64 0, .slice none 0 0]] w fun e w' => ∃ X, e = .returned (.agg #[.int .i8 17, .string ⟨#[]⟩, .string ⟨#[]⟩, .int .i64 0, .int .i8 f, .slice none 0 0, .int .i8 t, .slice none 0 0, .int .i64 lab, .int .i64 0, .slice (some ⟨X, 0, none⟩) 1 1]) ∧ w'.heap[X]? = some (.cells #[.int .i8 1, .string ⟨#[]⟩, .string ⟨#[]⟩, .int .i64 3, .int .i8 0, .slice none 0 0, .int .i8 0, .slice none 0 0, .int .i64 0, .int .i64 0, .slice none 0 0] 28 (0, 0)) ∧ Below w.heap.size w w' := by
  have hb3 := below_n3 w (.cells #[.int .i8 1, .string ⟨#[]⟩, .string ⟨#[]⟩, .int .i64 3, .int .i8 0, .slice none 0 0, .int .i8 0, .slice none 0 0, .int .i64 0, .int .i64 0, .slice none 0 0] 28) (.cells #[.int .i8 17, .string ⟨#[]⟩, .string ⟨#[]⟩, .int .i64 0, .int .i8 f, .slice none 0 0, .int .i8 t, .slice none 0 0, .int .i64 lab, .int .i64 0, .slice (some ⟨w.heap.size + 2, 0, none⟩) 1 1] 28) (.cells #[.int .i8 1, .string ⟨#[]⟩, .string ⟨#[]⟩, .int .i64 3, .int .i8 0, .slice none 0 0, .int .i8 0, .slice none 0 0, .int .i64 0, .int .i64 0, .slice none 0 0] 28)
  obtain ⟨-, h1, h2⟩ := heap_n3 w (.cells #[.int .i8 1, .string ⟨#[]⟩, .string ⟨#[]⟩, .int .i64 3, .int .i8 0, .slice none 0 0, .int .i8 0, .slice none 0 0, .int .i64 0, .int .i64 0, .slice none 0 0] 28) (.cells #[.int .i8 17, .string ⟨#[]⟩, .string ⟨#[]⟩, .int .i64 0, .int .i8 f, .slice none 0 0, .int .i8 t, .slice none 0 0, .int .i64 lab, .int .i64 0, .slice (some ⟨w.heap.size + 2, 0, none⟩) 1 1] 28) (.cells #[.int .i8 1, .string ⟨#[]⟩, .string ⟨#[]⟩, .int .i64 3, .int .i8 0, .slice none 0 0, .int .i8 0, .slice none 0 0, .int .i64 0, .int .i64 0, .slice none 0 0] 28)
  have HB := Lib.hid hb3
  have HX := Lib.hid h2
  clear hb3 h1 h2
  go_enter Tryz.func5, Tryz.ntmps5
  go_wp2_with fail
  refine bodyPost_ret (v := .agg #[.int .i8 17, .string ⟨#[]⟩, .string ⟨#[]⟩, .int .i64 0, .int .i8 f, .slice none 0 0, .int .i8 t, .slice none 0 0, .int .i64 lab, .int .i64 0, .slice (some ⟨w.heap.size + 1 + 1, 0, none⟩) 1 1]) (by simp [results, Tryz.results5, go_sem, *]) rfl ⟨w.heap.size + 1 + 1, rfl, HX.out, HB.out⟩

set_option maxHeartbeats 4000000 in
set_option maxRecDepth 100000 in
theorem law_KernelKnown (w : World) (hG : TGlob w) : Calls Tryz.prog 3 #[] w fun e w' => e = .returned (.bool true) ∧ Below w.heap.size w w' := by
  have CC := Lib.hid (fun (f t lab : Int) (W : World) => kkcast_any f t lab W)
  have hcf : ∀ (args : Array Value) (W : World), (callFunc 5 args).run Tryz.prog W = .ok (.enter 5 args) W := fun args W => by simp [go_sem]
  have hb0 := below_n1 w (.cells #[.int .i8 1, .string ⟨#[]⟩, .string ⟨#[]⟩, .int .i64 3, .int .i8 0, .slice none 0 0, .int .i8 0, .slice none 0 0, .int .i64 0, .int .i64 0, .slice none 0 0] 28)
  have H3 := Lib.hid (heap_new w (.cells #[.int .i8 1, .string ⟨#[]⟩, .string ⟨#[]⟩, .int .i64 3, .int .i8 0, .slice none 0 0, .int .i8 0, .slice none 0 0, .int .i64 0, .int .i64 0, .slice none 0 0] 28))
  have HB := Lib.hid hb0
  clear hb0
  go_enter Tryz.func3, Tryz.ntmps3
  go_upto_region 3 with fail
  generalize hW : w.alloc (.cells #[.int .i8 1, .string ⟨#[]⟩, .string ⟨#[]⟩, .int .i64 3, .int .i8 0, .slice none 0 0, .int .i8 0, .slice none 0 0, .int .i64 0, .int .i64 0, .slice none 0 0] 28) = W0 at *
  clear hW
  obtain ⟨q0, q1, q2, q3, q4, q5, q6, q7, q8, q9, q10, ql⟩ := own11 H3.out
  go_wp2_with fail
  refine (CC.out 1 0 1 _).mono ?_
  rintro e wa ⟨X, rfl, hX, hb⟩
  have HBA := Lib.hid (HB.out.trans (hb.mono HB.out.size))
  have H3A := Lib.hid (heap_below hb (heap_lt H3.out) H3.out)
  have CT : Hid (Calls Tryz.prog 6 #[.agg #[.int .i8 17, .string ⟨#[]⟩, .string ⟨#[]⟩, .int .i64 0, .int .i8 1, .slice none 0 0, .int .i8 0, .slice none 0 0, .int .i64 1, .int .i64 0, .slice (some ⟨X, 0, none⟩) 1 1]] wa (Kn.TyPost wa (Ck.R.ok (0, .nil)))) := Lib.hid (by
    have q := kType_any (Kn.castH (1, .nil) (0, .nil) 1) (.node Kn.h3 .nil .nil) (⟨none, 0, 0, none, 0, 0, some ⟨X, 0, none⟩, 1, 1⟩ : Pl) wa (Kn.cast3_is 1 0 1 (by decide) (by decide) (by decide) hX) (hG.below HBA.out)
    rw [show Kn.tell (Kn.castH (1, .nil) (0, .nil) 1) (.node Kn.h3 .nil .nil) = Ck.R.ok (0, .nil) from by kernel_rfl] at q
    exact q)
  clear hX hb HB H3
  go_wp2_with fail
  refine CT.out.mono ?_
  rintro e wb ⟨G, m, cg, rfl, -, hb⟩
  have hbb := below_n1 wb (.cells #[.int .i8 0, .slice G m cg] 25)
  have HT := Lib.hid (heap_new wb (.cells #[.int .i8 0, .slice G m cg] 25))
  have hb2 := hb.trans (hbb.mono hb.size)
  have HB := Lib.hid (HBA.out.trans (hb2.mono HBA.out.size))
  have H3 := Lib.hid (heap_below hb2 (heap_lt H3A.out) H3A.out)
  clear hbb hb2 hb CT HBA H3A
  go_upto_region 4 with fail
  generalize hW : wb.alloc (.cells #[.int .i8 0, .slice G m cg] 25) = W0 at *
  clear hW
  generalize wb.heap.size = S1 at *
  (try clear q0 q1 q2 q3 q4 q5 q6 q7 q8 q9 q10 ql)
  obtain ⟨q0, q1, q2, q3, q4, q5, q6, q7, q8, q9, q10, ql⟩ := own11 H3.out
  go_wp2_with fail
  refine (CC.out 1 2 1 _).mono ?_
  rintro e wa ⟨X, rfl, hX, hb⟩
  have HBA := Lib.hid (HB.out.trans (hb.mono HB.out.size))
  have H3A := Lib.hid (heap_below hb (heap_lt H3.out) H3.out)
  have HT := Lib.hid (heap_below hb (heap_lt HT.out) HT.out)
  have CT : Hid (Calls Tryz.prog 6 #[.agg #[.int .i8 17, .string ⟨#[]⟩, .string ⟨#[]⟩, .int .i64 0, .int .i8 1, .slice none 0 0, .int .i8 2, .slice none 0 0, .int .i64 1, .int .i64 0, .slice (some ⟨X, 0, none⟩) 1 1]] wa (Kn.TyPost wa (Ck.R.bad 91 0 Ck.e0))) := Lib.hid (by
    have q := kType_any (Kn.castH (1, .nil) (2, .nil) 1) (.node Kn.h3 .nil .nil) (⟨none, 0, 0, none, 0, 0, some ⟨X, 0, none⟩, 1, 1⟩ : Pl) wa (Kn.cast3_is 1 2 1 (by decide) (by decide) (by decide) hX) (hG.below HBA.out)
    rw [show Kn.tell (Kn.castH (1, .nil) (2, .nil) 1) (.node Kn.h3 .nil .nil) = Ck.R.bad 91 0 Ck.e0 from by kernel_rfl] at q
    exact q)
  clear hX hb HB H3
  go_wp2_with fail
  refine CT.out.mono ?_
  rintro e wb ⟨rfl, hb⟩
  rw [show Kn.num 91 = 130 from rfl]
  have hbb := below_n1 wb (.cells #[.int .i8 0, .slice none 0 0] 25)
  have hb2 := hb.trans (hbb.mono hb.size)
  have HB := Lib.hid (HBA.out.trans (hb2.mono HBA.out.size))
  have H3 := Lib.hid (heap_below hb2 (heap_lt H3A.out) H3A.out)
  have HT := Lib.hid (heap_below hb2 (heap_lt HT.out) HT.out)
  clear hbb hb2 hb CT HBA H3A
  go_upto_region 5 with fail
  generalize hW : wb.alloc (.cells #[.int .i8 0, .slice none 0 0] 25) = W0 at *
  clear hW
  (try clear q0 q1 q2 q3 q4 q5 q6 q7 q8 q9 q10 ql)
  obtain ⟨q0, q1, q2, q3, q4, q5, q6, q7, q8, q9, q10, ql⟩ := own11 H3.out
  go_wp2_with fail
  refine (CC.out 2 0 1 _).mono ?_
  rintro e wa ⟨X, rfl, hX, hb⟩
  have HBA := Lib.hid (HB.out.trans (hb.mono HB.out.size))
  have H3A := Lib.hid (heap_below hb (heap_lt H3.out) H3.out)
  have HT := Lib.hid (heap_below hb (heap_lt HT.out) HT.out)
  have CT : Hid (Calls Tryz.prog 6 #[.agg #[.int .i8 17, .string ⟨#[]⟩, .string ⟨#[]⟩, .int .i64 0, .int .i8 2, .slice none 0 0, .int .i8 0, .slice none 0 0, .int .i64 1, .int .i64 0, .slice (some ⟨X, 0, none⟩) 1 1]] wa (Kn.TyPost wa (Ck.R.bad 91 0 Ck.e0))) := Lib.hid (by
    have q := kType_any (Kn.castH (2, .nil) (0, .nil) 1) (.node Kn.h3 .nil .nil) (⟨none, 0, 0, none, 0, 0, some ⟨X, 0, none⟩, 1, 1⟩ : Pl) wa (Kn.cast3_is 2 0 1 (by decide) (by decide) (by decide) hX) (hG.below HBA.out)
    rw [show Kn.tell (Kn.castH (2, .nil) (0, .nil) 1) (.node Kn.h3 .nil .nil) = Ck.R.bad 91 0 Ck.e0 from by kernel_rfl] at q
    exact q)
  clear hX hb HB H3
  go_wp2_with fail
  refine CT.out.mono ?_
  rintro e wb ⟨rfl, hb⟩
  rw [show Kn.num 91 = 130 from rfl]
  have hbb := below_n1 wb (.cells #[.int .i8 0, .slice none 0 0] 25)
  have hb2 := hb.trans (hbb.mono hb.size)
  have HB := Lib.hid (HBA.out.trans (hb2.mono HBA.out.size))
  have H3 := Lib.hid (heap_below hb2 (heap_lt H3A.out) H3A.out)
  have HT := Lib.hid (heap_below hb2 (heap_lt HT.out) HT.out)
  clear hbb hb2 hb CT HBA H3A
  go_upto_region 6 with fail
  generalize hW : wb.alloc (.cells #[.int .i8 0, .slice none 0 0] 25) = W0 at *
  clear hW
  (try clear q0 q1 q2 q3 q4 q5 q6 q7 q8 q9 q10 ql)
  obtain ⟨q0, q1, q2, q3, q4, q5, q6, q7, q8, q9, q10, ql⟩ := own11 H3.out
  go_wp2_with fail
  refine (CC.out 1 0 0 _).mono ?_
  rintro e wa ⟨X, rfl, hX, hb⟩
  have HBA := Lib.hid (HB.out.trans (hb.mono HB.out.size))
  have H3A := Lib.hid (heap_below hb (heap_lt H3.out) H3.out)
  have HT := Lib.hid (heap_below hb (heap_lt HT.out) HT.out)
  have CT : Hid (Calls Tryz.prog 6 #[.agg #[.int .i8 17, .string ⟨#[]⟩, .string ⟨#[]⟩, .int .i64 0, .int .i8 1, .slice none 0 0, .int .i8 0, .slice none 0 0, .int .i64 0, .int .i64 0, .slice (some ⟨X, 0, none⟩) 1 1]] wa (Kn.TyPost wa (Ck.R.bad 30 0 Ck.e0))) := Lib.hid (by
    have q := kType_any (Kn.castH (1, .nil) (0, .nil) 0) (.node Kn.h3 .nil .nil) (⟨none, 0, 0, none, 0, 0, some ⟨X, 0, none⟩, 1, 1⟩ : Pl) wa (Kn.cast3_is 1 0 0 (by decide) (by decide) (by decide) hX) (hG.below HBA.out)
    rw [show Kn.tell (Kn.castH (1, .nil) (0, .nil) 0) (.node Kn.h3 .nil .nil) = Ck.R.bad 30 0 Ck.e0 from by kernel_rfl] at q
    exact q)
  clear hX hb HB H3
  go_wp2_with fail
  refine CT.out.mono ?_
  rintro e wb ⟨rfl, hb⟩
  rw [show Kn.num 30 = 30 from rfl]
  have hbb := below_n1 wb (.cells #[.int .i8 0, .slice none 0 0] 25)
  have hb2 := hb.trans (hbb.mono hb.size)
  have HB := Lib.hid (HBA.out.trans (hb2.mono HBA.out.size))
  have H3 := Lib.hid (heap_below hb2 (heap_lt H3A.out) H3A.out)
  have HT := Lib.hid (heap_below hb2 (heap_lt HT.out) HT.out)
  clear hbb hb2 hb CT HBA H3A
  go_upto_region 7 with fail
  generalize hW : wb.alloc (.cells #[.int .i8 0, .slice none 0 0] 25) = W0 at *
  clear hW
  (try clear q0 q1 q2 q3 q4 q5 q6 q7 q8 q9 q10 ql)
  obtain ⟨q0, q1, q2, q3, q4, q5, q6, q7, q8, q9, q10, ql⟩ := own11 H3.out
  have hb := below_n1 W0 (.cells #[.int .i8 1, .string ⟨#[]⟩, .string ⟨#[]⟩, .int .i64 3, .int .i8 0, .slice none 0 0, .int .i8 0, .slice none 0 0, .int .i64 0, .int .i64 0, .slice none 0 0] 28)
  have hX := heap_new W0 (.cells #[.int .i8 1, .string ⟨#[]⟩, .string ⟨#[]⟩, .int .i64 3, .int .i8 0, .slice none 0 0, .int .i8 0, .slice none 0 0, .int .i64 0, .int .i64 0, .slice none 0 0] 28)
  have HBA := Lib.hid (HB.out.trans (hb.mono HB.out.size))
  have HT := Lib.hid (heap_below hb (heap_lt HT.out) HT.out)
  have CT : Hid (Calls Tryz.prog 6 #[.agg #[.int .i8 16, .string ⟨#[]⟩, .string ⟨#[]⟩, .int .i64 0, .int .i8 0, .slice none 0 0, .int .i8 0, .slice none 0 0, .int .i64 0, .int .i64 0, .slice (some ⟨W0.heap.size, 0, none⟩) 1 1]] (W0.alloc (.cells #[.int .i8 1, .string ⟨#[]⟩, .string ⟨#[]⟩, .int .i64 3, .int .i8 0, .slice none 0 0, .int .i8 0, .slice none 0 0, .int .i64 0, .int .i64 0, .slice none 0 0] 28)) (Kn.TyPost (W0.alloc (.cells #[.int .i8 1, .string ⟨#[]⟩, .string ⟨#[]⟩, .int .i64 3, .int .i8 0, .slice none 0 0, .int .i8 0, .slice none 0 0, .int .i64 0, .int .i64 0, .slice none 0 0] 28)) (Ck.R.bad 30 0 Ck.e0))) := Lib.hid (by
    have q := kType_any Kn.h16 (.node Kn.h3 .nil .nil) (⟨none, 0, 0, none, 0, 0, some ⟨W0.heap.size, 0, none⟩, 1, 1⟩ : Pl) (W0.alloc (.cells #[.int .i8 1, .string ⟨#[]⟩, .string ⟨#[]⟩, .int .i64 3, .int .i8 0, .slice none 0 0, .int .i8 0, .slice none 0 0, .int .i64 0, .int .i64 0, .slice none 0 0] 28)) (Kn.is3_is hX) (hG.below HBA.out)
    rw [show Kn.tell Kn.h16 (.node Kn.h3 .nil .nil) = Ck.R.bad 30 0 Ck.e0 from by kernel_rfl] at q
    exact q)
  clear hX hb HB H3
  go_wp2_with fail
  refine CT.out.mono ?_
  rintro e wb ⟨rfl, hb⟩
  rw [show Kn.num 30 = 30 from rfl]
  have hbb := below_n1 wb (.cells #[.int .i8 0, .slice none 0 0] 25)
  have hb2 := hb.trans (hbb.mono hb.size)
  have HB := Lib.hid (HBA.out.trans (hb2.mono HBA.out.size))
  have HT := Lib.hid (heap_below hb2 (heap_lt HT.out) HT.out)
  clear hbb hb2 hb CT HBA
  go_upto_region 8 with fail
  generalize hW : wb.alloc (.cells #[.int .i8 0, .slice none 0 0] 25) = W0 at *
  clear hW
  obtain ⟨t0, t1, -, -, tl⟩ := own2 HT.out
  go_wp2_with fail
  go_ret
  exact ⟨rfl, HB.out⟩
end Go.Proofs.YteefhebdfeaojaaGreatDoor
