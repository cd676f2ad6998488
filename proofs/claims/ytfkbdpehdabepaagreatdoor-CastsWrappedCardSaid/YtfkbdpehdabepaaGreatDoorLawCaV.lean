/-
  Layer 14: a term in a cast, beside itself.
-/
import Derived.Test.YtfkbdpehdabepaaGreatDoorM18
import Derived.Test.YtfkbdpehdabepaaGreatDoorCaW
namespace Go.Proofs.YtfkbdpehdabepaaGreatDoor
open Go.RowKit
namespace Ca
theorem eqT_self (k : Int) (f : Fo) : Ty.eqT k f k f = true := by unfold Ty.eqT; simp [Ty.eqF_refl]
theorem htL_le {h : Hd} {kids : Tm} (hc : Tm.chk h kids = 0) : htL (pre (.node h kids .nil)) ≤ 100000 := by
  have key : ∀ l : List Hd, (∀ x ∈ l, Ty.nodes (Tm.tys x) ≤ 100000) → htL l ≤ 100000 := by
    intro l
    induction l with
    | nil => intro _; exact Nat.zero_le _
    | cons x l ih =>
      intro hh
      have h1 := dep_le _ (hh x (by simp))
      have h2 := ih fun y hy => hh y (by simp [hy])
      simp only [htL]; omega
  exact key _ (tys_of_chk hc)
theorem lies1 {w : World} {g i : Nat} {h : Hd} {kids r : Tm} {p : Pl} (hI : Tm.Is w h kids p) (hc : ∀ j v, (h.cells p)[j]? = some v → w.cell? ⟨g, i * 11 + j, none⟩ = some v) (hr : Tm.Lies w r (some ⟨g, 0, none⟩) (i + 1)) : Tm.Lies w (.node h kids r) (some ⟨g, 0, none⟩) i :=
  ⟨g, 0, p, rfl, fun j v hv => by rw [Nat.zero_add]; exact hc j v hv, hI.fit, hI.lies, hr⟩
theorem cells_at {w : World} {b : Nat} {l : List Value} {t : TypeId} (e : w.heap[b]? = some (.cells l.toArray t (0, 0))) : ∀ j v, l[j]? = some v → w.cell? ⟨b, j, none⟩ = some v := fun j v hv => by
  have := cells_of_heap e j v (by simpa using hv)
  rwa [show (⟨b, 0, none⟩ : Addr).add j = ⟨b, j, none⟩ by unfold Addr.add; by_cases h : j = 0 <;> simp [h]] at this
theorem lam_is {w : World} {k1 : Int} {f1 : Fo} {k2 : Int} {f2 : Fo} {N b : Nat} (hN : Ty.Is w 4 (Ty.two k1 f1 k2 f2) (some ⟨N, 0, none⟩) 2 2) (hb : w.heap[b]? = some (.cells #[.int .i8 2, .string ⟨#[]⟩, .string ⟨#[]⟩, .int .i64 0, .int .i8 0, .slice none 0 0, .int .i8 0, .slice none 0 0, .int .i64 0, .int .i64 0, .slice none 0 0] 28 (0, 0))) : Tm.Is w (Ca.cvL k1 f1 k2 f2) (.node Ca.cvY .nil .nil) ⟨some ⟨N, 0, none⟩, 2, 2, none, 0, 0, some ⟨b, 0, none⟩, 1, 1⟩ := by
  have hm : (1 : Nat) ≤ maxLen := by decide
  refine ⟨⟨hN, ty_nil w (by show (-128 : Int) ≤ 0; decide) (by show (0 : Int) ≤ 127; decide), rfl, Nat.le_refl _, hm, by show (-128 : Int) ≤ 4; decide, by show (4 : Int) ≤ 127; decide, by show (-9223372036854775808 : Int) ≤ 0; decide, by show (0 : Int) ≤ 9223372036854775807; decide, by show (1 : Nat) ≤ 281474976710656; decide, by show (0 : Nat) ≤ 281474976710656; decide⟩, ?_⟩
  refine lies1 (p := ⟨none, 0, 0, none, 0, 0, none, 0, 0⟩) ⟨⟨ty_nil w (by decide) (by decide), ty_nil w (by decide) (by decide), rfl, Nat.le_refl _, Nat.zero_le _, by decide, by decide, by decide, by decide, by decide, by decide⟩, trivial⟩ (fun j v hv => ?_) trivial
  rw [Nat.zero_mul, Nat.zero_add]
  exact cells_at (l := [.int .i8 2, .string ⟨#[]⟩, .string ⟨#[]⟩, .int .i64 0, .int .i8 0, .slice none 0 0, .int .i8 0, .slice none 0 0, .int .i64 0, .int .i64 0, .slice none 0 0]) hb j v hv
end Ca
set_option maxHeartbeats 8000000 in
set_option maxRecDepth 100000 in
theorem law_CastsWrapped (h : Hd) (kids : Tm) (p : Pl) (k1 : Int) (f1 : Fo) (A1 : Option Addr) (n1 c1 : Nat) (k2 : Int) (f2 : Fo) (A2 : Option Addr) (n2 c2 : Nat) (n : Int) (w : World) (hIs : Tm.Is w h kids p) (hI1 : Ty.Is w k1 f1 A1 n1 c1) (hI2 : Ty.Is w k2 f2 A2 n2 c2) (hn : -9223372036854775808 ≤ n ∧ n ≤ 9223372036854775807) (hG : TGlob w) :
    Calls Tryz.prog 8 #[.agg #[.int .i8 h.kind, .string h.name, .string h.arg, .int .i64 h.num, .int .i8 h.tk, .slice p.TA p.tn p.tc, .int .i8 h.uk, .slice p.UA p.un p.uc, .int .i64 h.label, .int .i64 h.pos, .slice p.A p.n p.c], .agg #[.int .i8 k1, .slice A1 n1 c1], .agg #[.int .i8 k2, .slice A2 n2 c2], .int .i64 n] w fun e w' => e = .returned (.bool true) ∧ Below w.heap.size w w' := by
  have hB1 := below_n3 w (.cells #[.int .i8 h.kind, .string h.name, .string h.arg, .int .i64 h.num, .int .i8 h.tk, .slice p.TA p.tn p.tc, .int .i8 h.uk, .slice p.UA p.un p.uc, .int .i64 h.label, .int .i64 h.pos, .slice p.A p.n p.c] 28) (.cells #[.int .i8 k1, .slice A1 n1 c1] 25) (.cells #[.int .i8 k2, .slice A2 n2 c2] 25)
  obtain ⟨h0, h1, h2⟩ := heap_n3 w (.cells #[.int .i8 h.kind, .string h.name, .string h.arg, .int .i64 h.num, .int .i8 h.tk, .slice p.TA p.tn p.tc, .int .i8 h.uk, .slice p.UA p.un p.uc, .int .i64 h.label, .int .i64 h.pos, .slice p.A p.n p.c] 28) (.cells #[.int .i8 k1, .slice A1 n1 c1] 25) (.cells #[.int .i8 k2, .slice A2 n2 c2] 25)
  obtain ⟨w1, hw1⟩ : ∃ w1, w1 = ((w.alloc (.cells #[.int .i8 h.kind, .string h.name, .string h.arg, .int .i64 h.num, .int .i8 h.tk, .slice p.TA p.tn p.tc, .int .i8 h.uk, .slice p.UA p.un p.uc, .int .i64 h.label, .int .i64 h.pos, .slice p.A p.n p.c] 28)).alloc (.cells #[.int .i8 k1, .slice A1 n1 c1] 25)).alloc (.cells #[.int .i8 k2, .slice A2 n2 c2] 25) := ⟨_, rfl⟩
  rw [← hw1] at hB1 h0 h1 h2
  have HW := Lib.hid hw1
  have HB1 := Lib.hid hB1
  have H0 := Lib.hid h0
  have H1 := Lib.hid h1
  have H2 := Lib.hid h2
  have CWK := Lib.hid (fun (U : World) (hb : Below w1.heap.size w1 U) => wakes14_any U (hG.below (hB1.trans (hb.mono hB1.size))))
  have CK := Lib.hid (tcheck_any h kids p w1 (hIs.below hB1) (hG.below hB1))
  have HIS := Lib.hid (fun (U : World) (hb : Below w1.heap.size w1 U) => hIs.below (hB1.trans (hb.mono hB1.size)))
  have HI1 := Lib.hid (fun (U : World) (hb : Below w1.heap.size w1 U) => hI1.below (hB1.trans (hb.mono hB1.size)))
  have HI2 := Lib.hid (fun (U : World) (hb : Below w1.heap.size w1 U) => hI2.below (hB1.trans (hb.mono hB1.size)))
  have HGG := Lib.hid (fun (U : World) (hb : Below w1.heap.size w1 U) => hG.below (hB1.trans (hb.mono hB1.size)))
  obtain ⟨q0, q1, q2, q3, q4, q5, q6, q7, q8, q9, q10, ql⟩ := own11 H0.out
  clear hw1 hB1 h0 h1 h2 hIs hI1 hI2 hG
  go_enter Tryz.func8, Tryz.ntmps8
  go_upto_region 1 with fail
  rw [← HW.out]
  clear HW
  by_cases hc : ¬ Tm.chk h kids = 0
  · have hcne : (((Tm.chk h kids : Nat) : Int) != 0) = true := by simp; omega
    generalize ((Tm.chk h kids : Nat) : Int) = x0 at *
    clear hc
    go_wp2_with fail
    refine CK.out.mono ?_
    rintro e w2 ⟨rfl, hb⟩
    have E2 := Lib.hid hb
    clear hb
    go_wp2_with fail
    refine (CWK.out w2 E2.out).mono ?_
    rintro e w3 ⟨rfl, hb⟩
    have HBF := Lib.hid (HB1.out.trans ((E2.out.trans (hb.mono E2.out.size)).mono HB1.out.size))
    clear hb
    go_wp2_with fail
    go_ret
    exact ⟨rfl, HBF.out⟩
  have hc := Classical.not_not.mp hc
  have hcne : (((Tm.chk h kids : Nat) : Int) != 0) = false := by rw [hc]; rfl
  generalize ((Tm.chk h kids : Nat) : Int) = x0 at *
  go_wp2_with fail
  refine CK.out.mono ?_
  rintro e w2 ⟨rfl, hb⟩
  have E2 := Lib.hid hb
  have Y0 := Lib.hid (heap_below hb (heap_lt H0.out) H0.out)
  have Y1 := Lib.hid (heap_below hb (heap_lt H1.out) H1.out)
  have Y2 := Lib.hid (heap_below hb (heap_lt H2.out) H2.out)
  clear q0 q1 q2 q3 q4 q5 q6 q7 q8 q9 q10 ql hb CK
  obtain ⟨q0, q1, q2, q3, q4, q5, q6, q7, q8, q9, q10, ql⟩ := own11 Y0.out
  obtain ⟨x0', x1', -, -, xl'⟩ := own2 Y1.out
  obtain ⟨z0', z1', -, -, zl'⟩ := own2 Y2.out
  have hb4 := below_n4 w2 (.cells #[.int .i8 h.kind, .string h.name, .string h.arg, .int .i64 h.num, .int .i8 h.tk, .slice p.TA p.tn p.tc, .int .i8 h.uk, .slice p.UA p.un p.uc, .int .i64 h.label, .int .i64 h.pos, .slice p.A p.n p.c] 28) (.cells #[.int .i8 17, .string ⟨#[]⟩, .string ⟨#[]⟩, .int .i64 0, .int .i8 k1, .slice A1 n1 c1, .int .i8 k2, .slice A2 n2 c2, .int .i64 n, .int .i64 0, .slice (some ⟨w2.heap.size, 0, none⟩) 1 1] 28) (.cells #[.int .i8 17, .string ⟨#[]⟩, .string ⟨#[]⟩, .int .i64 0, .int .i8 k1, .slice A1 n1 c1, .int .i8 k2, .slice A2 n2 c2, .int .i64 n, .int .i64 0, .slice (some ⟨w2.heap.size, 0, none⟩) 1 1, .int .i8 h.kind, .string h.name, .string h.arg, .int .i64 h.num, .int .i8 h.tk, .slice p.TA p.tn p.tc, .int .i8 h.uk, .slice p.UA p.un p.uc, .int .i64 h.label, .int .i64 h.pos, .slice p.A p.n p.c] 28) (.cells #[.int .i8 9, .string ⟨#[]⟩, .string ⟨#[]⟩, .int .i64 0, .int .i8 0, .slice none 0 0, .int .i8 0, .slice none 0 0, .int .i64 0, .int .i64 0, .slice (some ⟨w2.heap.size + 1 + 1, 0, none⟩) 2 2] 28)
  obtain ⟨s0, s1, s2, s3⟩ := heap_n4 w2 (.cells #[.int .i8 h.kind, .string h.name, .string h.arg, .int .i64 h.num, .int .i8 h.tk, .slice p.TA p.tn p.tc, .int .i8 h.uk, .slice p.UA p.un p.uc, .int .i64 h.label, .int .i64 h.pos, .slice p.A p.n p.c] 28) (.cells #[.int .i8 17, .string ⟨#[]⟩, .string ⟨#[]⟩, .int .i64 0, .int .i8 k1, .slice A1 n1 c1, .int .i8 k2, .slice A2 n2 c2, .int .i64 n, .int .i64 0, .slice (some ⟨w2.heap.size, 0, none⟩) 1 1] 28) (.cells #[.int .i8 17, .string ⟨#[]⟩, .string ⟨#[]⟩, .int .i64 0, .int .i8 k1, .slice A1 n1 c1, .int .i8 k2, .slice A2 n2 c2, .int .i64 n, .int .i64 0, .slice (some ⟨w2.heap.size, 0, none⟩) 1 1, .int .i8 h.kind, .string h.name, .string h.arg, .int .i64 h.num, .int .i8 h.tk, .slice p.TA p.tn p.tc, .int .i8 h.uk, .slice p.UA p.un p.uc, .int .i64 h.label, .int .i64 h.pos, .slice p.A p.n p.c] 28) (.cells #[.int .i8 9, .string ⟨#[]⟩, .string ⟨#[]⟩, .int .i64 0, .int .i8 0, .slice none 0 0, .int .i8 0, .slice none 0 0, .int .i64 0, .int .i64 0, .slice (some ⟨w2.heap.size + 1 + 1, 0, none⟩) 2 2] 28)
  obtain ⟨w3, hw3⟩ : ∃ w3, w3 = (((w2.alloc (.cells #[.int .i8 h.kind, .string h.name, .string h.arg, .int .i64 h.num, .int .i8 h.tk, .slice p.TA p.tn p.tc, .int .i8 h.uk, .slice p.UA p.un p.uc, .int .i64 h.label, .int .i64 h.pos, .slice p.A p.n p.c] 28)).alloc (.cells #[.int .i8 17, .string ⟨#[]⟩, .string ⟨#[]⟩, .int .i64 0, .int .i8 k1, .slice A1 n1 c1, .int .i8 k2, .slice A2 n2 c2, .int .i64 n, .int .i64 0, .slice (some ⟨w2.heap.size, 0, none⟩) 1 1] 28)).alloc (.cells #[.int .i8 17, .string ⟨#[]⟩, .string ⟨#[]⟩, .int .i64 0, .int .i8 k1, .slice A1 n1 c1, .int .i8 k2, .slice A2 n2 c2, .int .i64 n, .int .i64 0, .slice (some ⟨w2.heap.size, 0, none⟩) 1 1, .int .i8 h.kind, .string h.name, .string h.arg, .int .i64 h.num, .int .i8 h.tk, .slice p.TA p.tn p.tc, .int .i8 h.uk, .slice p.UA p.un p.uc, .int .i64 h.label, .int .i64 h.pos, .slice p.A p.n p.c] 28)).alloc (.cells #[.int .i8 9, .string ⟨#[]⟩, .string ⟨#[]⟩, .int .i64 0, .int .i8 0, .slice none 0 0, .int .i8 0, .slice none 0 0, .int .i64 0, .int .i64 0, .slice (some ⟨w2.heap.size + 1 + 1, 0, none⟩) 2 2] 28) := ⟨_, rfl⟩
  rw [← hw3] at hb4 s0 s1 s2 s3
  have E3 := Lib.hid (E2.out.trans (hb4.mono E2.out.size))
  have hm1 : (1 : Nat) ≤ maxLen := by decide
  have hm2 : (2 : Nat) ≤ maxLen := by decide
  have it := HIS.out w3 E3.out
  have iu : Tm.Is w3 (Ca.cvU k1 f1 k2 f2 n) (.node h kids .nil) (⟨A1, n1, c1, A2, n2, c2, some ⟨w2.heap.size, 0, none⟩, 1, 1⟩ : Pl) := ⟨⟨HI1.out w3 E3.out, HI2.out w3 E3.out, rfl, Nat.le_refl _, hm1, by show (-128 : Int) ≤ 17; decide, by show (17 : Int) ≤ 127; decide, hn.1, hn.2, Nat.zero_le _, Nat.zero_le _⟩,
    Ca.lies1 it (fun j v hv => by rw [Nat.zero_mul, Nat.zero_add]; exact Ca.cells_at (l := h.cells p) s0 j v hv) trivial⟩
  have iv : Tm.Is w3 Ca.cvV (.node (Ca.cvU k1 f1 k2 f2 n) (.node h kids .nil) (.node h kids .nil)) (⟨none, 0, 0, none, 0, 0, some ⟨w2.heap.size + 1 + 1, 0, none⟩, 2, 2⟩ : Pl) := ⟨⟨Ca.ty_nil w3 (by decide) (by decide), Ca.ty_nil w3 (by decide) (by decide), rfl, Nat.le_refl _, hm2, by decide, by decide, by decide, by decide, by decide, by decide⟩,
    Ca.lies1 iu (fun j v hv => by rw [Nat.zero_mul, Nat.zero_add]; exact Ca.cells_at (l := ((Ca.cvU k1 f1 k2 f2 n).cells (⟨A1, n1, c1, A2, n2, c2, some ⟨w2.heap.size, 0, none⟩, 1, 1⟩ : Pl)) ++ h.cells p) s2 j v (by
        have hj : j < ((Ca.cvU k1 f1 k2 f2 n).cells (⟨A1, n1, c1, A2, n2, c2, some ⟨w2.heap.size, 0, none⟩, 1, 1⟩ : Pl)).length := by
          rcases Nat.lt_or_ge j ((Ca.cvU k1 f1 k2 f2 n).cells (⟨A1, n1, c1, A2, n2, c2, some ⟨w2.heap.size, 0, none⟩, 1, 1⟩ : Pl)).length with q | q
          · exact q
          · rw [List.getElem?_eq_none q] at hv; cases hv
        rw [List.getElem?_append_left hj]; exact hv))
      (Ca.lies1 it (fun j v hv => by
        have := Ca.cells_at (l := ((Ca.cvU k1 f1 k2 f2 n).cells (⟨A1, n1, c1, A2, n2, c2, some ⟨w2.heap.size, 0, none⟩, 1, 1⟩ : Pl)) ++ h.cells p) s2 (11 + j) v (by rw [List.getElem?_append_right (by simp)]; simpa using hv)
        rwa [show (0 + 1) * 11 + j = 11 + j by omega]) trivial)⟩
  have IT := Lib.hid it
  have IU := Lib.hid iu
  have IV := Lib.hid iv
  have Z0 := Lib.hid (heap_below hb4 (heap_lt Y0.out) Y0.out)
  have Z1 := Lib.hid (heap_below hb4 (heap_lt Y1.out) Y1.out)
  have Z2 := Lib.hid (heap_below hb4 (heap_lt Y2.out) Y2.out)
  have ZU := Lib.hid s1
  have ZV := Lib.hid s3
  have HW3 := Lib.hid hw3
  clear hb4 s0 s1 s2 s3 it iu iv hw3 hm1 hm2
  go_upto_region 5 with fail
  rw [← HW3.out]
  clear HW3 q0 q1 q2 q3 q4 q5 q6 q7 q8 q9 q10 ql x0' x1' xl' z0' z1' zl'
  obtain ⟨q0, q1, q2, q3, q4, q5, q6, q7, q8, q9, q10, ql⟩ := own11 Z0.out
  go_wp2_with fail
  refine (call_any h kids p w3 IT.out (HGG.out w3 E3.out)).mono ?_
  rintro e w4 ⟨Gt, mt, ct, rfl, hr, hb⟩
  have RT := Lib.hid hr
  have L4 := Lib.hid hb
  clear q0 q1 q2 q3 q4 q5 q6 q7 q8 q9 q10 ql hb hr
  obtain ⟨q0, q1, q2, q3, q4, q5, q6, q7, q8, q9, q10, ql⟩ := own11 (Lib.hid (heap_below L4.out (heap_lt ZU.out) ZU.out)).out
  go_wp2_with fail
  refine (call_any (Ca.cvU k1 f1 k2 f2 n) (.node h kids .nil) (⟨A1, n1, c1, A2, n2, c2, some ⟨w2.heap.size, 0, none⟩, 1, 1⟩ : Pl) w4 (IU.out.below L4.out) (HGG.out w4 (E3.out.trans (L4.out.mono E3.out.size)))).mono ?_
  rintro e w5 ⟨Gu, mu, cu, rfl, hr, hb⟩
  have RU0 := Lib.hid hr
  have L45 := Lib.hid hb
  have L5 := Lib.hid (L4.out.trans (hb.mono L4.out.size))
  clear q0 q1 q2 q3 q4 q5 q6 q7 q8 q9 q10 ql hb hr
  obtain ⟨q0, q1, q2, q3, q4, q5, q6, q7, q8, q9, q10, ql⟩ := own11 (Lib.hid (heap_below L5.out (heap_lt ZV.out) ZV.out)).out
  go_wp2_with fail
  refine (call_any Ca.cvV (.node (Ca.cvU k1 f1 k2 f2 n) (.node h kids .nil) (.node h kids .nil)) (⟨none, 0, 0, none, 0, 0, some ⟨w2.heap.size + 1 + 1, 0, none⟩, 2, 2⟩ : Pl) w5 (IV.out.below L5.out) (HGG.out w5 (E3.out.trans (L5.out.mono E3.out.size)))).mono ?_
  rintro e w6 ⟨Gv, mv, cv, rfl, hr, hb⟩
  have RV0 := Lib.hid hr
  have L56 := Lib.hid hb
  have L6 := Lib.hid (L5.out.trans (hb.mono L5.out.size))
  clear q0 q1 q2 q3 q4 q5 q6 q7 q8 q9 q10 ql hb hr
  obtain ⟨q0, q1, q2, q3, q4, q5, q6, q7, q8, q9, q10, ql⟩ := own11 (Lib.hid (heap_below L6.out (heap_lt ZV.out) ZV.out)).out
  go_wp2_with fail
  refine (tcheck_any Ca.cvV (.node (Ca.cvU k1 f1 k2 f2 n) (.node h kids .nil) (.node h kids .nil)) (⟨none, 0, 0, none, 0, 0, some ⟨w2.heap.size + 1 + 1, 0, none⟩, 2, 2⟩ : Pl) w6 (IV.out.below L6.out) (HGG.out w6 (E3.out.trans (L6.out.mono E3.out.size)))).mono ?_
  rintro e w7 ⟨rfl, hb⟩
  have L67 := Lib.hid hb
  have L7 := Lib.hid (L6.out.trans (hb.mono L6.out.size))
  have E8 := Lib.hid (E3.out.trans (L7.out.mono E3.out.size))
  clear q0 q1 q2 q3 q4 q5 q6 q7 q8 q9 q10 ql hb
  by_cases hv : ¬ Tm.chk Ca.cvV (.node (Ca.cvU k1 f1 k2 f2 n) (.node h kids .nil) (.node h kids .nil)) = 0
  · have hvne : (((Tm.chk Ca.cvV (.node (Ca.cvU k1 f1 k2 f2 n) (.node h kids .nil) (.node h kids .nil)) : Nat) : Int) != 0) = true := by simp; omega
    have hm0 : mv = 0 := by have := RV0.out.1; rw [Ca.allL, if_neg hv] at this; exact this
    subst hm0
    generalize ((Tm.chk Ca.cvV (.node (Ca.cvU k1 f1 k2 f2 n) (.node h kids .nil) (.node h kids .nil)) : Nat) : Int) = x1 at *
    clear hv
    go_wp2_with fail
    refine (CWK.out w7 E8.out).mono ?_
    rintro e w8 ⟨rfl, hb⟩
    have HBF := Lib.hid (HB1.out.trans ((E8.out.trans (hb.mono E8.out.size)).mono HB1.out.size))
    clear hb
    go_wp2_with fail
    go_ret
    exact ⟨rfl, HBF.out⟩
  have hv := Classical.not_not.mp hv
  have hvne : (((Tm.chk Ca.cvV (.node (Ca.cvU k1 f1 k2 f2 n) (.node h kids .nil) (.node h kids .nil)) : Nat) : Int) != 0) = false := by rw [hv]; rfl
  obtain ⟨qu, -, q1, q2, q3, q4, q5⟩ := Ca.cv_chk hv
  obtain ⟨al1, al2⟩ := Ca.cv_alls hv
  have CER := Lib.hid (Ca.cv_er qu hc)
  have hlc := Ca.cv_lam q1 q2 q3 q4 q5
  have X4 := Lib.hid (heap_below L7.out (heap_lt Z0.out) Z0.out)
  have X5 := Lib.hid (heap_below L7.out (heap_lt Z1.out) Z1.out)
  have X6 := Lib.hid (heap_below L7.out (heap_lt Z2.out) Z2.out)
  have X9 := Lib.hid (heap_below L7.out (heap_lt ZU.out) ZU.out)
  have J1 := Lib.hid (HI1.out w7 E8.out)
  have J2 := Lib.hid (HI2.out w7 E8.out)
  obtain ⟨K1, hK1⟩ : ∃ x : Int, x = (Ca.htL (Ca.pre (.node h kids .nil)) : Nat) := ⟨_, rfl⟩
  obtain ⟨K2, hK2⟩ : ∃ x : Int, x = (Ca.htL (Ca.pre (.node (Ca.cvL k1 f1 k2 f2) (.node Ca.cvY .nil .nil) .nil)) : Nat) := ⟨_, rfl⟩
  obtain ⟨K3, hK3⟩ : ∃ x : Int, x = (Ca.htL (Ca.pre (.node (Ca.cvU k1 f1 k2 f2 n) (.node h kids .nil) .nil)) : Nat) := ⟨_, rfl⟩
  have CHt := Lib.hid (fun (U : World) (hb : Below w7.heap.size w7 U) => show Calls Tryz.prog 25 #[.agg #[.int .i8 h.kind, .string h.name, .string h.arg, .int .i64 h.num, .int .i8 h.tk, .slice p.TA p.tn p.tc, .int .i8 h.uk, .slice p.UA p.un p.uc, .int .i64 h.label, .int .i64 h.pos, .slice p.A p.n p.c]] U (fun e w' => e = .returned (.int .i64 K1) ∧ Below U.heap.size U w') from by have q := cheight_any h kids p U (HIS.out U (E8.out.trans (hb.mono E8.out.size))) (HGG.out U (E8.out.trans (hb.mono E8.out.size))); rw [if_pos hc, ← hK1] at q; exact q)
  have CHu := Lib.hid (fun (U : World) (hb : Below w7.heap.size w7 U) => show Calls Tryz.prog 25 #[.agg #[.int .i8 17, .string ⟨#[]⟩, .string ⟨#[]⟩, .int .i64 0, .int .i8 k1, .slice A1 n1 c1, .int .i8 k2, .slice A2 n2 c2, .int .i64 n, .int .i64 0, .slice (some ⟨w2.heap.size, 0, none⟩) 1 1]] U (fun e w' => e = .returned (.int .i64 K3) ∧ Below U.heap.size U w') from by have q := cheight_any (Ca.cvU k1 f1 k2 f2 n) (.node h kids .nil) (⟨A1, n1, c1, A2, n2, c2, some ⟨w2.heap.size, 0, none⟩, 1, 1⟩ : Pl) U (IU.out.below (L7.out.trans (hb.mono L7.out.size))) (HGG.out U (E8.out.trans (hb.mono E8.out.size))); rw [if_pos qu, ← hK3] at q; exact q)
  have CHl := Lib.hid (fun (U : World) (pl : Pl) (hb : Below w7.heap.size w7 U) (hi : Tm.Is U (Ca.cvL k1 f1 k2 f2) (.node Ca.cvY .nil .nil) pl) => show Calls Tryz.prog 25 #[.agg #[.int .i8 (Ca.cvL k1 f1 k2 f2).kind, .string (Ca.cvL k1 f1 k2 f2).name, .string (Ca.cvL k1 f1 k2 f2).arg, .int .i64 (Ca.cvL k1 f1 k2 f2).num, .int .i8 (Ca.cvL k1 f1 k2 f2).tk, .slice pl.TA pl.tn pl.tc, .int .i8 (Ca.cvL k1 f1 k2 f2).uk, .slice pl.UA pl.un pl.uc, .int .i64 (Ca.cvL k1 f1 k2 f2).label, .int .i64 (Ca.cvL k1 f1 k2 f2).pos, .slice pl.A pl.n pl.c]] U (fun e w' => e = .returned (.int .i64 K2) ∧ Below U.heap.size U w') from by have q := cheight_any (Ca.cvL k1 f1 k2 f2) (.node Ca.cvY .nil .nil) pl U hi (HGG.out U (E8.out.trans (hb.mono E8.out.size))); rw [if_pos hlc, ← hK2] at q; exact q)
  have CEt := Lib.hid (fun (U : World) (hb : Below w7.heap.size w7 U) => erase_any h kids p U (HIS.out U (E8.out.trans (hb.mono E8.out.size))) (HGG.out U (E8.out.trans (hb.mono E8.out.size))))
  have CEu := Lib.hid (fun (U : World) (hb : Below w7.heap.size w7 U) => show Calls Tryz.prog 29 #[.agg #[.int .i8 17, .string ⟨#[]⟩, .string ⟨#[]⟩, .int .i64 0, .int .i8 k1, .slice A1 n1 c1, .int .i8 k2, .slice A2 n2 c2, .int .i64 n, .int .i64 0, .slice (some ⟨w2.heap.size, 0, none⟩) 1 1]] U (EraseP U (Ca.cvU k1 f1 k2 f2 n) (.node h kids .nil)) from erase_any (Ca.cvU k1 f1 k2 f2 n) (.node h kids .nil) (⟨A1, n1, c1, A2, n2, c2, some ⟨w2.heap.size, 0, none⟩, 1, 1⟩ : Pl) U (IU.out.below (L7.out.trans (hb.mono L7.out.size))) (HGG.out U (E8.out.trans (hb.mono E8.out.size))))
  have hs1 : Ty.sameT k1 f1 k1 f1 = true := by unfold Ty.sameT; rw [q1, Ca.eqT_self]; rfl
  have hs2 : Ty.sameT k2 f2 k2 f2 = true := by unfold Ty.sameT; rw [q2, Ca.eqT_self]; rfl
  have CM1 := Lib.hid (fun (U : World) (T : Option Addr) (s d : Nat) (hb : Below w7.heap.size w7 U) (hT : Ty.Is U k1 f1 T s d) => show Calls Tryz.prog 36 #[.agg #[.int .i8 k1, .slice T s d], .agg #[.int .i8 k1, .slice A1 n1 c1]] U (fun e w' => e = .returned (.bool true) ∧ Below U.heap.size U w') from by have q := same_any k1 f1 T s d k1 f1 A1 n1 c1 U hT (J1.out.below hb) (HGG.out U (E8.out.trans (hb.mono E8.out.size))).types; rw [hs1] at q; exact q)
  have CM2 := Lib.hid (fun (U : World) (T : Option Addr) (s d : Nat) (hb : Below w7.heap.size w7 U) (hT : Ty.Is U k2 f2 T s d) => show Calls Tryz.prog 36 #[.agg #[.int .i8 k2, .slice T s d], .agg #[.int .i8 k2, .slice A2 n2 c2]] U (fun e w' => e = .returned (.bool true) ∧ Below U.heap.size U w') from by have q := same_any k2 f2 T s d k2 f2 A2 n2 c2 U hT (J2.out.below hb) (HGG.out U (E8.out.trans (hb.mono E8.out.size))).types; rw [hs2] at q; exact q)
  have hu7 := RU0.out.below (L56.out.trans (L67.out.mono L56.out.size))
  rw [al1] at hu7
  obtain ⟨gu, T1, s1, d1, T2, s2, d2, rfl, i1, i2, e0, e1, e2, e3, e4⟩ := hu7.nth (i := 0) (c := (k1, f1, k2, f2, n)) rfl
  have RU := Lib.hid (fun (W : World) (hb : Below w7.heap.size w7 W) => show W.cell? ⟨gu, 0, none⟩ = some (.int .i8 k1) ∧ W.cell? ⟨gu, 1, none⟩ = some (.slice T1 s1 d1) ∧ W.cell? ⟨gu, 2, none⟩ = some (.int .i8 k2) ∧ W.cell? ⟨gu, 3, none⟩ = some (.slice T2 s2 d2) ∧ W.cell? ⟨gu, 4, none⟩ = some (.int .i64 n) ∧ Ty.Is W k1 f1 T1 s1 d1 ∧ Ty.Is W k2 f2 T2 s2 d2 from
    ⟨by rw [hb.cell (p := ⟨gu, 0, none⟩) (Ty.cell_lt e0)]; exact e0, by rw [hb.cell (p := ⟨gu, 1, none⟩) (Ty.cell_lt e1)]; exact e1, by rw [hb.cell (p := ⟨gu, 2, none⟩) (Ty.cell_lt e2)]; exact e2, by rw [hb.cell (p := ⟨gu, 3, none⟩) (Ty.cell_lt e3)]; exact e3, by rw [hb.cell (p := ⟨gu, 4, none⟩) (Ty.cell_lt e4)]; exact e4, Ty.Is.below i1 hb, Ty.Is.below i2 hb⟩)
  have hlt := RT.out.1
  have hlu := hu7.1
  have hlv := RV0.out.1
  rw [al2] at hlv
  simp only [List.length_cons, List.length_append] at hlu hlv
  have hbt := RT.out.2.2.2.1
  have hbu := hu7.2.2.2.1
  have hbv := RV0.out.2.2.2.1
  have he4 : K3 = max K1 (K2 - 1) := by
    rw [hK1, hK2, hK3, Ca.cv_htl, Ca.cv_htu]; omega
  have hK1b : 0 ≤ K1 ∧ K1 ≤ 100000 := by rw [hK1]; have := Ca.htL_le hc; omega
  have hK2b : 1 ≤ K2 ∧ K2 ≤ 100000 := by rw [hK2, Ca.cv_htl]; omega
  generalize ((Tm.chk Ca.cvV (.node (Ca.cvU k1 f1 k2 f2 n) (.node h kids .nil) (.node h kids .nil)) : Nat) : Int) = x1 at *
  have he4' : (K3 == max K1 (K2 - 1)) = true := by rw [he4]; simp
  clear hK1 hK2 hK3 i1 i2 e0 e1 e2 e3 e4 hs1 hs2 qu q1 q2 q3 q4 q5 hlc al1 he4
  have j0 : (0 : Int) < mu := by omega
  by_cases hz : mt = 0
  · subst hz
    have he1 : ((mu : Int) == 0 + 1) = true := by simp; omega
    have he1' : mu = 1 := by omega
    have he2 : ((mv : Int) == 0 + (mu : Int)) = true := by simp; omega
    have he2' : mv = 1 := by omega
    subst he1'
    subst he2'
    clear al2 hlt hlu hlv hbt hbu hbv hu7 he1 he2
    go_upto_region 10 with fail
    refine Rg.region_rel 129 rfl [44, 45, 46, 47, 48, 49, 50, 51, 52, 53, 54, 14] [(4, .pointer (some ⟨w.heap.size, 0, none⟩)), (5, .pointer (some ⟨w.heap.size + 1, 0, none⟩)), (6, .pointer (some ⟨w.heap.size + 1 + 1, 0, none⟩))] [.is (.agg #[.int .i8 h.kind, .string h.name, .string h.arg, .int .i64 h.num, .int .i8 h.tk, .slice p.TA p.tn p.tc, .int .i8 h.uk, .slice p.UA p.un p.uc, .int .i64 h.label, .int .i64 h.pos, .slice p.A p.n p.c]), .is (.int .i64 K1), .is (.agg #[.int .i8 k1, .slice A1 n1 c1]), .is (.agg #[.int .i8 k2, .slice A2 n2 c2]), .sp (fun v u => ∃ N : Nat, v = .agg #[.int .i8 4, .slice (some ⟨N, 0, none⟩) 2 2] ∧ Ty.Is u 4 (Ty.two k1 f1 k2 f2) (some ⟨N, 0, none⟩) 2 2), .is (.agg #[.int .i8 2, .string ⟨#[]⟩, .string ⟨#[]⟩, .int .i64 0, .int .i8 0, .slice none 0 0, .int .i8 0, .slice none 0 0, .int .i64 0, .int .i64 0, .slice none 0 0]), .sp (fun v u => ∃ b : Nat, v = .slice (some ⟨b, 0, none⟩) 1 1 ∧ u.heap[b]? = some (.cells #[.int .i8 2, .string ⟨#[]⟩, .string ⟨#[]⟩, .int .i64 0, .int .i8 0, .slice none 0 0, .int .i8 0, .slice none 0 0, .int .i64 0, .int .i64 0, .slice none 0 0] 28 (0, 0))), .sp (fun v u => ∃ p' : Pl, v = .agg #[.int .i8 (Ca.cvL k1 f1 k2 f2).kind, .string (Ca.cvL k1 f1 k2 f2).name, .string (Ca.cvL k1 f1 k2 f2).arg, .int .i64 (Ca.cvL k1 f1 k2 f2).num, .int .i8 (Ca.cvL k1 f1 k2 f2).tk, .slice p'.TA p'.tn p'.tc, .int .i8 (Ca.cvL k1 f1 k2 f2).uk, .slice p'.UA p'.un p'.uc, .int .i64 (Ca.cvL k1 f1 k2 f2).label, .int .i64 (Ca.cvL k1 f1 k2 f2).pos, .slice p'.A p'.n p'.c] ∧ Tm.Is u (Ca.cvL k1 f1 k2 f2) (.node Ca.cvY .nil .nil) p'), .is (.int .i64 K2), .is (.int .i64 (K2 - 1)), .is (.int .i64 (max K1 (K2 - 1))), .is (.int .i64 (max K1 (K2 - 1)))] (by kernel_rfl) (by kernel_rfl) (by kernel_rfl) (by kernel_rfl) ?_ ?_ ?_ ?_
    · intro P hP v w5 w6 h5 hb5
      simp only [List.mem_cons, List.not_mem_nil, or_false, false_or, reduceCtorEq, Rg.Gd.sp.injEq] at hP
      rcases hP with rfl | rfl | rfl
      · exact h5.elim fun p q => ⟨p, q.1, q.2.below hb5⟩
      · exact h5.elim fun p q => ⟨p, q.1, heap_below hb5 (heap_lt q.2) q.2⟩
      · exact h5.elim fun p q => ⟨p, q.1, q.2.below hb5⟩
    · intro s v hx
      simp only [List.mem_cons, Prod.mk.injEq, List.not_mem_nil, or_false] at hx
      rcases hx with ⟨rfl, rfl⟩ | ⟨rfl, rfl⟩ | ⟨rfl, rfl⟩ <;> rfl
    · intro i o a' w' ho hF hbw hdep
      have hi13 : i < 12 := by
        rcases Nat.lt_or_ge i 12 with q | q
        · exact q
        · rw [Array.getElem?_eq_none (by simpa using q)] at ho; cases ho
      rcases (by omega : i = 0 ∨ i = 1 ∨ i = 2 ∨ i = 3 ∨ i = 4 ∨ i = 5 ∨ i = 6 ∨ i = 7 ∨ i = 8 ∨ i = 9 ∨ i = 10 ∨ i = 11) with rfl | rfl | rfl | rfl | rfl | rfl | rfl | rfl | rfl | rfl | rfl | rfl
      · obtain rfl := Rg.SI ho
        have z4 : a'.eval (.tmp 4) = .pointer (some ⟨w.heap.size, 0, none⟩) := hF.fx 4 _ (by simp)
        obtain ⟨q0, q1, q2, q3, q4, q5, q6, q7, q8, q9, q10, ql⟩ := own11 (heap_below hbw (heap_lt X4.out) X4.out)
        refine .inl ⟨Rg.want_none rfl, Rg.rel_val 44 rfl (v := .agg #[.int .i8 h.kind, .string h.name, .string h.arg, .int .i64 h.num, .int .i8 h.tk, .slice p.TA p.tn p.tc, .int .i8 h.uk, .slice p.UA p.un p.uc, .int .i64 h.label, .int .i64 h.pos, .slice p.A p.n p.c]) rfl ?_⟩
        clear hF hbw hdep hi13
        obtain ⟨hcst, hfn⟩ := Rg.evc a'
        generalize a'.eval = ev at *
        go_simp
        try (first | go_num | (simp [IntKind.wrap, IntKind.bits, IntKind.signed]; omega))
      · obtain rfl := Rg.SI ho
        have z44 : a'.eval (.tmp 44) = .agg #[.int .i8 h.kind, .string h.name, .string h.arg, .int .i64 h.num, .int .i8 h.tk, .slice p.TA p.tn p.tc, .int .i8 h.uk, .slice p.UA p.un p.uc, .int .i64 h.label, .int .i64 h.pos, .slice p.A p.n p.c] := hdep ⟨0, .data⟩ (by simp) rfl _ 44 rfl rfl
        refine .inl ⟨Rg.want_none rfl, Rg.rel_call 45 rfl (CHt.out w' hbw) (fun e u hg => ?_) ?_⟩
        · obtain ⟨rfl, hb⟩ := hg
          exact ⟨_, rfl, rfl, hb⟩
        · clear hF hdep hi13
          obtain ⟨hcst, hfn⟩ := Rg.evc a'
          generalize a'.eval = ev at *
          go_simp
          try (first | rfl | exact ⟨rfl, rfl⟩ | exact ⟨rfl, rfl, rfl⟩ | exact ⟨rfl, rfl, rfl, rfl, rfl, rfl, rfl, rfl⟩ | exact ⟨rfl, rfl, rfl, rfl, rfl, ⟨rfl, rfl, rfl⟩, rfl, ⟨rfl, rfl, rfl⟩, rfl, rfl, rfl, rfl, rfl⟩)
      · obtain rfl := Rg.SI ho
        have z5 : a'.eval (.tmp 5) = .pointer (some ⟨w.heap.size + 1, 0, none⟩) := hF.fx 5 _ (by simp)
        obtain ⟨x0, x1, -, -, xl⟩ := own2 (heap_below hbw (heap_lt X5.out) X5.out)
        refine .inl ⟨Rg.want_none rfl, Rg.rel_val 46 rfl (v := .agg #[.int .i8 k1, .slice A1 n1 c1]) rfl ?_⟩
        clear hF hbw hdep hi13
        obtain ⟨hcst, hfn⟩ := Rg.evc a'
        generalize a'.eval = ev at *
        go_simp
        try (first | go_num | (simp [IntKind.wrap, IntKind.bits, IntKind.signed]; omega))
      · obtain rfl := Rg.SI ho
        have z6 : a'.eval (.tmp 6) = .pointer (some ⟨w.heap.size + 1 + 1, 0, none⟩) := hF.fx 6 _ (by simp)
        obtain ⟨x0, x1, -, -, xl⟩ := own2 (heap_below hbw (heap_lt X6.out) X6.out)
        refine .inl ⟨Rg.want_none rfl, Rg.rel_val 47 rfl (v := .agg #[.int .i8 k2, .slice A2 n2 c2]) rfl ?_⟩
        clear hF hbw hdep hi13
        obtain ⟨hcst, hfn⟩ := Rg.evc a'
        generalize a'.eval = ev at *
        go_simp
        try (first | go_num | (simp [IntKind.wrap, IntKind.bits, IntKind.signed]; omega))
      · obtain rfl := Rg.SI ho
        have z46 : a'.eval (.tmp 46) = .agg #[.int .i8 k1, .slice A1 n1 c1] := hdep ⟨2, .data⟩ (by simp) rfl _ 46 rfl rfl
        have z47 : a'.eval (.tmp 47) = .agg #[.int .i8 k2, .slice A2 n2 c2] := hdep ⟨3, .data⟩ (by simp) rfl _ 47 rfl rfl
        refine .inl ⟨Rg.want_none rfl, Rg.rel_call 48 rfl (of_any 4 (by decide) k1 f1 A1 n1 c1 k2 f2 A2 n2 c2 w' (J1.out.below hbw) (J2.out.below hbw)) (fun e u hg => ?_) ?_⟩
        · obtain ⟨N, rfl, hN, hi, hb⟩ := hg
          exact ⟨_, rfl, ⟨N, rfl, hi⟩, hb⟩
        · clear hF hdep hi13
          obtain ⟨hcst, hfn⟩ := Rg.evc a'
          generalize a'.eval = ev at *
          go_simp
          try (first | rfl | exact ⟨rfl, rfl⟩ | exact ⟨rfl, rfl, rfl⟩ | exact ⟨rfl, rfl, rfl, rfl, rfl, rfl, rfl, rfl⟩ | exact ⟨rfl, rfl, rfl, rfl, rfl, ⟨rfl, rfl, rfl⟩, rfl, ⟨rfl, rfl, rfl⟩, rfl, rfl, rfl, rfl, rfl⟩)
      · obtain rfl := Rg.SI ho
        refine .inl ⟨Rg.want_none rfl, Rg.rel_val 49 rfl (v := .agg #[.int .i8 2, .string ⟨#[]⟩, .string ⟨#[]⟩, .int .i64 0, .int .i8 0, .slice none 0 0, .int .i8 0, .slice none 0 0, .int .i64 0, .int .i64 0, .slice none 0 0]) rfl ?_⟩
        clear hF hbw hdep hi13
        obtain ⟨hcst, hfn⟩ := Rg.evc a'
        generalize a'.eval = ev at *
        go_simp
        try (first | go_num | (simp [IntKind.wrap, IntKind.bits, IntKind.signed]; omega))
      · obtain rfl := Rg.SI ho
        have z49 : a'.eval (.tmp 49) = .agg #[.int .i8 2, .string ⟨#[]⟩, .string ⟨#[]⟩, .int .i64 0, .int .i8 0, .slice none 0 0, .int .i8 0, .slice none 0 0, .int .i64 0, .int .i64 0, .slice none 0 0] := hdep ⟨5, .data⟩ (by simp) rfl _ 49 rfl rfl
        refine .inl ⟨Rg.want_none rfl, Rg.rel_new 50 rfl (v := .slice (some ⟨w'.heap.size, 0, none⟩) 1 1) (u' := w'.alloc (.cells #[.int .i8 2, .string ⟨#[]⟩, .string ⟨#[]⟩, .int .i64 0, .int .i8 0, .slice none 0 0, .int .i8 0, .slice none 0 0, .int .i64 0, .int .i64 0, .slice none 0 0] 28)) ⟨w'.heap.size, rfl, heap_new _ _⟩ ((Below.refl _ _).alloc (Nat.le_refl _) _) ?_⟩
        clear hF hbw hdep hi13
        obtain ⟨hcst, hfn⟩ := Rg.evc a'
        generalize a'.eval = ev at *
        go_simp
      · obtain rfl := Rg.SI ho
        have z48 := hdep ⟨4, .data⟩ (by simp) rfl _ 48 rfl rfl
        have z50 := hdep ⟨6, .data⟩ (by simp) rfl _ 50 rfl rfl
        obtain ⟨N, z48, hN⟩ := z48
        obtain ⟨b, z50, hbb⟩ := z50
        refine .inl ⟨Rg.want_none rfl, Rg.rel_val 51 rfl (v := .agg #[.int .i8 (Ca.cvL k1 f1 k2 f2).kind, .string (Ca.cvL k1 f1 k2 f2).name, .string (Ca.cvL k1 f1 k2 f2).arg, .int .i64 (Ca.cvL k1 f1 k2 f2).num, .int .i8 (Ca.cvL k1 f1 k2 f2).tk, .slice (⟨some ⟨N, 0, none⟩, 2, 2, none, 0, 0, some ⟨b, 0, none⟩, 1, 1⟩ : Pl).TA (⟨some ⟨N, 0, none⟩, 2, 2, none, 0, 0, some ⟨b, 0, none⟩, 1, 1⟩ : Pl).tn (⟨some ⟨N, 0, none⟩, 2, 2, none, 0, 0, some ⟨b, 0, none⟩, 1, 1⟩ : Pl).tc, .int .i8 (Ca.cvL k1 f1 k2 f2).uk, .slice (⟨some ⟨N, 0, none⟩, 2, 2, none, 0, 0, some ⟨b, 0, none⟩, 1, 1⟩ : Pl).UA (⟨some ⟨N, 0, none⟩, 2, 2, none, 0, 0, some ⟨b, 0, none⟩, 1, 1⟩ : Pl).un (⟨some ⟨N, 0, none⟩, 2, 2, none, 0, 0, some ⟨b, 0, none⟩, 1, 1⟩ : Pl).uc, .int .i64 (Ca.cvL k1 f1 k2 f2).label, .int .i64 (Ca.cvL k1 f1 k2 f2).pos, .slice (⟨some ⟨N, 0, none⟩, 2, 2, none, 0, 0, some ⟨b, 0, none⟩, 1, 1⟩ : Pl).A (⟨some ⟨N, 0, none⟩, 2, 2, none, 0, 0, some ⟨b, 0, none⟩, 1, 1⟩ : Pl).n (⟨some ⟨N, 0, none⟩, 2, 2, none, 0, 0, some ⟨b, 0, none⟩, 1, 1⟩ : Pl).c]) ⟨_, rfl, Ca.lam_is hN hbb⟩ ?_⟩
        clear hF hbw hdep hi13
        obtain ⟨hcst, hfn⟩ := Rg.evc a'
        generalize a'.eval = ev at *
        go_simp
        try (first | rfl | exact ⟨rfl, rfl⟩ | exact ⟨rfl, rfl, rfl, rfl, rfl, rfl, rfl, rfl⟩)
      · obtain rfl := Rg.SI ho
        have z51 := hdep ⟨7, .data⟩ (by simp) rfl _ 51 rfl rfl
        obtain ⟨pl, z51, hil⟩ := z51
        refine .inl ⟨Rg.want_none rfl, Rg.rel_call 52 rfl (CHl.out w' pl hbw hil) (fun e u hg => ?_) ?_⟩
        · obtain ⟨rfl, hb⟩ := hg
          exact ⟨_, rfl, rfl, hb⟩
        · clear hF hdep hi13
          obtain ⟨hcst, hfn⟩ := Rg.evc a'
          generalize a'.eval = ev at *
          go_simp
          try (first | rfl | exact ⟨rfl, rfl⟩ | exact ⟨rfl, rfl, rfl⟩ | exact ⟨rfl, rfl, rfl, rfl, rfl, rfl, rfl, rfl⟩ | exact ⟨rfl, rfl, rfl, rfl, rfl, ⟨rfl, rfl, rfl⟩, rfl, ⟨rfl, rfl, rfl⟩, rfl, rfl, rfl, rfl, rfl⟩)
      · obtain rfl := Rg.SI ho
        have z52 : a'.eval (.tmp 52) = .int .i64 K2 := hdep ⟨8, .data⟩ (by simp) rfl _ 52 rfl rfl
        refine .inl ⟨Rg.want_none rfl, Rg.rel_val 53 rfl (v := .int .i64 (K2 - 1)) rfl ?_⟩
        clear hF hbw hdep hi13
        obtain ⟨hcst, hfn⟩ := Rg.evc a'
        generalize a'.eval = ev at *
        go_simp
        try (first | go_num | (simp [IntKind.wrap, IntKind.bits, IntKind.signed]; omega))
      · obtain rfl := Rg.SI ho
        have z45 : a'.eval (.tmp 45) = .int .i64 K1 := hdep ⟨1, .data⟩ (by simp) rfl _ 45 rfl rfl
        have z53 : a'.eval (.tmp 53) = .int .i64 (K2 - 1) := hdep ⟨9, .data⟩ (by simp) rfl _ 53 rfl rfl
        refine .inl ⟨Rg.want_none rfl, Rg.rel_val 54 rfl (v := .int .i64 (max K1 (K2 - 1))) rfl ?_⟩
        clear hF hbw hdep hi13
        obtain ⟨hcst, hfn⟩ := Rg.evc a'
        generalize a'.eval = ev at *
        go_simp
        try (first | go_num | (simp [IntKind.wrap, IntKind.bits, IntKind.signed]; omega))
      · obtain rfl := Rg.SI ho
        have z54 : a'.eval (.tmp 54) = .int .i64 (max K1 (K2 - 1)) := hdep ⟨10, .data⟩ (by simp) rfl _ 54 rfl rfl
        refine .inl ⟨Rg.want_none rfl, Rg.rel_val 14 rfl (v := .int .i64 (max K1 (K2 - 1))) rfl ?_⟩
        clear hF hbw hdep hi13
        obtain ⟨hcst, hfn⟩ := Rg.evc a'
        generalize a'.eval = ev at *
        go_simp
        try (first | go_num | (simp [IntKind.wrap, IntKind.bits, IntKind.signed]; omega))
    · intro u w' t ht hb hG
      have h14 : u 14 = .int .i64 (max K1 (K2 - 1)) := hG 11 _ 14 rfl rfl
      simp only [over, List.setIfInBounds_toArray, List.set_cons_succ, List.set_cons_zero, h14] at ht
      have W8 := Lib.hid hb
      clear hG hb
      subst ht
      clear h14
      go_upto_region 11 with fail
      refine Rg.region_rel 129 rfl [55, 56, 57, 58, 59, 60, 61, 62, 63, 64, 65, 66, 67, 68, 69, 70, 71, 72, 73, 74, 75, 76, 77, 78, 79, 80, 81, 82, 83, 84, 85, 86, 87, 88, 89, 90, 91, 92, 93, 94, 95, 96, 97, 98, 99, 100, 101, 102, 103, 104, 105, 106, 107, 108, 109, 110, 111, 112, 113, 114, 115, 116, 117, 118, 119, 120, 121, 122, 123, 124, 125, 126, 127, 128, 8] [(4, .pointer (some ⟨w.heap.size, 0, none⟩)), (5, .pointer (some ⟨w.heap.size + 1, 0, none⟩)), (6, .pointer (some ⟨w.heap.size + 1 + 1, 0, none⟩)), (3, .int .i64 n), (9, .pointer (some ⟨w2.heap.size + 1, 0, none⟩)), (11, .slice Gt 0 ct), (12, .slice (some ⟨gu, 0, none⟩) 1 cu), (13, .slice Gv 1 cv), (14, .int .i64 (max K1 (K2 - 1)))] [.is (.slice (some ⟨gu, 0, none⟩) 1 cu), .is (.int .i64 1), .is (.slice Gt 0 ct), .is (.int .i64 0), .is (.int .i64 1), .is (.bool true), .is (.bool true), .is (.slice (some ⟨gu, 0, none⟩) 1 cu), .is (.pointer (some ⟨gu, 0, none⟩)), .is (.pointer (some ⟨gu, 4, none⟩)), .is (.int .i64 n), .is (.int .i64 n), .is (.bool true), .is (.bool true), .is (.bool true), .is (.slice (some ⟨gu, 0, none⟩) 1 cu), .is (.pointer (some ⟨gu, 0, none⟩)), .is (.pointer (some ⟨gu, 0, none⟩)), .is (.agg #[.int .i8 k1, .slice T1 s1 d1]), .is (.agg #[.int .i8 k1, .slice A1 n1 c1]), .is (.bool true), .is (.bool true), .is (.bool true), .is (.slice (some ⟨gu, 0, none⟩) 1 cu), .is (.pointer (some ⟨gu, 0, none⟩)), .is (.pointer (some ⟨gu, 2, none⟩)), .is (.agg #[.int .i8 k2, .slice T2 s2 d2]), .is (.agg #[.int .i8 k2, .slice A2 n2 c2]), .is (.bool true), .is (.bool true), .is (.bool true), .is (.slice Gv 1 cv), .is (.int .i64 1), .is (.slice Gt 0 ct), .is (.int .i64 0), .is (.slice (some ⟨gu, 0, none⟩) 1 cu), .is (.int .i64 1), .is (.int .i64 1), .is (.bool true), .is (.bool true), .is (.bool true), .is (.slice Gt 0 ct), .is (.int .i64 0), .is (.bool true), .is (.bool true), .is (undef), .is (undef), .is (undef), .is (undef), .is (undef), .is (undef), .is (undef), .is (undef), .is (undef), .is (undef), .is (undef), .is (.bool true), .is (.bool true), .is (.bool true), .is (.agg #[.int .i8 17, .string ⟨#[]⟩, .string ⟨#[]⟩, .int .i64 0, .int .i8 k1, .slice A1 n1 c1, .int .i8 k2, .slice A2 n2 c2, .int .i64 n, .int .i64 0, .slice (some ⟨w2.heap.size, 0, none⟩) 1 1]), .is (.int .i64 K3), .is (.int .i64 (max K1 (K2 - 1))), .is (.bool true), .is (.bool true), .is (.bool true), .is (.agg #[.int .i8 17, .string ⟨#[]⟩, .string ⟨#[]⟩, .int .i64 0, .int .i8 k1, .slice A1 n1 c1, .int .i8 k2, .slice A2 n2 c2, .int .i64 n, .int .i64 0, .slice (some ⟨w2.heap.size, 0, none⟩) 1 1]), .sp (fun v u => ∃ p' : Pl, v = .agg #[.int .i8 (Ca.eH h kids).kind, .string (Ca.eH h kids).name, .string (Ca.eH h kids).arg, .int .i64 (Ca.eH h kids).num, .int .i8 (Ca.eH h kids).tk, .slice p'.TA p'.tn p'.tc, .int .i8 (Ca.eH h kids).uk, .slice p'.UA p'.un p'.uc, .int .i64 (Ca.eH h kids).label, .int .i64 (Ca.eH h kids).pos, .slice p'.A p'.n p'.c] ∧ Tm.Is u (Ca.eH h kids) (Ca.eK h kids) p'), .is (.agg #[.int .i8 h.kind, .string h.name, .string h.arg, .int .i64 h.num, .int .i8 h.tk, .slice p.TA p.tn p.tc, .int .i8 h.uk, .slice p.UA p.un p.uc, .int .i64 h.label, .int .i64 h.pos, .slice p.A p.n p.c]), .sp (fun v u => ∃ p' : Pl, v = .agg #[.int .i8 (Ca.eH h kids).kind, .string (Ca.eH h kids).name, .string (Ca.eH h kids).arg, .int .i64 (Ca.eH h kids).num, .int .i8 (Ca.eH h kids).tk, .slice p'.TA p'.tn p'.tc, .int .i8 (Ca.eH h kids).uk, .slice p'.UA p'.un p'.uc, .int .i64 (Ca.eH h kids).label, .int .i64 (Ca.eH h kids).pos, .slice p'.A p'.n p'.c] ∧ Tm.Is u (Ca.eH h kids) (Ca.eK h kids) p'), .is (.bool true), .is (.bool true), .is (.bool true), .is (.bool true), .is (.bool true), .is (.bool true)] (by kernel_rfl) (by kernel_rfl) (by kernel_rfl) (by kernel_rfl) ?_ ?_ ?_ ?_
      · intro P hP v w5 w6 h5 hb5
        simp only [List.mem_cons, List.not_mem_nil, or_false, false_or, reduceCtorEq, Rg.Gd.sp.injEq] at hP
        rcases hP with rfl | rfl
        · exact h5.elim fun p q => ⟨p, q.1, q.2.below hb5⟩
        · exact h5.elim fun p q => ⟨p, q.1, q.2.below hb5⟩
      · intro s v hx
        simp only [List.mem_cons, Prod.mk.injEq, List.not_mem_nil, or_false] at hx
        rcases hx with ⟨rfl, rfl⟩ | ⟨rfl, rfl⟩ | ⟨rfl, rfl⟩ | ⟨rfl, rfl⟩ | ⟨rfl, rfl⟩ | ⟨rfl, rfl⟩ | ⟨rfl, rfl⟩ | ⟨rfl, rfl⟩ | ⟨rfl, rfl⟩ <;> rfl
      · intro i o a' w' ho hF hbw hdep
        have hi13 : i < 75 := by
          rcases Nat.lt_or_ge i 75 with q | q
          · exact q
          · rw [Array.getElem?_eq_none (by simpa using q)] at ho; cases ho
        rcases (by omega : i = 0 ∨ i = 1 ∨ i = 2 ∨ i = 3 ∨ i = 4 ∨ i = 5 ∨ i = 6 ∨ i = 7 ∨ i = 8 ∨ i = 9 ∨ i = 10 ∨ i = 11 ∨ i = 12 ∨ i = 13 ∨ i = 14 ∨ i = 15 ∨ i = 16 ∨ i = 17 ∨ i = 18 ∨ i = 19 ∨ i = 20 ∨ i = 21 ∨ i = 22 ∨ i = 23 ∨ i = 24 ∨ i = 25 ∨ i = 26 ∨ i = 27 ∨ i = 28 ∨ i = 29 ∨ i = 30 ∨ i = 31 ∨ i = 32 ∨ i = 33 ∨ i = 34 ∨ i = 35 ∨ i = 36 ∨ i = 37 ∨ i = 38 ∨ i = 39 ∨ i = 40 ∨ i = 41 ∨ i = 42 ∨ i = 43 ∨ i = 44 ∨ i = 45 ∨ i = 46 ∨ i = 47 ∨ i = 48 ∨ i = 49 ∨ i = 50 ∨ i = 51 ∨ i = 52 ∨ i = 53 ∨ i = 54 ∨ i = 55 ∨ i = 56 ∨ i = 57 ∨ i = 58 ∨ i = 59 ∨ i = 60 ∨ i = 61 ∨ i = 62 ∨ i = 63 ∨ i = 64 ∨ i = 65 ∨ i = 66 ∨ i = 67 ∨ i = 68 ∨ i = 69 ∨ i = 70 ∨ i = 71 ∨ i = 72 ∨ i = 73 ∨ i = 74) with rfl | rfl | rfl | rfl | rfl | rfl | rfl | rfl | rfl | rfl | rfl | rfl | rfl | rfl | rfl | rfl | rfl | rfl | rfl | rfl | rfl | rfl | rfl | rfl | rfl | rfl | rfl | rfl | rfl | rfl | rfl | rfl | rfl | rfl | rfl | rfl | rfl | rfl | rfl | rfl | rfl | rfl | rfl | rfl | rfl | rfl | rfl | rfl | rfl | rfl | rfl | rfl | rfl | rfl | rfl | rfl | rfl | rfl | rfl | rfl | rfl | rfl | rfl | rfl | rfl | rfl | rfl | rfl | rfl | rfl | rfl | rfl | rfl | rfl | rfl
        · obtain rfl := Rg.SI ho
          have z12 : a'.eval (.tmp 12) = .slice (some ⟨gu, 0, none⟩) 1 cu := hF.fx 12 _ (by simp)
          refine .inl ⟨Rg.want_none rfl, Rg.rel_val 55 rfl (v := .slice (some ⟨gu, 0, none⟩) 1 cu) rfl ?_⟩
          clear hF hbw hdep hi13
          obtain ⟨hcst, hfn⟩ := Rg.evc a'
          generalize a'.eval = ev at *
          go_simp
          try (first | go_num | (simp [IntKind.wrap, IntKind.bits, IntKind.signed]; omega))
        · obtain rfl := Rg.SI ho
          have z55 : a'.eval (.tmp 55) = .slice (some ⟨gu, 0, none⟩) 1 cu := hdep ⟨0, .data⟩ (by simp) rfl _ 55 rfl rfl
          refine .inl ⟨Rg.want_none rfl, Rg.rel_val 56 rfl (v := .int .i64 1) rfl ?_⟩
          clear hF hbw hdep hi13
          obtain ⟨hcst, hfn⟩ := Rg.evc a'
          generalize a'.eval = ev at *
          go_simp
          try (first | go_num | (simp [IntKind.wrap, IntKind.bits, IntKind.signed]; omega))
        · obtain rfl := Rg.SI ho
          have z11 : a'.eval (.tmp 11) = .slice Gt 0 ct := hF.fx 11 _ (by simp)
          refine .inl ⟨Rg.want_none rfl, Rg.rel_val 57 rfl (v := .slice Gt 0 ct) rfl ?_⟩
          clear hF hbw hdep hi13
          obtain ⟨hcst, hfn⟩ := Rg.evc a'
          generalize a'.eval = ev at *
          go_simp
          try (first | go_num | (simp [IntKind.wrap, IntKind.bits, IntKind.signed]; omega))
        · obtain rfl := Rg.SI ho
          have z57 : a'.eval (.tmp 57) = .slice Gt 0 ct := hdep ⟨2, .data⟩ (by simp) rfl _ 57 rfl rfl
          refine .inl ⟨Rg.want_none rfl, Rg.rel_val 58 rfl (v := .int .i64 0) rfl ?_⟩
          clear hF hbw hdep hi13
          obtain ⟨hcst, hfn⟩ := Rg.evc a'
          generalize a'.eval = ev at *
          go_simp
          try (first | go_num | (simp [IntKind.wrap, IntKind.bits, IntKind.signed]; omega))
        · obtain rfl := Rg.SI ho
          have z58 : a'.eval (.tmp 58) = .int .i64 0 := hdep ⟨3, .data⟩ (by simp) rfl _ 58 rfl rfl
          refine .inl ⟨Rg.want_none rfl, Rg.rel_val 59 rfl (v := .int .i64 1) rfl ?_⟩
          clear hF hbw hdep hi13
          obtain ⟨hcst, hfn⟩ := Rg.evc a'
          generalize a'.eval = ev at *
          go_simp
          try (first | go_num | (simp [IntKind.wrap, IntKind.bits, IntKind.signed]; omega))
        · obtain rfl := Rg.SI ho
          have z56 : a'.eval (.tmp 56) = .int .i64 1 := hdep ⟨1, .data⟩ (by simp) rfl _ 56 rfl rfl
          have z59 : a'.eval (.tmp 59) = .int .i64 1 := hdep ⟨4, .data⟩ (by simp) rfl _ 59 rfl rfl
          refine .inl ⟨Rg.want_none rfl, Rg.rel_val 60 rfl (v := .bool true) rfl ?_⟩
          clear hF hbw hdep hi13
          obtain ⟨hcst, hfn⟩ := Rg.evc a'
          generalize a'.eval = ev at *
          go_simp
          try (first | go_num | (simp [IntKind.wrap, IntKind.bits, IntKind.signed]; omega))
        · obtain rfl := Rg.SI ho
          have z60 : a'.eval (.tmp 60) = .bool true := hdep ⟨5, .data⟩ (by simp) rfl _ 60 rfl rfl
          refine .inl ⟨Rg.want_none rfl, Rg.rel_val 61 rfl (v := .bool true) rfl ?_⟩
          clear hF hbw hdep hi13
          obtain ⟨hcst, hfn⟩ := Rg.evc a'
          generalize a'.eval = ev at *
          go_simp
          try (first | go_num | (simp [IntKind.wrap, IntKind.bits, IntKind.signed]; omega))
        · obtain rfl := Rg.SI ho
          have zg : a'.eval (.tmp 61) = .bool true := hdep ⟨6, .guard⟩ (by simp) rfl _ 61 rfl rfl
          have z12 : a'.eval (.tmp 12) = .slice (some ⟨gu, 0, none⟩) 1 cu := hF.fx 12 _ (by simp)
          refine .inl ⟨Rg.want_at rfl rfl rfl hF.sz (by decide) zg, Rg.rel_val 62 rfl (v := .slice (some ⟨gu, 0, none⟩) 1 cu) rfl ?_⟩
          clear hF hbw hdep hi13
          obtain ⟨hcst, hfn⟩ := Rg.evc a'
          generalize a'.eval = ev at *
          go_simp
          try (first | go_num | (simp [IntKind.wrap, IntKind.bits, IntKind.signed]; omega))
        · obtain rfl := Rg.SI ho
          have zg : a'.eval (.tmp 61) = .bool true := hdep ⟨6, .guard⟩ (by simp) rfl _ 61 rfl rfl
          have z62 : a'.eval (.tmp 62) = .slice (some ⟨gu, 0, none⟩) 1 cu := hdep ⟨7, .data⟩ (by simp) rfl _ 62 rfl rfl
          refine .inl ⟨Rg.want_at rfl rfl rfl hF.sz (by decide) zg, Rg.rel_val 63 rfl (v := .pointer (some ⟨gu, 0, none⟩)) rfl ?_⟩
          clear hF hbw hdep hi13
          obtain ⟨hcst, hfn⟩ := Rg.evc a'
          generalize a'.eval = ev at *
          go_simp
          try (first | go_num | (simp [IntKind.wrap, IntKind.bits, IntKind.signed]; omega))
        · obtain rfl := Rg.SI ho
          have zg : a'.eval (.tmp 61) = .bool true := hdep ⟨6, .guard⟩ (by simp) rfl _ 61 rfl rfl
          have z63 : a'.eval (.tmp 63) = .pointer (some ⟨gu, 0, none⟩) := hdep ⟨8, .data⟩ (by simp) rfl _ 63 rfl rfl
          refine .inl ⟨Rg.want_at rfl rfl rfl hF.sz (by decide) zg, Rg.rel_val 64 rfl (v := .pointer (some ⟨gu, 4, none⟩)) rfl ?_⟩
          clear hF hbw hdep hi13
          obtain ⟨hcst, hfn⟩ := Rg.evc a'
          generalize a'.eval = ev at *
          go_simp
          try (first | go_num | (simp [IntKind.wrap, IntKind.bits, IntKind.signed]; omega))
        · obtain rfl := Rg.SI ho
          have zg : a'.eval (.tmp 61) = .bool true := hdep ⟨6, .guard⟩ (by simp) rfl _ 61 rfl rfl
          have z64 : a'.eval (.tmp 64) = .pointer (some ⟨gu, 4, none⟩) := hdep ⟨9, .data⟩ (by simp) rfl _ 64 rfl rfl
          obtain ⟨r0, r1, r2, r3, r4, rt, ru⟩ := RU.out w' (W8.out.trans (hbw.mono W8.out.size))
          refine .inl ⟨Rg.want_at rfl rfl rfl hF.sz (by decide) zg, Rg.rel_val 65 rfl (v := .int .i64 n) rfl ?_⟩
          clear hF hbw hdep hi13
          obtain ⟨hcst, hfn⟩ := Rg.evc a'
          generalize a'.eval = ev at *
          go_simp
          try (first | go_num | (simp [IntKind.wrap, IntKind.bits, IntKind.signed]; omega))
        · obtain rfl := Rg.SI ho
          have zg : a'.eval (.tmp 61) = .bool true := hdep ⟨6, .guard⟩ (by simp) rfl _ 61 rfl rfl
          have z3 : a'.eval (.tmp 3) = .int .i64 n := hF.fx 3 _ (by simp)
          refine .inl ⟨Rg.want_at rfl rfl rfl hF.sz (by decide) zg, Rg.rel_val 66 rfl (v := .int .i64 n) rfl ?_⟩
          clear hF hbw hdep hi13
          obtain ⟨hcst, hfn⟩ := Rg.evc a'
          generalize a'.eval = ev at *
          go_simp
          try (first | go_num | (simp [IntKind.wrap, IntKind.bits, IntKind.signed]; omega))
        · obtain rfl := Rg.SI ho
          have zg : a'.eval (.tmp 61) = .bool true := hdep ⟨6, .guard⟩ (by simp) rfl _ 61 rfl rfl
          have z65 : a'.eval (.tmp 65) = .int .i64 n := hdep ⟨10, .data⟩ (by simp) rfl _ 65 rfl rfl
          have z66 : a'.eval (.tmp 66) = .int .i64 n := hdep ⟨11, .data⟩ (by simp) rfl _ 66 rfl rfl
          refine .inl ⟨Rg.want_at rfl rfl rfl hF.sz (by decide) zg, Rg.rel_val 67 rfl (v := .bool true) rfl ?_⟩
          clear hF hbw hdep hi13
          obtain ⟨hcst, hfn⟩ := Rg.evc a'
          generalize a'.eval = ev at *
          go_simp
          try (first | go_num | (simp [IntKind.wrap, IntKind.bits, IntKind.signed]; omega))
        · obtain rfl := Rg.SI ho
          have z61 : a'.eval (.tmp 61) = .bool true := hdep ⟨6, .data⟩ (by simp) rfl _ 61 rfl rfl
          have z67 : a'.eval (.tmp 67) = .bool true := hdep ⟨12, .data⟩ (by simp) rfl _ 67 rfl rfl
          refine .inl ⟨Rg.want_none rfl, Rg.rel_val 68 rfl (v := .bool true) rfl ?_⟩
          clear hF hbw hdep hi13
          obtain ⟨hcst, hfn⟩ := Rg.evc a'
          generalize a'.eval = ev at *
          go_simp
          try (first | go_num | (simp [IntKind.wrap, IntKind.bits, IntKind.signed]; omega))
        · obtain rfl := Rg.SI ho
          have z68 : a'.eval (.tmp 68) = .bool true := hdep ⟨13, .data⟩ (by simp) rfl _ 68 rfl rfl
          refine .inl ⟨Rg.want_none rfl, Rg.rel_val 69 rfl (v := .bool true) rfl ?_⟩
          clear hF hbw hdep hi13
          obtain ⟨hcst, hfn⟩ := Rg.evc a'
          generalize a'.eval = ev at *
          go_simp
          try (first | go_num | (simp [IntKind.wrap, IntKind.bits, IntKind.signed]; omega))
        · obtain rfl := Rg.SI ho
          have zg : a'.eval (.tmp 69) = .bool true := hdep ⟨14, .guard⟩ (by simp) rfl _ 69 rfl rfl
          have z12 : a'.eval (.tmp 12) = .slice (some ⟨gu, 0, none⟩) 1 cu := hF.fx 12 _ (by simp)
          refine .inl ⟨Rg.want_at rfl rfl rfl hF.sz (by decide) zg, Rg.rel_val 70 rfl (v := .slice (some ⟨gu, 0, none⟩) 1 cu) rfl ?_⟩
          clear hF hbw hdep hi13
          obtain ⟨hcst, hfn⟩ := Rg.evc a'
          generalize a'.eval = ev at *
          go_simp
          try (first | go_num | (simp [IntKind.wrap, IntKind.bits, IntKind.signed]; omega))
        · obtain rfl := Rg.SI ho
          have zg : a'.eval (.tmp 69) = .bool true := hdep ⟨14, .guard⟩ (by simp) rfl _ 69 rfl rfl
          have z70 : a'.eval (.tmp 70) = .slice (some ⟨gu, 0, none⟩) 1 cu := hdep ⟨15, .data⟩ (by simp) rfl _ 70 rfl rfl
          refine .inl ⟨Rg.want_at rfl rfl rfl hF.sz (by decide) zg, Rg.rel_val 71 rfl (v := .pointer (some ⟨gu, 0, none⟩)) rfl ?_⟩
          clear hF hbw hdep hi13
          obtain ⟨hcst, hfn⟩ := Rg.evc a'
          generalize a'.eval = ev at *
          go_simp
          try (first | go_num | (simp [IntKind.wrap, IntKind.bits, IntKind.signed]; omega))
        · obtain rfl := Rg.SI ho
          have zg : a'.eval (.tmp 69) = .bool true := hdep ⟨14, .guard⟩ (by simp) rfl _ 69 rfl rfl
          have z71 : a'.eval (.tmp 71) = .pointer (some ⟨gu, 0, none⟩) := hdep ⟨16, .data⟩ (by simp) rfl _ 71 rfl rfl
          refine .inl ⟨Rg.want_at rfl rfl rfl hF.sz (by decide) zg, Rg.rel_val 72 rfl (v := .pointer (some ⟨gu, 0, none⟩)) rfl ?_⟩
          clear hF hbw hdep hi13
          obtain ⟨hcst, hfn⟩ := Rg.evc a'
          generalize a'.eval = ev at *
          go_simp
          try (first | go_num | (simp [IntKind.wrap, IntKind.bits, IntKind.signed]; omega))
        · obtain rfl := Rg.SI ho
          have zg : a'.eval (.tmp 69) = .bool true := hdep ⟨14, .guard⟩ (by simp) rfl _ 69 rfl rfl
          have z72 : a'.eval (.tmp 72) = .pointer (some ⟨gu, 0, none⟩) := hdep ⟨17, .data⟩ (by simp) rfl _ 72 rfl rfl
          obtain ⟨r0, r1, r2, r3, r4, rt, ru⟩ := RU.out w' (W8.out.trans (hbw.mono W8.out.size))
          refine .inl ⟨Rg.want_at rfl rfl rfl hF.sz (by decide) zg, Rg.rel_val 73 rfl (v := .agg #[.int .i8 k1, .slice T1 s1 d1]) rfl ?_⟩
          clear hF hbw hdep hi13
          obtain ⟨hcst, hfn⟩ := Rg.evc a'
          generalize a'.eval = ev at *
          go_simp
          try (first | go_num | (simp [IntKind.wrap, IntKind.bits, IntKind.signed]; omega))
        · obtain rfl := Rg.SI ho
          have zg : a'.eval (.tmp 69) = .bool true := hdep ⟨14, .guard⟩ (by simp) rfl _ 69 rfl rfl
          have z5 : a'.eval (.tmp 5) = .pointer (some ⟨w.heap.size + 1, 0, none⟩) := hF.fx 5 _ (by simp)
          obtain ⟨x0, x1, -, -, xl⟩ := own2 (heap_below (W8.out.trans (hbw.mono W8.out.size)) (heap_lt X5.out) X5.out)
          refine .inl ⟨Rg.want_at rfl rfl rfl hF.sz (by decide) zg, Rg.rel_val 74 rfl (v := .agg #[.int .i8 k1, .slice A1 n1 c1]) rfl ?_⟩
          clear hF hbw hdep hi13
          obtain ⟨hcst, hfn⟩ := Rg.evc a'
          generalize a'.eval = ev at *
          go_simp
          try (first | go_num | (simp [IntKind.wrap, IntKind.bits, IntKind.signed]; omega))
        · obtain rfl := Rg.SI ho
          have zg : a'.eval (.tmp 69) = .bool true := hdep ⟨14, .guard⟩ (by simp) rfl _ 69 rfl rfl
          have z73 : a'.eval (.tmp 73) = .agg #[.int .i8 k1, .slice T1 s1 d1] := hdep ⟨18, .data⟩ (by simp) rfl _ 73 rfl rfl
          have z74 : a'.eval (.tmp 74) = .agg #[.int .i8 k1, .slice A1 n1 c1] := hdep ⟨19, .data⟩ (by simp) rfl _ 74 rfl rfl
          obtain ⟨r0, r1, r2, r3, r4, rt, ru⟩ := RU.out w' (W8.out.trans (hbw.mono W8.out.size))
          refine .inl ⟨Rg.want_at rfl rfl rfl hF.sz (by decide) zg, Rg.rel_call 75 rfl (CM1.out w' T1 s1 d1 (W8.out.trans (hbw.mono W8.out.size)) rt) (fun e u hg => ?_) ?_⟩
          · obtain ⟨rfl, hb⟩ := hg
            exact ⟨_, rfl, rfl, hb⟩
          · clear hF hdep hi13
            obtain ⟨hcst, hfn⟩ := Rg.evc a'
            generalize a'.eval = ev at *
            go_simp
            try (first | rfl | exact ⟨rfl, rfl⟩ | exact ⟨rfl, rfl, rfl⟩ | exact ⟨rfl, rfl, rfl, rfl, rfl, rfl, rfl, rfl⟩ | exact ⟨rfl, rfl, rfl, rfl, rfl, ⟨rfl, rfl, rfl⟩, rfl, ⟨rfl, rfl, rfl⟩, rfl, rfl, rfl, rfl, rfl⟩)
        · obtain rfl := Rg.SI ho
          have z69 : a'.eval (.tmp 69) = .bool true := hdep ⟨14, .data⟩ (by simp) rfl _ 69 rfl rfl
          have z75 : a'.eval (.tmp 75) = .bool true := hdep ⟨20, .data⟩ (by simp) rfl _ 75 rfl rfl
          refine .inl ⟨Rg.want_none rfl, Rg.rel_val 76 rfl (v := .bool true) rfl ?_⟩
          clear hF hbw hdep hi13
          obtain ⟨hcst, hfn⟩ := Rg.evc a'
          generalize a'.eval = ev at *
          go_simp
          try (first | go_num | (simp [IntKind.wrap, IntKind.bits, IntKind.signed]; omega))
        · obtain rfl := Rg.SI ho
          have z76 : a'.eval (.tmp 76) = .bool true := hdep ⟨21, .data⟩ (by simp) rfl _ 76 rfl rfl
          refine .inl ⟨Rg.want_none rfl, Rg.rel_val 77 rfl (v := .bool true) rfl ?_⟩
          clear hF hbw hdep hi13
          obtain ⟨hcst, hfn⟩ := Rg.evc a'
          generalize a'.eval = ev at *
          go_simp
          try (first | go_num | (simp [IntKind.wrap, IntKind.bits, IntKind.signed]; omega))
        · obtain rfl := Rg.SI ho
          have zg : a'.eval (.tmp 77) = .bool true := hdep ⟨22, .guard⟩ (by simp) rfl _ 77 rfl rfl
          have z12 : a'.eval (.tmp 12) = .slice (some ⟨gu, 0, none⟩) 1 cu := hF.fx 12 _ (by simp)
          refine .inl ⟨Rg.want_at rfl rfl rfl hF.sz (by decide) zg, Rg.rel_val 78 rfl (v := .slice (some ⟨gu, 0, none⟩) 1 cu) rfl ?_⟩
          clear hF hbw hdep hi13
          obtain ⟨hcst, hfn⟩ := Rg.evc a'
          generalize a'.eval = ev at *
          go_simp
          try (first | go_num | (simp [IntKind.wrap, IntKind.bits, IntKind.signed]; omega))
        · obtain rfl := Rg.SI ho
          have zg : a'.eval (.tmp 77) = .bool true := hdep ⟨22, .guard⟩ (by simp) rfl _ 77 rfl rfl
          have z78 : a'.eval (.tmp 78) = .slice (some ⟨gu, 0, none⟩) 1 cu := hdep ⟨23, .data⟩ (by simp) rfl _ 78 rfl rfl
          refine .inl ⟨Rg.want_at rfl rfl rfl hF.sz (by decide) zg, Rg.rel_val 79 rfl (v := .pointer (some ⟨gu, 0, none⟩)) rfl ?_⟩
          clear hF hbw hdep hi13
          obtain ⟨hcst, hfn⟩ := Rg.evc a'
          generalize a'.eval = ev at *
          go_simp
          try (first | go_num | (simp [IntKind.wrap, IntKind.bits, IntKind.signed]; omega))
        · obtain rfl := Rg.SI ho
          have zg : a'.eval (.tmp 77) = .bool true := hdep ⟨22, .guard⟩ (by simp) rfl _ 77 rfl rfl
          have z79 : a'.eval (.tmp 79) = .pointer (some ⟨gu, 0, none⟩) := hdep ⟨24, .data⟩ (by simp) rfl _ 79 rfl rfl
          refine .inl ⟨Rg.want_at rfl rfl rfl hF.sz (by decide) zg, Rg.rel_val 80 rfl (v := .pointer (some ⟨gu, 2, none⟩)) rfl ?_⟩
          clear hF hbw hdep hi13
          obtain ⟨hcst, hfn⟩ := Rg.evc a'
          generalize a'.eval = ev at *
          go_simp
          try (first | go_num | (simp [IntKind.wrap, IntKind.bits, IntKind.signed]; omega))
        · obtain rfl := Rg.SI ho
          have zg : a'.eval (.tmp 77) = .bool true := hdep ⟨22, .guard⟩ (by simp) rfl _ 77 rfl rfl
          have z80 : a'.eval (.tmp 80) = .pointer (some ⟨gu, 2, none⟩) := hdep ⟨25, .data⟩ (by simp) rfl _ 80 rfl rfl
          obtain ⟨r0, r1, r2, r3, r4, rt, ru⟩ := RU.out w' (W8.out.trans (hbw.mono W8.out.size))
          refine .inl ⟨Rg.want_at rfl rfl rfl hF.sz (by decide) zg, Rg.rel_val 81 rfl (v := .agg #[.int .i8 k2, .slice T2 s2 d2]) rfl ?_⟩
          clear hF hbw hdep hi13
          obtain ⟨hcst, hfn⟩ := Rg.evc a'
          generalize a'.eval = ev at *
          go_simp
          try (first | go_num | (simp [IntKind.wrap, IntKind.bits, IntKind.signed]; omega))
        · obtain rfl := Rg.SI ho
          have zg : a'.eval (.tmp 77) = .bool true := hdep ⟨22, .guard⟩ (by simp) rfl _ 77 rfl rfl
          have z6 : a'.eval (.tmp 6) = .pointer (some ⟨w.heap.size + 1 + 1, 0, none⟩) := hF.fx 6 _ (by simp)
          obtain ⟨x0, x1, -, -, xl⟩ := own2 (heap_below (W8.out.trans (hbw.mono W8.out.size)) (heap_lt X6.out) X6.out)
          refine .inl ⟨Rg.want_at rfl rfl rfl hF.sz (by decide) zg, Rg.rel_val 82 rfl (v := .agg #[.int .i8 k2, .slice A2 n2 c2]) rfl ?_⟩
          clear hF hbw hdep hi13
          obtain ⟨hcst, hfn⟩ := Rg.evc a'
          generalize a'.eval = ev at *
          go_simp
          try (first | go_num | (simp [IntKind.wrap, IntKind.bits, IntKind.signed]; omega))
        · obtain rfl := Rg.SI ho
          have zg : a'.eval (.tmp 77) = .bool true := hdep ⟨22, .guard⟩ (by simp) rfl _ 77 rfl rfl
          have z81 : a'.eval (.tmp 81) = .agg #[.int .i8 k2, .slice T2 s2 d2] := hdep ⟨26, .data⟩ (by simp) rfl _ 81 rfl rfl
          have z82 : a'.eval (.tmp 82) = .agg #[.int .i8 k2, .slice A2 n2 c2] := hdep ⟨27, .data⟩ (by simp) rfl _ 82 rfl rfl
          obtain ⟨r0, r1, r2, r3, r4, rt, ru⟩ := RU.out w' (W8.out.trans (hbw.mono W8.out.size))
          refine .inl ⟨Rg.want_at rfl rfl rfl hF.sz (by decide) zg, Rg.rel_call 83 rfl (CM2.out w' T2 s2 d2 (W8.out.trans (hbw.mono W8.out.size)) ru) (fun e u hg => ?_) ?_⟩
          · obtain ⟨rfl, hb⟩ := hg
            exact ⟨_, rfl, rfl, hb⟩
          · clear hF hdep hi13
            obtain ⟨hcst, hfn⟩ := Rg.evc a'
            generalize a'.eval = ev at *
            go_simp
            try (first | rfl | exact ⟨rfl, rfl⟩ | exact ⟨rfl, rfl, rfl⟩ | exact ⟨rfl, rfl, rfl, rfl, rfl, rfl, rfl, rfl⟩ | exact ⟨rfl, rfl, rfl, rfl, rfl, ⟨rfl, rfl, rfl⟩, rfl, ⟨rfl, rfl, rfl⟩, rfl, rfl, rfl, rfl, rfl⟩)
        · obtain rfl := Rg.SI ho
          have z77 : a'.eval (.tmp 77) = .bool true := hdep ⟨22, .data⟩ (by simp) rfl _ 77 rfl rfl
          have z83 : a'.eval (.tmp 83) = .bool true := hdep ⟨28, .data⟩ (by simp) rfl _ 83 rfl rfl
          refine .inl ⟨Rg.want_none rfl, Rg.rel_val 84 rfl (v := .bool true) rfl ?_⟩
          clear hF hbw hdep hi13
          obtain ⟨hcst, hfn⟩ := Rg.evc a'
          generalize a'.eval = ev at *
          go_simp
          try (first | go_num | (simp [IntKind.wrap, IntKind.bits, IntKind.signed]; omega))
        · obtain rfl := Rg.SI ho
          have z84 : a'.eval (.tmp 84) = .bool true := hdep ⟨29, .data⟩ (by simp) rfl _ 84 rfl rfl
          refine .inl ⟨Rg.want_none rfl, Rg.rel_val 85 rfl (v := .bool true) rfl ?_⟩
          clear hF hbw hdep hi13
          obtain ⟨hcst, hfn⟩ := Rg.evc a'
          generalize a'.eval = ev at *
          go_simp
          try (first | go_num | (simp [IntKind.wrap, IntKind.bits, IntKind.signed]; omega))
        · obtain rfl := Rg.SI ho
          have zg : a'.eval (.tmp 85) = .bool true := hdep ⟨30, .guard⟩ (by simp) rfl _ 85 rfl rfl
          have z13 : a'.eval (.tmp 13) = .slice Gv 1 cv := hF.fx 13 _ (by simp)
          refine .inl ⟨Rg.want_at rfl rfl rfl hF.sz (by decide) zg, Rg.rel_val 86 rfl (v := .slice Gv 1 cv) rfl ?_⟩
          clear hF hbw hdep hi13
          obtain ⟨hcst, hfn⟩ := Rg.evc a'
          generalize a'.eval = ev at *
          go_simp
          try (first | go_num | (simp [IntKind.wrap, IntKind.bits, IntKind.signed]; omega))
        · obtain rfl := Rg.SI ho
          have zg : a'.eval (.tmp 85) = .bool true := hdep ⟨30, .guard⟩ (by simp) rfl _ 85 rfl rfl
          have z86 : a'.eval (.tmp 86) = .slice Gv 1 cv := hdep ⟨31, .data⟩ (by simp) rfl _ 86 rfl rfl
          refine .inl ⟨Rg.want_at rfl rfl rfl hF.sz (by decide) zg, Rg.rel_val 87 rfl (v := .int .i64 1) rfl ?_⟩
          clear hF hbw hdep hi13
          obtain ⟨hcst, hfn⟩ := Rg.evc a'
          generalize a'.eval = ev at *
          go_simp
          try (first | go_num | (simp [IntKind.wrap, IntKind.bits, IntKind.signed]; omega))
        · obtain rfl := Rg.SI ho
          have zg : a'.eval (.tmp 85) = .bool true := hdep ⟨30, .guard⟩ (by simp) rfl _ 85 rfl rfl
          have z11 : a'.eval (.tmp 11) = .slice Gt 0 ct := hF.fx 11 _ (by simp)
          refine .inl ⟨Rg.want_at rfl rfl rfl hF.sz (by decide) zg, Rg.rel_val 88 rfl (v := .slice Gt 0 ct) rfl ?_⟩
          clear hF hbw hdep hi13
          obtain ⟨hcst, hfn⟩ := Rg.evc a'
          generalize a'.eval = ev at *
          go_simp
          try (first | go_num | (simp [IntKind.wrap, IntKind.bits, IntKind.signed]; omega))
        · obtain rfl := Rg.SI ho
          have zg : a'.eval (.tmp 85) = .bool true := hdep ⟨30, .guard⟩ (by simp) rfl _ 85 rfl rfl
          have z88 : a'.eval (.tmp 88) = .slice Gt 0 ct := hdep ⟨33, .data⟩ (by simp) rfl _ 88 rfl rfl
          refine .inl ⟨Rg.want_at rfl rfl rfl hF.sz (by decide) zg, Rg.rel_val 89 rfl (v := .int .i64 0) rfl ?_⟩
          clear hF hbw hdep hi13
          obtain ⟨hcst, hfn⟩ := Rg.evc a'
          generalize a'.eval = ev at *
          go_simp
          try (first | go_num | (simp [IntKind.wrap, IntKind.bits, IntKind.signed]; omega))
        · obtain rfl := Rg.SI ho
          have zg : a'.eval (.tmp 85) = .bool true := hdep ⟨30, .guard⟩ (by simp) rfl _ 85 rfl rfl
          have z12 : a'.eval (.tmp 12) = .slice (some ⟨gu, 0, none⟩) 1 cu := hF.fx 12 _ (by simp)
          refine .inl ⟨Rg.want_at rfl rfl rfl hF.sz (by decide) zg, Rg.rel_val 90 rfl (v := .slice (some ⟨gu, 0, none⟩) 1 cu) rfl ?_⟩
          clear hF hbw hdep hi13
          obtain ⟨hcst, hfn⟩ := Rg.evc a'
          generalize a'.eval = ev at *
          go_simp
          try (first | go_num | (simp [IntKind.wrap, IntKind.bits, IntKind.signed]; omega))
        · obtain rfl := Rg.SI ho
          have zg : a'.eval (.tmp 85) = .bool true := hdep ⟨30, .guard⟩ (by simp) rfl _ 85 rfl rfl
          have z90 : a'.eval (.tmp 90) = .slice (some ⟨gu, 0, none⟩) 1 cu := hdep ⟨35, .data⟩ (by simp) rfl _ 90 rfl rfl
          refine .inl ⟨Rg.want_at rfl rfl rfl hF.sz (by decide) zg, Rg.rel_val 91 rfl (v := .int .i64 1) rfl ?_⟩
          clear hF hbw hdep hi13
          obtain ⟨hcst, hfn⟩ := Rg.evc a'
          generalize a'.eval = ev at *
          go_simp
          try (first | go_num | (simp [IntKind.wrap, IntKind.bits, IntKind.signed]; omega))
        · obtain rfl := Rg.SI ho
          have zg : a'.eval (.tmp 85) = .bool true := hdep ⟨30, .guard⟩ (by simp) rfl _ 85 rfl rfl
          have z89 : a'.eval (.tmp 89) = .int .i64 0 := hdep ⟨34, .data⟩ (by simp) rfl _ 89 rfl rfl
          have z91 : a'.eval (.tmp 91) = .int .i64 1 := hdep ⟨36, .data⟩ (by simp) rfl _ 91 rfl rfl
          refine .inl ⟨Rg.want_at rfl rfl rfl hF.sz (by decide) zg, Rg.rel_val 92 rfl (v := .int .i64 1) rfl ?_⟩
          clear hF hbw hdep hi13
          obtain ⟨hcst, hfn⟩ := Rg.evc a'
          generalize a'.eval = ev at *
          go_simp
          try (first | go_num | (simp [IntKind.wrap, IntKind.bits, IntKind.signed]; omega))
        · obtain rfl := Rg.SI ho
          have zg : a'.eval (.tmp 85) = .bool true := hdep ⟨30, .guard⟩ (by simp) rfl _ 85 rfl rfl
          have z87 : a'.eval (.tmp 87) = .int .i64 1 := hdep ⟨32, .data⟩ (by simp) rfl _ 87 rfl rfl
          have z92 : a'.eval (.tmp 92) = .int .i64 1 := hdep ⟨37, .data⟩ (by simp) rfl _ 92 rfl rfl
          refine .inl ⟨Rg.want_at rfl rfl rfl hF.sz (by decide) zg, Rg.rel_val 93 rfl (v := .bool true) rfl ?_⟩
          clear hF hbw hdep hi13
          obtain ⟨hcst, hfn⟩ := Rg.evc a'
          generalize a'.eval = ev at *
          go_simp
          try (first | go_num | (simp [IntKind.wrap, IntKind.bits, IntKind.signed]; omega))
        · obtain rfl := Rg.SI ho
          have z85 : a'.eval (.tmp 85) = .bool true := hdep ⟨30, .data⟩ (by simp) rfl _ 85 rfl rfl
          have z93 : a'.eval (.tmp 93) = .bool true := hdep ⟨38, .data⟩ (by simp) rfl _ 93 rfl rfl
          refine .inl ⟨Rg.want_none rfl, Rg.rel_val 94 rfl (v := .bool true) rfl ?_⟩
          clear hF hbw hdep hi13
          obtain ⟨hcst, hfn⟩ := Rg.evc a'
          generalize a'.eval = ev at *
          go_simp
          try (first | go_num | (simp [IntKind.wrap, IntKind.bits, IntKind.signed]; omega))
        · obtain rfl := Rg.SI ho
          have z94 : a'.eval (.tmp 94) = .bool true := hdep ⟨39, .data⟩ (by simp) rfl _ 94 rfl rfl
          refine .inl ⟨Rg.want_none rfl, Rg.rel_val 95 rfl (v := .bool true) rfl ?_⟩
          clear hF hbw hdep hi13
          obtain ⟨hcst, hfn⟩ := Rg.evc a'
          generalize a'.eval = ev at *
          go_simp
          try (first | go_num | (simp [IntKind.wrap, IntKind.bits, IntKind.signed]; omega))
        · obtain rfl := Rg.SI ho
          have zg : a'.eval (.tmp 95) = .bool true := hdep ⟨40, .guard⟩ (by simp) rfl _ 95 rfl rfl
          have z11 : a'.eval (.tmp 11) = .slice Gt 0 ct := hF.fx 11 _ (by simp)
          refine .inl ⟨Rg.want_at rfl rfl rfl hF.sz (by decide) zg, Rg.rel_val 96 rfl (v := .slice Gt 0 ct) rfl ?_⟩
          clear hF hbw hdep hi13
          obtain ⟨hcst, hfn⟩ := Rg.evc a'
          generalize a'.eval = ev at *
          go_simp
          try (first | go_num | (simp [IntKind.wrap, IntKind.bits, IntKind.signed]; omega))
        · obtain rfl := Rg.SI ho
          have zg : a'.eval (.tmp 95) = .bool true := hdep ⟨40, .guard⟩ (by simp) rfl _ 95 rfl rfl
          have z96 : a'.eval (.tmp 96) = .slice Gt 0 ct := hdep ⟨41, .data⟩ (by simp) rfl _ 96 rfl rfl
          refine .inl ⟨Rg.want_at rfl rfl rfl hF.sz (by decide) zg, Rg.rel_val 97 rfl (v := .int .i64 0) rfl ?_⟩
          clear hF hbw hdep hi13
          obtain ⟨hcst, hfn⟩ := Rg.evc a'
          generalize a'.eval = ev at *
          go_simp
          try (first | go_num | (simp [IntKind.wrap, IntKind.bits, IntKind.signed]; omega))
        · obtain rfl := Rg.SI ho
          have zg : a'.eval (.tmp 95) = .bool true := hdep ⟨40, .guard⟩ (by simp) rfl _ 95 rfl rfl
          have z97 : a'.eval (.tmp 97) = .int .i64 0 := hdep ⟨42, .data⟩ (by simp) rfl _ 97 rfl rfl
          refine .inl ⟨Rg.want_at rfl rfl rfl hF.sz (by decide) zg, Rg.rel_val 98 rfl (v := .bool true) rfl ?_⟩
          clear hF hbw hdep hi13
          obtain ⟨hcst, hfn⟩ := Rg.evc a'
          generalize a'.eval = ev at *
          go_simp
          try (first | go_num | (simp [IntKind.wrap, IntKind.bits, IntKind.signed]; omega))
        · obtain rfl := Rg.SI ho
          have zg : a'.eval (.tmp 95) = .bool true := hdep ⟨40, .guard⟩ (by simp) rfl _ 95 rfl rfl
          have z98 : a'.eval (.tmp 98) = .bool true := hdep ⟨43, .data⟩ (by simp) rfl _ 98 rfl rfl
          refine .inl ⟨Rg.want_at rfl rfl rfl hF.sz (by decide) zg, Rg.rel_val 99 rfl (v := .bool true) rfl ?_⟩
          clear hF hbw hdep hi13
          obtain ⟨hcst, hfn⟩ := Rg.evc a'
          generalize a'.eval = ev at *
          go_simp
          try (first | go_num | (simp [IntKind.wrap, IntKind.bits, IntKind.signed]; omega))
        · obtain rfl := Rg.SI ho
          have zg : a'.eval (.tmp 99) = .bool true := hdep ⟨44, .guard⟩ (by simp) rfl _ 99 rfl rfl
          exact .inr ⟨Rg.want_not rfl rfl rfl hF.sz (by decide) zg, rfl⟩
        · obtain rfl := Rg.SI ho
          have zg : a'.eval (.tmp 99) = .bool true := hdep ⟨44, .guard⟩ (by simp) rfl _ 99 rfl rfl
          exact .inr ⟨Rg.want_not rfl rfl rfl hF.sz (by decide) zg, rfl⟩
        · obtain rfl := Rg.SI ho
          have zg : a'.eval (.tmp 99) = .bool true := hdep ⟨44, .guard⟩ (by simp) rfl _ 99 rfl rfl
          exact .inr ⟨Rg.want_not rfl rfl rfl hF.sz (by decide) zg, rfl⟩
        · obtain rfl := Rg.SI ho
          have zg : a'.eval (.tmp 99) = .bool true := hdep ⟨44, .guard⟩ (by simp) rfl _ 99 rfl rfl
          exact .inr ⟨Rg.want_not rfl rfl rfl hF.sz (by decide) zg, rfl⟩
        · obtain rfl := Rg.SI ho
          have zg : a'.eval (.tmp 99) = .bool true := hdep ⟨44, .guard⟩ (by simp) rfl _ 99 rfl rfl
          exact .inr ⟨Rg.want_not rfl rfl rfl hF.sz (by decide) zg, rfl⟩
        · obtain rfl := Rg.SI ho
          have zg : a'.eval (.tmp 99) = .bool true := hdep ⟨44, .guard⟩ (by simp) rfl _ 99 rfl rfl
          exact .inr ⟨Rg.want_not rfl rfl rfl hF.sz (by decide) zg, rfl⟩
        · obtain rfl := Rg.SI ho
          have zg : a'.eval (.tmp 99) = .bool true := hdep ⟨44, .guard⟩ (by simp) rfl _ 99 rfl rfl
          exact .inr ⟨Rg.want_not rfl rfl rfl hF.sz (by decide) zg, rfl⟩
        · obtain rfl := Rg.SI ho
          have zg : a'.eval (.tmp 99) = .bool true := hdep ⟨44, .guard⟩ (by simp) rfl _ 99 rfl rfl
          exact .inr ⟨Rg.want_not rfl rfl rfl hF.sz (by decide) zg, rfl⟩
        · obtain rfl := Rg.SI ho
          have zg : a'.eval (.tmp 99) = .bool true := hdep ⟨44, .guard⟩ (by simp) rfl _ 99 rfl rfl
          exact .inr ⟨Rg.want_not rfl rfl rfl hF.sz (by decide) zg, rfl⟩
        · obtain rfl := Rg.SI ho
          have zg : a'.eval (.tmp 99) = .bool true := hdep ⟨44, .guard⟩ (by simp) rfl _ 99 rfl rfl
          exact .inr ⟨Rg.want_not rfl rfl rfl hF.sz (by decide) zg, rfl⟩
        · obtain rfl := Rg.SI ho
          have zg : a'.eval (.tmp 99) = .bool true := hdep ⟨44, .guard⟩ (by simp) rfl _ 99 rfl rfl
          exact .inr ⟨Rg.want_not rfl rfl rfl hF.sz (by decide) zg, rfl⟩
        · obtain rfl := Rg.SI ho
          have zg : a'.eval (.tmp 95) = .bool true := hdep ⟨40, .guard⟩ (by simp) rfl _ 95 rfl rfl
          have z99 : a'.eval (.tmp 99) = .bool true := hdep ⟨44, .data⟩ (by simp) rfl _ 99 rfl rfl
          have z110 : a'.eval (.tmp 110) = undef := hdep ⟨55, .data⟩ (by simp) rfl _ 110 rfl rfl
          refine .inl ⟨Rg.want_at rfl rfl rfl hF.sz (by decide) zg, Rg.rel_val 111 rfl (v := .bool true) rfl ?_⟩
          clear hF hbw hdep hi13
          obtain ⟨hcst, hfn⟩ := Rg.evc a'
          generalize a'.eval = ev at *
          go_simp
          try (first | go_num | (simp [IntKind.wrap, IntKind.bits, IntKind.signed]; omega))
        · obtain rfl := Rg.SI ho
          have z95 : a'.eval (.tmp 95) = .bool true := hdep ⟨40, .data⟩ (by simp) rfl _ 95 rfl rfl
          have z111 : a'.eval (.tmp 111) = .bool true := hdep ⟨56, .data⟩ (by simp) rfl _ 111 rfl rfl
          refine .inl ⟨Rg.want_none rfl, Rg.rel_val 112 rfl (v := .bool true) rfl ?_⟩
          clear hF hbw hdep hi13
          obtain ⟨hcst, hfn⟩ := Rg.evc a'
          generalize a'.eval = ev at *
          go_simp
          try (first | go_num | (simp [IntKind.wrap, IntKind.bits, IntKind.signed]; omega))
        · obtain rfl := Rg.SI ho
          have z112 : a'.eval (.tmp 112) = .bool true := hdep ⟨57, .data⟩ (by simp) rfl _ 112 rfl rfl
          refine .inl ⟨Rg.want_none rfl, Rg.rel_val 113 rfl (v := .bool true) rfl ?_⟩
          clear hF hbw hdep hi13
          obtain ⟨hcst, hfn⟩ := Rg.evc a'
          generalize a'.eval = ev at *
          go_simp
          try (first | go_num | (simp [IntKind.wrap, IntKind.bits, IntKind.signed]; omega))
        · obtain rfl := Rg.SI ho
          have zg : a'.eval (.tmp 113) = .bool true := hdep ⟨58, .guard⟩ (by simp) rfl _ 113 rfl rfl
          have z9 : a'.eval (.tmp 9) = .pointer (some ⟨w2.heap.size + 1, 0, none⟩) := hF.fx 9 _ (by simp)
          obtain ⟨q0, q1, q2, q3, q4, q5, q6, q7, q8, q9, q10, ql⟩ := own11 (heap_below (W8.out.trans (hbw.mono W8.out.size)) (heap_lt X9.out) X9.out)
          refine .inl ⟨Rg.want_at rfl rfl rfl hF.sz (by decide) zg, Rg.rel_val 114 rfl (v := .agg #[.int .i8 17, .string ⟨#[]⟩, .string ⟨#[]⟩, .int .i64 0, .int .i8 k1, .slice A1 n1 c1, .int .i8 k2, .slice A2 n2 c2, .int .i64 n, .int .i64 0, .slice (some ⟨w2.heap.size, 0, none⟩) 1 1]) rfl ?_⟩
          clear hF hbw hdep hi13
          obtain ⟨hcst, hfn⟩ := Rg.evc a'
          generalize a'.eval = ev at *
          go_simp
          try (first | go_num | (simp [IntKind.wrap, IntKind.bits, IntKind.signed]; omega))
        · obtain rfl := Rg.SI ho
          have zg : a'.eval (.tmp 113) = .bool true := hdep ⟨58, .guard⟩ (by simp) rfl _ 113 rfl rfl
          have z114 : a'.eval (.tmp 114) = .agg #[.int .i8 17, .string ⟨#[]⟩, .string ⟨#[]⟩, .int .i64 0, .int .i8 k1, .slice A1 n1 c1, .int .i8 k2, .slice A2 n2 c2, .int .i64 n, .int .i64 0, .slice (some ⟨w2.heap.size, 0, none⟩) 1 1] := hdep ⟨59, .data⟩ (by simp) rfl _ 114 rfl rfl
          refine .inl ⟨Rg.want_at rfl rfl rfl hF.sz (by decide) zg, Rg.rel_call 115 rfl (CHu.out w' (W8.out.trans (hbw.mono W8.out.size))) (fun e u hg => ?_) ?_⟩
          · obtain ⟨rfl, hb⟩ := hg
            exact ⟨_, rfl, rfl, hb⟩
          · clear hF hdep hi13
            obtain ⟨hcst, hfn⟩ := Rg.evc a'
            generalize a'.eval = ev at *
            go_simp
            try (first | rfl | exact ⟨rfl, rfl⟩ | exact ⟨rfl, rfl, rfl⟩ | exact ⟨rfl, rfl, rfl, rfl, rfl, rfl, rfl, rfl⟩ | exact ⟨rfl, rfl, rfl, rfl, rfl, ⟨rfl, rfl, rfl⟩, rfl, ⟨rfl, rfl, rfl⟩, rfl, rfl, rfl, rfl, rfl⟩)
        · obtain rfl := Rg.SI ho
          have zg : a'.eval (.tmp 113) = .bool true := hdep ⟨58, .guard⟩ (by simp) rfl _ 113 rfl rfl
          have z14 : a'.eval (.tmp 14) = .int .i64 (max K1 (K2 - 1)) := hF.fx 14 _ (by simp)
          refine .inl ⟨Rg.want_at rfl rfl rfl hF.sz (by decide) zg, Rg.rel_val 116 rfl (v := .int .i64 (max K1 (K2 - 1))) rfl ?_⟩
          clear hF hbw hdep hi13
          obtain ⟨hcst, hfn⟩ := Rg.evc a'
          generalize a'.eval = ev at *
          go_simp
          try (first | go_num | (simp [IntKind.wrap, IntKind.bits, IntKind.signed]; omega))
        · obtain rfl := Rg.SI ho
          have zg : a'.eval (.tmp 113) = .bool true := hdep ⟨58, .guard⟩ (by simp) rfl _ 113 rfl rfl
          have z115 : a'.eval (.tmp 115) = .int .i64 K3 := hdep ⟨60, .data⟩ (by simp) rfl _ 115 rfl rfl
          have z116 : a'.eval (.tmp 116) = .int .i64 (max K1 (K2 - 1)) := hdep ⟨61, .data⟩ (by simp) rfl _ 116 rfl rfl
          refine .inl ⟨Rg.want_at rfl rfl rfl hF.sz (by decide) zg, Rg.rel_val 117 rfl (v := .bool true) rfl ?_⟩
          clear hF hbw hdep hi13
          obtain ⟨hcst, hfn⟩ := Rg.evc a'
          generalize a'.eval = ev at *
          go_simp
          try (first | go_num | (simp [IntKind.wrap, IntKind.bits, IntKind.signed]; omega))
        · obtain rfl := Rg.SI ho
          have z113 : a'.eval (.tmp 113) = .bool true := hdep ⟨58, .data⟩ (by simp) rfl _ 113 rfl rfl
          have z117 : a'.eval (.tmp 117) = .bool true := hdep ⟨62, .data⟩ (by simp) rfl _ 117 rfl rfl
          refine .inl ⟨Rg.want_none rfl, Rg.rel_val 118 rfl (v := .bool true) rfl ?_⟩
          clear hF hbw hdep hi13
          obtain ⟨hcst, hfn⟩ := Rg.evc a'
          generalize a'.eval = ev at *
          go_simp
          try (first | go_num | (simp [IntKind.wrap, IntKind.bits, IntKind.signed]; omega))
        · obtain rfl := Rg.SI ho
          have z118 : a'.eval (.tmp 118) = .bool true := hdep ⟨63, .data⟩ (by simp) rfl _ 118 rfl rfl
          refine .inl ⟨Rg.want_none rfl, Rg.rel_val 119 rfl (v := .bool true) rfl ?_⟩
          clear hF hbw hdep hi13
          obtain ⟨hcst, hfn⟩ := Rg.evc a'
          generalize a'.eval = ev at *
          go_simp
          try (first | go_num | (simp [IntKind.wrap, IntKind.bits, IntKind.signed]; omega))
        · obtain rfl := Rg.SI ho
          have zg : a'.eval (.tmp 119) = .bool true := hdep ⟨64, .guard⟩ (by simp) rfl _ 119 rfl rfl
          have z9 : a'.eval (.tmp 9) = .pointer (some ⟨w2.heap.size + 1, 0, none⟩) := hF.fx 9 _ (by simp)
          obtain ⟨q0, q1, q2, q3, q4, q5, q6, q7, q8, q9, q10, ql⟩ := own11 (heap_below (W8.out.trans (hbw.mono W8.out.size)) (heap_lt X9.out) X9.out)
          refine .inl ⟨Rg.want_at rfl rfl rfl hF.sz (by decide) zg, Rg.rel_val 120 rfl (v := .agg #[.int .i8 17, .string ⟨#[]⟩, .string ⟨#[]⟩, .int .i64 0, .int .i8 k1, .slice A1 n1 c1, .int .i8 k2, .slice A2 n2 c2, .int .i64 n, .int .i64 0, .slice (some ⟨w2.heap.size, 0, none⟩) 1 1]) rfl ?_⟩
          clear hF hbw hdep hi13
          obtain ⟨hcst, hfn⟩ := Rg.evc a'
          generalize a'.eval = ev at *
          go_simp
          try (first | go_num | (simp [IntKind.wrap, IntKind.bits, IntKind.signed]; omega))
        · obtain rfl := Rg.SI ho
          have zg : a'.eval (.tmp 119) = .bool true := hdep ⟨64, .guard⟩ (by simp) rfl _ 119 rfl rfl
          have z120 : a'.eval (.tmp 120) = .agg #[.int .i8 17, .string ⟨#[]⟩, .string ⟨#[]⟩, .int .i64 0, .int .i8 k1, .slice A1 n1 c1, .int .i8 k2, .slice A2 n2 c2, .int .i64 n, .int .i64 0, .slice (some ⟨w2.heap.size, 0, none⟩) 1 1] := hdep ⟨65, .data⟩ (by simp) rfl _ 120 rfl rfl
          refine .inl ⟨Rg.want_at rfl rfl rfl hF.sz (by decide) zg, Rg.rel_call 121 rfl (CEu.out w' (W8.out.trans (hbw.mono W8.out.size))) (fun e u hg => ?_) ?_⟩
          · obtain ⟨p2, rfl, hs, hb⟩ := hg
            rw [CER.out.1, CER.out.2] at hs
            exact ⟨_, rfl, ⟨p2, by rw [CER.out.1], hs.is fun _ _ _ _ _ q => q⟩, hb⟩
          · clear hF hdep hi13
            obtain ⟨hcst, hfn⟩ := Rg.evc a'
            generalize a'.eval = ev at *
            go_simp
            try (first | rfl | exact ⟨rfl, rfl⟩ | exact ⟨rfl, rfl, rfl⟩ | exact ⟨rfl, rfl, rfl, rfl, rfl, rfl, rfl, rfl⟩ | exact ⟨rfl, rfl, rfl, rfl, rfl, ⟨rfl, rfl, rfl⟩, rfl, ⟨rfl, rfl, rfl⟩, rfl, rfl, rfl, rfl, rfl⟩)
        · obtain rfl := Rg.SI ho
          have zg : a'.eval (.tmp 119) = .bool true := hdep ⟨64, .guard⟩ (by simp) rfl _ 119 rfl rfl
          have z4 : a'.eval (.tmp 4) = .pointer (some ⟨w.heap.size, 0, none⟩) := hF.fx 4 _ (by simp)
          obtain ⟨q0, q1, q2, q3, q4, q5, q6, q7, q8, q9, q10, ql⟩ := own11 (heap_below (W8.out.trans (hbw.mono W8.out.size)) (heap_lt X4.out) X4.out)
          refine .inl ⟨Rg.want_at rfl rfl rfl hF.sz (by decide) zg, Rg.rel_val 122 rfl (v := .agg #[.int .i8 h.kind, .string h.name, .string h.arg, .int .i64 h.num, .int .i8 h.tk, .slice p.TA p.tn p.tc, .int .i8 h.uk, .slice p.UA p.un p.uc, .int .i64 h.label, .int .i64 h.pos, .slice p.A p.n p.c]) rfl ?_⟩
          clear hF hbw hdep hi13
          obtain ⟨hcst, hfn⟩ := Rg.evc a'
          generalize a'.eval = ev at *
          go_simp
          try (first | go_num | (simp [IntKind.wrap, IntKind.bits, IntKind.signed]; omega))
        · obtain rfl := Rg.SI ho
          have zg : a'.eval (.tmp 119) = .bool true := hdep ⟨64, .guard⟩ (by simp) rfl _ 119 rfl rfl
          have z122 : a'.eval (.tmp 122) = .agg #[.int .i8 h.kind, .string h.name, .string h.arg, .int .i64 h.num, .int .i8 h.tk, .slice p.TA p.tn p.tc, .int .i8 h.uk, .slice p.UA p.un p.uc, .int .i64 h.label, .int .i64 h.pos, .slice p.A p.n p.c] := hdep ⟨67, .data⟩ (by simp) rfl _ 122 rfl rfl
          refine .inl ⟨Rg.want_at rfl rfl rfl hF.sz (by decide) zg, Rg.rel_call 123 rfl (CEt.out w' (W8.out.trans (hbw.mono W8.out.size))) (fun e u hg => ?_) ?_⟩
          · obtain ⟨p2, rfl, hs, hb⟩ := hg
            exact ⟨_, rfl, ⟨p2, rfl, hs.is fun _ _ _ _ _ q => q⟩, hb⟩
          · clear hF hdep hi13
            obtain ⟨hcst, hfn⟩ := Rg.evc a'
            generalize a'.eval = ev at *
            go_simp
            try (first | rfl | exact ⟨rfl, rfl⟩ | exact ⟨rfl, rfl, rfl⟩ | exact ⟨rfl, rfl, rfl, rfl, rfl, rfl, rfl, rfl⟩ | exact ⟨rfl, rfl, rfl, rfl, rfl, ⟨rfl, rfl, rfl⟩, rfl, ⟨rfl, rfl, rfl⟩, rfl, rfl, rfl, rfl, rfl⟩)
        · obtain rfl := Rg.SI ho
          have zg : a'.eval (.tmp 119) = .bool true := hdep ⟨64, .guard⟩ (by simp) rfl _ 119 rfl rfl
          have z121 := hdep ⟨66, .data⟩ (by simp) rfl _ 121 rfl rfl
          have z123 := hdep ⟨68, .data⟩ (by simp) rfl _ 123 rfl rfl
          obtain ⟨pa, z121, hia⟩ := z121
          obtain ⟨pb, z123, hib⟩ := z123
          refine .inl ⟨Rg.want_at rfl rfl rfl hF.sz (by decide) zg, Rg.rel_call 124 rfl (liket_any (Tm.nodes (Ca.eK h kids) + 1) (Ca.eH h kids) (Ca.eK h kids) pa pb w' (Nat.lt_succ_self _) hia hib) (fun e u hg => ?_) ?_⟩
          · obtain ⟨rfl, hb⟩ := hg
            exact ⟨_, rfl, rfl, hb⟩
          · clear hF hdep hi13
            obtain ⟨hcst, hfn⟩ := Rg.evc a'
            generalize a'.eval = ev at *
            go_simp
            try (first | rfl | exact ⟨rfl, rfl⟩ | exact ⟨rfl, rfl, rfl⟩ | exact ⟨rfl, rfl, rfl, rfl, rfl, rfl, rfl, rfl⟩ | exact ⟨rfl, rfl, rfl, rfl, rfl, ⟨rfl, rfl, rfl⟩, rfl, ⟨rfl, rfl, rfl⟩, rfl, rfl, rfl, rfl, rfl⟩)
        · obtain rfl := Rg.SI ho
          have z119 : a'.eval (.tmp 119) = .bool true := hdep ⟨64, .data⟩ (by simp) rfl _ 119 rfl rfl
          have z124 : a'.eval (.tmp 124) = .bool true := hdep ⟨69, .data⟩ (by simp) rfl _ 124 rfl rfl
          refine .inl ⟨Rg.want_none rfl, Rg.rel_val 125 rfl (v := .bool true) rfl ?_⟩
          clear hF hbw hdep hi13
          obtain ⟨hcst, hfn⟩ := Rg.evc a'
          generalize a'.eval = ev at *
          go_simp
          try (first | go_num | (simp [IntKind.wrap, IntKind.bits, IntKind.signed]; omega))
        · obtain rfl := Rg.SI ho
          have z125 : a'.eval (.tmp 125) = .bool true := hdep ⟨70, .data⟩ (by simp) rfl _ 125 rfl rfl
          refine .inl ⟨Rg.want_none rfl, Rg.rel_val 126 rfl (v := .bool true) rfl ?_⟩
          clear hF hbw hdep hi13
          obtain ⟨hcst, hfn⟩ := Rg.evc a'
          generalize a'.eval = ev at *
          go_simp
          try (first | go_num | (simp [IntKind.wrap, IntKind.bits, IntKind.signed]; omega))
        · obtain rfl := Rg.SI ho
          have zg : a'.eval (.tmp 126) = .bool true := hdep ⟨71, .guard⟩ (by simp) rfl _ 126 rfl rfl
          refine .inl ⟨Rg.want_at rfl rfl rfl hF.sz (by decide) zg, Rg.rel_call 127 rfl (CWK.out w' (E8.out.trans ((W8.out.trans (hbw.mono W8.out.size)).mono E8.out.size))) (fun e u hg => ?_) ?_⟩
          · obtain ⟨rfl, hb⟩ := hg
            exact ⟨_, rfl, rfl, hb⟩
          · clear hF hdep hi13
            obtain ⟨hcst, hfn⟩ := Rg.evc a'
            generalize a'.eval = ev at *
            go_simp
            try (first | rfl | exact ⟨rfl, rfl⟩ | exact ⟨rfl, rfl, rfl⟩ | exact ⟨rfl, rfl, rfl, rfl, rfl, rfl, rfl, rfl⟩ | exact ⟨rfl, rfl, rfl, rfl, rfl, ⟨rfl, rfl, rfl⟩, rfl, ⟨rfl, rfl, rfl⟩, rfl, rfl, rfl, rfl, rfl⟩)
        · obtain rfl := Rg.SI ho
          have z126 : a'.eval (.tmp 126) = .bool true := hdep ⟨71, .data⟩ (by simp) rfl _ 126 rfl rfl
          have z127 : a'.eval (.tmp 127) = .bool true := hdep ⟨72, .data⟩ (by simp) rfl _ 127 rfl rfl
          refine .inl ⟨Rg.want_none rfl, Rg.rel_val 128 rfl (v := .bool true) rfl ?_⟩
          clear hF hbw hdep hi13
          obtain ⟨hcst, hfn⟩ := Rg.evc a'
          generalize a'.eval = ev at *
          go_simp
          try (first | go_num | (simp [IntKind.wrap, IntKind.bits, IntKind.signed]; omega))
        · obtain rfl := Rg.SI ho
          have z128 : a'.eval (.tmp 128) = .bool true := hdep ⟨73, .data⟩ (by simp) rfl _ 128 rfl rfl
          refine .inl ⟨Rg.want_none rfl, Rg.rel_val 8 rfl (v := .bool true) rfl ?_⟩
          clear hF hbw hdep hi13
          obtain ⟨hcst, hfn⟩ := Rg.evc a'
          generalize a'.eval = ev at *
          go_simp
          try (first | go_num | (simp [IntKind.wrap, IntKind.bits, IntKind.signed]; omega))
      · intro u w' t ht hb hG
        have h4 : u 8 = .bool true := hG 74 _ 8 rfl rfl
        have HBF := Lib.hid (HB1.out.trans ((E8.out.trans ((W8.out.trans (hb.mono W8.out.size)).mono E8.out.size)).mono HB1.out.size))
        clear hG hb
        simp only [over, List.setIfInBounds_toArray, List.set_cons_succ, List.set_cons_zero, h4] at ht
        subst ht
        go_wp2_with fail
        go_ret
        exact ⟨rfl, HBF.out⟩
  · have he1 : ((mu : Int) == (mt : Int) + 1) = true := by simp; omega
    have he2 : ((mv : Int) == (mt : Int) + (mu : Int)) = true := by simp; omega
    have he3 : ((mt : Int) == 0) = false := by simp; omega
    have j1 : (mu : Int) < mv := by omega
    have j2 : (0 : Int) < mt := by omega
    have i5 : (mt : Int) ≤ 8192 := by omega
    have i6 : (mu : Int) ≤ 8192 := by omega
    obtain ⟨x, Lr, hLx⟩ : ∃ x Lr, Ca.allL h kids = x :: Lr := by
      cases hq : Ca.allL h kids with
      | nil => rw [hq] at hlt; exact (hz hlt).elim
      | cons x Lr => exact ⟨x, Lr, rfl⟩
    have ht7 := RT.out.below (L45.out.trans ((L56.out.trans (L67.out.mono L56.out.size)).mono L45.out.size))
    have hv7 := RV0.out.below L67.out
    rw [al2] at hv7
    rw [hLx] at ht7
    obtain ⟨gt, -, -, -, -, -, -, rfl, -, -, -, -, -, -, t4⟩ := ht7.nth (i := 0) (c := x) rfl
    obtain ⟨gv, -, -, -, -, -, -, rfl, -, -, -, -, -, -, v4⟩ := hv7.nth (i := mu) (c := x) (by
      rw [show mu = (Ca.allL h kids).length + 1 by omega, List.getElem?_cons_succ, List.getElem?_append_right (Nat.le_refl _), Nat.sub_self, hLx]; rfl)
    obtain ⟨xl, hxl⟩ : ∃ q, q = x.2.2.2.2 := ⟨_, rfl⟩
    rw [← hxl] at t4 v4
    have RV := Lib.hid (fun (W : World) (hb : Below w7.heap.size w7 W) => show W.cell? ⟨gv, mu * 5 + 4, none⟩ = some (.int .i64 xl) ∧ W.cell? ⟨gt, 4, none⟩ = some (.int .i64 xl) from
      ⟨by rw [hb.cell (p := ⟨gv, _, none⟩) (Ty.cell_lt v4)]; exact v4, by rw [hb.cell (p := ⟨gt, 4, none⟩) (Ty.cell_lt t4)]; exact t4⟩)
    clear al2 hlt hlu hlv hbt hbu hbv hu7 ht7 hv7 t4 v4 hxl hLx
    go_upto_region 10 with fail
    refine Rg.region_rel 129 rfl [44, 45, 46, 47, 48, 49, 50, 51, 52, 53, 54, 14] [(4, .pointer (some ⟨w.heap.size, 0, none⟩)), (5, .pointer (some ⟨w.heap.size + 1, 0, none⟩)), (6, .pointer (some ⟨w.heap.size + 1 + 1, 0, none⟩))] [.is (.agg #[.int .i8 h.kind, .string h.name, .string h.arg, .int .i64 h.num, .int .i8 h.tk, .slice p.TA p.tn p.tc, .int .i8 h.uk, .slice p.UA p.un p.uc, .int .i64 h.label, .int .i64 h.pos, .slice p.A p.n p.c]), .is (.int .i64 K1), .is (.agg #[.int .i8 k1, .slice A1 n1 c1]), .is (.agg #[.int .i8 k2, .slice A2 n2 c2]), .sp (fun v u => ∃ N : Nat, v = .agg #[.int .i8 4, .slice (some ⟨N, 0, none⟩) 2 2] ∧ Ty.Is u 4 (Ty.two k1 f1 k2 f2) (some ⟨N, 0, none⟩) 2 2), .is (.agg #[.int .i8 2, .string ⟨#[]⟩, .string ⟨#[]⟩, .int .i64 0, .int .i8 0, .slice none 0 0, .int .i8 0, .slice none 0 0, .int .i64 0, .int .i64 0, .slice none 0 0]), .sp (fun v u => ∃ b : Nat, v = .slice (some ⟨b, 0, none⟩) 1 1 ∧ u.heap[b]? = some (.cells #[.int .i8 2, .string ⟨#[]⟩, .string ⟨#[]⟩, .int .i64 0, .int .i8 0, .slice none 0 0, .int .i8 0, .slice none 0 0, .int .i64 0, .int .i64 0, .slice none 0 0] 28 (0, 0))), .sp (fun v u => ∃ p' : Pl, v = .agg #[.int .i8 (Ca.cvL k1 f1 k2 f2).kind, .string (Ca.cvL k1 f1 k2 f2).name, .string (Ca.cvL k1 f1 k2 f2).arg, .int .i64 (Ca.cvL k1 f1 k2 f2).num, .int .i8 (Ca.cvL k1 f1 k2 f2).tk, .slice p'.TA p'.tn p'.tc, .int .i8 (Ca.cvL k1 f1 k2 f2).uk, .slice p'.UA p'.un p'.uc, .int .i64 (Ca.cvL k1 f1 k2 f2).label, .int .i64 (Ca.cvL k1 f1 k2 f2).pos, .slice p'.A p'.n p'.c] ∧ Tm.Is u (Ca.cvL k1 f1 k2 f2) (.node Ca.cvY .nil .nil) p'), .is (.int .i64 K2), .is (.int .i64 (K2 - 1)), .is (.int .i64 (max K1 (K2 - 1))), .is (.int .i64 (max K1 (K2 - 1)))] (by kernel_rfl) (by kernel_rfl) (by kernel_rfl) (by kernel_rfl) ?_ ?_ ?_ ?_
    · intro P hP v w5 w6 h5 hb5
      simp only [List.mem_cons, List.not_mem_nil, or_false, false_or, reduceCtorEq, Rg.Gd.sp.injEq] at hP
      rcases hP with rfl | rfl | rfl
      · exact h5.elim fun p q => ⟨p, q.1, q.2.below hb5⟩
      · exact h5.elim fun p q => ⟨p, q.1, heap_below hb5 (heap_lt q.2) q.2⟩
      · exact h5.elim fun p q => ⟨p, q.1, q.2.below hb5⟩
    · intro s v hx
      simp only [List.mem_cons, Prod.mk.injEq, List.not_mem_nil, or_false] at hx
      rcases hx with ⟨rfl, rfl⟩ | ⟨rfl, rfl⟩ | ⟨rfl, rfl⟩ <;> rfl
    · intro i o a' w' ho hF hbw hdep
      have hi13 : i < 12 := by
        rcases Nat.lt_or_ge i 12 with q | q
        · exact q
        · rw [Array.getElem?_eq_none (by simpa using q)] at ho; cases ho
      rcases (by omega : i = 0 ∨ i = 1 ∨ i = 2 ∨ i = 3 ∨ i = 4 ∨ i = 5 ∨ i = 6 ∨ i = 7 ∨ i = 8 ∨ i = 9 ∨ i = 10 ∨ i = 11) with rfl | rfl | rfl | rfl | rfl | rfl | rfl | rfl | rfl | rfl | rfl | rfl
      · obtain rfl := Rg.SI ho
        have z4 : a'.eval (.tmp 4) = .pointer (some ⟨w.heap.size, 0, none⟩) := hF.fx 4 _ (by simp)
        obtain ⟨q0, q1, q2, q3, q4, q5, q6, q7, q8, q9, q10, ql⟩ := own11 (heap_below hbw (heap_lt X4.out) X4.out)
        refine .inl ⟨Rg.want_none rfl, Rg.rel_val 44 rfl (v := .agg #[.int .i8 h.kind, .string h.name, .string h.arg, .int .i64 h.num, .int .i8 h.tk, .slice p.TA p.tn p.tc, .int .i8 h.uk, .slice p.UA p.un p.uc, .int .i64 h.label, .int .i64 h.pos, .slice p.A p.n p.c]) rfl ?_⟩
        clear hF hbw hdep hi13
        obtain ⟨hcst, hfn⟩ := Rg.evc a'
        generalize a'.eval = ev at *
        go_simp
        try (first | go_num | (simp [IntKind.wrap, IntKind.bits, IntKind.signed]; omega))
      · obtain rfl := Rg.SI ho
        have z44 : a'.eval (.tmp 44) = .agg #[.int .i8 h.kind, .string h.name, .string h.arg, .int .i64 h.num, .int .i8 h.tk, .slice p.TA p.tn p.tc, .int .i8 h.uk, .slice p.UA p.un p.uc, .int .i64 h.label, .int .i64 h.pos, .slice p.A p.n p.c] := hdep ⟨0, .data⟩ (by simp) rfl _ 44 rfl rfl
        refine .inl ⟨Rg.want_none rfl, Rg.rel_call 45 rfl (CHt.out w' hbw) (fun e u hg => ?_) ?_⟩
        · obtain ⟨rfl, hb⟩ := hg
          exact ⟨_, rfl, rfl, hb⟩
        · clear hF hdep hi13
          obtain ⟨hcst, hfn⟩ := Rg.evc a'
          generalize a'.eval = ev at *
          go_simp
          try (first | rfl | exact ⟨rfl, rfl⟩ | exact ⟨rfl, rfl, rfl⟩ | exact ⟨rfl, rfl, rfl, rfl, rfl, rfl, rfl, rfl⟩ | exact ⟨rfl, rfl, rfl, rfl, rfl, ⟨rfl, rfl, rfl⟩, rfl, ⟨rfl, rfl, rfl⟩, rfl, rfl, rfl, rfl, rfl⟩)
      · obtain rfl := Rg.SI ho
        have z5 : a'.eval (.tmp 5) = .pointer (some ⟨w.heap.size + 1, 0, none⟩) := hF.fx 5 _ (by simp)
        obtain ⟨x0, x1, -, -, xl⟩ := own2 (heap_below hbw (heap_lt X5.out) X5.out)
        refine .inl ⟨Rg.want_none rfl, Rg.rel_val 46 rfl (v := .agg #[.int .i8 k1, .slice A1 n1 c1]) rfl ?_⟩
        clear hF hbw hdep hi13
        obtain ⟨hcst, hfn⟩ := Rg.evc a'
        generalize a'.eval = ev at *
        go_simp
        try (first | go_num | (simp [IntKind.wrap, IntKind.bits, IntKind.signed]; omega))
      · obtain rfl := Rg.SI ho
        have z6 : a'.eval (.tmp 6) = .pointer (some ⟨w.heap.size + 1 + 1, 0, none⟩) := hF.fx 6 _ (by simp)
        obtain ⟨x0, x1, -, -, xl⟩ := own2 (heap_below hbw (heap_lt X6.out) X6.out)
        refine .inl ⟨Rg.want_none rfl, Rg.rel_val 47 rfl (v := .agg #[.int .i8 k2, .slice A2 n2 c2]) rfl ?_⟩
        clear hF hbw hdep hi13
        obtain ⟨hcst, hfn⟩ := Rg.evc a'
        generalize a'.eval = ev at *
        go_simp
        try (first | go_num | (simp [IntKind.wrap, IntKind.bits, IntKind.signed]; omega))
      · obtain rfl := Rg.SI ho
        have z46 : a'.eval (.tmp 46) = .agg #[.int .i8 k1, .slice A1 n1 c1] := hdep ⟨2, .data⟩ (by simp) rfl _ 46 rfl rfl
        have z47 : a'.eval (.tmp 47) = .agg #[.int .i8 k2, .slice A2 n2 c2] := hdep ⟨3, .data⟩ (by simp) rfl _ 47 rfl rfl
        refine .inl ⟨Rg.want_none rfl, Rg.rel_call 48 rfl (of_any 4 (by decide) k1 f1 A1 n1 c1 k2 f2 A2 n2 c2 w' (J1.out.below hbw) (J2.out.below hbw)) (fun e u hg => ?_) ?_⟩
        · obtain ⟨N, rfl, hN, hi, hb⟩ := hg
          exact ⟨_, rfl, ⟨N, rfl, hi⟩, hb⟩
        · clear hF hdep hi13
          obtain ⟨hcst, hfn⟩ := Rg.evc a'
          generalize a'.eval = ev at *
          go_simp
          try (first | rfl | exact ⟨rfl, rfl⟩ | exact ⟨rfl, rfl, rfl⟩ | exact ⟨rfl, rfl, rfl, rfl, rfl, rfl, rfl, rfl⟩ | exact ⟨rfl, rfl, rfl, rfl, rfl, ⟨rfl, rfl, rfl⟩, rfl, ⟨rfl, rfl, rfl⟩, rfl, rfl, rfl, rfl, rfl⟩)
      · obtain rfl := Rg.SI ho
        refine .inl ⟨Rg.want_none rfl, Rg.rel_val 49 rfl (v := .agg #[.int .i8 2, .string ⟨#[]⟩, .string ⟨#[]⟩, .int .i64 0, .int .i8 0, .slice none 0 0, .int .i8 0, .slice none 0 0, .int .i64 0, .int .i64 0, .slice none 0 0]) rfl ?_⟩
        clear hF hbw hdep hi13
        obtain ⟨hcst, hfn⟩ := Rg.evc a'
        generalize a'.eval = ev at *
        go_simp
        try (first | go_num | (simp [IntKind.wrap, IntKind.bits, IntKind.signed]; omega))
      · obtain rfl := Rg.SI ho
        have z49 : a'.eval (.tmp 49) = .agg #[.int .i8 2, .string ⟨#[]⟩, .string ⟨#[]⟩, .int .i64 0, .int .i8 0, .slice none 0 0, .int .i8 0, .slice none 0 0, .int .i64 0, .int .i64 0, .slice none 0 0] := hdep ⟨5, .data⟩ (by simp) rfl _ 49 rfl rfl
        refine .inl ⟨Rg.want_none rfl, Rg.rel_new 50 rfl (v := .slice (some ⟨w'.heap.size, 0, none⟩) 1 1) (u' := w'.alloc (.cells #[.int .i8 2, .string ⟨#[]⟩, .string ⟨#[]⟩, .int .i64 0, .int .i8 0, .slice none 0 0, .int .i8 0, .slice none 0 0, .int .i64 0, .int .i64 0, .slice none 0 0] 28)) ⟨w'.heap.size, rfl, heap_new _ _⟩ ((Below.refl _ _).alloc (Nat.le_refl _) _) ?_⟩
        clear hF hbw hdep hi13
        obtain ⟨hcst, hfn⟩ := Rg.evc a'
        generalize a'.eval = ev at *
        go_simp
      · obtain rfl := Rg.SI ho
        have z48 := hdep ⟨4, .data⟩ (by simp) rfl _ 48 rfl rfl
        have z50 := hdep ⟨6, .data⟩ (by simp) rfl _ 50 rfl rfl
        obtain ⟨N, z48, hN⟩ := z48
        obtain ⟨b, z50, hbb⟩ := z50
        refine .inl ⟨Rg.want_none rfl, Rg.rel_val 51 rfl (v := .agg #[.int .i8 (Ca.cvL k1 f1 k2 f2).kind, .string (Ca.cvL k1 f1 k2 f2).name, .string (Ca.cvL k1 f1 k2 f2).arg, .int .i64 (Ca.cvL k1 f1 k2 f2).num, .int .i8 (Ca.cvL k1 f1 k2 f2).tk, .slice (⟨some ⟨N, 0, none⟩, 2, 2, none, 0, 0, some ⟨b, 0, none⟩, 1, 1⟩ : Pl).TA (⟨some ⟨N, 0, none⟩, 2, 2, none, 0, 0, some ⟨b, 0, none⟩, 1, 1⟩ : Pl).tn (⟨some ⟨N, 0, none⟩, 2, 2, none, 0, 0, some ⟨b, 0, none⟩, 1, 1⟩ : Pl).tc, .int .i8 (Ca.cvL k1 f1 k2 f2).uk, .slice (⟨some ⟨N, 0, none⟩, 2, 2, none, 0, 0, some ⟨b, 0, none⟩, 1, 1⟩ : Pl).UA (⟨some ⟨N, 0, none⟩, 2, 2, none, 0, 0, some ⟨b, 0, none⟩, 1, 1⟩ : Pl).un (⟨some ⟨N, 0, none⟩, 2, 2, none, 0, 0, some ⟨b, 0, none⟩, 1, 1⟩ : Pl).uc, .int .i64 (Ca.cvL k1 f1 k2 f2).label, .int .i64 (Ca.cvL k1 f1 k2 f2).pos, .slice (⟨some ⟨N, 0, none⟩, 2, 2, none, 0, 0, some ⟨b, 0, none⟩, 1, 1⟩ : Pl).A (⟨some ⟨N, 0, none⟩, 2, 2, none, 0, 0, some ⟨b, 0, none⟩, 1, 1⟩ : Pl).n (⟨some ⟨N, 0, none⟩, 2, 2, none, 0, 0, some ⟨b, 0, none⟩, 1, 1⟩ : Pl).c]) ⟨_, rfl, Ca.lam_is hN hbb⟩ ?_⟩
        clear hF hbw hdep hi13
        obtain ⟨hcst, hfn⟩ := Rg.evc a'
        generalize a'.eval = ev at *
        go_simp
        try (first | rfl | exact ⟨rfl, rfl⟩ | exact ⟨rfl, rfl, rfl, rfl, rfl, rfl, rfl, rfl⟩)
      · obtain rfl := Rg.SI ho
        have z51 := hdep ⟨7, .data⟩ (by simp) rfl _ 51 rfl rfl
        obtain ⟨pl, z51, hil⟩ := z51
        refine .inl ⟨Rg.want_none rfl, Rg.rel_call 52 rfl (CHl.out w' pl hbw hil) (fun e u hg => ?_) ?_⟩
        · obtain ⟨rfl, hb⟩ := hg
          exact ⟨_, rfl, rfl, hb⟩
        · clear hF hdep hi13
          obtain ⟨hcst, hfn⟩ := Rg.evc a'
          generalize a'.eval = ev at *
          go_simp
          try (first | rfl | exact ⟨rfl, rfl⟩ | exact ⟨rfl, rfl, rfl⟩ | exact ⟨rfl, rfl, rfl, rfl, rfl, rfl, rfl, rfl⟩ | exact ⟨rfl, rfl, rfl, rfl, rfl, ⟨rfl, rfl, rfl⟩, rfl, ⟨rfl, rfl, rfl⟩, rfl, rfl, rfl, rfl, rfl⟩)
      · obtain rfl := Rg.SI ho
        have z52 : a'.eval (.tmp 52) = .int .i64 K2 := hdep ⟨8, .data⟩ (by simp) rfl _ 52 rfl rfl
        refine .inl ⟨Rg.want_none rfl, Rg.rel_val 53 rfl (v := .int .i64 (K2 - 1)) rfl ?_⟩
        clear hF hbw hdep hi13
        obtain ⟨hcst, hfn⟩ := Rg.evc a'
        generalize a'.eval = ev at *
        go_simp
        try (first | go_num | (simp [IntKind.wrap, IntKind.bits, IntKind.signed]; omega))
      · obtain rfl := Rg.SI ho
        have z45 : a'.eval (.tmp 45) = .int .i64 K1 := hdep ⟨1, .data⟩ (by simp) rfl _ 45 rfl rfl
        have z53 : a'.eval (.tmp 53) = .int .i64 (K2 - 1) := hdep ⟨9, .data⟩ (by simp) rfl _ 53 rfl rfl
        refine .inl ⟨Rg.want_none rfl, Rg.rel_val 54 rfl (v := .int .i64 (max K1 (K2 - 1))) rfl ?_⟩
        clear hF hbw hdep hi13
        obtain ⟨hcst, hfn⟩ := Rg.evc a'
        generalize a'.eval = ev at *
        go_simp
        try (first | go_num | (simp [IntKind.wrap, IntKind.bits, IntKind.signed]; omega))
      · obtain rfl := Rg.SI ho
        have z54 : a'.eval (.tmp 54) = .int .i64 (max K1 (K2 - 1)) := hdep ⟨10, .data⟩ (by simp) rfl _ 54 rfl rfl
        refine .inl ⟨Rg.want_none rfl, Rg.rel_val 14 rfl (v := .int .i64 (max K1 (K2 - 1))) rfl ?_⟩
        clear hF hbw hdep hi13
        obtain ⟨hcst, hfn⟩ := Rg.evc a'
        generalize a'.eval = ev at *
        go_simp
        try (first | go_num | (simp [IntKind.wrap, IntKind.bits, IntKind.signed]; omega))
    · intro u w' t ht hb hG
      have h14 : u 14 = .int .i64 (max K1 (K2 - 1)) := hG 11 _ 14 rfl rfl
      simp only [over, List.setIfInBounds_toArray, List.set_cons_succ, List.set_cons_zero, h14] at ht
      have W8 := Lib.hid hb
      clear hG hb
      subst ht
      clear h14
      go_upto_region 11 with fail
      refine Rg.region_rel 129 rfl [55, 56, 57, 58, 59, 60, 61, 62, 63, 64, 65, 66, 67, 68, 69, 70, 71, 72, 73, 74, 75, 76, 77, 78, 79, 80, 81, 82, 83, 84, 85, 86, 87, 88, 89, 90, 91, 92, 93, 94, 95, 96, 97, 98, 99, 100, 101, 102, 103, 104, 105, 106, 107, 108, 109, 110, 111, 112, 113, 114, 115, 116, 117, 118, 119, 120, 121, 122, 123, 124, 125, 126, 127, 128, 8] [(4, .pointer (some ⟨w.heap.size, 0, none⟩)), (5, .pointer (some ⟨w.heap.size + 1, 0, none⟩)), (6, .pointer (some ⟨w.heap.size + 1 + 1, 0, none⟩)), (3, .int .i64 n), (9, .pointer (some ⟨w2.heap.size + 1, 0, none⟩)), (11, .slice (some ⟨gt, 0, none⟩) mt ct), (12, .slice (some ⟨gu, 0, none⟩) mu cu), (13, .slice (some ⟨gv, 0, none⟩) mv cv), (14, .int .i64 (max K1 (K2 - 1)))] [.is (.slice (some ⟨gu, 0, none⟩) mu cu), .is (.int .i64 mu), .is (.slice (some ⟨gt, 0, none⟩) mt ct), .is (.int .i64 mt), .is (.int .i64 (mt + 1)), .is (.bool true), .is (.bool true), .is (.slice (some ⟨gu, 0, none⟩) mu cu), .is (.pointer (some ⟨gu, 0, none⟩)), .is (.pointer (some ⟨gu, 4, none⟩)), .is (.int .i64 n), .is (.int .i64 n), .is (.bool true), .is (.bool true), .is (.bool true), .is (.slice (some ⟨gu, 0, none⟩) mu cu), .is (.pointer (some ⟨gu, 0, none⟩)), .is (.pointer (some ⟨gu, 0, none⟩)), .is (.agg #[.int .i8 k1, .slice T1 s1 d1]), .is (.agg #[.int .i8 k1, .slice A1 n1 c1]), .is (.bool true), .is (.bool true), .is (.bool true), .is (.slice (some ⟨gu, 0, none⟩) mu cu), .is (.pointer (some ⟨gu, 0, none⟩)), .is (.pointer (some ⟨gu, 2, none⟩)), .is (.agg #[.int .i8 k2, .slice T2 s2 d2]), .is (.agg #[.int .i8 k2, .slice A2 n2 c2]), .is (.bool true), .is (.bool true), .is (.bool true), .is (.slice (some ⟨gv, 0, none⟩) mv cv), .is (.int .i64 mv), .is (.slice (some ⟨gt, 0, none⟩) mt ct), .is (.int .i64 mt), .is (.slice (some ⟨gu, 0, none⟩) mu cu), .is (.int .i64 mu), .is (.int .i64 (mt + mu)), .is (.bool true), .is (.bool true), .is (.bool true), .is (.slice (some ⟨gt, 0, none⟩) mt ct), .is (.int .i64 mt), .is (.bool false), .is (.bool false), .is (.slice (some ⟨gv, 0, none⟩) mv cv), .is (.slice (some ⟨gu, 0, none⟩) mu cu), .is (.int .i64 mu), .is (.pointer (some ⟨gv, mu * 5, none⟩)), .is (.pointer (some ⟨gv, mu * 5 + 4, none⟩)), .is (.int .i64 xl), .is (.slice (some ⟨gt, 0, none⟩) mt ct), .is (.pointer (some ⟨gt, 0, none⟩)), .is (.pointer (some ⟨gt, 4, none⟩)), .is (.int .i64 xl), .is (.bool true), .is (.bool true), .is (.bool true), .is (.bool true), .is (.agg #[.int .i8 17, .string ⟨#[]⟩, .string ⟨#[]⟩, .int .i64 0, .int .i8 k1, .slice A1 n1 c1, .int .i8 k2, .slice A2 n2 c2, .int .i64 n, .int .i64 0, .slice (some ⟨w2.heap.size, 0, none⟩) 1 1]), .is (.int .i64 K3), .is (.int .i64 (max K1 (K2 - 1))), .is (.bool true), .is (.bool true), .is (.bool true), .is (.agg #[.int .i8 17, .string ⟨#[]⟩, .string ⟨#[]⟩, .int .i64 0, .int .i8 k1, .slice A1 n1 c1, .int .i8 k2, .slice A2 n2 c2, .int .i64 n, .int .i64 0, .slice (some ⟨w2.heap.size, 0, none⟩) 1 1]), .sp (fun v u => ∃ p' : Pl, v = .agg #[.int .i8 (Ca.eH h kids).kind, .string (Ca.eH h kids).name, .string (Ca.eH h kids).arg, .int .i64 (Ca.eH h kids).num, .int .i8 (Ca.eH h kids).tk, .slice p'.TA p'.tn p'.tc, .int .i8 (Ca.eH h kids).uk, .slice p'.UA p'.un p'.uc, .int .i64 (Ca.eH h kids).label, .int .i64 (Ca.eH h kids).pos, .slice p'.A p'.n p'.c] ∧ Tm.Is u (Ca.eH h kids) (Ca.eK h kids) p'), .is (.agg #[.int .i8 h.kind, .string h.name, .string h.arg, .int .i64 h.num, .int .i8 h.tk, .slice p.TA p.tn p.tc, .int .i8 h.uk, .slice p.UA p.un p.uc, .int .i64 h.label, .int .i64 h.pos, .slice p.A p.n p.c]), .sp (fun v u => ∃ p' : Pl, v = .agg #[.int .i8 (Ca.eH h kids).kind, .string (Ca.eH h kids).name, .string (Ca.eH h kids).arg, .int .i64 (Ca.eH h kids).num, .int .i8 (Ca.eH h kids).tk, .slice p'.TA p'.tn p'.tc, .int .i8 (Ca.eH h kids).uk, .slice p'.UA p'.un p'.uc, .int .i64 (Ca.eH h kids).label, .int .i64 (Ca.eH h kids).pos, .slice p'.A p'.n p'.c] ∧ Tm.Is u (Ca.eH h kids) (Ca.eK h kids) p'), .is (.bool true), .is (.bool true), .is (.bool true), .is (.bool true), .is (.bool true), .is (.bool true)] (by kernel_rfl) (by kernel_rfl) (by kernel_rfl) (by kernel_rfl) ?_ ?_ ?_ ?_
      · intro P hP v w5 w6 h5 hb5
        simp only [List.mem_cons, List.not_mem_nil, or_false, false_or, reduceCtorEq, Rg.Gd.sp.injEq] at hP
        rcases hP with rfl | rfl
        · exact h5.elim fun p q => ⟨p, q.1, q.2.below hb5⟩
        · exact h5.elim fun p q => ⟨p, q.1, q.2.below hb5⟩
      · intro s v hx
        simp only [List.mem_cons, Prod.mk.injEq, List.not_mem_nil, or_false] at hx
        rcases hx with ⟨rfl, rfl⟩ | ⟨rfl, rfl⟩ | ⟨rfl, rfl⟩ | ⟨rfl, rfl⟩ | ⟨rfl, rfl⟩ | ⟨rfl, rfl⟩ | ⟨rfl, rfl⟩ | ⟨rfl, rfl⟩ | ⟨rfl, rfl⟩ <;> rfl
      · intro i o a' w' ho hF hbw hdep
        have hi13 : i < 75 := by
          rcases Nat.lt_or_ge i 75 with q | q
          · exact q
          · rw [Array.getElem?_eq_none (by simpa using q)] at ho; cases ho
        rcases (by omega : i = 0 ∨ i = 1 ∨ i = 2 ∨ i = 3 ∨ i = 4 ∨ i = 5 ∨ i = 6 ∨ i = 7 ∨ i = 8 ∨ i = 9 ∨ i = 10 ∨ i = 11 ∨ i = 12 ∨ i = 13 ∨ i = 14 ∨ i = 15 ∨ i = 16 ∨ i = 17 ∨ i = 18 ∨ i = 19 ∨ i = 20 ∨ i = 21 ∨ i = 22 ∨ i = 23 ∨ i = 24 ∨ i = 25 ∨ i = 26 ∨ i = 27 ∨ i = 28 ∨ i = 29 ∨ i = 30 ∨ i = 31 ∨ i = 32 ∨ i = 33 ∨ i = 34 ∨ i = 35 ∨ i = 36 ∨ i = 37 ∨ i = 38 ∨ i = 39 ∨ i = 40 ∨ i = 41 ∨ i = 42 ∨ i = 43 ∨ i = 44 ∨ i = 45 ∨ i = 46 ∨ i = 47 ∨ i = 48 ∨ i = 49 ∨ i = 50 ∨ i = 51 ∨ i = 52 ∨ i = 53 ∨ i = 54 ∨ i = 55 ∨ i = 56 ∨ i = 57 ∨ i = 58 ∨ i = 59 ∨ i = 60 ∨ i = 61 ∨ i = 62 ∨ i = 63 ∨ i = 64 ∨ i = 65 ∨ i = 66 ∨ i = 67 ∨ i = 68 ∨ i = 69 ∨ i = 70 ∨ i = 71 ∨ i = 72 ∨ i = 73 ∨ i = 74) with rfl | rfl | rfl | rfl | rfl | rfl | rfl | rfl | rfl | rfl | rfl | rfl | rfl | rfl | rfl | rfl | rfl | rfl | rfl | rfl | rfl | rfl | rfl | rfl | rfl | rfl | rfl | rfl | rfl | rfl | rfl | rfl | rfl | rfl | rfl | rfl | rfl | rfl | rfl | rfl | rfl | rfl | rfl | rfl | rfl | rfl | rfl | rfl | rfl | rfl | rfl | rfl | rfl | rfl | rfl | rfl | rfl | rfl | rfl | rfl | rfl | rfl | rfl | rfl | rfl | rfl | rfl | rfl | rfl | rfl | rfl | rfl | rfl | rfl | rfl
        · obtain rfl := Rg.SI ho
          have z12 : a'.eval (.tmp 12) = .slice (some ⟨gu, 0, none⟩) mu cu := hF.fx 12 _ (by simp)
          refine .inl ⟨Rg.want_none rfl, Rg.rel_val 55 rfl (v := .slice (some ⟨gu, 0, none⟩) mu cu) rfl ?_⟩
          clear hF hbw hdep hi13
          obtain ⟨hcst, hfn⟩ := Rg.evc a'
          generalize a'.eval = ev at *
          go_simp
          try (first | go_num | (simp [IntKind.wrap, IntKind.bits, IntKind.signed]; omega))
        · obtain rfl := Rg.SI ho
          have z55 : a'.eval (.tmp 55) = .slice (some ⟨gu, 0, none⟩) mu cu := hdep ⟨0, .data⟩ (by simp) rfl _ 55 rfl rfl
          refine .inl ⟨Rg.want_none rfl, Rg.rel_val 56 rfl (v := .int .i64 mu) rfl ?_⟩
          clear hF hbw hdep hi13
          obtain ⟨hcst, hfn⟩ := Rg.evc a'
          generalize a'.eval = ev at *
          go_simp
          try (first | go_num | (simp [IntKind.wrap, IntKind.bits, IntKind.signed]; omega))
        · obtain rfl := Rg.SI ho
          have z11 : a'.eval (.tmp 11) = .slice (some ⟨gt, 0, none⟩) mt ct := hF.fx 11 _ (by simp)
          refine .inl ⟨Rg.want_none rfl, Rg.rel_val 57 rfl (v := .slice (some ⟨gt, 0, none⟩) mt ct) rfl ?_⟩
          clear hF hbw hdep hi13
          obtain ⟨hcst, hfn⟩ := Rg.evc a'
          generalize a'.eval = ev at *
          go_simp
          try (first | go_num | (simp [IntKind.wrap, IntKind.bits, IntKind.signed]; omega))
        · obtain rfl := Rg.SI ho
          have z57 : a'.eval (.tmp 57) = .slice (some ⟨gt, 0, none⟩) mt ct := hdep ⟨2, .data⟩ (by simp) rfl _ 57 rfl rfl
          refine .inl ⟨Rg.want_none rfl, Rg.rel_val 58 rfl (v := .int .i64 mt) rfl ?_⟩
          clear hF hbw hdep hi13
          obtain ⟨hcst, hfn⟩ := Rg.evc a'
          generalize a'.eval = ev at *
          go_simp
          try (first | go_num | (simp [IntKind.wrap, IntKind.bits, IntKind.signed]; omega))
        · obtain rfl := Rg.SI ho
          have z58 : a'.eval (.tmp 58) = .int .i64 mt := hdep ⟨3, .data⟩ (by simp) rfl _ 58 rfl rfl
          refine .inl ⟨Rg.want_none rfl, Rg.rel_val 59 rfl (v := .int .i64 (mt + 1)) rfl ?_⟩
          clear hF hbw hdep hi13
          obtain ⟨hcst, hfn⟩ := Rg.evc a'
          generalize a'.eval = ev at *
          go_simp
          try (first | go_num | (simp [IntKind.wrap, IntKind.bits, IntKind.signed]; omega))
        · obtain rfl := Rg.SI ho
          have z56 : a'.eval (.tmp 56) = .int .i64 mu := hdep ⟨1, .data⟩ (by simp) rfl _ 56 rfl rfl
          have z59 : a'.eval (.tmp 59) = .int .i64 (mt + 1) := hdep ⟨4, .data⟩ (by simp) rfl _ 59 rfl rfl
          refine .inl ⟨Rg.want_none rfl, Rg.rel_val 60 rfl (v := .bool true) rfl ?_⟩
          clear hF hbw hdep hi13
          obtain ⟨hcst, hfn⟩ := Rg.evc a'
          generalize a'.eval = ev at *
          go_simp
          try (first | go_num | (simp [IntKind.wrap, IntKind.bits, IntKind.signed]; omega))
        · obtain rfl := Rg.SI ho
          have z60 : a'.eval (.tmp 60) = .bool true := hdep ⟨5, .data⟩ (by simp) rfl _ 60 rfl rfl
          refine .inl ⟨Rg.want_none rfl, Rg.rel_val 61 rfl (v := .bool true) rfl ?_⟩
          clear hF hbw hdep hi13
          obtain ⟨hcst, hfn⟩ := Rg.evc a'
          generalize a'.eval = ev at *
          go_simp
          try (first | go_num | (simp [IntKind.wrap, IntKind.bits, IntKind.signed]; omega))
        · obtain rfl := Rg.SI ho
          have zg : a'.eval (.tmp 61) = .bool true := hdep ⟨6, .guard⟩ (by simp) rfl _ 61 rfl rfl
          have z12 : a'.eval (.tmp 12) = .slice (some ⟨gu, 0, none⟩) mu cu := hF.fx 12 _ (by simp)
          refine .inl ⟨Rg.want_at rfl rfl rfl hF.sz (by decide) zg, Rg.rel_val 62 rfl (v := .slice (some ⟨gu, 0, none⟩) mu cu) rfl ?_⟩
          clear hF hbw hdep hi13
          obtain ⟨hcst, hfn⟩ := Rg.evc a'
          generalize a'.eval = ev at *
          go_simp
          try (first | go_num | (simp [IntKind.wrap, IntKind.bits, IntKind.signed]; omega))
        · obtain rfl := Rg.SI ho
          have zg : a'.eval (.tmp 61) = .bool true := hdep ⟨6, .guard⟩ (by simp) rfl _ 61 rfl rfl
          have z62 : a'.eval (.tmp 62) = .slice (some ⟨gu, 0, none⟩) mu cu := hdep ⟨7, .data⟩ (by simp) rfl _ 62 rfl rfl
          refine .inl ⟨Rg.want_at rfl rfl rfl hF.sz (by decide) zg, Rg.rel_val 63 rfl (v := .pointer (some ⟨gu, 0, none⟩)) rfl ?_⟩
          clear hF hbw hdep hi13
          obtain ⟨hcst, hfn⟩ := Rg.evc a'
          generalize a'.eval = ev at *
          go_simp
          try (first | go_num | (simp [IntKind.wrap, IntKind.bits, IntKind.signed]; omega))
        · obtain rfl := Rg.SI ho
          have zg : a'.eval (.tmp 61) = .bool true := hdep ⟨6, .guard⟩ (by simp) rfl _ 61 rfl rfl
          have z63 : a'.eval (.tmp 63) = .pointer (some ⟨gu, 0, none⟩) := hdep ⟨8, .data⟩ (by simp) rfl _ 63 rfl rfl
          refine .inl ⟨Rg.want_at rfl rfl rfl hF.sz (by decide) zg, Rg.rel_val 64 rfl (v := .pointer (some ⟨gu, 4, none⟩)) rfl ?_⟩
          clear hF hbw hdep hi13
          obtain ⟨hcst, hfn⟩ := Rg.evc a'
          generalize a'.eval = ev at *
          go_simp
          try (first | go_num | (simp [IntKind.wrap, IntKind.bits, IntKind.signed]; omega))
        · obtain rfl := Rg.SI ho
          have zg : a'.eval (.tmp 61) = .bool true := hdep ⟨6, .guard⟩ (by simp) rfl _ 61 rfl rfl
          have z64 : a'.eval (.tmp 64) = .pointer (some ⟨gu, 4, none⟩) := hdep ⟨9, .data⟩ (by simp) rfl _ 64 rfl rfl
          obtain ⟨r0, r1, r2, r3, r4, rt, ru⟩ := RU.out w' (W8.out.trans (hbw.mono W8.out.size))
          refine .inl ⟨Rg.want_at rfl rfl rfl hF.sz (by decide) zg, Rg.rel_val 65 rfl (v := .int .i64 n) rfl ?_⟩
          clear hF hbw hdep hi13
          obtain ⟨hcst, hfn⟩ := Rg.evc a'
          generalize a'.eval = ev at *
          go_simp
          try (first | go_num | (simp [IntKind.wrap, IntKind.bits, IntKind.signed]; omega))
        · obtain rfl := Rg.SI ho
          have zg : a'.eval (.tmp 61) = .bool true := hdep ⟨6, .guard⟩ (by simp) rfl _ 61 rfl rfl
          have z3 : a'.eval (.tmp 3) = .int .i64 n := hF.fx 3 _ (by simp)
          refine .inl ⟨Rg.want_at rfl rfl rfl hF.sz (by decide) zg, Rg.rel_val 66 rfl (v := .int .i64 n) rfl ?_⟩
          clear hF hbw hdep hi13
          obtain ⟨hcst, hfn⟩ := Rg.evc a'
          generalize a'.eval = ev at *
          go_simp
          try (first | go_num | (simp [IntKind.wrap, IntKind.bits, IntKind.signed]; omega))
        · obtain rfl := Rg.SI ho
          have zg : a'.eval (.tmp 61) = .bool true := hdep ⟨6, .guard⟩ (by simp) rfl _ 61 rfl rfl
          have z65 : a'.eval (.tmp 65) = .int .i64 n := hdep ⟨10, .data⟩ (by simp) rfl _ 65 rfl rfl
          have z66 : a'.eval (.tmp 66) = .int .i64 n := hdep ⟨11, .data⟩ (by simp) rfl _ 66 rfl rfl
          refine .inl ⟨Rg.want_at rfl rfl rfl hF.sz (by decide) zg, Rg.rel_val 67 rfl (v := .bool true) rfl ?_⟩
          clear hF hbw hdep hi13
          obtain ⟨hcst, hfn⟩ := Rg.evc a'
          generalize a'.eval = ev at *
          go_simp
          try (first | go_num | (simp [IntKind.wrap, IntKind.bits, IntKind.signed]; omega))
        · obtain rfl := Rg.SI ho
          have z61 : a'.eval (.tmp 61) = .bool true := hdep ⟨6, .data⟩ (by simp) rfl _ 61 rfl rfl
          have z67 : a'.eval (.tmp 67) = .bool true := hdep ⟨12, .data⟩ (by simp) rfl _ 67 rfl rfl
          refine .inl ⟨Rg.want_none rfl, Rg.rel_val 68 rfl (v := .bool true) rfl ?_⟩
          clear hF hbw hdep hi13
          obtain ⟨hcst, hfn⟩ := Rg.evc a'
          generalize a'.eval = ev at *
          go_simp
          try (first | go_num | (simp [IntKind.wrap, IntKind.bits, IntKind.signed]; omega))
        · obtain rfl := Rg.SI ho
          have z68 : a'.eval (.tmp 68) = .bool true := hdep ⟨13, .data⟩ (by simp) rfl _ 68 rfl rfl
          refine .inl ⟨Rg.want_none rfl, Rg.rel_val 69 rfl (v := .bool true) rfl ?_⟩
          clear hF hbw hdep hi13
          obtain ⟨hcst, hfn⟩ := Rg.evc a'
          generalize a'.eval = ev at *
          go_simp
          try (first | go_num | (simp [IntKind.wrap, IntKind.bits, IntKind.signed]; omega))
        · obtain rfl := Rg.SI ho
          have zg : a'.eval (.tmp 69) = .bool true := hdep ⟨14, .guard⟩ (by simp) rfl _ 69 rfl rfl
          have z12 : a'.eval (.tmp 12) = .slice (some ⟨gu, 0, none⟩) mu cu := hF.fx 12 _ (by simp)
          refine .inl ⟨Rg.want_at rfl rfl rfl hF.sz (by decide) zg, Rg.rel_val 70 rfl (v := .slice (some ⟨gu, 0, none⟩) mu cu) rfl ?_⟩
          clear hF hbw hdep hi13
          obtain ⟨hcst, hfn⟩ := Rg.evc a'
          generalize a'.eval = ev at *
          go_simp
          try (first | go_num | (simp [IntKind.wrap, IntKind.bits, IntKind.signed]; omega))
        · obtain rfl := Rg.SI ho
          have zg : a'.eval (.tmp 69) = .bool true := hdep ⟨14, .guard⟩ (by simp) rfl _ 69 rfl rfl
          have z70 : a'.eval (.tmp 70) = .slice (some ⟨gu, 0, none⟩) mu cu := hdep ⟨15, .data⟩ (by simp) rfl _ 70 rfl rfl
          refine .inl ⟨Rg.want_at rfl rfl rfl hF.sz (by decide) zg, Rg.rel_val 71 rfl (v := .pointer (some ⟨gu, 0, none⟩)) rfl ?_⟩
          clear hF hbw hdep hi13
          obtain ⟨hcst, hfn⟩ := Rg.evc a'
          generalize a'.eval = ev at *
          go_simp
          try (first | go_num | (simp [IntKind.wrap, IntKind.bits, IntKind.signed]; omega))
        · obtain rfl := Rg.SI ho
          have zg : a'.eval (.tmp 69) = .bool true := hdep ⟨14, .guard⟩ (by simp) rfl _ 69 rfl rfl
          have z71 : a'.eval (.tmp 71) = .pointer (some ⟨gu, 0, none⟩) := hdep ⟨16, .data⟩ (by simp) rfl _ 71 rfl rfl
          refine .inl ⟨Rg.want_at rfl rfl rfl hF.sz (by decide) zg, Rg.rel_val 72 rfl (v := .pointer (some ⟨gu, 0, none⟩)) rfl ?_⟩
          clear hF hbw hdep hi13
          obtain ⟨hcst, hfn⟩ := Rg.evc a'
          generalize a'.eval = ev at *
          go_simp
          try (first | go_num | (simp [IntKind.wrap, IntKind.bits, IntKind.signed]; omega))
        · obtain rfl := Rg.SI ho
          have zg : a'.eval (.tmp 69) = .bool true := hdep ⟨14, .guard⟩ (by simp) rfl _ 69 rfl rfl
          have z72 : a'.eval (.tmp 72) = .pointer (some ⟨gu, 0, none⟩) := hdep ⟨17, .data⟩ (by simp) rfl _ 72 rfl rfl
          obtain ⟨r0, r1, r2, r3, r4, rt, ru⟩ := RU.out w' (W8.out.trans (hbw.mono W8.out.size))
          refine .inl ⟨Rg.want_at rfl rfl rfl hF.sz (by decide) zg, Rg.rel_val 73 rfl (v := .agg #[.int .i8 k1, .slice T1 s1 d1]) rfl ?_⟩
          clear hF hbw hdep hi13
          obtain ⟨hcst, hfn⟩ := Rg.evc a'
          generalize a'.eval = ev at *
          go_simp
          try (first | go_num | (simp [IntKind.wrap, IntKind.bits, IntKind.signed]; omega))
        · obtain rfl := Rg.SI ho
          have zg : a'.eval (.tmp 69) = .bool true := hdep ⟨14, .guard⟩ (by simp) rfl _ 69 rfl rfl
          have z5 : a'.eval (.tmp 5) = .pointer (some ⟨w.heap.size + 1, 0, none⟩) := hF.fx 5 _ (by simp)
          obtain ⟨x0, x1, -, -, xl⟩ := own2 (heap_below (W8.out.trans (hbw.mono W8.out.size)) (heap_lt X5.out) X5.out)
          refine .inl ⟨Rg.want_at rfl rfl rfl hF.sz (by decide) zg, Rg.rel_val 74 rfl (v := .agg #[.int .i8 k1, .slice A1 n1 c1]) rfl ?_⟩
          clear hF hbw hdep hi13
          obtain ⟨hcst, hfn⟩ := Rg.evc a'
          generalize a'.eval = ev at *
          go_simp
          try (first | go_num | (simp [IntKind.wrap, IntKind.bits, IntKind.signed]; omega))
        · obtain rfl := Rg.SI ho
          have zg : a'.eval (.tmp 69) = .bool true := hdep ⟨14, .guard⟩ (by simp) rfl _ 69 rfl rfl
          have z73 : a'.eval (.tmp 73) = .agg #[.int .i8 k1, .slice T1 s1 d1] := hdep ⟨18, .data⟩ (by simp) rfl _ 73 rfl rfl
          have z74 : a'.eval (.tmp 74) = .agg #[.int .i8 k1, .slice A1 n1 c1] := hdep ⟨19, .data⟩ (by simp) rfl _ 74 rfl rfl
          obtain ⟨r0, r1, r2, r3, r4, rt, ru⟩ := RU.out w' (W8.out.trans (hbw.mono W8.out.size))
          refine .inl ⟨Rg.want_at rfl rfl rfl hF.sz (by decide) zg, Rg.rel_call 75 rfl (CM1.out w' T1 s1 d1 (W8.out.trans (hbw.mono W8.out.size)) rt) (fun e u hg => ?_) ?_⟩
          · obtain ⟨rfl, hb⟩ := hg
            exact ⟨_, rfl, rfl, hb⟩
          · clear hF hdep hi13
            obtain ⟨hcst, hfn⟩ := Rg.evc a'
            generalize a'.eval = ev at *
            go_simp
            try (first | rfl | exact ⟨rfl, rfl⟩ | exact ⟨rfl, rfl, rfl⟩ | exact ⟨rfl, rfl, rfl, rfl, rfl, rfl, rfl, rfl⟩ | exact ⟨rfl, rfl, rfl, rfl, rfl, ⟨rfl, rfl, rfl⟩, rfl, ⟨rfl, rfl, rfl⟩, rfl, rfl, rfl, rfl, rfl⟩)
        · obtain rfl := Rg.SI ho
          have z69 : a'.eval (.tmp 69) = .bool true := hdep ⟨14, .data⟩ (by simp) rfl _ 69 rfl rfl
          have z75 : a'.eval (.tmp 75) = .bool true := hdep ⟨20, .data⟩ (by simp) rfl _ 75 rfl rfl
          refine .inl ⟨Rg.want_none rfl, Rg.rel_val 76 rfl (v := .bool true) rfl ?_⟩
          clear hF hbw hdep hi13
          obtain ⟨hcst, hfn⟩ := Rg.evc a'
          generalize a'.eval = ev at *
          go_simp
          try (first | go_num | (simp [IntKind.wrap, IntKind.bits, IntKind.signed]; omega))
        · obtain rfl := Rg.SI ho
          have z76 : a'.eval (.tmp 76) = .bool true := hdep ⟨21, .data⟩ (by simp) rfl _ 76 rfl rfl
          refine .inl ⟨Rg.want_none rfl, Rg.rel_val 77 rfl (v := .bool true) rfl ?_⟩
          clear hF hbw hdep hi13
          obtain ⟨hcst, hfn⟩ := Rg.evc a'
          generalize a'.eval = ev at *
          go_simp
          try (first | go_num | (simp [IntKind.wrap, IntKind.bits, IntKind.signed]; omega))
        · obtain rfl := Rg.SI ho
          have zg : a'.eval (.tmp 77) = .bool true := hdep ⟨22, .guard⟩ (by simp) rfl _ 77 rfl rfl
          have z12 : a'.eval (.tmp 12) = .slice (some ⟨gu, 0, none⟩) mu cu := hF.fx 12 _ (by simp)
          refine .inl ⟨Rg.want_at rfl rfl rfl hF.sz (by decide) zg, Rg.rel_val 78 rfl (v := .slice (some ⟨gu, 0, none⟩) mu cu) rfl ?_⟩
          clear hF hbw hdep hi13
          obtain ⟨hcst, hfn⟩ := Rg.evc a'
          generalize a'.eval = ev at *
          go_simp
          try (first | go_num | (simp [IntKind.wrap, IntKind.bits, IntKind.signed]; omega))
        · obtain rfl := Rg.SI ho
          have zg : a'.eval (.tmp 77) = .bool true := hdep ⟨22, .guard⟩ (by simp) rfl _ 77 rfl rfl
          have z78 : a'.eval (.tmp 78) = .slice (some ⟨gu, 0, none⟩) mu cu := hdep ⟨23, .data⟩ (by simp) rfl _ 78 rfl rfl
          refine .inl ⟨Rg.want_at rfl rfl rfl hF.sz (by decide) zg, Rg.rel_val 79 rfl (v := .pointer (some ⟨gu, 0, none⟩)) rfl ?_⟩
          clear hF hbw hdep hi13
          obtain ⟨hcst, hfn⟩ := Rg.evc a'
          generalize a'.eval = ev at *
          go_simp
          try (first | go_num | (simp [IntKind.wrap, IntKind.bits, IntKind.signed]; omega))
        · obtain rfl := Rg.SI ho
          have zg : a'.eval (.tmp 77) = .bool true := hdep ⟨22, .guard⟩ (by simp) rfl _ 77 rfl rfl
          have z79 : a'.eval (.tmp 79) = .pointer (some ⟨gu, 0, none⟩) := hdep ⟨24, .data⟩ (by simp) rfl _ 79 rfl rfl
          refine .inl ⟨Rg.want_at rfl rfl rfl hF.sz (by decide) zg, Rg.rel_val 80 rfl (v := .pointer (some ⟨gu, 2, none⟩)) rfl ?_⟩
          clear hF hbw hdep hi13
          obtain ⟨hcst, hfn⟩ := Rg.evc a'
          generalize a'.eval = ev at *
          go_simp
          try (first | go_num | (simp [IntKind.wrap, IntKind.bits, IntKind.signed]; omega))
        · obtain rfl := Rg.SI ho
          have zg : a'.eval (.tmp 77) = .bool true := hdep ⟨22, .guard⟩ (by simp) rfl _ 77 rfl rfl
          have z80 : a'.eval (.tmp 80) = .pointer (some ⟨gu, 2, none⟩) := hdep ⟨25, .data⟩ (by simp) rfl _ 80 rfl rfl
          obtain ⟨r0, r1, r2, r3, r4, rt, ru⟩ := RU.out w' (W8.out.trans (hbw.mono W8.out.size))
          refine .inl ⟨Rg.want_at rfl rfl rfl hF.sz (by decide) zg, Rg.rel_val 81 rfl (v := .agg #[.int .i8 k2, .slice T2 s2 d2]) rfl ?_⟩
          clear hF hbw hdep hi13
          obtain ⟨hcst, hfn⟩ := Rg.evc a'
          generalize a'.eval = ev at *
          go_simp
          try (first | go_num | (simp [IntKind.wrap, IntKind.bits, IntKind.signed]; omega))
        · obtain rfl := Rg.SI ho
          have zg : a'.eval (.tmp 77) = .bool true := hdep ⟨22, .guard⟩ (by simp) rfl _ 77 rfl rfl
          have z6 : a'.eval (.tmp 6) = .pointer (some ⟨w.heap.size + 1 + 1, 0, none⟩) := hF.fx 6 _ (by simp)
          obtain ⟨x0, x1, -, -, xl⟩ := own2 (heap_below (W8.out.trans (hbw.mono W8.out.size)) (heap_lt X6.out) X6.out)
          refine .inl ⟨Rg.want_at rfl rfl rfl hF.sz (by decide) zg, Rg.rel_val 82 rfl (v := .agg #[.int .i8 k2, .slice A2 n2 c2]) rfl ?_⟩
          clear hF hbw hdep hi13
          obtain ⟨hcst, hfn⟩ := Rg.evc a'
          generalize a'.eval = ev at *
          go_simp
          try (first | go_num | (simp [IntKind.wrap, IntKind.bits, IntKind.signed]; omega))
        · obtain rfl := Rg.SI ho
          have zg : a'.eval (.tmp 77) = .bool true := hdep ⟨22, .guard⟩ (by simp) rfl _ 77 rfl rfl
          have z81 : a'.eval (.tmp 81) = .agg #[.int .i8 k2, .slice T2 s2 d2] := hdep ⟨26, .data⟩ (by simp) rfl _ 81 rfl rfl
          have z82 : a'.eval (.tmp 82) = .agg #[.int .i8 k2, .slice A2 n2 c2] := hdep ⟨27, .data⟩ (by simp) rfl _ 82 rfl rfl
          obtain ⟨r0, r1, r2, r3, r4, rt, ru⟩ := RU.out w' (W8.out.trans (hbw.mono W8.out.size))
          refine .inl ⟨Rg.want_at rfl rfl rfl hF.sz (by decide) zg, Rg.rel_call 83 rfl (CM2.out w' T2 s2 d2 (W8.out.trans (hbw.mono W8.out.size)) ru) (fun e u hg => ?_) ?_⟩
          · obtain ⟨rfl, hb⟩ := hg
            exact ⟨_, rfl, rfl, hb⟩
          · clear hF hdep hi13
            obtain ⟨hcst, hfn⟩ := Rg.evc a'
            generalize a'.eval = ev at *
            go_simp
            try (first | rfl | exact ⟨rfl, rfl⟩ | exact ⟨rfl, rfl, rfl⟩ | exact ⟨rfl, rfl, rfl, rfl, rfl, rfl, rfl, rfl⟩ | exact ⟨rfl, rfl, rfl, rfl, rfl, ⟨rfl, rfl, rfl⟩, rfl, ⟨rfl, rfl, rfl⟩, rfl, rfl, rfl, rfl, rfl⟩)
        · obtain rfl := Rg.SI ho
          have z77 : a'.eval (.tmp 77) = .bool true := hdep ⟨22, .data⟩ (by simp) rfl _ 77 rfl rfl
          have z83 : a'.eval (.tmp 83) = .bool true := hdep ⟨28, .data⟩ (by simp) rfl _ 83 rfl rfl
          refine .inl ⟨Rg.want_none rfl, Rg.rel_val 84 rfl (v := .bool true) rfl ?_⟩
          clear hF hbw hdep hi13
          obtain ⟨hcst, hfn⟩ := Rg.evc a'
          generalize a'.eval = ev at *
          go_simp
          try (first | go_num | (simp [IntKind.wrap, IntKind.bits, IntKind.signed]; omega))
        · obtain rfl := Rg.SI ho
          have z84 : a'.eval (.tmp 84) = .bool true := hdep ⟨29, .data⟩ (by simp) rfl _ 84 rfl rfl
          refine .inl ⟨Rg.want_none rfl, Rg.rel_val 85 rfl (v := .bool true) rfl ?_⟩
          clear hF hbw hdep hi13
          obtain ⟨hcst, hfn⟩ := Rg.evc a'
          generalize a'.eval = ev at *
          go_simp
          try (first | go_num | (simp [IntKind.wrap, IntKind.bits, IntKind.signed]; omega))
        · obtain rfl := Rg.SI ho
          have zg : a'.eval (.tmp 85) = .bool true := hdep ⟨30, .guard⟩ (by simp) rfl _ 85 rfl rfl
          have z13 : a'.eval (.tmp 13) = .slice (some ⟨gv, 0, none⟩) mv cv := hF.fx 13 _ (by simp)
          refine .inl ⟨Rg.want_at rfl rfl rfl hF.sz (by decide) zg, Rg.rel_val 86 rfl (v := .slice (some ⟨gv, 0, none⟩) mv cv) rfl ?_⟩
          clear hF hbw hdep hi13
          obtain ⟨hcst, hfn⟩ := Rg.evc a'
          generalize a'.eval = ev at *
          go_simp
          try (first | go_num | (simp [IntKind.wrap, IntKind.bits, IntKind.signed]; omega))
        · obtain rfl := Rg.SI ho
          have zg : a'.eval (.tmp 85) = .bool true := hdep ⟨30, .guard⟩ (by simp) rfl _ 85 rfl rfl
          have z86 : a'.eval (.tmp 86) = .slice (some ⟨gv, 0, none⟩) mv cv := hdep ⟨31, .data⟩ (by simp) rfl _ 86 rfl rfl
          refine .inl ⟨Rg.want_at rfl rfl rfl hF.sz (by decide) zg, Rg.rel_val 87 rfl (v := .int .i64 mv) rfl ?_⟩
          clear hF hbw hdep hi13
          obtain ⟨hcst, hfn⟩ := Rg.evc a'
          generalize a'.eval = ev at *
          go_simp
          try (first | go_num | (simp [IntKind.wrap, IntKind.bits, IntKind.signed]; omega))
        · obtain rfl := Rg.SI ho
          have zg : a'.eval (.tmp 85) = .bool true := hdep ⟨30, .guard⟩ (by simp) rfl _ 85 rfl rfl
          have z11 : a'.eval (.tmp 11) = .slice (some ⟨gt, 0, none⟩) mt ct := hF.fx 11 _ (by simp)
          refine .inl ⟨Rg.want_at rfl rfl rfl hF.sz (by decide) zg, Rg.rel_val 88 rfl (v := .slice (some ⟨gt, 0, none⟩) mt ct) rfl ?_⟩
          clear hF hbw hdep hi13
          obtain ⟨hcst, hfn⟩ := Rg.evc a'
          generalize a'.eval = ev at *
          go_simp
          try (first | go_num | (simp [IntKind.wrap, IntKind.bits, IntKind.signed]; omega))
        · obtain rfl := Rg.SI ho
          have zg : a'.eval (.tmp 85) = .bool true := hdep ⟨30, .guard⟩ (by simp) rfl _ 85 rfl rfl
          have z88 : a'.eval (.tmp 88) = .slice (some ⟨gt, 0, none⟩) mt ct := hdep ⟨33, .data⟩ (by simp) rfl _ 88 rfl rfl
          refine .inl ⟨Rg.want_at rfl rfl rfl hF.sz (by decide) zg, Rg.rel_val 89 rfl (v := .int .i64 mt) rfl ?_⟩
          clear hF hbw hdep hi13
          obtain ⟨hcst, hfn⟩ := Rg.evc a'
          generalize a'.eval = ev at *
          go_simp
          try (first | go_num | (simp [IntKind.wrap, IntKind.bits, IntKind.signed]; omega))
        · obtain rfl := Rg.SI ho
          have zg : a'.eval (.tmp 85) = .bool true := hdep ⟨30, .guard⟩ (by simp) rfl _ 85 rfl rfl
          have z12 : a'.eval (.tmp 12) = .slice (some ⟨gu, 0, none⟩) mu cu := hF.fx 12 _ (by simp)
          refine .inl ⟨Rg.want_at rfl rfl rfl hF.sz (by decide) zg, Rg.rel_val 90 rfl (v := .slice (some ⟨gu, 0, none⟩) mu cu) rfl ?_⟩
          clear hF hbw hdep hi13
          obtain ⟨hcst, hfn⟩ := Rg.evc a'
          generalize a'.eval = ev at *
          go_simp
          try (first | go_num | (simp [IntKind.wrap, IntKind.bits, IntKind.signed]; omega))
        · obtain rfl := Rg.SI ho
          have zg : a'.eval (.tmp 85) = .bool true := hdep ⟨30, .guard⟩ (by simp) rfl _ 85 rfl rfl
          have z90 : a'.eval (.tmp 90) = .slice (some ⟨gu, 0, none⟩) mu cu := hdep ⟨35, .data⟩ (by simp) rfl _ 90 rfl rfl
          refine .inl ⟨Rg.want_at rfl rfl rfl hF.sz (by decide) zg, Rg.rel_val 91 rfl (v := .int .i64 mu) rfl ?_⟩
          clear hF hbw hdep hi13
          obtain ⟨hcst, hfn⟩ := Rg.evc a'
          generalize a'.eval = ev at *
          go_simp
          try (first | go_num | (simp [IntKind.wrap, IntKind.bits, IntKind.signed]; omega))
        · obtain rfl := Rg.SI ho
          have zg : a'.eval (.tmp 85) = .bool true := hdep ⟨30, .guard⟩ (by simp) rfl _ 85 rfl rfl
          have z89 : a'.eval (.tmp 89) = .int .i64 mt := hdep ⟨34, .data⟩ (by simp) rfl _ 89 rfl rfl
          have z91 : a'.eval (.tmp 91) = .int .i64 mu := hdep ⟨36, .data⟩ (by simp) rfl _ 91 rfl rfl
          refine .inl ⟨Rg.want_at rfl rfl rfl hF.sz (by decide) zg, Rg.rel_val 92 rfl (v := .int .i64 (mt + mu)) rfl ?_⟩
          clear hF hbw hdep hi13
          obtain ⟨hcst, hfn⟩ := Rg.evc a'
          generalize a'.eval = ev at *
          go_simp
          try (first | go_num | (simp [IntKind.wrap, IntKind.bits, IntKind.signed]; omega))
        · obtain rfl := Rg.SI ho
          have zg : a'.eval (.tmp 85) = .bool true := hdep ⟨30, .guard⟩ (by simp) rfl _ 85 rfl rfl
          have z87 : a'.eval (.tmp 87) = .int .i64 mv := hdep ⟨32, .data⟩ (by simp) rfl _ 87 rfl rfl
          have z92 : a'.eval (.tmp 92) = .int .i64 (mt + mu) := hdep ⟨37, .data⟩ (by simp) rfl _ 92 rfl rfl
          refine .inl ⟨Rg.want_at rfl rfl rfl hF.sz (by decide) zg, Rg.rel_val 93 rfl (v := .bool true) rfl ?_⟩
          clear hF hbw hdep hi13
          obtain ⟨hcst, hfn⟩ := Rg.evc a'
          generalize a'.eval = ev at *
          go_simp
          try (first | go_num | (simp [IntKind.wrap, IntKind.bits, IntKind.signed]; omega))
        · obtain rfl := Rg.SI ho
          have z85 : a'.eval (.tmp 85) = .bool true := hdep ⟨30, .data⟩ (by simp) rfl _ 85 rfl rfl
          have z93 : a'.eval (.tmp 93) = .bool true := hdep ⟨38, .data⟩ (by simp) rfl _ 93 rfl rfl
          refine .inl ⟨Rg.want_none rfl, Rg.rel_val 94 rfl (v := .bool true) rfl ?_⟩
          clear hF hbw hdep hi13
          obtain ⟨hcst, hfn⟩ := Rg.evc a'
          generalize a'.eval = ev at *
          go_simp
          try (first | go_num | (simp [IntKind.wrap, IntKind.bits, IntKind.signed]; omega))
        · obtain rfl := Rg.SI ho
          have z94 : a'.eval (.tmp 94) = .bool true := hdep ⟨39, .data⟩ (by simp) rfl _ 94 rfl rfl
          refine .inl ⟨Rg.want_none rfl, Rg.rel_val 95 rfl (v := .bool true) rfl ?_⟩
          clear hF hbw hdep hi13
          obtain ⟨hcst, hfn⟩ := Rg.evc a'
          generalize a'.eval = ev at *
          go_simp
          try (first | go_num | (simp [IntKind.wrap, IntKind.bits, IntKind.signed]; omega))
        · obtain rfl := Rg.SI ho
          have zg : a'.eval (.tmp 95) = .bool true := hdep ⟨40, .guard⟩ (by simp) rfl _ 95 rfl rfl
          have z11 : a'.eval (.tmp 11) = .slice (some ⟨gt, 0, none⟩) mt ct := hF.fx 11 _ (by simp)
          refine .inl ⟨Rg.want_at rfl rfl rfl hF.sz (by decide) zg, Rg.rel_val 96 rfl (v := .slice (some ⟨gt, 0, none⟩) mt ct) rfl ?_⟩
          clear hF hbw hdep hi13
          obtain ⟨hcst, hfn⟩ := Rg.evc a'
          generalize a'.eval = ev at *
          go_simp
          try (first | go_num | (simp [IntKind.wrap, IntKind.bits, IntKind.signed]; omega))
        · obtain rfl := Rg.SI ho
          have zg : a'.eval (.tmp 95) = .bool true := hdep ⟨40, .guard⟩ (by simp) rfl _ 95 rfl rfl
          have z96 : a'.eval (.tmp 96) = .slice (some ⟨gt, 0, none⟩) mt ct := hdep ⟨41, .data⟩ (by simp) rfl _ 96 rfl rfl
          refine .inl ⟨Rg.want_at rfl rfl rfl hF.sz (by decide) zg, Rg.rel_val 97 rfl (v := .int .i64 mt) rfl ?_⟩
          clear hF hbw hdep hi13
          obtain ⟨hcst, hfn⟩ := Rg.evc a'
          generalize a'.eval = ev at *
          go_simp
          try (first | go_num | (simp [IntKind.wrap, IntKind.bits, IntKind.signed]; omega))
        · obtain rfl := Rg.SI ho
          have zg : a'.eval (.tmp 95) = .bool true := hdep ⟨40, .guard⟩ (by simp) rfl _ 95 rfl rfl
          have z97 : a'.eval (.tmp 97) = .int .i64 mt := hdep ⟨42, .data⟩ (by simp) rfl _ 97 rfl rfl
          refine .inl ⟨Rg.want_at rfl rfl rfl hF.sz (by decide) zg, Rg.rel_val 98 rfl (v := .bool false) rfl ?_⟩
          clear hF hbw hdep hi13
          obtain ⟨hcst, hfn⟩ := Rg.evc a'
          generalize a'.eval = ev at *
          go_simp
          try (first | go_num | (simp [IntKind.wrap, IntKind.bits, IntKind.signed]; omega))
        · obtain rfl := Rg.SI ho
          have zg : a'.eval (.tmp 95) = .bool true := hdep ⟨40, .guard⟩ (by simp) rfl _ 95 rfl rfl
          have z98 : a'.eval (.tmp 98) = .bool false := hdep ⟨43, .data⟩ (by simp) rfl _ 98 rfl rfl
          refine .inl ⟨Rg.want_at rfl rfl rfl hF.sz (by decide) zg, Rg.rel_val 99 rfl (v := .bool false) rfl ?_⟩
          clear hF hbw hdep hi13
          obtain ⟨hcst, hfn⟩ := Rg.evc a'
          generalize a'.eval = ev at *
          go_simp
          try (first | go_num | (simp [IntKind.wrap, IntKind.bits, IntKind.signed]; omega))
        · obtain rfl := Rg.SI ho
          have zg : a'.eval (.tmp 99) = .bool false := hdep ⟨44, .guard⟩ (by simp) rfl _ 99 rfl rfl
          have z13 : a'.eval (.tmp 13) = .slice (some ⟨gv, 0, none⟩) mv cv := hF.fx 13 _ (by simp)
          refine .inl ⟨Rg.want_at rfl rfl rfl hF.sz (by decide) zg, Rg.rel_val 100 rfl (v := .slice (some ⟨gv, 0, none⟩) mv cv) rfl ?_⟩
          clear hF hbw hdep hi13
          obtain ⟨hcst, hfn⟩ := Rg.evc a'
          generalize a'.eval = ev at *
          go_simp
          try (first | go_num | (simp [IntKind.wrap, IntKind.bits, IntKind.signed]; omega))
        · obtain rfl := Rg.SI ho
          have zg : a'.eval (.tmp 99) = .bool false := hdep ⟨44, .guard⟩ (by simp) rfl _ 99 rfl rfl
          have z12 : a'.eval (.tmp 12) = .slice (some ⟨gu, 0, none⟩) mu cu := hF.fx 12 _ (by simp)
          refine .inl ⟨Rg.want_at rfl rfl rfl hF.sz (by decide) zg, Rg.rel_val 101 rfl (v := .slice (some ⟨gu, 0, none⟩) mu cu) rfl ?_⟩
          clear hF hbw hdep hi13
          obtain ⟨hcst, hfn⟩ := Rg.evc a'
          generalize a'.eval = ev at *
          go_simp
          try (first | go_num | (simp [IntKind.wrap, IntKind.bits, IntKind.signed]; omega))
        · obtain rfl := Rg.SI ho
          have zg : a'.eval (.tmp 99) = .bool false := hdep ⟨44, .guard⟩ (by simp) rfl _ 99 rfl rfl
          have z101 : a'.eval (.tmp 101) = .slice (some ⟨gu, 0, none⟩) mu cu := hdep ⟨46, .data⟩ (by simp) rfl _ 101 rfl rfl
          refine .inl ⟨Rg.want_at rfl rfl rfl hF.sz (by decide) zg, Rg.rel_val 102 rfl (v := .int .i64 mu) rfl ?_⟩
          clear hF hbw hdep hi13
          obtain ⟨hcst, hfn⟩ := Rg.evc a'
          generalize a'.eval = ev at *
          go_simp
          try (first | go_num | (simp [IntKind.wrap, IntKind.bits, IntKind.signed]; omega))
        · obtain rfl := Rg.SI ho
          have zg : a'.eval (.tmp 99) = .bool false := hdep ⟨44, .guard⟩ (by simp) rfl _ 99 rfl rfl
          have z100 : a'.eval (.tmp 100) = .slice (some ⟨gv, 0, none⟩) mv cv := hdep ⟨45, .data⟩ (by simp) rfl _ 100 rfl rfl
          have z102 : a'.eval (.tmp 102) = .int .i64 mu := hdep ⟨47, .data⟩ (by simp) rfl _ 102 rfl rfl
          refine .inl ⟨Rg.want_at rfl rfl rfl hF.sz (by decide) zg, Rg.rel_val 103 rfl (v := .pointer (some ⟨gv, mu * 5, none⟩)) rfl ?_⟩
          clear hF hbw hdep hi13
          obtain ⟨hcst, hfn⟩ := Rg.evc a'
          generalize a'.eval = ev at *
          go_simp
          try (first | go_num | (simp [IntKind.wrap, IntKind.bits, IntKind.signed]; omega))
        · obtain rfl := Rg.SI ho
          have zg : a'.eval (.tmp 99) = .bool false := hdep ⟨44, .guard⟩ (by simp) rfl _ 99 rfl rfl
          have z103 : a'.eval (.tmp 103) = .pointer (some ⟨gv, mu * 5, none⟩) := hdep ⟨48, .data⟩ (by simp) rfl _ 103 rfl rfl
          refine .inl ⟨Rg.want_at rfl rfl rfl hF.sz (by decide) zg, Rg.rel_val 104 rfl (v := .pointer (some ⟨gv, mu * 5 + 4, none⟩)) rfl ?_⟩
          clear hF hbw hdep hi13
          obtain ⟨hcst, hfn⟩ := Rg.evc a'
          generalize a'.eval = ev at *
          go_simp
          try (first | go_num | (simp [IntKind.wrap, IntKind.bits, IntKind.signed]; omega))
        · obtain rfl := Rg.SI ho
          have zg : a'.eval (.tmp 99) = .bool false := hdep ⟨44, .guard⟩ (by simp) rfl _ 99 rfl rfl
          have z104 : a'.eval (.tmp 104) = .pointer (some ⟨gv, mu * 5 + 4, none⟩) := hdep ⟨49, .data⟩ (by simp) rfl _ 104 rfl rfl
          have yv := (RV.out w' (W8.out.trans (hbw.mono W8.out.size))).1
          refine .inl ⟨Rg.want_at rfl rfl rfl hF.sz (by decide) zg, Rg.rel_val 105 rfl (v := .int .i64 xl) rfl ?_⟩
          clear hF hbw hdep hi13
          obtain ⟨hcst, hfn⟩ := Rg.evc a'
          generalize a'.eval = ev at *
          go_simp
          try (first | go_num | (simp [IntKind.wrap, IntKind.bits, IntKind.signed]; omega))
        · obtain rfl := Rg.SI ho
          have zg : a'.eval (.tmp 99) = .bool false := hdep ⟨44, .guard⟩ (by simp) rfl _ 99 rfl rfl
          have z11 : a'.eval (.tmp 11) = .slice (some ⟨gt, 0, none⟩) mt ct := hF.fx 11 _ (by simp)
          refine .inl ⟨Rg.want_at rfl rfl rfl hF.sz (by decide) zg, Rg.rel_val 106 rfl (v := .slice (some ⟨gt, 0, none⟩) mt ct) rfl ?_⟩
          clear hF hbw hdep hi13
          obtain ⟨hcst, hfn⟩ := Rg.evc a'
          generalize a'.eval = ev at *
          go_simp
          try (first | go_num | (simp [IntKind.wrap, IntKind.bits, IntKind.signed]; omega))
        · obtain rfl := Rg.SI ho
          have zg : a'.eval (.tmp 99) = .bool false := hdep ⟨44, .guard⟩ (by simp) rfl _ 99 rfl rfl
          have z106 : a'.eval (.tmp 106) = .slice (some ⟨gt, 0, none⟩) mt ct := hdep ⟨51, .data⟩ (by simp) rfl _ 106 rfl rfl
          refine .inl ⟨Rg.want_at rfl rfl rfl hF.sz (by decide) zg, Rg.rel_val 107 rfl (v := .pointer (some ⟨gt, 0, none⟩)) rfl ?_⟩
          clear hF hbw hdep hi13
          obtain ⟨hcst, hfn⟩ := Rg.evc a'
          generalize a'.eval = ev at *
          go_simp
          try (first | go_num | (simp [IntKind.wrap, IntKind.bits, IntKind.signed]; omega))
        · obtain rfl := Rg.SI ho
          have zg : a'.eval (.tmp 99) = .bool false := hdep ⟨44, .guard⟩ (by simp) rfl _ 99 rfl rfl
          have z107 : a'.eval (.tmp 107) = .pointer (some ⟨gt, 0, none⟩) := hdep ⟨52, .data⟩ (by simp) rfl _ 107 rfl rfl
          refine .inl ⟨Rg.want_at rfl rfl rfl hF.sz (by decide) zg, Rg.rel_val 108 rfl (v := .pointer (some ⟨gt, 4, none⟩)) rfl ?_⟩
          clear hF hbw hdep hi13
          obtain ⟨hcst, hfn⟩ := Rg.evc a'
          generalize a'.eval = ev at *
          go_simp
          try (first | go_num | (simp [IntKind.wrap, IntKind.bits, IntKind.signed]; omega))
        · obtain rfl := Rg.SI ho
          have zg : a'.eval (.tmp 99) = .bool false := hdep ⟨44, .guard⟩ (by simp) rfl _ 99 rfl rfl
          have z108 : a'.eval (.tmp 108) = .pointer (some ⟨gt, 4, none⟩) := hdep ⟨53, .data⟩ (by simp) rfl _ 108 rfl rfl
          have yt := (RV.out w' (W8.out.trans (hbw.mono W8.out.size))).2
          refine .inl ⟨Rg.want_at rfl rfl rfl hF.sz (by decide) zg, Rg.rel_val 109 rfl (v := .int .i64 xl) rfl ?_⟩
          clear hF hbw hdep hi13
          obtain ⟨hcst, hfn⟩ := Rg.evc a'
          generalize a'.eval = ev at *
          go_simp
          try (first | go_num | (simp [IntKind.wrap, IntKind.bits, IntKind.signed]; omega))
        · obtain rfl := Rg.SI ho
          have zg : a'.eval (.tmp 99) = .bool false := hdep ⟨44, .guard⟩ (by simp) rfl _ 99 rfl rfl
          have z105 : a'.eval (.tmp 105) = .int .i64 xl := hdep ⟨50, .data⟩ (by simp) rfl _ 105 rfl rfl
          have z109 : a'.eval (.tmp 109) = .int .i64 xl := hdep ⟨54, .data⟩ (by simp) rfl _ 109 rfl rfl
          refine .inl ⟨Rg.want_at rfl rfl rfl hF.sz (by decide) zg, Rg.rel_val 110 rfl (v := .bool true) rfl ?_⟩
          clear hF hbw hdep hi13
          obtain ⟨hcst, hfn⟩ := Rg.evc a'
          generalize a'.eval = ev at *
          go_simp
          try (first | go_num | (simp [IntKind.wrap, IntKind.bits, IntKind.signed]; omega))
        · obtain rfl := Rg.SI ho
          have zg : a'.eval (.tmp 95) = .bool true := hdep ⟨40, .guard⟩ (by simp) rfl _ 95 rfl rfl
          have z99 : a'.eval (.tmp 99) = .bool false := hdep ⟨44, .data⟩ (by simp) rfl _ 99 rfl rfl
          have z110 : a'.eval (.tmp 110) = .bool true := hdep ⟨55, .data⟩ (by simp) rfl _ 110 rfl rfl
          refine .inl ⟨Rg.want_at rfl rfl rfl hF.sz (by decide) zg, Rg.rel_val 111 rfl (v := .bool true) rfl ?_⟩
          clear hF hbw hdep hi13
          obtain ⟨hcst, hfn⟩ := Rg.evc a'
          generalize a'.eval = ev at *
          go_simp
          try (first | go_num | (simp [IntKind.wrap, IntKind.bits, IntKind.signed]; omega))
        · obtain rfl := Rg.SI ho
          have z95 : a'.eval (.tmp 95) = .bool true := hdep ⟨40, .data⟩ (by simp) rfl _ 95 rfl rfl
          have z111 : a'.eval (.tmp 111) = .bool true := hdep ⟨56, .data⟩ (by simp) rfl _ 111 rfl rfl
          refine .inl ⟨Rg.want_none rfl, Rg.rel_val 112 rfl (v := .bool true) rfl ?_⟩
          clear hF hbw hdep hi13
          obtain ⟨hcst, hfn⟩ := Rg.evc a'
          generalize a'.eval = ev at *
          go_simp
          try (first | go_num | (simp [IntKind.wrap, IntKind.bits, IntKind.signed]; omega))
        · obtain rfl := Rg.SI ho
          have z112 : a'.eval (.tmp 112) = .bool true := hdep ⟨57, .data⟩ (by simp) rfl _ 112 rfl rfl
          refine .inl ⟨Rg.want_none rfl, Rg.rel_val 113 rfl (v := .bool true) rfl ?_⟩
          clear hF hbw hdep hi13
          obtain ⟨hcst, hfn⟩ := Rg.evc a'
          generalize a'.eval = ev at *
          go_simp
          try (first | go_num | (simp [IntKind.wrap, IntKind.bits, IntKind.signed]; omega))
        · obtain rfl := Rg.SI ho
          have zg : a'.eval (.tmp 113) = .bool true := hdep ⟨58, .guard⟩ (by simp) rfl _ 113 rfl rfl
          have z9 : a'.eval (.tmp 9) = .pointer (some ⟨w2.heap.size + 1, 0, none⟩) := hF.fx 9 _ (by simp)
          obtain ⟨q0, q1, q2, q3, q4, q5, q6, q7, q8, q9, q10, ql⟩ := own11 (heap_below (W8.out.trans (hbw.mono W8.out.size)) (heap_lt X9.out) X9.out)
          refine .inl ⟨Rg.want_at rfl rfl rfl hF.sz (by decide) zg, Rg.rel_val 114 rfl (v := .agg #[.int .i8 17, .string ⟨#[]⟩, .string ⟨#[]⟩, .int .i64 0, .int .i8 k1, .slice A1 n1 c1, .int .i8 k2, .slice A2 n2 c2, .int .i64 n, .int .i64 0, .slice (some ⟨w2.heap.size, 0, none⟩) 1 1]) rfl ?_⟩
          clear hF hbw hdep hi13
          obtain ⟨hcst, hfn⟩ := Rg.evc a'
          generalize a'.eval = ev at *
          go_simp
          try (first | go_num | (simp [IntKind.wrap, IntKind.bits, IntKind.signed]; omega))
        · obtain rfl := Rg.SI ho
          have zg : a'.eval (.tmp 113) = .bool true := hdep ⟨58, .guard⟩ (by simp) rfl _ 113 rfl rfl
          have z114 : a'.eval (.tmp 114) = .agg #[.int .i8 17, .string ⟨#[]⟩, .string ⟨#[]⟩, .int .i64 0, .int .i8 k1, .slice A1 n1 c1, .int .i8 k2, .slice A2 n2 c2, .int .i64 n, .int .i64 0, .slice (some ⟨w2.heap.size, 0, none⟩) 1 1] := hdep ⟨59, .data⟩ (by simp) rfl _ 114 rfl rfl
          refine .inl ⟨Rg.want_at rfl rfl rfl hF.sz (by decide) zg, Rg.rel_call 115 rfl (CHu.out w' (W8.out.trans (hbw.mono W8.out.size))) (fun e u hg => ?_) ?_⟩
          · obtain ⟨rfl, hb⟩ := hg
            exact ⟨_, rfl, rfl, hb⟩
          · clear hF hdep hi13
            obtain ⟨hcst, hfn⟩ := Rg.evc a'
            generalize a'.eval = ev at *
            go_simp
            try (first | rfl | exact ⟨rfl, rfl⟩ | exact ⟨rfl, rfl, rfl⟩ | exact ⟨rfl, rfl, rfl, rfl, rfl, rfl, rfl, rfl⟩ | exact ⟨rfl, rfl, rfl, rfl, rfl, ⟨rfl, rfl, rfl⟩, rfl, ⟨rfl, rfl, rfl⟩, rfl, rfl, rfl, rfl, rfl⟩)
        · obtain rfl := Rg.SI ho
          have zg : a'.eval (.tmp 113) = .bool true := hdep ⟨58, .guard⟩ (by simp) rfl _ 113 rfl rfl
          have z14 : a'.eval (.tmp 14) = .int .i64 (max K1 (K2 - 1)) := hF.fx 14 _ (by simp)
          refine .inl ⟨Rg.want_at rfl rfl rfl hF.sz (by decide) zg, Rg.rel_val 116 rfl (v := .int .i64 (max K1 (K2 - 1))) rfl ?_⟩
          clear hF hbw hdep hi13
          obtain ⟨hcst, hfn⟩ := Rg.evc a'
          generalize a'.eval = ev at *
          go_simp
          try (first | go_num | (simp [IntKind.wrap, IntKind.bits, IntKind.signed]; omega))
        · obtain rfl := Rg.SI ho
          have zg : a'.eval (.tmp 113) = .bool true := hdep ⟨58, .guard⟩ (by simp) rfl _ 113 rfl rfl
          have z115 : a'.eval (.tmp 115) = .int .i64 K3 := hdep ⟨60, .data⟩ (by simp) rfl _ 115 rfl rfl
          have z116 : a'.eval (.tmp 116) = .int .i64 (max K1 (K2 - 1)) := hdep ⟨61, .data⟩ (by simp) rfl _ 116 rfl rfl
          refine .inl ⟨Rg.want_at rfl rfl rfl hF.sz (by decide) zg, Rg.rel_val 117 rfl (v := .bool true) rfl ?_⟩
          clear hF hbw hdep hi13
          obtain ⟨hcst, hfn⟩ := Rg.evc a'
          generalize a'.eval = ev at *
          go_simp
          try (first | go_num | (simp [IntKind.wrap, IntKind.bits, IntKind.signed]; omega))
        · obtain rfl := Rg.SI ho
          have z113 : a'.eval (.tmp 113) = .bool true := hdep ⟨58, .data⟩ (by simp) rfl _ 113 rfl rfl
          have z117 : a'.eval (.tmp 117) = .bool true := hdep ⟨62, .data⟩ (by simp) rfl _ 117 rfl rfl
          refine .inl ⟨Rg.want_none rfl, Rg.rel_val 118 rfl (v := .bool true) rfl ?_⟩
          clear hF hbw hdep hi13
          obtain ⟨hcst, hfn⟩ := Rg.evc a'
          generalize a'.eval = ev at *
          go_simp
          try (first | go_num | (simp [IntKind.wrap, IntKind.bits, IntKind.signed]; omega))
        · obtain rfl := Rg.SI ho
          have z118 : a'.eval (.tmp 118) = .bool true := hdep ⟨63, .data⟩ (by simp) rfl _ 118 rfl rfl
          refine .inl ⟨Rg.want_none rfl, Rg.rel_val 119 rfl (v := .bool true) rfl ?_⟩
          clear hF hbw hdep hi13
          obtain ⟨hcst, hfn⟩ := Rg.evc a'
          generalize a'.eval = ev at *
          go_simp
          try (first | go_num | (simp [IntKind.wrap, IntKind.bits, IntKind.signed]; omega))
        · obtain rfl := Rg.SI ho
          have zg : a'.eval (.tmp 119) = .bool true := hdep ⟨64, .guard⟩ (by simp) rfl _ 119 rfl rfl
          have z9 : a'.eval (.tmp 9) = .pointer (some ⟨w2.heap.size + 1, 0, none⟩) := hF.fx 9 _ (by simp)
          obtain ⟨q0, q1, q2, q3, q4, q5, q6, q7, q8, q9, q10, ql⟩ := own11 (heap_below (W8.out.trans (hbw.mono W8.out.size)) (heap_lt X9.out) X9.out)
          refine .inl ⟨Rg.want_at rfl rfl rfl hF.sz (by decide) zg, Rg.rel_val 120 rfl (v := .agg #[.int .i8 17, .string ⟨#[]⟩, .string ⟨#[]⟩, .int .i64 0, .int .i8 k1, .slice A1 n1 c1, .int .i8 k2, .slice A2 n2 c2, .int .i64 n, .int .i64 0, .slice (some ⟨w2.heap.size, 0, none⟩) 1 1]) rfl ?_⟩
          clear hF hbw hdep hi13
          obtain ⟨hcst, hfn⟩ := Rg.evc a'
          generalize a'.eval = ev at *
          go_simp
          try (first | go_num | (simp [IntKind.wrap, IntKind.bits, IntKind.signed]; omega))
        · obtain rfl := Rg.SI ho
          have zg : a'.eval (.tmp 119) = .bool true := hdep ⟨64, .guard⟩ (by simp) rfl _ 119 rfl rfl
          have z120 : a'.eval (.tmp 120) = .agg #[.int .i8 17, .string ⟨#[]⟩, .string ⟨#[]⟩, .int .i64 0, .int .i8 k1, .slice A1 n1 c1, .int .i8 k2, .slice A2 n2 c2, .int .i64 n, .int .i64 0, .slice (some ⟨w2.heap.size, 0, none⟩) 1 1] := hdep ⟨65, .data⟩ (by simp) rfl _ 120 rfl rfl
          refine .inl ⟨Rg.want_at rfl rfl rfl hF.sz (by decide) zg, Rg.rel_call 121 rfl (CEu.out w' (W8.out.trans (hbw.mono W8.out.size))) (fun e u hg => ?_) ?_⟩
          · obtain ⟨p2, rfl, hs, hb⟩ := hg
            rw [CER.out.1, CER.out.2] at hs
            exact ⟨_, rfl, ⟨p2, by rw [CER.out.1], hs.is fun _ _ _ _ _ q => q⟩, hb⟩
          · clear hF hdep hi13
            obtain ⟨hcst, hfn⟩ := Rg.evc a'
            generalize a'.eval = ev at *
            go_simp
            try (first | rfl | exact ⟨rfl, rfl⟩ | exact ⟨rfl, rfl, rfl⟩ | exact ⟨rfl, rfl, rfl, rfl, rfl, rfl, rfl, rfl⟩ | exact ⟨rfl, rfl, rfl, rfl, rfl, ⟨rfl, rfl, rfl⟩, rfl, ⟨rfl, rfl, rfl⟩, rfl, rfl, rfl, rfl, rfl⟩)
        · obtain rfl := Rg.SI ho
          have zg : a'.eval (.tmp 119) = .bool true := hdep ⟨64, .guard⟩ (by simp) rfl _ 119 rfl rfl
          have z4 : a'.eval (.tmp 4) = .pointer (some ⟨w.heap.size, 0, none⟩) := hF.fx 4 _ (by simp)
          obtain ⟨q0, q1, q2, q3, q4, q5, q6, q7, q8, q9, q10, ql⟩ := own11 (heap_below (W8.out.trans (hbw.mono W8.out.size)) (heap_lt X4.out) X4.out)
          refine .inl ⟨Rg.want_at rfl rfl rfl hF.sz (by decide) zg, Rg.rel_val 122 rfl (v := .agg #[.int .i8 h.kind, .string h.name, .string h.arg, .int .i64 h.num, .int .i8 h.tk, .slice p.TA p.tn p.tc, .int .i8 h.uk, .slice p.UA p.un p.uc, .int .i64 h.label, .int .i64 h.pos, .slice p.A p.n p.c]) rfl ?_⟩
          clear hF hbw hdep hi13
          obtain ⟨hcst, hfn⟩ := Rg.evc a'
          generalize a'.eval = ev at *
          go_simp
          try (first | go_num | (simp [IntKind.wrap, IntKind.bits, IntKind.signed]; omega))
        · obtain rfl := Rg.SI ho
          have zg : a'.eval (.tmp 119) = .bool true := hdep ⟨64, .guard⟩ (by simp) rfl _ 119 rfl rfl
          have z122 : a'.eval (.tmp 122) = .agg #[.int .i8 h.kind, .string h.name, .string h.arg, .int .i64 h.num, .int .i8 h.tk, .slice p.TA p.tn p.tc, .int .i8 h.uk, .slice p.UA p.un p.uc, .int .i64 h.label, .int .i64 h.pos, .slice p.A p.n p.c] := hdep ⟨67, .data⟩ (by simp) rfl _ 122 rfl rfl
          refine .inl ⟨Rg.want_at rfl rfl rfl hF.sz (by decide) zg, Rg.rel_call 123 rfl (CEt.out w' (W8.out.trans (hbw.mono W8.out.size))) (fun e u hg => ?_) ?_⟩
          · obtain ⟨p2, rfl, hs, hb⟩ := hg
            exact ⟨_, rfl, ⟨p2, rfl, hs.is fun _ _ _ _ _ q => q⟩, hb⟩
          · clear hF hdep hi13
            obtain ⟨hcst, hfn⟩ := Rg.evc a'
            generalize a'.eval = ev at *
            go_simp
            try (first | rfl | exact ⟨rfl, rfl⟩ | exact ⟨rfl, rfl, rfl⟩ | exact ⟨rfl, rfl, rfl, rfl, rfl, rfl, rfl, rfl⟩ | exact ⟨rfl, rfl, rfl, rfl, rfl, ⟨rfl, rfl, rfl⟩, rfl, ⟨rfl, rfl, rfl⟩, rfl, rfl, rfl, rfl, rfl⟩)
        · obtain rfl := Rg.SI ho
          have zg : a'.eval (.tmp 119) = .bool true := hdep ⟨64, .guard⟩ (by simp) rfl _ 119 rfl rfl
          have z121 := hdep ⟨66, .data⟩ (by simp) rfl _ 121 rfl rfl
          have z123 := hdep ⟨68, .data⟩ (by simp) rfl _ 123 rfl rfl
          obtain ⟨pa, z121, hia⟩ := z121
          obtain ⟨pb, z123, hib⟩ := z123
          refine .inl ⟨Rg.want_at rfl rfl rfl hF.sz (by decide) zg, Rg.rel_call 124 rfl (liket_any (Tm.nodes (Ca.eK h kids) + 1) (Ca.eH h kids) (Ca.eK h kids) pa pb w' (Nat.lt_succ_self _) hia hib) (fun e u hg => ?_) ?_⟩
          · obtain ⟨rfl, hb⟩ := hg
            exact ⟨_, rfl, rfl, hb⟩
          · clear hF hdep hi13
            obtain ⟨hcst, hfn⟩ := Rg.evc a'
            generalize a'.eval = ev at *
            go_simp
            try (first | rfl | exact ⟨rfl, rfl⟩ | exact ⟨rfl, rfl, rfl⟩ | exact ⟨rfl, rfl, rfl, rfl, rfl, rfl, rfl, rfl⟩ | exact ⟨rfl, rfl, rfl, rfl, rfl, ⟨rfl, rfl, rfl⟩, rfl, ⟨rfl, rfl, rfl⟩, rfl, rfl, rfl, rfl, rfl⟩)
        · obtain rfl := Rg.SI ho
          have z119 : a'.eval (.tmp 119) = .bool true := hdep ⟨64, .data⟩ (by simp) rfl _ 119 rfl rfl
          have z124 : a'.eval (.tmp 124) = .bool true := hdep ⟨69, .data⟩ (by simp) rfl _ 124 rfl rfl
          refine .inl ⟨Rg.want_none rfl, Rg.rel_val 125 rfl (v := .bool true) rfl ?_⟩
          clear hF hbw hdep hi13
          obtain ⟨hcst, hfn⟩ := Rg.evc a'
          generalize a'.eval = ev at *
          go_simp
          try (first | go_num | (simp [IntKind.wrap, IntKind.bits, IntKind.signed]; omega))
        · obtain rfl := Rg.SI ho
          have z125 : a'.eval (.tmp 125) = .bool true := hdep ⟨70, .data⟩ (by simp) rfl _ 125 rfl rfl
          refine .inl ⟨Rg.want_none rfl, Rg.rel_val 126 rfl (v := .bool true) rfl ?_⟩
          clear hF hbw hdep hi13
          obtain ⟨hcst, hfn⟩ := Rg.evc a'
          generalize a'.eval = ev at *
          go_simp
          try (first | go_num | (simp [IntKind.wrap, IntKind.bits, IntKind.signed]; omega))
        · obtain rfl := Rg.SI ho
          have zg : a'.eval (.tmp 126) = .bool true := hdep ⟨71, .guard⟩ (by simp) rfl _ 126 rfl rfl
          refine .inl ⟨Rg.want_at rfl rfl rfl hF.sz (by decide) zg, Rg.rel_call 127 rfl (CWK.out w' (E8.out.trans ((W8.out.trans (hbw.mono W8.out.size)).mono E8.out.size))) (fun e u hg => ?_) ?_⟩
          · obtain ⟨rfl, hb⟩ := hg
            exact ⟨_, rfl, rfl, hb⟩
          · clear hF hdep hi13
            obtain ⟨hcst, hfn⟩ := Rg.evc a'
            generalize a'.eval = ev at *
            go_simp
            try (first | rfl | exact ⟨rfl, rfl⟩ | exact ⟨rfl, rfl, rfl⟩ | exact ⟨rfl, rfl, rfl, rfl, rfl, rfl, rfl, rfl⟩ | exact ⟨rfl, rfl, rfl, rfl, rfl, ⟨rfl, rfl, rfl⟩, rfl, ⟨rfl, rfl, rfl⟩, rfl, rfl, rfl, rfl, rfl⟩)
        · obtain rfl := Rg.SI ho
          have z126 : a'.eval (.tmp 126) = .bool true := hdep ⟨71, .data⟩ (by simp) rfl _ 126 rfl rfl
          have z127 : a'.eval (.tmp 127) = .bool true := hdep ⟨72, .data⟩ (by simp) rfl _ 127 rfl rfl
          refine .inl ⟨Rg.want_none rfl, Rg.rel_val 128 rfl (v := .bool true) rfl ?_⟩
          clear hF hbw hdep hi13
          obtain ⟨hcst, hfn⟩ := Rg.evc a'
          generalize a'.eval = ev at *
          go_simp
          try (first | go_num | (simp [IntKind.wrap, IntKind.bits, IntKind.signed]; omega))
        · obtain rfl := Rg.SI ho
          have z128 : a'.eval (.tmp 128) = .bool true := hdep ⟨73, .data⟩ (by simp) rfl _ 128 rfl rfl
          refine .inl ⟨Rg.want_none rfl, Rg.rel_val 8 rfl (v := .bool true) rfl ?_⟩
          clear hF hbw hdep hi13
          obtain ⟨hcst, hfn⟩ := Rg.evc a'
          generalize a'.eval = ev at *
          go_simp
          try (first | go_num | (simp [IntKind.wrap, IntKind.bits, IntKind.signed]; omega))
      · intro u w' t ht hb hG
        have h4 : u 8 = .bool true := hG 74 _ 8 rfl rfl
        have HBF := Lib.hid (HB1.out.trans ((E8.out.trans ((W8.out.trans (hb.mono W8.out.size)).mono E8.out.size)).mono HB1.out.size))
        clear hG hb
        simp only [over, List.setIfInBounds_toArray, List.set_cons_succ, List.set_cons_zero, h4] at ht
        subst ht
        go_wp2_with fail
        go_ret
        exact ⟨rfl, HBF.out⟩
end Go.Proofs.YtfkbdpehdabepaaGreatDoor
