/-
  right: kinds 12 to 17.
-/
import Derived.Test.YtfkbdpehdabepaaGreatDoorM4
namespace Go.Proofs.YtfkbdpehdabepaaGreatDoor
open Go.RowKit

set_option maxHeartbeats 8000000 in
set_option maxRecDepth 100000 in
theorem tright_I (h : Hd) (kids : Tm) (p : Pl) (w : World) (K : Nat) (hK : Tm.nodes kids < K + 1) (hIs : Tm.Is w h kids p) (hk : h.kind = 12 ∨ h.kind = 13 ∨ h.kind = 16) (hkn : Tm.len kids = Tm.kidsN h.kind)
    (ih : ∀ (h : Hd) (kids : Tm) (p : Pl) (w : World), Tm.nodes kids < K → Tm.Is w h kids p → Calls Tryz.prog 77 #[.agg #[.int .i8 h.kind, .string h.name, .string h.arg, .int .i64 h.num, .int .i8 h.tk, .slice p.TA p.tn p.tc, .int .i8 h.uk, .slice p.UA p.un p.uc, .int .i64 h.label, .int .i64 h.pos, .slice p.A p.n p.c]] w fun e w' => e = .returned (.bool (Tm.okT h kids)) ∧ Below w.heap.size w w') :
    Calls Tryz.prog 77 #[.agg #[.int .i8 h.kind, .string h.name, .string h.arg, .int .i64 h.num, .int .i8 h.tk, .slice p.TA p.tn p.tc, .int .i8 h.uk, .slice p.UA p.un p.uc, .int .i64 h.label, .int .i64 h.pos, .slice p.A p.n p.c]] w fun e w' => e = .returned (.bool (Tm.okT h kids)) ∧ Below w.heap.size w w' := by
  have HX := Lib.hid (RightCtx.mk_of hIs)
  have IH := Lib.hid ih
  have hKD : ∀ W : World, Calls Tryz.prog 119 #[.int .i8 h.kind] W fun e w' => e = .returned (.int .i64 (Tm.kidsI h.kind)) ∧ w' = W := fun W => (ref_kids_any h.kind W).mono fun e w' ⟨h1, h2⟩ => ⟨h1, h2.symm⟩
  have hHN := ref_hasName_any h.kind
  have hHA := ref_hasArg_any h.kind
  have hHT := ref_hasType_any h.kind
  have hHU := ref_hasTo_any h.kind
  have hOP := ref_op_any h.name
  have hNM := ref_Name_any h.name
  have hNA := ref_Name_any h.arg
  have HO := Lib.hid (Tm.okT_eq h kids)
  have hTO := Tm.tysOk_of h
  have hne := Tm.kidsI_ne h.kind p.n
  have hn := hIs.fit.n_eq
  have i5 := HX.out.n_max
  clear ih hIs
  have f5 : Tm.isKind h.kind = true := by simp [Tm.isKind] <;> omega
  have f0 : Tm.hasName h.kind = false := by simp [Tm.hasName] <;> omega
  have f1 : Tm.hasArg h.kind = false := by simp [Tm.hasArg] <;> omega
  have f2 : Tm.hasType h.kind = true := by simp [Tm.hasType] <;> omega
  have f3 : Tm.hasTo h.kind = false := by simp [Tm.hasTo] <;> omega
  have f4 : Tm.hasLabel h.kind = false := by simp [Tm.hasLabel] <;> omega
  have k1 : (h.kind == 15) = false := by simp <;> omega
  have k2 : (h.kind != 15) = true := by simp <;> omega
  have k3 : (h.kind == 17) = false := by simp <;> omega
  rw [f5, show decide (p.n = Tm.kidsN h.kind) = true by simp <;> omega, Bool.and_self, Bool.not_true] at hne
  have hO := HO.out
  rw [f5, show decide (Tm.len kids = Tm.kidsN h.kind) = true by simp <;> omega, f4, hTO, f2, f3] at hO
  have hno : Tm.nameOk h = ((!false || Sc.isName h.name) && (!false || Sc.isName h.arg)) := by unfold Tm.nameOk; rw [if_neg (by omega), f0, f1]
  rw [hno] at hO
  simp only [Bool.true_and, Bool.not_true, Bool.not_false, Bool.true_or, Bool.false_or] at hO
  rw [f0] at hHN
  rw [f1] at hHA
  rw [f2] at hHT
  rw [f3] at hHU
  generalize Tm.okT h kids = R at *
  clear HO hTO hno hk hkn hn f0 f1 f2 f3 f4 f5
  generalize ht : (((Ty.chk h.tk h.tkids : Nat) : Int) == 0) = xt at *
  have ht2 : (((Ty.chk h.tk h.tkids : Nat) : Int) != 0) = !xt := by rw [← ht]; rfl
  clear ht
  cases xt
  · obtain rfl : R = false := by rw [hO]; rfl
    clear hO
    simp only [Bool.not_false] at ht2
    go_enter Tryz.func77, Tryz.ntmps77
    go_wp2_with fail
    obtain ⟨q0, q1, q2, q3, q4, q5, q6, q7, q8, q9, q10, ql⟩ := own11 (heap_new w (.cells #[.int .i8 h.kind, .string h.name, .string h.arg, .int .i64 h.num, .int .i8 h.tk, .slice p.TA p.tn p.tc, .int .i8 h.uk, .slice p.UA p.un p.uc, .int .i64 h.label, .int .i64 h.pos, .slice p.A p.n p.c] 28))
    go_quiet ((go_at_call 119; exact Calls.quiet_of_same (hKD _)))
    clear q0 q1 q2 q3 q4 q5 q6 q7 q8 q9 q10 ql
    generalize hwq : World.drewN (w.alloc (.cells #[.int .i8 h.kind, .string h.name, .string h.arg, .int .i64 h.num, .int .i8 h.tk, .slice p.TA p.tn p.tc, .int .i8 h.uk, .slice p.UA p.un p.uc, .int .i64 h.label, .int .i64 h.pos, .slice p.A p.n p.c] 28)) _ = wq
    have hBq : Below w.heap.size w wq := hwq ▸ (HX.out.row _).1
    have RQ := Lib.hid (show wq.heap[w.heap.size]? = some (.cells #[.int .i8 h.kind, .string h.name, .string h.arg, .int .i64 h.num, .int .i8 h.tk, .slice p.TA p.tn p.tc, .int .i8 h.uk, .slice p.UA p.un p.uc, .int .i64 h.label, .int .i64 h.pos, .slice p.A p.n p.c] 28 (0, 0)) from hwq ▸ (HX.out.row _).2)
    clear hwq
    obtain ⟨q0, q1, q2, q3, q4, q5, q6, q7, q8, q9, q10, ql⟩ := own11 RQ.out
    go_wp2_with (first | (go_at_call 78; refine (hHN _).mono ?_; rintro e w9 ⟨rfl, rfl⟩) | (go_at_call 79; refine (hHA _).mono ?_; rintro e w9 ⟨rfl, rfl⟩) | (go_at_call 80; refine (hHT _).mono ?_; rintro e w9 ⟨rfl, rfl⟩) | (go_at_call 81; refine (hHU _).mono ?_; rintro e w9 ⟨rfl, rfl⟩) | (go_at_call 120; refine (hOP _).mono ?_; rintro e w9 ⟨rfl, rfl⟩) | (go_at_call 121; (with_reducible refine (hNM _).mono ?_); rintro e w9 ⟨rfl, rfl⟩) | (go_at_call 121; (with_reducible refine (hNA _).mono ?_); rintro e w9 ⟨rfl, rfl⟩))
    refine (HX.out.ty _ hBq).mono ?_
    rintro e w3 ⟨rfl, hb⟩
    have hB3 := hBq.trans (hb.mono hBq.size)
    have R3 := Lib.hid (heap_below hb (heap_lt RQ.out) RQ.out)
    clear q0 q1 q2 q3 q4 q5 q6 q7 q8 q9 q10 ql
    obtain ⟨q0, q1, q2, q3, q4, q5, q6, q7, q8, q9, q10, ql⟩ := own11 R3.out
    clear hb
    go_wp2_with (first | (go_at_call 78; refine (hHN _).mono ?_; rintro e w9 ⟨rfl, rfl⟩) | (go_at_call 79; refine (hHA _).mono ?_; rintro e w9 ⟨rfl, rfl⟩) | (go_at_call 80; refine (hHT _).mono ?_; rintro e w9 ⟨rfl, rfl⟩) | (go_at_call 81; refine (hHU _).mono ?_; rintro e w9 ⟨rfl, rfl⟩) | (go_at_call 120; refine (hOP _).mono ?_; rintro e w9 ⟨rfl, rfl⟩) | (go_at_call 121; (with_reducible refine (hNM _).mono ?_); rintro e w9 ⟨rfl, rfl⟩) | (go_at_call 121; (with_reducible refine (hNA _).mono ?_); rintro e w9 ⟨rfl, rfl⟩))
    go_ret
    exact ⟨rfl, hB3⟩
  simp only [Bool.not_true] at ht2
  obtain rfl : R = Tm.okF kids := by rw [hO] <;> rfl
  clear hO
  go_enter Tryz.func77, Tryz.ntmps77
  go_wp2_with fail
  obtain ⟨q0, q1, q2, q3, q4, q5, q6, q7, q8, q9, q10, ql⟩ := own11 (heap_new w (.cells #[.int .i8 h.kind, .string h.name, .string h.arg, .int .i64 h.num, .int .i8 h.tk, .slice p.TA p.tn p.tc, .int .i8 h.uk, .slice p.UA p.un p.uc, .int .i64 h.label, .int .i64 h.pos, .slice p.A p.n p.c] 28))
  go_quiet ((go_at_call 119; exact Calls.quiet_of_same (hKD _)))
  clear q0 q1 q2 q3 q4 q5 q6 q7 q8 q9 q10 ql
  generalize hwq : World.drewN (w.alloc (.cells #[.int .i8 h.kind, .string h.name, .string h.arg, .int .i64 h.num, .int .i8 h.tk, .slice p.TA p.tn p.tc, .int .i8 h.uk, .slice p.UA p.un p.uc, .int .i64 h.label, .int .i64 h.pos, .slice p.A p.n p.c] 28)) _ = wq
  have hBq : Below w.heap.size w wq := hwq ▸ (HX.out.row _).1
  have RQ := Lib.hid (show wq.heap[w.heap.size]? = some (.cells #[.int .i8 h.kind, .string h.name, .string h.arg, .int .i64 h.num, .int .i8 h.tk, .slice p.TA p.tn p.tc, .int .i8 h.uk, .slice p.UA p.un p.uc, .int .i64 h.label, .int .i64 h.pos, .slice p.A p.n p.c] 28 (0, 0)) from hwq ▸ (HX.out.row _).2)
  clear hwq
  obtain ⟨q0, q1, q2, q3, q4, q5, q6, q7, q8, q9, q10, ql⟩ := own11 RQ.out
  go_wp2_with (first | (go_at_call 78; refine (hHN _).mono ?_; rintro e w9 ⟨rfl, rfl⟩) | (go_at_call 79; refine (hHA _).mono ?_; rintro e w9 ⟨rfl, rfl⟩) | (go_at_call 80; refine (hHT _).mono ?_; rintro e w9 ⟨rfl, rfl⟩) | (go_at_call 81; refine (hHU _).mono ?_; rintro e w9 ⟨rfl, rfl⟩) | (go_at_call 120; refine (hOP _).mono ?_; rintro e w9 ⟨rfl, rfl⟩) | (go_at_call 121; (with_reducible refine (hNM _).mono ?_); rintro e w9 ⟨rfl, rfl⟩) | (go_at_call 121; (with_reducible refine (hNA _).mono ?_); rintro e w9 ⟨rfl, rfl⟩))
  refine (HX.out.ty _ hBq).mono ?_
  rintro e w3 ⟨rfl, hb⟩
  have hB3 := hBq.trans (hb.mono hBq.size)
  have R3 := Lib.hid (heap_below hb (heap_lt RQ.out) RQ.out)
  clear q0 q1 q2 q3 q4 q5 q6 q7 q8 q9 q10 ql
  obtain ⟨q0, q1, q2, q3, q4, q5, q6, q7, q8, q9, q10, ql⟩ := own11 R3.out
  clear hb
  go_wp2_with (first | (go_at_call 78; refine (hHN _).mono ?_; rintro e w9 ⟨rfl, rfl⟩) | (go_at_call 79; refine (hHA _).mono ?_; rintro e w9 ⟨rfl, rfl⟩) | (go_at_call 80; refine (hHT _).mono ?_; rintro e w9 ⟨rfl, rfl⟩) | (go_at_call 81; refine (hHU _).mono ?_; rintro e w9 ⟨rfl, rfl⟩) | (go_at_call 120; refine (hOP _).mono ?_; rintro e w9 ⟨rfl, rfl⟩) | (go_at_call 121; (with_reducible refine (hNM _).mono ?_); rintro e w9 ⟨rfl, rfl⟩) | (go_at_call 121; (with_reducible refine (hNA _).mono ?_); rintro e w9 ⟨rfl, rfl⟩))
  have HST := Lib.hid (OverT.start (HX.out.lies _ hB3) HX.out.n_eq)
  clear q0 q1 q2 q3 q4 q5 q6 q7 q8 q9 q10
  generalize w3 = w1 at *
  go_loopw [3] (fun v wr => ∃ (i : Nat) (rest : Tm), v = .int .i64 i ∧ OverT w1 wr p.A p.n (Tm.nodes kids) i rest ∧ Tm.okF rest = Tm.okF kids) (fun v _ => p.n - (intOf v).toNat)
  case atStart => exact ⟨0, kids, rfl, HST.out, rfl⟩
  case round =>
    obtain ⟨i, rest, rfl, hO, hRR⟩ := hrel
    have hbB := hB3.trans (hO.below.mono hB3.size)
    have HX2 := Lib.hid (heap_below hO.below (heap_lt R3.out) R3.out)
    obtain ⟨q0, q1, q2, q3, q4, q5, q6, q7, q8, q9, q10, ql2⟩ := own11 HX2.out
    have HRR := Lib.hid hRR
    clear hRR
    cases rest with
    | nil =>
      have hi : i = p.n := by have := hO.i_eq; simpa [Tm.len] using this
      clear hO
      subst hi
      go_wp2_with fail
      go_ret
      exact ⟨ret_b (by rw [← HRR.out]; rfl), hbB⟩
    | node h' kids' r =>
      have hst := fun w2 hb => OverT.step (w2 := w2) hO hb
      have h1 := hO.i_eq
      have h2 := hO.lies
      have h3 := hO.sub
      simp only [Tm.len, Tm.nodes] at h1 h3
      obtain ⟨bb, oo, p', hpA, hcs, hfit, hl3, hl4⟩ := h2
      have j1 : (i : Int) < p.n := by omega
      have hcall := IH.out h' kids' p' wr (by omega) ⟨hfit, hl3⟩
      obtain ⟨c0, c1, c2, c3, c4, c5, c6, c7, c8, c9, c10⟩ := Tm.row hcs
      have HS2 := Lib.hid hst
      have HL := Lib.hid hl4
      have HPA := Lib.hid hpA
      have hokk := HRR.out
      simp only [Tm.okF] at hokk
      have hokt : Tm.okT h' kids' = (Tm.headOk h' (Tm.len kids') && Tm.okF kids') := rfl
      rw [← hokt] at hokk
      clear hst hl3 hl4 hO hcs hfit hpA hokt
      generalize Tm.okT h' kids' = b at *
      have HCK := Lib.hid hcall
      have HOK := Lib.hid hokk
      clear hcall hokk
      generalize hPA : p.A = PA at *
      obtain rfl : PA = some ⟨bb, oo, none⟩ := HPA.out
      clear hPA HPA
      cases b
      · go_wp2_with fail
        refine HCK.out.mono ?_
        rintro e w2 ⟨rfl, hb⟩
        go_wp2_with fail
        go_ret
        exact ⟨ret_b (by rw [← HOK.out]; rfl), hbB.trans (hb.mono hbB.size)⟩
      · go_wp2_with fail
        refine HCK.out.mono ?_
        rintro e w2 ⟨rfl, hb⟩
        have hbb := Lib.hid (HS2.out w2 hb HL.out)
        have HNX := Lib.hid (show Tm.okF r = Tm.okF kids by rw [← HOK.out]; rfl)
        clear hb
        go_wp2_with fail
        go_roundw
        case rel => exact ⟨i + 1, r, by go_num, hbb.out, HNX.out⟩
        case measure => simp [intOf]; omega

set_option maxHeartbeats 8000000 in
set_option maxRecDepth 100000 in
theorem tright_C (h : Hd) (kids : Tm) (p : Pl) (w : World) (K : Nat) (hK : Tm.nodes kids < K + 1) (hIs : Tm.Is w h kids p) (hk : h.kind = 14) (hkn : Tm.len kids = Tm.kidsN h.kind)
    (ih : ∀ (h : Hd) (kids : Tm) (p : Pl) (w : World), Tm.nodes kids < K → Tm.Is w h kids p → Calls Tryz.prog 77 #[.agg #[.int .i8 h.kind, .string h.name, .string h.arg, .int .i64 h.num, .int .i8 h.tk, .slice p.TA p.tn p.tc, .int .i8 h.uk, .slice p.UA p.un p.uc, .int .i64 h.label, .int .i64 h.pos, .slice p.A p.n p.c]] w fun e w' => e = .returned (.bool (Tm.okT h kids)) ∧ Below w.heap.size w w') :
    Calls Tryz.prog 77 #[.agg #[.int .i8 h.kind, .string h.name, .string h.arg, .int .i64 h.num, .int .i8 h.tk, .slice p.TA p.tn p.tc, .int .i8 h.uk, .slice p.UA p.un p.uc, .int .i64 h.label, .int .i64 h.pos, .slice p.A p.n p.c]] w fun e w' => e = .returned (.bool (Tm.okT h kids)) ∧ Below w.heap.size w w' := by
  have HX := Lib.hid (RightCtx.mk_of hIs)
  have IH := Lib.hid ih
  have hKD : ∀ W : World, Calls Tryz.prog 119 #[.int .i8 h.kind] W fun e w' => e = .returned (.int .i64 (Tm.kidsI h.kind)) ∧ w' = W := fun W => (ref_kids_any h.kind W).mono fun e w' ⟨h1, h2⟩ => ⟨h1, h2.symm⟩
  have hHN := ref_hasName_any h.kind
  have hHA := ref_hasArg_any h.kind
  have hHT := ref_hasType_any h.kind
  have hHU := ref_hasTo_any h.kind
  have hOP := ref_op_any h.name
  have hNM := ref_Name_any h.name
  have hNA := ref_Name_any h.arg
  have HO := Lib.hid (Tm.okT_eq h kids)
  have hTO := Tm.tysOk_of h
  have hne := Tm.kidsI_ne h.kind p.n
  have hn := hIs.fit.n_eq
  have i5 := HX.out.n_max
  clear ih hIs
  have f5 : Tm.isKind h.kind = true := by simp [Tm.isKind] <;> omega
  have f0 : Tm.hasName h.kind = true := by simp [Tm.hasName] <;> omega
  have f1 : Tm.hasArg h.kind = true := by simp [Tm.hasArg] <;> omega
  have f2 : Tm.hasType h.kind = false := by simp [Tm.hasType] <;> omega
  have f3 : Tm.hasTo h.kind = false := by simp [Tm.hasTo] <;> omega
  have f4 : Tm.hasLabel h.kind = false := by simp [Tm.hasLabel] <;> omega
  have k1 : (h.kind == 15) = false := by simp <;> omega
  have k2 : (h.kind != 15) = true := by simp <;> omega
  have k3 : (h.kind == 17) = false := by simp <;> omega
  rw [f5, show decide (p.n = Tm.kidsN h.kind) = true by simp <;> omega, Bool.and_self, Bool.not_true] at hne
  have hO := HO.out
  rw [f5, show decide (Tm.len kids = Tm.kidsN h.kind) = true by simp <;> omega, f4, hTO, f2, f3] at hO
  have hno : Tm.nameOk h = ((!true || Sc.isName h.name) && (!true || Sc.isName h.arg)) := by unfold Tm.nameOk; rw [if_neg (by omega), f0, f1]
  rw [hno] at hO
  simp only [Bool.true_and, Bool.not_true, Bool.not_false, Bool.true_or, Bool.false_or] at hO
  rw [f0] at hHN
  rw [f1] at hHA
  rw [f2] at hHT
  rw [f3] at hHU
  generalize Tm.okT h kids = R at *
  clear HO hTO hno hk hkn hn f0 f1 f2 f3 f4 f5
  generalize Sc.isName h.name = xn at *
  generalize Sc.isName h.arg = xa at *
  cases xn
  · obtain rfl : R = false := by rw [hO]; rfl
    clear hO
    go_enter Tryz.func77, Tryz.ntmps77
    go_wp2_with fail
    obtain ⟨q0, q1, q2, q3, q4, q5, q6, q7, q8, q9, q10, ql⟩ := own11 (heap_new w (.cells #[.int .i8 h.kind, .string h.name, .string h.arg, .int .i64 h.num, .int .i8 h.tk, .slice p.TA p.tn p.tc, .int .i8 h.uk, .slice p.UA p.un p.uc, .int .i64 h.label, .int .i64 h.pos, .slice p.A p.n p.c] 28))
    go_quiet ((go_at_call 119; exact Calls.quiet_of_same (hKD _)))
    clear q0 q1 q2 q3 q4 q5 q6 q7 q8 q9 q10 ql
    generalize hwq : World.drewN (w.alloc (.cells #[.int .i8 h.kind, .string h.name, .string h.arg, .int .i64 h.num, .int .i8 h.tk, .slice p.TA p.tn p.tc, .int .i8 h.uk, .slice p.UA p.un p.uc, .int .i64 h.label, .int .i64 h.pos, .slice p.A p.n p.c] 28)) _ = wq
    have hBq : Below w.heap.size w wq := hwq ▸ (HX.out.row _).1
    have RQ := Lib.hid (show wq.heap[w.heap.size]? = some (.cells #[.int .i8 h.kind, .string h.name, .string h.arg, .int .i64 h.num, .int .i8 h.tk, .slice p.TA p.tn p.tc, .int .i8 h.uk, .slice p.UA p.un p.uc, .int .i64 h.label, .int .i64 h.pos, .slice p.A p.n p.c] 28 (0, 0)) from hwq ▸ (HX.out.row _).2)
    clear hwq
    obtain ⟨q0, q1, q2, q3, q4, q5, q6, q7, q8, q9, q10, ql⟩ := own11 RQ.out
    go_wp2_with (first | (go_at_call 78; refine (hHN _).mono ?_; rintro e w9 ⟨rfl, rfl⟩) | (go_at_call 79; refine (hHA _).mono ?_; rintro e w9 ⟨rfl, rfl⟩) | (go_at_call 80; refine (hHT _).mono ?_; rintro e w9 ⟨rfl, rfl⟩) | (go_at_call 81; refine (hHU _).mono ?_; rintro e w9 ⟨rfl, rfl⟩) | (go_at_call 120; refine (hOP _).mono ?_; rintro e w9 ⟨rfl, rfl⟩) | (go_at_call 121; (with_reducible refine (hNM _).mono ?_); rintro e w9 ⟨rfl, rfl⟩) | (go_at_call 121; (with_reducible refine (hNA _).mono ?_); rintro e w9 ⟨rfl, rfl⟩))
    go_ret
    exact ⟨rfl, hBq⟩
  cases xa
  · obtain rfl : R = false := by rw [hO]; rfl
    clear hO
    go_enter Tryz.func77, Tryz.ntmps77
    go_wp2_with fail
    obtain ⟨q0, q1, q2, q3, q4, q5, q6, q7, q8, q9, q10, ql⟩ := own11 (heap_new w (.cells #[.int .i8 h.kind, .string h.name, .string h.arg, .int .i64 h.num, .int .i8 h.tk, .slice p.TA p.tn p.tc, .int .i8 h.uk, .slice p.UA p.un p.uc, .int .i64 h.label, .int .i64 h.pos, .slice p.A p.n p.c] 28))
    go_quiet ((go_at_call 119; exact Calls.quiet_of_same (hKD _)))
    clear q0 q1 q2 q3 q4 q5 q6 q7 q8 q9 q10 ql
    generalize hwq : World.drewN (w.alloc (.cells #[.int .i8 h.kind, .string h.name, .string h.arg, .int .i64 h.num, .int .i8 h.tk, .slice p.TA p.tn p.tc, .int .i8 h.uk, .slice p.UA p.un p.uc, .int .i64 h.label, .int .i64 h.pos, .slice p.A p.n p.c] 28)) _ = wq
    have hBq : Below w.heap.size w wq := hwq ▸ (HX.out.row _).1
    have RQ := Lib.hid (show wq.heap[w.heap.size]? = some (.cells #[.int .i8 h.kind, .string h.name, .string h.arg, .int .i64 h.num, .int .i8 h.tk, .slice p.TA p.tn p.tc, .int .i8 h.uk, .slice p.UA p.un p.uc, .int .i64 h.label, .int .i64 h.pos, .slice p.A p.n p.c] 28 (0, 0)) from hwq ▸ (HX.out.row _).2)
    clear hwq
    obtain ⟨q0, q1, q2, q3, q4, q5, q6, q7, q8, q9, q10, ql⟩ := own11 RQ.out
    go_wp2_with (first | (go_at_call 78; refine (hHN _).mono ?_; rintro e w9 ⟨rfl, rfl⟩) | (go_at_call 79; refine (hHA _).mono ?_; rintro e w9 ⟨rfl, rfl⟩) | (go_at_call 80; refine (hHT _).mono ?_; rintro e w9 ⟨rfl, rfl⟩) | (go_at_call 81; refine (hHU _).mono ?_; rintro e w9 ⟨rfl, rfl⟩) | (go_at_call 120; refine (hOP _).mono ?_; rintro e w9 ⟨rfl, rfl⟩) | (go_at_call 121; (with_reducible refine (hNM _).mono ?_); rintro e w9 ⟨rfl, rfl⟩) | (go_at_call 121; (with_reducible refine (hNA _).mono ?_); rintro e w9 ⟨rfl, rfl⟩))
    go_ret
    exact ⟨rfl, hBq⟩
  obtain rfl : R = Tm.okF kids := by rw [hO] <;> rfl
  clear hO
  go_enter Tryz.func77, Tryz.ntmps77
  go_wp2_with fail
  obtain ⟨q0, q1, q2, q3, q4, q5, q6, q7, q8, q9, q10, ql⟩ := own11 (heap_new w (.cells #[.int .i8 h.kind, .string h.name, .string h.arg, .int .i64 h.num, .int .i8 h.tk, .slice p.TA p.tn p.tc, .int .i8 h.uk, .slice p.UA p.un p.uc, .int .i64 h.label, .int .i64 h.pos, .slice p.A p.n p.c] 28))
  go_quiet ((go_at_call 119; exact Calls.quiet_of_same (hKD _)))
  clear q0 q1 q2 q3 q4 q5 q6 q7 q8 q9 q10 ql
  generalize hwq : World.drewN (w.alloc (.cells #[.int .i8 h.kind, .string h.name, .string h.arg, .int .i64 h.num, .int .i8 h.tk, .slice p.TA p.tn p.tc, .int .i8 h.uk, .slice p.UA p.un p.uc, .int .i64 h.label, .int .i64 h.pos, .slice p.A p.n p.c] 28)) _ = wq
  have hBq : Below w.heap.size w wq := hwq ▸ (HX.out.row _).1
  have RQ := Lib.hid (show wq.heap[w.heap.size]? = some (.cells #[.int .i8 h.kind, .string h.name, .string h.arg, .int .i64 h.num, .int .i8 h.tk, .slice p.TA p.tn p.tc, .int .i8 h.uk, .slice p.UA p.un p.uc, .int .i64 h.label, .int .i64 h.pos, .slice p.A p.n p.c] 28 (0, 0)) from hwq ▸ (HX.out.row _).2)
  clear hwq
  obtain ⟨q0, q1, q2, q3, q4, q5, q6, q7, q8, q9, q10, ql⟩ := own11 RQ.out
  go_wp2_with (first | (go_at_call 78; refine (hHN _).mono ?_; rintro e w9 ⟨rfl, rfl⟩) | (go_at_call 79; refine (hHA _).mono ?_; rintro e w9 ⟨rfl, rfl⟩) | (go_at_call 80; refine (hHT _).mono ?_; rintro e w9 ⟨rfl, rfl⟩) | (go_at_call 81; refine (hHU _).mono ?_; rintro e w9 ⟨rfl, rfl⟩) | (go_at_call 120; refine (hOP _).mono ?_; rintro e w9 ⟨rfl, rfl⟩) | (go_at_call 121; (with_reducible refine (hNM _).mono ?_); rintro e w9 ⟨rfl, rfl⟩) | (go_at_call 121; (with_reducible refine (hNA _).mono ?_); rintro e w9 ⟨rfl, rfl⟩))
  have HST := Lib.hid (OverT.start (HX.out.lies _ hBq) HX.out.n_eq)
  clear q0 q1 q2 q3 q4 q5 q6 q7 q8 q9 q10
  generalize wq = w1 at *
  go_loopw [3] (fun v wr => ∃ (i : Nat) (rest : Tm), v = .int .i64 i ∧ OverT w1 wr p.A p.n (Tm.nodes kids) i rest ∧ Tm.okF rest = Tm.okF kids) (fun v _ => p.n - (intOf v).toNat)
  case atStart => exact ⟨0, kids, rfl, HST.out, rfl⟩
  case round =>
    obtain ⟨i, rest, rfl, hO, hRR⟩ := hrel
    have hbB := hBq.trans (hO.below.mono hBq.size)
    have HX2 := Lib.hid (heap_below hO.below (heap_lt RQ.out) RQ.out)
    obtain ⟨q0, q1, q2, q3, q4, q5, q6, q7, q8, q9, q10, ql2⟩ := own11 HX2.out
    have HRR := Lib.hid hRR
    clear hRR
    cases rest with
    | nil =>
      have hi : i = p.n := by have := hO.i_eq; simpa [Tm.len] using this
      clear hO
      subst hi
      go_wp2_with fail
      go_ret
      exact ⟨ret_b (by rw [← HRR.out]; rfl), hbB⟩
    | node h' kids' r =>
      have hst := fun w2 hb => OverT.step (w2 := w2) hO hb
      have h1 := hO.i_eq
      have h2 := hO.lies
      have h3 := hO.sub
      simp only [Tm.len, Tm.nodes] at h1 h3
      obtain ⟨bb, oo, p', hpA, hcs, hfit, hl3, hl4⟩ := h2
      have j1 : (i : Int) < p.n := by omega
      have hcall := IH.out h' kids' p' wr (by omega) ⟨hfit, hl3⟩
      obtain ⟨c0, c1, c2, c3, c4, c5, c6, c7, c8, c9, c10⟩ := Tm.row hcs
      have HS2 := Lib.hid hst
      have HL := Lib.hid hl4
      have HPA := Lib.hid hpA
      have hokk := HRR.out
      simp only [Tm.okF] at hokk
      have hokt : Tm.okT h' kids' = (Tm.headOk h' (Tm.len kids') && Tm.okF kids') := rfl
      rw [← hokt] at hokk
      clear hst hl3 hl4 hO hcs hfit hpA hokt
      generalize Tm.okT h' kids' = b at *
      have HCK := Lib.hid hcall
      have HOK := Lib.hid hokk
      clear hcall hokk
      generalize hPA : p.A = PA at *
      obtain rfl : PA = some ⟨bb, oo, none⟩ := HPA.out
      clear hPA HPA
      cases b
      · go_wp2_with fail
        refine HCK.out.mono ?_
        rintro e w2 ⟨rfl, hb⟩
        go_wp2_with fail
        go_ret
        exact ⟨ret_b (by rw [← HOK.out]; rfl), hbB.trans (hb.mono hbB.size)⟩
      · go_wp2_with fail
        refine HCK.out.mono ?_
        rintro e w2 ⟨rfl, hb⟩
        have hbb := Lib.hid (HS2.out w2 hb HL.out)
        have HNX := Lib.hid (show Tm.okF r = Tm.okF kids by rw [← HOK.out]; rfl)
        clear hb
        go_wp2_with fail
        go_roundw
        case rel => exact ⟨i + 1, r, by go_num, hbb.out, HNX.out⟩
        case measure => simp [intOf]; omega

set_option maxHeartbeats 8000000 in
set_option maxRecDepth 100000 in
theorem tright_O (h : Hd) (kids : Tm) (p : Pl) (w : World) (K : Nat) (hK : Tm.nodes kids < K + 1) (hIs : Tm.Is w h kids p) (hk : h.kind = 15) (hkn : Tm.len kids = Tm.kidsN h.kind)
    (ih : ∀ (h : Hd) (kids : Tm) (p : Pl) (w : World), Tm.nodes kids < K → Tm.Is w h kids p → Calls Tryz.prog 77 #[.agg #[.int .i8 h.kind, .string h.name, .string h.arg, .int .i64 h.num, .int .i8 h.tk, .slice p.TA p.tn p.tc, .int .i8 h.uk, .slice p.UA p.un p.uc, .int .i64 h.label, .int .i64 h.pos, .slice p.A p.n p.c]] w fun e w' => e = .returned (.bool (Tm.okT h kids)) ∧ Below w.heap.size w w') :
    Calls Tryz.prog 77 #[.agg #[.int .i8 h.kind, .string h.name, .string h.arg, .int .i64 h.num, .int .i8 h.tk, .slice p.TA p.tn p.tc, .int .i8 h.uk, .slice p.UA p.un p.uc, .int .i64 h.label, .int .i64 h.pos, .slice p.A p.n p.c]] w fun e w' => e = .returned (.bool (Tm.okT h kids)) ∧ Below w.heap.size w w' := by
  have HX := Lib.hid (RightCtx.mk_of hIs)
  have IH := Lib.hid ih
  have hKD : ∀ W : World, Calls Tryz.prog 119 #[.int .i8 h.kind] W fun e w' => e = .returned (.int .i64 (Tm.kidsI h.kind)) ∧ w' = W := fun W => (ref_kids_any h.kind W).mono fun e w' ⟨h1, h2⟩ => ⟨h1, h2.symm⟩
  have hHN := ref_hasName_any h.kind
  have hHA := ref_hasArg_any h.kind
  have hHT := ref_hasType_any h.kind
  have hHU := ref_hasTo_any h.kind
  have hOP := ref_op_any h.name
  have hNM := ref_Name_any h.name
  have hNA := ref_Name_any h.arg
  have HO := Lib.hid (Tm.okT_eq h kids)
  have hTO := Tm.tysOk_of h
  have hne := Tm.kidsI_ne h.kind p.n
  have hn := hIs.fit.n_eq
  have i5 := HX.out.n_max
  clear ih hIs
  have f5 : Tm.isKind h.kind = true := by simp [Tm.isKind] <;> omega
  have f0 : Tm.hasName h.kind = true := by simp [Tm.hasName] <;> omega
  have f1 : Tm.hasArg h.kind = false := by simp [Tm.hasArg] <;> omega
  have f2 : Tm.hasType h.kind = false := by simp [Tm.hasType] <;> omega
  have f3 : Tm.hasTo h.kind = false := by simp [Tm.hasTo] <;> omega
  have f4 : Tm.hasLabel h.kind = false := by simp [Tm.hasLabel] <;> omega
  have k1 : (h.kind == 15) = true := by simp <;> omega
  have k2 : (h.kind != 15) = false := by simp <;> omega
  have k3 : (h.kind == 17) = false := by simp <;> omega
  rw [f5, show decide (p.n = Tm.kidsN h.kind) = true by simp <;> omega, Bool.and_self, Bool.not_true] at hne
  have hO := HO.out
  rw [f5, show decide (Tm.len kids = Tm.kidsN h.kind) = true by simp <;> omega, f4, hTO, f2, f3] at hO
  have hno : Tm.nameOk h = Tm.isOp h.name := by unfold Tm.nameOk; rw [if_pos (by omega)]
  rw [hno] at hO
  simp only [Bool.true_and, Bool.not_false, Bool.true_or] at hO
  rw [f0] at hHN
  rw [f1] at hHA
  rw [f2] at hHT
  rw [f3] at hHU
  generalize Tm.okT h kids = R at *
  clear HO hTO hno hk hkn hn f0 f1 f2 f3 f4 f5
  generalize Tm.isOp h.name = xn at *
  cases xn
  · obtain rfl : R = false := by rw [hO]; rfl
    clear hO
    go_enter Tryz.func77, Tryz.ntmps77
    go_wp2_with fail
    obtain ⟨q0, q1, q2, q3, q4, q5, q6, q7, q8, q9, q10, ql⟩ := own11 (heap_new w (.cells #[.int .i8 h.kind, .string h.name, .string h.arg, .int .i64 h.num, .int .i8 h.tk, .slice p.TA p.tn p.tc, .int .i8 h.uk, .slice p.UA p.un p.uc, .int .i64 h.label, .int .i64 h.pos, .slice p.A p.n p.c] 28))
    go_quiet ((go_at_call 119; exact Calls.quiet_of_same (hKD _)))
    clear q0 q1 q2 q3 q4 q5 q6 q7 q8 q9 q10 ql
    generalize hwq : World.drewN (w.alloc (.cells #[.int .i8 h.kind, .string h.name, .string h.arg, .int .i64 h.num, .int .i8 h.tk, .slice p.TA p.tn p.tc, .int .i8 h.uk, .slice p.UA p.un p.uc, .int .i64 h.label, .int .i64 h.pos, .slice p.A p.n p.c] 28)) _ = wq
    have hBq : Below w.heap.size w wq := hwq ▸ (HX.out.row _).1
    have RQ := Lib.hid (show wq.heap[w.heap.size]? = some (.cells #[.int .i8 h.kind, .string h.name, .string h.arg, .int .i64 h.num, .int .i8 h.tk, .slice p.TA p.tn p.tc, .int .i8 h.uk, .slice p.UA p.un p.uc, .int .i64 h.label, .int .i64 h.pos, .slice p.A p.n p.c] 28 (0, 0)) from hwq ▸ (HX.out.row _).2)
    clear hwq
    obtain ⟨q0, q1, q2, q3, q4, q5, q6, q7, q8, q9, q10, ql⟩ := own11 RQ.out
    go_wp2_with (first | (go_at_call 78; refine (hHN _).mono ?_; rintro e w9 ⟨rfl, rfl⟩) | (go_at_call 79; refine (hHA _).mono ?_; rintro e w9 ⟨rfl, rfl⟩) | (go_at_call 80; refine (hHT _).mono ?_; rintro e w9 ⟨rfl, rfl⟩) | (go_at_call 81; refine (hHU _).mono ?_; rintro e w9 ⟨rfl, rfl⟩) | (go_at_call 120; refine (hOP _).mono ?_; rintro e w9 ⟨rfl, rfl⟩) | (go_at_call 121; (with_reducible refine (hNM _).mono ?_); rintro e w9 ⟨rfl, rfl⟩) | (go_at_call 121; (with_reducible refine (hNA _).mono ?_); rintro e w9 ⟨rfl, rfl⟩))
    go_ret
    exact ⟨rfl, hBq⟩
  obtain rfl : R = Tm.okF kids := by rw [hO] <;> rfl
  clear hO
  go_enter Tryz.func77, Tryz.ntmps77
  go_wp2_with fail
  obtain ⟨q0, q1, q2, q3, q4, q5, q6, q7, q8, q9, q10, ql⟩ := own11 (heap_new w (.cells #[.int .i8 h.kind, .string h.name, .string h.arg, .int .i64 h.num, .int .i8 h.tk, .slice p.TA p.tn p.tc, .int .i8 h.uk, .slice p.UA p.un p.uc, .int .i64 h.label, .int .i64 h.pos, .slice p.A p.n p.c] 28))
  go_quiet ((go_at_call 119; exact Calls.quiet_of_same (hKD _)))
  clear q0 q1 q2 q3 q4 q5 q6 q7 q8 q9 q10 ql
  generalize hwq : World.drewN (w.alloc (.cells #[.int .i8 h.kind, .string h.name, .string h.arg, .int .i64 h.num, .int .i8 h.tk, .slice p.TA p.tn p.tc, .int .i8 h.uk, .slice p.UA p.un p.uc, .int .i64 h.label, .int .i64 h.pos, .slice p.A p.n p.c] 28)) _ = wq
  have hBq : Below w.heap.size w wq := hwq ▸ (HX.out.row _).1
  have RQ := Lib.hid (show wq.heap[w.heap.size]? = some (.cells #[.int .i8 h.kind, .string h.name, .string h.arg, .int .i64 h.num, .int .i8 h.tk, .slice p.TA p.tn p.tc, .int .i8 h.uk, .slice p.UA p.un p.uc, .int .i64 h.label, .int .i64 h.pos, .slice p.A p.n p.c] 28 (0, 0)) from hwq ▸ (HX.out.row _).2)
  clear hwq
  obtain ⟨q0, q1, q2, q3, q4, q5, q6, q7, q8, q9, q10, ql⟩ := own11 RQ.out
  go_wp2_with (first | (go_at_call 78; refine (hHN _).mono ?_; rintro e w9 ⟨rfl, rfl⟩) | (go_at_call 79; refine (hHA _).mono ?_; rintro e w9 ⟨rfl, rfl⟩) | (go_at_call 80; refine (hHT _).mono ?_; rintro e w9 ⟨rfl, rfl⟩) | (go_at_call 81; refine (hHU _).mono ?_; rintro e w9 ⟨rfl, rfl⟩) | (go_at_call 120; refine (hOP _).mono ?_; rintro e w9 ⟨rfl, rfl⟩) | (go_at_call 121; (with_reducible refine (hNM _).mono ?_); rintro e w9 ⟨rfl, rfl⟩) | (go_at_call 121; (with_reducible refine (hNA _).mono ?_); rintro e w9 ⟨rfl, rfl⟩))
  have HST := Lib.hid (OverT.start (HX.out.lies _ hBq) HX.out.n_eq)
  clear q0 q1 q2 q3 q4 q5 q6 q7 q8 q9 q10
  generalize wq = w1 at *
  go_loopw [3] (fun v wr => ∃ (i : Nat) (rest : Tm), v = .int .i64 i ∧ OverT w1 wr p.A p.n (Tm.nodes kids) i rest ∧ Tm.okF rest = Tm.okF kids) (fun v _ => p.n - (intOf v).toNat)
  case atStart => exact ⟨0, kids, rfl, HST.out, rfl⟩
  case round =>
    obtain ⟨i, rest, rfl, hO, hRR⟩ := hrel
    have hbB := hBq.trans (hO.below.mono hBq.size)
    have HX2 := Lib.hid (heap_below hO.below (heap_lt RQ.out) RQ.out)
    obtain ⟨q0, q1, q2, q3, q4, q5, q6, q7, q8, q9, q10, ql2⟩ := own11 HX2.out
    have HRR := Lib.hid hRR
    clear hRR
    cases rest with
    | nil =>
      have hi : i = p.n := by have := hO.i_eq; simpa [Tm.len] using this
      clear hO
      subst hi
      go_wp2_with fail
      go_ret
      exact ⟨ret_b (by rw [← HRR.out]; rfl), hbB⟩
    | node h' kids' r =>
      have hst := fun w2 hb => OverT.step (w2 := w2) hO hb
      have h1 := hO.i_eq
      have h2 := hO.lies
      have h3 := hO.sub
      simp only [Tm.len, Tm.nodes] at h1 h3
      obtain ⟨bb, oo, p', hpA, hcs, hfit, hl3, hl4⟩ := h2
      have j1 : (i : Int) < p.n := by omega
      have hcall := IH.out h' kids' p' wr (by omega) ⟨hfit, hl3⟩
      obtain ⟨c0, c1, c2, c3, c4, c5, c6, c7, c8, c9, c10⟩ := Tm.row hcs
      have HS2 := Lib.hid hst
      have HL := Lib.hid hl4
      have HPA := Lib.hid hpA
      have hokk := HRR.out
      simp only [Tm.okF] at hokk
      have hokt : Tm.okT h' kids' = (Tm.headOk h' (Tm.len kids') && Tm.okF kids') := rfl
      rw [← hokt] at hokk
      clear hst hl3 hl4 hO hcs hfit hpA hokt
      generalize Tm.okT h' kids' = b at *
      have HCK := Lib.hid hcall
      have HOK := Lib.hid hokk
      clear hcall hokk
      generalize hPA : p.A = PA at *
      obtain rfl : PA = some ⟨bb, oo, none⟩ := HPA.out
      clear hPA HPA
      cases b
      · go_wp2_with fail
        refine HCK.out.mono ?_
        rintro e w2 ⟨rfl, hb⟩
        go_wp2_with fail
        go_ret
        exact ⟨ret_b (by rw [← HOK.out]; rfl), hbB.trans (hb.mono hbB.size)⟩
      · go_wp2_with fail
        refine HCK.out.mono ?_
        rintro e w2 ⟨rfl, hb⟩
        have hbb := Lib.hid (HS2.out w2 hb HL.out)
        have HNX := Lib.hid (show Tm.okF r = Tm.okF kids by rw [← HOK.out]; rfl)
        clear hb
        go_wp2_with fail
        go_roundw
        case rel => exact ⟨i + 1, r, by go_num, hbb.out, HNX.out⟩
        case measure => simp [intOf]; omega

set_option maxHeartbeats 8000000 in
set_option maxRecDepth 100000 in
theorem tright_K (h : Hd) (kids : Tm) (p : Pl) (w : World) (K : Nat) (hK : Tm.nodes kids < K + 1) (hIs : Tm.Is w h kids p) (hk : h.kind = 17) (hkn : Tm.len kids = Tm.kidsN h.kind)
    (ih : ∀ (h : Hd) (kids : Tm) (p : Pl) (w : World), Tm.nodes kids < K → Tm.Is w h kids p → Calls Tryz.prog 77 #[.agg #[.int .i8 h.kind, .string h.name, .string h.arg, .int .i64 h.num, .int .i8 h.tk, .slice p.TA p.tn p.tc, .int .i8 h.uk, .slice p.UA p.un p.uc, .int .i64 h.label, .int .i64 h.pos, .slice p.A p.n p.c]] w fun e w' => e = .returned (.bool (Tm.okT h kids)) ∧ Below w.heap.size w w') :
    Calls Tryz.prog 77 #[.agg #[.int .i8 h.kind, .string h.name, .string h.arg, .int .i64 h.num, .int .i8 h.tk, .slice p.TA p.tn p.tc, .int .i8 h.uk, .slice p.UA p.un p.uc, .int .i64 h.label, .int .i64 h.pos, .slice p.A p.n p.c]] w fun e w' => e = .returned (.bool (Tm.okT h kids)) ∧ Below w.heap.size w w' := by
  have HX := Lib.hid (RightCtx.mk_of hIs)
  have IH := Lib.hid ih
  have hKD : ∀ W : World, Calls Tryz.prog 119 #[.int .i8 h.kind] W fun e w' => e = .returned (.int .i64 (Tm.kidsI h.kind)) ∧ w' = W := fun W => (ref_kids_any h.kind W).mono fun e w' ⟨h1, h2⟩ => ⟨h1, h2.symm⟩
  have hHN := ref_hasName_any h.kind
  have hHA := ref_hasArg_any h.kind
  have hHT := ref_hasType_any h.kind
  have hHU := ref_hasTo_any h.kind
  have hOP := ref_op_any h.name
  have hNM := ref_Name_any h.name
  have hNA := ref_Name_any h.arg
  have HO := Lib.hid (Tm.okT_eq h kids)
  have hTO := Tm.tysOk_of h
  have hne := Tm.kidsI_ne h.kind p.n
  have hn := hIs.fit.n_eq
  have i5 := HX.out.n_max
  clear ih hIs
  have f5 : Tm.isKind h.kind = true := by simp [Tm.isKind] <;> omega
  have f0 : Tm.hasName h.kind = false := by simp [Tm.hasName] <;> omega
  have f1 : Tm.hasArg h.kind = false := by simp [Tm.hasArg] <;> omega
  have f2 : Tm.hasType h.kind = true := by simp [Tm.hasType] <;> omega
  have f3 : Tm.hasTo h.kind = true := by simp [Tm.hasTo] <;> omega
  have f4 : Tm.hasLabel h.kind = true := by simp [Tm.hasLabel] <;> omega
  have k1 : (h.kind == 15) = false := by simp <;> omega
  have k2 : (h.kind != 15) = true := by simp <;> omega
  have k3 : (h.kind == 17) = true := by simp <;> omega
  rw [f5, show decide (p.n = Tm.kidsN h.kind) = true by simp <;> omega, Bool.and_self, Bool.not_true] at hne
  have hO := HO.out
  rw [f5, show decide (Tm.len kids = Tm.kidsN h.kind) = true by simp <;> omega, f4, hTO, f2, f3] at hO
  have hno : Tm.nameOk h = ((!false || Sc.isName h.name) && (!false || Sc.isName h.arg)) := by unfold Tm.nameOk; rw [if_neg (by omega), f0, f1]
  rw [hno] at hO
  simp only [Bool.true_and, Bool.not_true, Bool.not_false, Bool.true_or, Bool.false_or] at hO
  rw [f0] at hHN
  rw [f1] at hHA
  rw [f2] at hHT
  rw [f3] at hHU
  generalize Tm.okT h kids = R at *
  clear HO hTO hno hk hkn hn f0 f1 f2 f3 f4 f5
  generalize ht : (((Ty.chk h.tk h.tkids : Nat) : Int) == 0) = xt at *
  have ht2 : (((Ty.chk h.tk h.tkids : Nat) : Int) != 0) = !xt := by rw [← ht]; rfl
  clear ht
  generalize hu : (((Ty.chk h.uk h.ukids : Nat) : Int) == 0) = xu at *
  have hu2 : (((Ty.chk h.uk h.ukids : Nat) : Int) != 0) = !xu := by rw [← hu]; rfl
  clear hu
  have l0 : Tm.labelOk h.label = decide (h.label ≠ 0 ∧ -2147483648 ≤ h.label ∧ h.label ≤ 2147483648) := rfl
  by_cases y0 : h.label = 0
  · obtain rfl : R = false := by rw [hO, l0, decide_eq_false (by omega)]; rfl
    have z0 : (h.label == 0) = true := by simp <;> omega
    clear hO l0 y0
    go_enter Tryz.func77, Tryz.ntmps77
    go_wp2_with fail
    obtain ⟨q0, q1, q2, q3, q4, q5, q6, q7, q8, q9, q10, ql⟩ := own11 (heap_new w (.cells #[.int .i8 h.kind, .string h.name, .string h.arg, .int .i64 h.num, .int .i8 h.tk, .slice p.TA p.tn p.tc, .int .i8 h.uk, .slice p.UA p.un p.uc, .int .i64 h.label, .int .i64 h.pos, .slice p.A p.n p.c] 28))
    go_quiet ((go_at_call 119; exact Calls.quiet_of_same (hKD _)))
    clear q0 q1 q2 q3 q4 q5 q6 q7 q8 q9 q10 ql
    generalize hwq : World.drewN (w.alloc (.cells #[.int .i8 h.kind, .string h.name, .string h.arg, .int .i64 h.num, .int .i8 h.tk, .slice p.TA p.tn p.tc, .int .i8 h.uk, .slice p.UA p.un p.uc, .int .i64 h.label, .int .i64 h.pos, .slice p.A p.n p.c] 28)) _ = wq
    have hBq : Below w.heap.size w wq := hwq ▸ (HX.out.row _).1
    have RQ := Lib.hid (show wq.heap[w.heap.size]? = some (.cells #[.int .i8 h.kind, .string h.name, .string h.arg, .int .i64 h.num, .int .i8 h.tk, .slice p.TA p.tn p.tc, .int .i8 h.uk, .slice p.UA p.un p.uc, .int .i64 h.label, .int .i64 h.pos, .slice p.A p.n p.c] 28 (0, 0)) from hwq ▸ (HX.out.row _).2)
    clear hwq
    obtain ⟨q0, q1, q2, q3, q4, q5, q6, q7, q8, q9, q10, ql⟩ := own11 RQ.out
    go_wp2_with (first | (go_at_call 78; refine (hHN _).mono ?_; rintro e w9 ⟨rfl, rfl⟩) | (go_at_call 79; refine (hHA _).mono ?_; rintro e w9 ⟨rfl, rfl⟩) | (go_at_call 80; refine (hHT _).mono ?_; rintro e w9 ⟨rfl, rfl⟩) | (go_at_call 81; refine (hHU _).mono ?_; rintro e w9 ⟨rfl, rfl⟩) | (go_at_call 120; refine (hOP _).mono ?_; rintro e w9 ⟨rfl, rfl⟩) | (go_at_call 121; (with_reducible refine (hNM _).mono ?_); rintro e w9 ⟨rfl, rfl⟩) | (go_at_call 121; (with_reducible refine (hNA _).mono ?_); rintro e w9 ⟨rfl, rfl⟩))
    go_ret
    exact ⟨rfl, hBq⟩
  by_cases y1 : h.label < -2147483648
  · obtain rfl : R = false := by rw [hO, l0, decide_eq_false (by omega)]; rfl
    have z0 : (h.label == 0) = false := by simp; omega
    have z1 : decide (h.label < -2147483648) = true := by simp; omega
    clear hO l0 y0 y1
    go_enter Tryz.func77, Tryz.ntmps77
    go_wp2_with fail
    obtain ⟨q0, q1, q2, q3, q4, q5, q6, q7, q8, q9, q10, ql⟩ := own11 (heap_new w (.cells #[.int .i8 h.kind, .string h.name, .string h.arg, .int .i64 h.num, .int .i8 h.tk, .slice p.TA p.tn p.tc, .int .i8 h.uk, .slice p.UA p.un p.uc, .int .i64 h.label, .int .i64 h.pos, .slice p.A p.n p.c] 28))
    go_quiet ((go_at_call 119; exact Calls.quiet_of_same (hKD _)))
    clear q0 q1 q2 q3 q4 q5 q6 q7 q8 q9 q10 ql
    generalize hwq : World.drewN (w.alloc (.cells #[.int .i8 h.kind, .string h.name, .string h.arg, .int .i64 h.num, .int .i8 h.tk, .slice p.TA p.tn p.tc, .int .i8 h.uk, .slice p.UA p.un p.uc, .int .i64 h.label, .int .i64 h.pos, .slice p.A p.n p.c] 28)) _ = wq
    have hBq : Below w.heap.size w wq := hwq ▸ (HX.out.row _).1
    have RQ := Lib.hid (show wq.heap[w.heap.size]? = some (.cells #[.int .i8 h.kind, .string h.name, .string h.arg, .int .i64 h.num, .int .i8 h.tk, .slice p.TA p.tn p.tc, .int .i8 h.uk, .slice p.UA p.un p.uc, .int .i64 h.label, .int .i64 h.pos, .slice p.A p.n p.c] 28 (0, 0)) from hwq ▸ (HX.out.row _).2)
    clear hwq
    obtain ⟨q0, q1, q2, q3, q4, q5, q6, q7, q8, q9, q10, ql⟩ := own11 RQ.out
    go_wp2_with (first | (go_at_call 78; refine (hHN _).mono ?_; rintro e w9 ⟨rfl, rfl⟩) | (go_at_call 79; refine (hHA _).mono ?_; rintro e w9 ⟨rfl, rfl⟩) | (go_at_call 80; refine (hHT _).mono ?_; rintro e w9 ⟨rfl, rfl⟩) | (go_at_call 81; refine (hHU _).mono ?_; rintro e w9 ⟨rfl, rfl⟩) | (go_at_call 120; refine (hOP _).mono ?_; rintro e w9 ⟨rfl, rfl⟩) | (go_at_call 121; (with_reducible refine (hNM _).mono ?_); rintro e w9 ⟨rfl, rfl⟩) | (go_at_call 121; (with_reducible refine (hNA _).mono ?_); rintro e w9 ⟨rfl, rfl⟩))
    go_ret
    exact ⟨rfl, hBq⟩
  by_cases y2 : 2147483648 < h.label
  · obtain rfl : R = false := by rw [hO, l0, decide_eq_false (by omega)]; rfl
    have z0 : (h.label == 0) = false := by simp; omega
    have z1 : decide (h.label < -2147483648) = false := by simp; omega
    have z2 : decide (2147483648 < h.label) = true := by simp; omega
    clear hO l0 y0 y1 y2
    go_enter Tryz.func77, Tryz.ntmps77
    go_wp2_with fail
    obtain ⟨q0, q1, q2, q3, q4, q5, q6, q7, q8, q9, q10, ql⟩ := own11 (heap_new w (.cells #[.int .i8 h.kind, .string h.name, .string h.arg, .int .i64 h.num, .int .i8 h.tk, .slice p.TA p.tn p.tc, .int .i8 h.uk, .slice p.UA p.un p.uc, .int .i64 h.label, .int .i64 h.pos, .slice p.A p.n p.c] 28))
    go_quiet ((go_at_call 119; exact Calls.quiet_of_same (hKD _)))
    clear q0 q1 q2 q3 q4 q5 q6 q7 q8 q9 q10 ql
    generalize hwq : World.drewN (w.alloc (.cells #[.int .i8 h.kind, .string h.name, .string h.arg, .int .i64 h.num, .int .i8 h.tk, .slice p.TA p.tn p.tc, .int .i8 h.uk, .slice p.UA p.un p.uc, .int .i64 h.label, .int .i64 h.pos, .slice p.A p.n p.c] 28)) _ = wq
    have hBq : Below w.heap.size w wq := hwq ▸ (HX.out.row _).1
    have RQ := Lib.hid (show wq.heap[w.heap.size]? = some (.cells #[.int .i8 h.kind, .string h.name, .string h.arg, .int .i64 h.num, .int .i8 h.tk, .slice p.TA p.tn p.tc, .int .i8 h.uk, .slice p.UA p.un p.uc, .int .i64 h.label, .int .i64 h.pos, .slice p.A p.n p.c] 28 (0, 0)) from hwq ▸ (HX.out.row _).2)
    clear hwq
    obtain ⟨q0, q1, q2, q3, q4, q5, q6, q7, q8, q9, q10, ql⟩ := own11 RQ.out
    go_wp2_with (first | (go_at_call 78; refine (hHN _).mono ?_; rintro e w9 ⟨rfl, rfl⟩) | (go_at_call 79; refine (hHA _).mono ?_; rintro e w9 ⟨rfl, rfl⟩) | (go_at_call 80; refine (hHT _).mono ?_; rintro e w9 ⟨rfl, rfl⟩) | (go_at_call 81; refine (hHU _).mono ?_; rintro e w9 ⟨rfl, rfl⟩) | (go_at_call 120; refine (hOP _).mono ?_; rintro e w9 ⟨rfl, rfl⟩) | (go_at_call 121; (with_reducible refine (hNM _).mono ?_); rintro e w9 ⟨rfl, rfl⟩) | (go_at_call 121; (with_reducible refine (hNA _).mono ?_); rintro e w9 ⟨rfl, rfl⟩))
    go_ret
    exact ⟨rfl, hBq⟩
  have z0 : (h.label == 0) = false := by simp; omega
  have z1 : decide (h.label < -2147483648) = false := by simp; omega
  have z2 : decide (2147483648 < h.label) = false := by simp; omega
  rw [l0, decide_eq_true (by omega)] at hO
  simp only [Bool.true_and] at hO
  clear l0 y0 y1 y2
  cases xt
  · obtain rfl : R = false := by rw [hO]; rfl
    clear hO
    simp only [Bool.not_false] at ht2
    go_enter Tryz.func77, Tryz.ntmps77
    go_wp2_with fail
    obtain ⟨q0, q1, q2, q3, q4, q5, q6, q7, q8, q9, q10, ql⟩ := own11 (heap_new w (.cells #[.int .i8 h.kind, .string h.name, .string h.arg, .int .i64 h.num, .int .i8 h.tk, .slice p.TA p.tn p.tc, .int .i8 h.uk, .slice p.UA p.un p.uc, .int .i64 h.label, .int .i64 h.pos, .slice p.A p.n p.c] 28))
    go_quiet ((go_at_call 119; exact Calls.quiet_of_same (hKD _)))
    clear q0 q1 q2 q3 q4 q5 q6 q7 q8 q9 q10 ql
    generalize hwq : World.drewN (w.alloc (.cells #[.int .i8 h.kind, .string h.name, .string h.arg, .int .i64 h.num, .int .i8 h.tk, .slice p.TA p.tn p.tc, .int .i8 h.uk, .slice p.UA p.un p.uc, .int .i64 h.label, .int .i64 h.pos, .slice p.A p.n p.c] 28)) _ = wq
    have hBq : Below w.heap.size w wq := hwq ▸ (HX.out.row _).1
    have RQ := Lib.hid (show wq.heap[w.heap.size]? = some (.cells #[.int .i8 h.kind, .string h.name, .string h.arg, .int .i64 h.num, .int .i8 h.tk, .slice p.TA p.tn p.tc, .int .i8 h.uk, .slice p.UA p.un p.uc, .int .i64 h.label, .int .i64 h.pos, .slice p.A p.n p.c] 28 (0, 0)) from hwq ▸ (HX.out.row _).2)
    clear hwq
    obtain ⟨q0, q1, q2, q3, q4, q5, q6, q7, q8, q9, q10, ql⟩ := own11 RQ.out
    go_wp2_with (first | (go_at_call 78; refine (hHN _).mono ?_; rintro e w9 ⟨rfl, rfl⟩) | (go_at_call 79; refine (hHA _).mono ?_; rintro e w9 ⟨rfl, rfl⟩) | (go_at_call 80; refine (hHT _).mono ?_; rintro e w9 ⟨rfl, rfl⟩) | (go_at_call 81; refine (hHU _).mono ?_; rintro e w9 ⟨rfl, rfl⟩) | (go_at_call 120; refine (hOP _).mono ?_; rintro e w9 ⟨rfl, rfl⟩) | (go_at_call 121; (with_reducible refine (hNM _).mono ?_); rintro e w9 ⟨rfl, rfl⟩) | (go_at_call 121; (with_reducible refine (hNA _).mono ?_); rintro e w9 ⟨rfl, rfl⟩))
    refine (HX.out.ty _ hBq).mono ?_
    rintro e w3 ⟨rfl, hb⟩
    have hB3 := hBq.trans (hb.mono hBq.size)
    have R3 := Lib.hid (heap_below hb (heap_lt RQ.out) RQ.out)
    clear q0 q1 q2 q3 q4 q5 q6 q7 q8 q9 q10 ql
    obtain ⟨q0, q1, q2, q3, q4, q5, q6, q7, q8, q9, q10, ql⟩ := own11 R3.out
    clear hb
    go_wp2_with (first | (go_at_call 78; refine (hHN _).mono ?_; rintro e w9 ⟨rfl, rfl⟩) | (go_at_call 79; refine (hHA _).mono ?_; rintro e w9 ⟨rfl, rfl⟩) | (go_at_call 80; refine (hHT _).mono ?_; rintro e w9 ⟨rfl, rfl⟩) | (go_at_call 81; refine (hHU _).mono ?_; rintro e w9 ⟨rfl, rfl⟩) | (go_at_call 120; refine (hOP _).mono ?_; rintro e w9 ⟨rfl, rfl⟩) | (go_at_call 121; (with_reducible refine (hNM _).mono ?_); rintro e w9 ⟨rfl, rfl⟩) | (go_at_call 121; (with_reducible refine (hNA _).mono ?_); rintro e w9 ⟨rfl, rfl⟩))
    go_ret
    exact ⟨rfl, hB3⟩
  simp only [Bool.not_true] at ht2
  cases xu
  · obtain rfl : R = false := by rw [hO]; rfl
    clear hO
    simp only [Bool.not_false] at hu2
    go_enter Tryz.func77, Tryz.ntmps77
    go_wp2_with fail
    obtain ⟨q0, q1, q2, q3, q4, q5, q6, q7, q8, q9, q10, ql⟩ := own11 (heap_new w (.cells #[.int .i8 h.kind, .string h.name, .string h.arg, .int .i64 h.num, .int .i8 h.tk, .slice p.TA p.tn p.tc, .int .i8 h.uk, .slice p.UA p.un p.uc, .int .i64 h.label, .int .i64 h.pos, .slice p.A p.n p.c] 28))
    go_quiet ((go_at_call 119; exact Calls.quiet_of_same (hKD _)))
    clear q0 q1 q2 q3 q4 q5 q6 q7 q8 q9 q10 ql
    generalize hwq : World.drewN (w.alloc (.cells #[.int .i8 h.kind, .string h.name, .string h.arg, .int .i64 h.num, .int .i8 h.tk, .slice p.TA p.tn p.tc, .int .i8 h.uk, .slice p.UA p.un p.uc, .int .i64 h.label, .int .i64 h.pos, .slice p.A p.n p.c] 28)) _ = wq
    have hBq : Below w.heap.size w wq := hwq ▸ (HX.out.row _).1
    have RQ := Lib.hid (show wq.heap[w.heap.size]? = some (.cells #[.int .i8 h.kind, .string h.name, .string h.arg, .int .i64 h.num, .int .i8 h.tk, .slice p.TA p.tn p.tc, .int .i8 h.uk, .slice p.UA p.un p.uc, .int .i64 h.label, .int .i64 h.pos, .slice p.A p.n p.c] 28 (0, 0)) from hwq ▸ (HX.out.row _).2)
    clear hwq
    obtain ⟨q0, q1, q2, q3, q4, q5, q6, q7, q8, q9, q10, ql⟩ := own11 RQ.out
    go_wp2_with (first | (go_at_call 78; refine (hHN _).mono ?_; rintro e w9 ⟨rfl, rfl⟩) | (go_at_call 79; refine (hHA _).mono ?_; rintro e w9 ⟨rfl, rfl⟩) | (go_at_call 80; refine (hHT _).mono ?_; rintro e w9 ⟨rfl, rfl⟩) | (go_at_call 81; refine (hHU _).mono ?_; rintro e w9 ⟨rfl, rfl⟩) | (go_at_call 120; refine (hOP _).mono ?_; rintro e w9 ⟨rfl, rfl⟩) | (go_at_call 121; (with_reducible refine (hNM _).mono ?_); rintro e w9 ⟨rfl, rfl⟩) | (go_at_call 121; (with_reducible refine (hNA _).mono ?_); rintro e w9 ⟨rfl, rfl⟩))
    refine (HX.out.ty _ hBq).mono ?_
    rintro e w3 ⟨rfl, hb⟩
    have hB3 := hBq.trans (hb.mono hBq.size)
    have R3 := Lib.hid (heap_below hb (heap_lt RQ.out) RQ.out)
    clear q0 q1 q2 q3 q4 q5 q6 q7 q8 q9 q10 ql
    obtain ⟨q0, q1, q2, q3, q4, q5, q6, q7, q8, q9, q10, ql⟩ := own11 R3.out
    clear hb
    go_wp2_with (first | (go_at_call 78; refine (hHN _).mono ?_; rintro e w9 ⟨rfl, rfl⟩) | (go_at_call 79; refine (hHA _).mono ?_; rintro e w9 ⟨rfl, rfl⟩) | (go_at_call 80; refine (hHT _).mono ?_; rintro e w9 ⟨rfl, rfl⟩) | (go_at_call 81; refine (hHU _).mono ?_; rintro e w9 ⟨rfl, rfl⟩) | (go_at_call 120; refine (hOP _).mono ?_; rintro e w9 ⟨rfl, rfl⟩) | (go_at_call 121; (with_reducible refine (hNM _).mono ?_); rintro e w9 ⟨rfl, rfl⟩) | (go_at_call 121; (with_reducible refine (hNA _).mono ?_); rintro e w9 ⟨rfl, rfl⟩))
    refine (HX.out.to _ hB3).mono ?_
    rintro e w4 ⟨rfl, hb⟩
    have hB4 := hB3.trans (hb.mono hB3.size)
    have R4 := Lib.hid (heap_below hb (heap_lt R3.out) R3.out)
    clear q0 q1 q2 q3 q4 q5 q6 q7 q8 q9 q10 ql
    obtain ⟨q0, q1, q2, q3, q4, q5, q6, q7, q8, q9, q10, ql⟩ := own11 R4.out
    clear hb
    go_wp2_with (first | (go_at_call 78; refine (hHN _).mono ?_; rintro e w9 ⟨rfl, rfl⟩) | (go_at_call 79; refine (hHA _).mono ?_; rintro e w9 ⟨rfl, rfl⟩) | (go_at_call 80; refine (hHT _).mono ?_; rintro e w9 ⟨rfl, rfl⟩) | (go_at_call 81; refine (hHU _).mono ?_; rintro e w9 ⟨rfl, rfl⟩) | (go_at_call 120; refine (hOP _).mono ?_; rintro e w9 ⟨rfl, rfl⟩) | (go_at_call 121; (with_reducible refine (hNM _).mono ?_); rintro e w9 ⟨rfl, rfl⟩) | (go_at_call 121; (with_reducible refine (hNA _).mono ?_); rintro e w9 ⟨rfl, rfl⟩))
    go_ret
    exact ⟨rfl, hB4⟩
  simp only [Bool.not_true] at hu2
  obtain rfl : R = Tm.okF kids := by rw [hO] <;> rfl
  clear hO
  go_enter Tryz.func77, Tryz.ntmps77
  go_wp2_with fail
  obtain ⟨q0, q1, q2, q3, q4, q5, q6, q7, q8, q9, q10, ql⟩ := own11 (heap_new w (.cells #[.int .i8 h.kind, .string h.name, .string h.arg, .int .i64 h.num, .int .i8 h.tk, .slice p.TA p.tn p.tc, .int .i8 h.uk, .slice p.UA p.un p.uc, .int .i64 h.label, .int .i64 h.pos, .slice p.A p.n p.c] 28))
  go_quiet ((go_at_call 119; exact Calls.quiet_of_same (hKD _)))
  clear q0 q1 q2 q3 q4 q5 q6 q7 q8 q9 q10 ql
  generalize hwq : World.drewN (w.alloc (.cells #[.int .i8 h.kind, .string h.name, .string h.arg, .int .i64 h.num, .int .i8 h.tk, .slice p.TA p.tn p.tc, .int .i8 h.uk, .slice p.UA p.un p.uc, .int .i64 h.label, .int .i64 h.pos, .slice p.A p.n p.c] 28)) _ = wq
  have hBq : Below w.heap.size w wq := hwq ▸ (HX.out.row _).1
  have RQ := Lib.hid (show wq.heap[w.heap.size]? = some (.cells #[.int .i8 h.kind, .string h.name, .string h.arg, .int .i64 h.num, .int .i8 h.tk, .slice p.TA p.tn p.tc, .int .i8 h.uk, .slice p.UA p.un p.uc, .int .i64 h.label, .int .i64 h.pos, .slice p.A p.n p.c] 28 (0, 0)) from hwq ▸ (HX.out.row _).2)
  clear hwq
  obtain ⟨q0, q1, q2, q3, q4, q5, q6, q7, q8, q9, q10, ql⟩ := own11 RQ.out
  go_wp2_with (first | (go_at_call 78; refine (hHN _).mono ?_; rintro e w9 ⟨rfl, rfl⟩) | (go_at_call 79; refine (hHA _).mono ?_; rintro e w9 ⟨rfl, rfl⟩) | (go_at_call 80; refine (hHT _).mono ?_; rintro e w9 ⟨rfl, rfl⟩) | (go_at_call 81; refine (hHU _).mono ?_; rintro e w9 ⟨rfl, rfl⟩) | (go_at_call 120; refine (hOP _).mono ?_; rintro e w9 ⟨rfl, rfl⟩) | (go_at_call 121; (with_reducible refine (hNM _).mono ?_); rintro e w9 ⟨rfl, rfl⟩) | (go_at_call 121; (with_reducible refine (hNA _).mono ?_); rintro e w9 ⟨rfl, rfl⟩))
  refine (HX.out.ty _ hBq).mono ?_
  rintro e w3 ⟨rfl, hb⟩
  have hB3 := hBq.trans (hb.mono hBq.size)
  have R3 := Lib.hid (heap_below hb (heap_lt RQ.out) RQ.out)
  clear q0 q1 q2 q3 q4 q5 q6 q7 q8 q9 q10 ql
  obtain ⟨q0, q1, q2, q3, q4, q5, q6, q7, q8, q9, q10, ql⟩ := own11 R3.out
  clear hb
  go_wp2_with (first | (go_at_call 78; refine (hHN _).mono ?_; rintro e w9 ⟨rfl, rfl⟩) | (go_at_call 79; refine (hHA _).mono ?_; rintro e w9 ⟨rfl, rfl⟩) | (go_at_call 80; refine (hHT _).mono ?_; rintro e w9 ⟨rfl, rfl⟩) | (go_at_call 81; refine (hHU _).mono ?_; rintro e w9 ⟨rfl, rfl⟩) | (go_at_call 120; refine (hOP _).mono ?_; rintro e w9 ⟨rfl, rfl⟩) | (go_at_call 121; (with_reducible refine (hNM _).mono ?_); rintro e w9 ⟨rfl, rfl⟩) | (go_at_call 121; (with_reducible refine (hNA _).mono ?_); rintro e w9 ⟨rfl, rfl⟩))
  refine (HX.out.to _ hB3).mono ?_
  rintro e w4 ⟨rfl, hb⟩
  have hB4 := hB3.trans (hb.mono hB3.size)
  have R4 := Lib.hid (heap_below hb (heap_lt R3.out) R3.out)
  clear q0 q1 q2 q3 q4 q5 q6 q7 q8 q9 q10 ql
  obtain ⟨q0, q1, q2, q3, q4, q5, q6, q7, q8, q9, q10, ql⟩ := own11 R4.out
  clear hb
  go_wp2_with (first | (go_at_call 78; refine (hHN _).mono ?_; rintro e w9 ⟨rfl, rfl⟩) | (go_at_call 79; refine (hHA _).mono ?_; rintro e w9 ⟨rfl, rfl⟩) | (go_at_call 80; refine (hHT _).mono ?_; rintro e w9 ⟨rfl, rfl⟩) | (go_at_call 81; refine (hHU _).mono ?_; rintro e w9 ⟨rfl, rfl⟩) | (go_at_call 120; refine (hOP _).mono ?_; rintro e w9 ⟨rfl, rfl⟩) | (go_at_call 121; (with_reducible refine (hNM _).mono ?_); rintro e w9 ⟨rfl, rfl⟩) | (go_at_call 121; (with_reducible refine (hNA _).mono ?_); rintro e w9 ⟨rfl, rfl⟩))
  have HST := Lib.hid (OverT.start (HX.out.lies _ hB4) HX.out.n_eq)
  clear q0 q1 q2 q3 q4 q5 q6 q7 q8 q9 q10
  generalize w4 = w1 at *
  go_loopw [3] (fun v wr => ∃ (i : Nat) (rest : Tm), v = .int .i64 i ∧ OverT w1 wr p.A p.n (Tm.nodes kids) i rest ∧ Tm.okF rest = Tm.okF kids) (fun v _ => p.n - (intOf v).toNat)
  case atStart => exact ⟨0, kids, rfl, HST.out, rfl⟩
  case round =>
    obtain ⟨i, rest, rfl, hO, hRR⟩ := hrel
    have hbB := hB4.trans (hO.below.mono hB4.size)
    have HX2 := Lib.hid (heap_below hO.below (heap_lt R4.out) R4.out)
    obtain ⟨q0, q1, q2, q3, q4, q5, q6, q7, q8, q9, q10, ql2⟩ := own11 HX2.out
    have HRR := Lib.hid hRR
    clear hRR
    cases rest with
    | nil =>
      have hi : i = p.n := by have := hO.i_eq; simpa [Tm.len] using this
      clear hO
      subst hi
      go_wp2_with fail
      go_ret
      exact ⟨ret_b (by rw [← HRR.out]; rfl), hbB⟩
    | node h' kids' r =>
      have hst := fun w2 hb => OverT.step (w2 := w2) hO hb
      have h1 := hO.i_eq
      have h2 := hO.lies
      have h3 := hO.sub
      simp only [Tm.len, Tm.nodes] at h1 h3
      obtain ⟨bb, oo, p', hpA, hcs, hfit, hl3, hl4⟩ := h2
      have j1 : (i : Int) < p.n := by omega
      have hcall := IH.out h' kids' p' wr (by omega) ⟨hfit, hl3⟩
      obtain ⟨c0, c1, c2, c3, c4, c5, c6, c7, c8, c9, c10⟩ := Tm.row hcs
      have HS2 := Lib.hid hst
      have HL := Lib.hid hl4
      have HPA := Lib.hid hpA
      have hokk := HRR.out
      simp only [Tm.okF] at hokk
      have hokt : Tm.okT h' kids' = (Tm.headOk h' (Tm.len kids') && Tm.okF kids') := rfl
      rw [← hokt] at hokk
      clear hst hl3 hl4 hO hcs hfit hpA hokt
      generalize Tm.okT h' kids' = b at *
      have HCK := Lib.hid hcall
      have HOK := Lib.hid hokk
      clear hcall hokk
      generalize hPA : p.A = PA at *
      obtain rfl : PA = some ⟨bb, oo, none⟩ := HPA.out
      clear hPA HPA
      cases b
      · go_wp2_with fail
        refine HCK.out.mono ?_
        rintro e w2 ⟨rfl, hb⟩
        go_wp2_with fail
        go_ret
        exact ⟨ret_b (by rw [← HOK.out]; rfl), hbB.trans (hb.mono hbB.size)⟩
      · go_wp2_with fail
        refine HCK.out.mono ?_
        rintro e w2 ⟨rfl, hb⟩
        have hbb := Lib.hid (HS2.out w2 hb HL.out)
        have HNX := Lib.hid (show Tm.okF r = Tm.okF kids by rw [← HOK.out]; rfl)
        clear hb
        go_wp2_with fail
        go_roundw
        case rel => exact ⟨i + 1, r, by go_num, hbb.out, HNX.out⟩
        case measure => simp [intOf]; omega
end Go.Proofs.YtfkbdpehdabepaaGreatDoor
