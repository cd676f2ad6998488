/-
  terms.malformed. terms.Check, Nodes, Depth. terms.counting: a term with the fields that do not count empty.
-/
import Derived.Test.YtknhoagicdfikaaGreatDoorM8
import Derived.Test.YtknhoagicdfikaaGreatDoorM6
namespace Go.Proofs.YtknhoagicdfikaaGreatDoor
open Go.RowKit

theorem cf_untyped (args : Array Value) (W : World) : (callFunc 58 args).run Tryz.prog W = .ok (.enter 58 args) W := by simp [go_sem]
theorem cf_malformed (args : Array Value) (W : World) : (callFunc 30 args).run Tryz.prog W = .ok (.enter 30 args) W := by simp [go_sem]

theorem Tm.okT_eq (h : Hd) (kids : Tm) : Tm.okT h kids = (Tm.isKind h.kind && (decide (Tm.len kids = Tm.kidsN h.kind) && (Tm.nameOk h && ((!Tm.hasLabel h.kind || Tm.labelOk h.label) && (Tm.tysOk h && Tm.okF kids))))) := by
  unfold Tm.okT Tm.headOk
  simp only [Bool.and_assoc]

set_option maxHeartbeats 8000000 in
set_option maxRecDepth 100000 in
theorem malformed_any (K : Nat) : ∀ (h : Hd) (kids : Tm) (p : Pl) (w : World), Tm.nodes kids < K → Tm.Is w h kids p → TGlob w →
    Calls Tryz.prog 30 #[.agg #[.int .i8 h.kind, .string h.name, .string h.arg, .int .i64 h.num, .int .i8 h.tk, .slice p.TA p.tn p.tc, .int .i8 h.uk, .slice p.UA p.un p.uc, .int .i64 h.label, .int .i64 h.pos, .slice p.A p.n p.c]] w fun e w' => e = .returned (.bool (!Tm.okT h kids)) ∧ Below w.heap.size w w' := by
  induction K with
  | zero => intro _ _ _ _ hK; omega
  | succ K ih =>
    intro h kids p w hK hIs hG
    have hB0 : Below w.heap.size w (w.alloc (.cells #[.int .i8 h.kind, .string h.name, .string h.arg, .int .i64 h.num, .int .i8 h.tk, .slice p.TA p.tn p.tc, .int .i8 h.uk, .slice p.UA p.un p.uc, .int .i64 h.label, .int .i64 h.pos, .slice p.A p.n p.c] 28)) := (Below.refl _ _).alloc (Nat.le_refl _) _
    have hsh := shapeOf_any h.kind (w.alloc (.cells #[.int .i8 h.kind, .string h.name, .string h.arg, .int .i64 h.num, .int .i8 h.tk, .slice p.TA p.tn p.tc, .int .i8 h.uk, .slice p.UA p.un p.uc, .int .i64 h.label, .int .i64 h.pos, .slice p.A p.n p.c] 28)) hIs.fit.klo hIs.fit.khi (hG.terms.below hB0)
    have HN := Lib.hid (heap_new w (.cells #[.int .i8 h.kind, .string h.name, .string h.arg, .int .i64 h.num, .int .i8 h.tk, .slice p.TA p.tn p.tc, .int .i8 h.uk, .slice p.UA p.un p.uc, .int .i64 h.label, .int .i64 h.pos, .slice p.A p.n p.c] 28))
    have HI := Lib.hid (fun (W : World) (hb : Below w.heap.size w W) => hIs.below hb)
    have HG := Lib.hid (fun (W : World) (hb : Below w.heap.size w W) => hG.below hb)
    have HM := Lib.hid (fun (W : World) (hb : Below w.heap.size w W) (b2 b3 b4 b5 : Bool) (kn : Int) => misnamed_any h p W _ (hIs.below hb).fit (hG.below hb) b2 b3 b4 b5 kn)
    have HT := Lib.hid (fun (W : World) (hb : Below w.heap.size w W) => typesOf_any h _ p W (hIs.below hb).fit (hG.terms.below hb))
    have HL := Lib.hid (fun (W : World) => label_any h.label W hIs.fit.llo hIs.fit.lhi)
    have HU := Lib.hid (fun (W : World) (hb : Below w.heap.size w W) (A : Option Addr) (n c : Nat) (hL : Ty.Lies W (Tm.tys h) A 0) (hn : n = Ty.len (Tm.tys h)) (hnc : n ≤ c) (hc : c ≤ maxLen) =>
      ty_contains_any 58 (fun k kids => Ty.chk k kids != 0) (Tm.tys h) A n c W hL hn hnc hc cf_untyped
        (fun k' kids' A' n' c' W' h1 h2 => untyped_any k' kids' A' n' c' W' h1 ((hG.types.below hb).below h2)))
    rw [Tm.tysOk_any] at HU
    have HK := Lib.hid (fun (W : World) (hb : Below w.heap.size w W) =>
      tm_contains_any 30 (fun h kids => !Tm.okT h kids) kids p.A p.n p.c W (hIs.below hb).lies hIs.fit.n_eq hIs.fit.n_le hIs.fit.c_le cf_malformed
        (fun h' kids' p' W' h0 h1 h2 => ih h' kids' p' W' (by omega) h1 ((hG.below hb).below h2)))
    rw [Tm.okF_any] at HK
    have i5 : (p.n : Int) ≤ 9223372036854775807 := by have h1 := hIs.fit.n_le; have h2 := hIs.fit.c_le; unfold maxLen at h2; omega
    have HNE := Lib.hid hIs.fit.n_eq
    clear ih hIs hG hK
    have HO := Lib.hid (Tm.okT_eq h kids)
    generalize hR : Tm.okT h kids = R at *
    clear hR
    generalize Tm.okF kids = okk at *
    generalize Tm.tysOk h = okt at *
    generalize Tm.labelOk h.label = okl at *
    generalize Tm.nameOk h = okn at *
    generalize ha0 : Tm.hasName h.kind = a0 at *
    generalize ha1 : Tm.hasArg h.kind = a1 at *
    generalize Tm.hasNum h.kind = a2 at *
    generalize Tm.hasType h.kind = a3 at *
    generalize Tm.hasTo h.kind = a4 at *
    generalize Tm.hasLabel h.kind = a5 at *
    generalize Tm.kidsN h.kind = kn at *
    generalize Tm.isKind h.kind = ik at *
    clear ha0 ha1
    cases ik
    · obtain rfl : R = false := by rw [HO.out]; rfl
      clear HO HNE
      have HSH := Lib.hid hsh
      clear hsh
      go_enter Tryz.func30, Tryz.ntmps30
      go_wp2_with fail
      refine HSH.out.mono ?_
      rintro e w2 ⟨rfl, hb⟩
      have hB2 := hB0.trans (hb.mono hB0.size)
      have RB2 := Lib.hid (heap_below hb (by simp) HN.out)
      obtain ⟨q0, q1, q2, q3, q4, q5, q6, q7, q8, q9, q10, ql⟩ := own11 RB2.out
      clear hb
      go_wp2_with fail
      go_ret
      exact ⟨rfl, hB2.alloc hB2.size _⟩
    by_cases hl : p.n = kn
    · have hl2 : ((p.n : Int) != (kn : Int)) = false := by simp; omega
      have hO := HO.out
      rw [show decide (Tm.len kids = kn) = true by simp; have := HNE.out; omega] at hO
      simp only [Bool.true_and] at hO
      clear HO HNE
      cases okn
      · obtain rfl : R = false := by rw [hO]; rfl
        clear hO hl
        have HSH := Lib.hid hsh
        clear hsh
        go_enter Tryz.func30, Tryz.ntmps30
        go_wp2_with fail
        refine HSH.out.mono ?_
        rintro e w2 ⟨rfl, hb⟩
        have hB2 := hB0.trans (hb.mono hB0.size)
        have RB2 := Lib.hid (heap_below hb (by simp) HN.out)
        obtain ⟨q0, q1, q2, q3, q4, q5, q6, q7, q8, q9, q10, ql⟩ := own11 RB2.out
        clear hb
        go_wp2_with fail
        have hB3 := hB2.alloc hB2.size (.cells #[.bool a0, .bool a1, .bool a2, .bool a3, .bool a4, .bool a5, .int .i64 kn] 97)
        refine (HM.out _ hB3 _ _ _ _ _).mono ?_
        rintro e w4 ⟨rfl, hb⟩
        have RS := Lib.hid (heap_new w2 (.cells #[.bool a0, .bool a1, .bool a2, .bool a3, .bool a4, .bool a5, .int .i64 kn] 97))
        have hB4 := hB3.trans (hb.mono hB3.size)
        have RB4 := Lib.hid (heap_below hb (by simp; omega) (heap_old RB2.out (.cells #[.bool a0, .bool a1, .bool a2, .bool a3, .bool a4, .bool a5, .int .i64 kn] 97)))
        have RS4 := Lib.hid (heap_below hb (heap_lt RS.out) RS.out)
        clear q0 q1 q2 q3 q4 q5 q6 q7 q8 q9 q10 ql
        obtain ⟨q0, q1, q2, q3, q4, q5, q6, q7, q8, q9, q10, ql⟩ := own11 RB4.out
        obtain ⟨s0, s1, s2, s3, s4, s5, s6, sl⟩ := own7 RS4.out
        clear hb
        go_wp2_with fail
        go_ret
        exact ⟨rfl, hB4⟩
      · cases a5
        · simp only [Bool.not_false, Bool.true_or, Bool.true_and] at hO
          cases okt
          · obtain rfl : R = false := by rw [hO]; rfl
            clear hO hl
            have HSH := Lib.hid hsh
            clear hsh
            go_enter Tryz.func30, Tryz.ntmps30
            go_wp2_with fail
            refine HSH.out.mono ?_
            rintro e w2 ⟨rfl, hb⟩
            have hB2 := hB0.trans (hb.mono hB0.size)
            have RB2 := Lib.hid (heap_below hb (by simp) HN.out)
            obtain ⟨q0, q1, q2, q3, q4, q5, q6, q7, q8, q9, q10, ql⟩ := own11 RB2.out
            clear hb
            go_wp2_with fail
            have hB3 := hB2.alloc hB2.size (.cells #[.bool a0, .bool a1, .bool a2, .bool a3, .bool a4, .bool false, .int .i64 kn] 97)
            refine (HM.out _ hB3 _ _ _ _ _).mono ?_
            rintro e w4 ⟨rfl, hb⟩
            have RS := Lib.hid (heap_new w2 (.cells #[.bool a0, .bool a1, .bool a2, .bool a3, .bool a4, .bool false, .int .i64 kn] 97))
            have hB4 := hB3.trans (hb.mono hB3.size)
            have RB4 := Lib.hid (heap_below hb (by simp; omega) (heap_old RB2.out (.cells #[.bool a0, .bool a1, .bool a2, .bool a3, .bool a4, .bool false, .int .i64 kn] 97)))
            have RS4 := Lib.hid (heap_below hb (heap_lt RS.out) RS.out)
            clear q0 q1 q2 q3 q4 q5 q6 q7 q8 q9 q10 ql
            obtain ⟨q0, q1, q2, q3, q4, q5, q6, q7, q8, q9, q10, ql⟩ := own11 RB4.out
            obtain ⟨s0, s1, s2, s3, s4, s5, s6, sl⟩ := own7 RS4.out
            clear hb
            go_wp2_with fail
            refine (HT.out _ hB4).mono ?_
            rintro e w5 ⟨A5, n5, c5, rfl, hL5, hn5, hc5, hm5, hb⟩
            have HL5 := Lib.hid hL5
            have HN5 := Lib.hid hn5
            clear hL5 hn5
            have hB5 := hB4.trans (hb.mono hB4.size)
            have RB5 := Lib.hid (heap_below hb (heap_lt RB4.out) RB4.out)
            have RS5 := Lib.hid (heap_below hb (heap_lt RS4.out) RS4.out)
            clear q0 q1 q2 q3 q4 q5 q6 q7 q8 q9 q10 ql s0 s1 s2 s3 s4 s5 s6 sl
            obtain ⟨q0, q1, q2, q3, q4, q5, q6, q7, q8, q9, q10, ql⟩ := own11 RB5.out
            obtain ⟨s0, s1, s2, s3, s4, s5, s6, sl⟩ := own7 RS5.out
            clear hb
            go_wp2_with fail
            refine (HU.out _ hB5 _ _ _ HL5.out HN5.out hc5 hm5).mono ?_
            rintro e w6 ⟨rfl, hb⟩
            have hB6 := hB5.trans (hb.mono hB5.size)
            have RB6 := Lib.hid (heap_below hb (heap_lt RB5.out) RB5.out)
            have RS6 := Lib.hid (heap_below hb (heap_lt RS5.out) RS5.out)
            clear q0 q1 q2 q3 q4 q5 q6 q7 q8 q9 q10 ql s0 s1 s2 s3 s4 s5 s6 sl
            obtain ⟨q0, q1, q2, q3, q4, q5, q6, q7, q8, q9, q10, ql⟩ := own11 RB6.out
            obtain ⟨s0, s1, s2, s3, s4, s5, s6, sl⟩ := own7 RS6.out
            clear hb
            go_wp2_with fail
            go_ret
            exact ⟨rfl, hB6⟩
          · obtain rfl : R = okk := by rw [hO]; rfl
            clear hO hl
            have HSH := Lib.hid hsh
            clear hsh
            go_enter Tryz.func30, Tryz.ntmps30
            go_wp2_with fail
            refine HSH.out.mono ?_
            rintro e w2 ⟨rfl, hb⟩
            have hB2 := hB0.trans (hb.mono hB0.size)
            have RB2 := Lib.hid (heap_below hb (by simp) HN.out)
            obtain ⟨q0, q1, q2, q3, q4, q5, q6, q7, q8, q9, q10, ql⟩ := own11 RB2.out
            clear hb
            go_wp2_with fail
            have hB3 := hB2.alloc hB2.size (.cells #[.bool a0, .bool a1, .bool a2, .bool a3, .bool a4, .bool false, .int .i64 kn] 97)
            refine (HM.out _ hB3 _ _ _ _ _).mono ?_
            rintro e w4 ⟨rfl, hb⟩
            have RS := Lib.hid (heap_new w2 (.cells #[.bool a0, .bool a1, .bool a2, .bool a3, .bool a4, .bool false, .int .i64 kn] 97))
            have hB4 := hB3.trans (hb.mono hB3.size)
            have RB4 := Lib.hid (heap_below hb (by simp; omega) (heap_old RB2.out (.cells #[.bool a0, .bool a1, .bool a2, .bool a3, .bool a4, .bool false, .int .i64 kn] 97)))
            have RS4 := Lib.hid (heap_below hb (heap_lt RS.out) RS.out)
            clear q0 q1 q2 q3 q4 q5 q6 q7 q8 q9 q10 ql
            obtain ⟨q0, q1, q2, q3, q4, q5, q6, q7, q8, q9, q10, ql⟩ := own11 RB4.out
            obtain ⟨s0, s1, s2, s3, s4, s5, s6, sl⟩ := own7 RS4.out
            clear hb
            go_wp2_with fail
            refine (HT.out _ hB4).mono ?_
            rintro e w5 ⟨A5, n5, c5, rfl, hL5, hn5, hc5, hm5, hb⟩
            have HL5 := Lib.hid hL5
            have HN5 := Lib.hid hn5
            clear hL5 hn5
            have hB5 := hB4.trans (hb.mono hB4.size)
            have RB5 := Lib.hid (heap_below hb (heap_lt RB4.out) RB4.out)
            have RS5 := Lib.hid (heap_below hb (heap_lt RS4.out) RS4.out)
            clear q0 q1 q2 q3 q4 q5 q6 q7 q8 q9 q10 ql s0 s1 s2 s3 s4 s5 s6 sl
            obtain ⟨q0, q1, q2, q3, q4, q5, q6, q7, q8, q9, q10, ql⟩ := own11 RB5.out
            obtain ⟨s0, s1, s2, s3, s4, s5, s6, sl⟩ := own7 RS5.out
            clear hb
            go_wp2_with fail
            refine (HU.out _ hB5 _ _ _ HL5.out HN5.out hc5 hm5).mono ?_
            rintro e w6 ⟨rfl, hb⟩
            have hB6 := hB5.trans (hb.mono hB5.size)
            have RB6 := Lib.hid (heap_below hb (heap_lt RB5.out) RB5.out)
            have RS6 := Lib.hid (heap_below hb (heap_lt RS5.out) RS5.out)
            clear q0 q1 q2 q3 q4 q5 q6 q7 q8 q9 q10 ql s0 s1 s2 s3 s4 s5 s6 sl
            obtain ⟨q0, q1, q2, q3, q4, q5, q6, q7, q8, q9, q10, ql⟩ := own11 RB6.out
            obtain ⟨s0, s1, s2, s3, s4, s5, s6, sl⟩ := own7 RS6.out
            clear hb
            go_wp2_with fail
            refine (HK.out _ hB6).mono ?_
            rintro e w7 ⟨rfl, hb⟩
            have hB7 := hB6.trans (hb.mono hB6.size)
            go_wp2_with fail
            go_ret
            exact ⟨rfl, hB7⟩
        · cases okl
          · obtain rfl : R = false := by rw [hO]; rfl
            clear hO hl
            have HSH := Lib.hid hsh
            clear hsh
            go_enter Tryz.func30, Tryz.ntmps30
            go_wp2_with fail
            refine HSH.out.mono ?_
            rintro e w2 ⟨rfl, hb⟩
            have hB2 := hB0.trans (hb.mono hB0.size)
            have RB2 := Lib.hid (heap_below hb (by simp) HN.out)
            obtain ⟨q0, q1, q2, q3, q4, q5, q6, q7, q8, q9, q10, ql⟩ := own11 RB2.out
            clear hb
            go_wp2_with fail
            have hB3 := hB2.alloc hB2.size (.cells #[.bool a0, .bool a1, .bool a2, .bool a3, .bool a4, .bool true, .int .i64 kn] 97)
            refine (HM.out _ hB3 _ _ _ _ _).mono ?_
            rintro e w4 ⟨rfl, hb⟩
            have RS := Lib.hid (heap_new w2 (.cells #[.bool a0, .bool a1, .bool a2, .bool a3, .bool a4, .bool true, .int .i64 kn] 97))
            have hB4 := hB3.trans (hb.mono hB3.size)
            have RB4 := Lib.hid (heap_below hb (by simp; omega) (heap_old RB2.out (.cells #[.bool a0, .bool a1, .bool a2, .bool a3, .bool a4, .bool true, .int .i64 kn] 97)))
            have RS4 := Lib.hid (heap_below hb (heap_lt RS.out) RS.out)
            clear q0 q1 q2 q3 q4 q5 q6 q7 q8 q9 q10 ql
            obtain ⟨q0, q1, q2, q3, q4, q5, q6, q7, q8, q9, q10, ql⟩ := own11 RB4.out
            obtain ⟨s0, s1, s2, s3, s4, s5, s6, sl⟩ := own7 RS4.out
            clear hb
            go_wp2_with fail
            refine (HL.out _).mono ?_
            rintro e w5 ⟨rfl, rfl⟩
            go_wp2_with fail
            go_ret
            exact ⟨rfl, hB4⟩
          · simp only [Bool.not_true, Bool.false_or, Bool.true_and] at hO
            cases okt
            · obtain rfl : R = false := by rw [hO]; rfl
              clear hO hl
              have HSH := Lib.hid hsh
              clear hsh
              go_enter Tryz.func30, Tryz.ntmps30
              go_wp2_with fail
              refine HSH.out.mono ?_
              rintro e w2 ⟨rfl, hb⟩
              have hB2 := hB0.trans (hb.mono hB0.size)
              have RB2 := Lib.hid (heap_below hb (by simp) HN.out)
              obtain ⟨q0, q1, q2, q3, q4, q5, q6, q7, q8, q9, q10, ql⟩ := own11 RB2.out
              clear hb
              go_wp2_with fail
              have hB3 := hB2.alloc hB2.size (.cells #[.bool a0, .bool a1, .bool a2, .bool a3, .bool a4, .bool true, .int .i64 kn] 97)
              refine (HM.out _ hB3 _ _ _ _ _).mono ?_
              rintro e w4 ⟨rfl, hb⟩
              have RS := Lib.hid (heap_new w2 (.cells #[.bool a0, .bool a1, .bool a2, .bool a3, .bool a4, .bool true, .int .i64 kn] 97))
              have hB4 := hB3.trans (hb.mono hB3.size)
              have RB4 := Lib.hid (heap_below hb (by simp; omega) (heap_old RB2.out (.cells #[.bool a0, .bool a1, .bool a2, .bool a3, .bool a4, .bool true, .int .i64 kn] 97)))
              have RS4 := Lib.hid (heap_below hb (heap_lt RS.out) RS.out)
              clear q0 q1 q2 q3 q4 q5 q6 q7 q8 q9 q10 ql
              obtain ⟨q0, q1, q2, q3, q4, q5, q6, q7, q8, q9, q10, ql⟩ := own11 RB4.out
              obtain ⟨s0, s1, s2, s3, s4, s5, s6, sl⟩ := own7 RS4.out
              clear hb
              go_wp2_with fail
              refine (HL.out _).mono ?_
              rintro e w5 ⟨rfl, rfl⟩
              go_wp2_with fail
              refine (HT.out _ hB4).mono ?_
              rintro e w5 ⟨A5, n5, c5, rfl, hL5, hn5, hc5, hm5, hb⟩
              have HL5 := Lib.hid hL5
              have HN5 := Lib.hid hn5
              clear hL5 hn5
              have hB5 := hB4.trans (hb.mono hB4.size)
              have RB5 := Lib.hid (heap_below hb (heap_lt RB4.out) RB4.out)
              have RS5 := Lib.hid (heap_below hb (heap_lt RS4.out) RS4.out)
              clear q0 q1 q2 q3 q4 q5 q6 q7 q8 q9 q10 ql s0 s1 s2 s3 s4 s5 s6 sl
              obtain ⟨q0, q1, q2, q3, q4, q5, q6, q7, q8, q9, q10, ql⟩ := own11 RB5.out
              obtain ⟨s0, s1, s2, s3, s4, s5, s6, sl⟩ := own7 RS5.out
              clear hb
              go_wp2_with fail
              refine (HU.out _ hB5 _ _ _ HL5.out HN5.out hc5 hm5).mono ?_
              rintro e w6 ⟨rfl, hb⟩
              have hB6 := hB5.trans (hb.mono hB5.size)
              have RB6 := Lib.hid (heap_below hb (heap_lt RB5.out) RB5.out)
              have RS6 := Lib.hid (heap_below hb (heap_lt RS5.out) RS5.out)
              clear q0 q1 q2 q3 q4 q5 q6 q7 q8 q9 q10 ql s0 s1 s2 s3 s4 s5 s6 sl
              obtain ⟨q0, q1, q2, q3, q4, q5, q6, q7, q8, q9, q10, ql⟩ := own11 RB6.out
              obtain ⟨s0, s1, s2, s3, s4, s5, s6, sl⟩ := own7 RS6.out
              clear hb
              go_wp2_with fail
              go_ret
              exact ⟨rfl, hB6⟩
            · obtain rfl : R = okk := by rw [hO]; rfl
              clear hO hl
              have HSH := Lib.hid hsh
              clear hsh
              go_enter Tryz.func30, Tryz.ntmps30
              go_wp2_with fail
              refine HSH.out.mono ?_
              rintro e w2 ⟨rfl, hb⟩
              have hB2 := hB0.trans (hb.mono hB0.size)
              have RB2 := Lib.hid (heap_below hb (by simp) HN.out)
              obtain ⟨q0, q1, q2, q3, q4, q5, q6, q7, q8, q9, q10, ql⟩ := own11 RB2.out
              clear hb
              go_wp2_with fail
              have hB3 := hB2.alloc hB2.size (.cells #[.bool a0, .bool a1, .bool a2, .bool a3, .bool a4, .bool true, .int .i64 kn] 97)
              refine (HM.out _ hB3 _ _ _ _ _).mono ?_
              rintro e w4 ⟨rfl, hb⟩
              have RS := Lib.hid (heap_new w2 (.cells #[.bool a0, .bool a1, .bool a2, .bool a3, .bool a4, .bool true, .int .i64 kn] 97))
              have hB4 := hB3.trans (hb.mono hB3.size)
              have RB4 := Lib.hid (heap_below hb (by simp; omega) (heap_old RB2.out (.cells #[.bool a0, .bool a1, .bool a2, .bool a3, .bool a4, .bool true, .int .i64 kn] 97)))
              have RS4 := Lib.hid (heap_below hb (heap_lt RS.out) RS.out)
              clear q0 q1 q2 q3 q4 q5 q6 q7 q8 q9 q10 ql
              obtain ⟨q0, q1, q2, q3, q4, q5, q6, q7, q8, q9, q10, ql⟩ := own11 RB4.out
              obtain ⟨s0, s1, s2, s3, s4, s5, s6, sl⟩ := own7 RS4.out
              clear hb
              go_wp2_with fail
              refine (HL.out _).mono ?_
              rintro e w5 ⟨rfl, rfl⟩
              go_wp2_with fail
              refine (HT.out _ hB4).mono ?_
              rintro e w5 ⟨A5, n5, c5, rfl, hL5, hn5, hc5, hm5, hb⟩
              have HL5 := Lib.hid hL5
              have HN5 := Lib.hid hn5
              clear hL5 hn5
              have hB5 := hB4.trans (hb.mono hB4.size)
              have RB5 := Lib.hid (heap_below hb (heap_lt RB4.out) RB4.out)
              have RS5 := Lib.hid (heap_below hb (heap_lt RS4.out) RS4.out)
              clear q0 q1 q2 q3 q4 q5 q6 q7 q8 q9 q10 ql s0 s1 s2 s3 s4 s5 s6 sl
              obtain ⟨q0, q1, q2, q3, q4, q5, q6, q7, q8, q9, q10, ql⟩ := own11 RB5.out
              obtain ⟨s0, s1, s2, s3, s4, s5, s6, sl⟩ := own7 RS5.out
              clear hb
              go_wp2_with fail
              refine (HU.out _ hB5 _ _ _ HL5.out HN5.out hc5 hm5).mono ?_
              rintro e w6 ⟨rfl, hb⟩
              have hB6 := hB5.trans (hb.mono hB5.size)
              have RB6 := Lib.hid (heap_below hb (heap_lt RB5.out) RB5.out)
              have RS6 := Lib.hid (heap_below hb (heap_lt RS5.out) RS5.out)
              clear q0 q1 q2 q3 q4 q5 q6 q7 q8 q9 q10 ql s0 s1 s2 s3 s4 s5 s6 sl
              obtain ⟨q0, q1, q2, q3, q4, q5, q6, q7, q8, q9, q10, ql⟩ := own11 RB6.out
              obtain ⟨s0, s1, s2, s3, s4, s5, s6, sl⟩ := own7 RS6.out
              clear hb
              go_wp2_with fail
              refine (HK.out _ hB6).mono ?_
              rintro e w7 ⟨rfl, hb⟩
              have hB7 := hB6.trans (hb.mono hB6.size)
              go_wp2_with fail
              go_ret
              exact ⟨rfl, hB7⟩
    · have hl2 : ((p.n : Int) != (kn : Int)) = true := by simp; omega
      obtain rfl : R = false := by rw [HO.out, show decide (Tm.len kids = kn) = false by simp; have := HNE.out; omega]; rfl
      clear HO HNE hl
      have HSH := Lib.hid hsh
      clear hsh
      go_enter Tryz.func30, Tryz.ntmps30
      go_wp2_with fail
      refine HSH.out.mono ?_
      rintro e w2 ⟨rfl, hb⟩
      have hB2 := hB0.trans (hb.mono hB0.size)
      have RB2 := Lib.hid (heap_below hb (by simp) HN.out)
      obtain ⟨q0, q1, q2, q3, q4, q5, q6, q7, q8, q9, q10, ql⟩ := own11 RB2.out
      clear hb
      go_wp2_with fail
      go_ret
      exact ⟨rfl, hB2.alloc hB2.size _⟩
end Go.Proofs.YtknhoagicdfikaaGreatDoor
namespace Go.Proofs.YtknhoagicdfikaaGreatDoor
open Go.RowKit

set_option maxHeartbeats 2000000 in
set_option maxRecDepth 100000 in
theorem tcheck_any (h : Hd) (kids : Tm) (p : Pl) (w : World) (hIs : Tm.Is w h kids p) (hG : TGlob w) :
    Calls Tryz.prog 14 #[.agg #[.int .i8 h.kind, .string h.name, .string h.arg, .int .i64 h.num, .int .i8 h.tk, .slice p.TA p.tn p.tc, .int .i8 h.uk, .slice p.UA p.un p.uc, .int .i64 h.label, .int .i64 h.pos, .slice p.A p.n p.c]] w fun e w' => e = .returned (.int .i64 (Tm.chk h kids)) ∧ Below w.heap.size w w' := by
  have hB0 : Below w.heap.size w (w.alloc (.cells #[.int .i8 h.kind, .string h.name, .string h.arg, .int .i64 h.num, .int .i8 h.tk, .slice p.TA p.tn p.tc, .int .i8 h.uk, .slice p.UA p.un p.uc, .int .i64 h.label, .int .i64 h.pos, .slice p.A p.n p.c] 28)) := (Below.refl _ _).alloc (Nat.le_refl _) _
  have HM := Lib.hid (tmeasure_any h kids p _ (hIs.below hB0) (hG.terms.below hB0))
  have HF := Lib.hid (fun (W : World) (hb : Below w.heap.size w W) => malformed_any (Tm.nodes kids + 1) h kids p W (by omega) (hIs.below hb) (hG.below hb))
  have HN := Lib.hid (heap_new w (.cells #[.int .i8 h.kind, .string h.name, .string h.arg, .int .i64 h.num, .int .i8 h.tk, .slice p.TA p.tn p.tc, .int .i8 h.uk, .slice p.UA p.un p.uc, .int .i64 h.label, .int .i64 h.pos, .slice p.A p.n p.c] 28))
  clear hIs hG
  by_cases h1 : 8192 < Tm.nd h kids
  · have e1 : Tm.chk h kids = 32 := by unfold Tm.chk; rw [if_pos h1]
    have e2 : ((Tm.nod h kids : Nat) : Int) = 8193 := by unfold Tm.nod; omega
    rw [e1]
    rw [e2] at HM
    clear e2 e1 h1 HF HN
    go_enter Tryz.func14, Tryz.ntmps14
    go_wp2_with fail
    refine HM.out.mono ?_
    rintro e w3 ⟨rfl, hb⟩
    go_wp2_with fail
    go_ret
    exact ⟨rfl, hB0.trans (hb.mono hB0.size)⟩
  · have e2 : ((Tm.nod h kids : Nat) : Int) ≤ 8192 := by unfold Tm.nod; omega
    have e4 : Tm.dpt h kids = min (Tm.dp h kids) 201 := by unfold Tm.dpt; rw [if_neg h1]
    by_cases h2 : 200 < Tm.dp h kids
    · have e1 : Tm.chk h kids = 31 := by unfold Tm.chk; rw [if_neg h1, if_pos h2]
      have e3 : ((Tm.dpt h kids : Nat) : Int) = 201 := by rw [e4]; omega
      rw [e1]
      rw [e3] at HM
      generalize Tm.nod h kids = N at *
      clear e3 e1 h1 h2 e4 HF HN
      go_enter Tryz.func14, Tryz.ntmps14
      go_wp2_with fail
      refine HM.out.mono ?_
      rintro e w3 ⟨rfl, hb⟩
      go_wp2_with fail
      go_ret
      exact ⟨rfl, hB0.trans (hb.mono hB0.size)⟩
    · have e3 : ((Tm.dpt h kids : Nat) : Int) ≤ 200 := by rw [e4]; omega
      have e1 : Tm.chk h kids = if Tm.okT h kids then 0 else 30 := by unfold Tm.chk; rw [if_neg h1, if_neg h2]
      rw [e1]
      generalize Tm.nod h kids = N at *
      generalize Tm.dpt h kids = D at *
      clear e1 h1 h2 e4
      cases ho : Tm.okT h kids
      all_goals
        rw [ho] at HF
        clear ho
        go_enter Tryz.func14, Tryz.ntmps14
        go_wp2_with fail
        refine HM.out.mono ?_
        rintro e w3 ⟨rfl, hb⟩
        have hB1 := hB0.trans (hb.mono hB0.size)
        obtain ⟨q0, q1, q2, q3, q4, q5, q6, q7, q8, q9, q10, ql⟩ := own11 (heap_below hb (by simp) HN.out)
        clear hb
        go_wp2_with fail
        refine (HF.out _ hB1).mono ?_
        rintro e w4 ⟨rfl, hb⟩
        go_wp2_with fail
        go_ret
        exact ⟨rfl, hB1.trans (hb.mono hB1.size)⟩
end Go.Proofs.YtknhoagicdfikaaGreatDoor
namespace Go.Proofs.YtknhoagicdfikaaGreatDoor
open Go.RowKit

namespace Tm
/-- what counts of a term's own fields -/
def cnt (h : Hd) : Hd :=
  ⟨h.kind, if hasName h.kind then h.name else ⟨#[]⟩, if hasArg h.kind then h.arg else ⟨#[]⟩, if hasNum h.kind then h.num else 0,
   if hasType h.kind then h.tk else 0, if hasType h.kind then h.tkids else .nil, if hasTo h.kind then h.uk else 0, if hasTo h.kind then h.ukids else .nil, if hasLabel h.kind then h.label else 0, 0⟩
def cntP (h : Hd) (p : Pl) : Pl :=
  ⟨if hasType h.kind then p.TA else none, if hasType h.kind then p.tn else 0, if hasType h.kind then p.tc else 0, if hasTo h.kind then p.UA else none, if hasTo h.kind then p.un else 0, if hasTo h.kind then p.uc else 0, p.A, p.n, p.c⟩
theorem Fit.cnt {w : World} {h : Hd} {p : Pl} {n : Nat} (f : Fit w h p n) : Fit w (cnt h) (cntP h p) n := by
  have hz : ∀ w : World, Ty.Is w 0 .nil none 0 0 := fun w => ⟨trivial, rfl, Nat.le_refl _, Nat.zero_le _, by omega, by omega⟩
  obtain ⟨f1, f2, f3, f4, f5, f6, f7, f8, f9, f10, f11⟩ := f
  unfold Tm.cnt cntP
  refine ⟨?_, ?_, f3, f4, f5, f6, f7, ?_, ?_, ?_, ?_⟩
  · dsimp only; cases hasType h.kind
    · exact hz w
    · exact f1
  · dsimp only; cases hasTo h.kind
    · exact hz w
    · exact f2
  · dsimp only; split <;> omega
  · dsimp only; split <;> omega
  · dsimp only; split
    · exact f10
    · exact Nat.zero_le _
  · dsimp only; split
    · exact f11
    · exact Nat.zero_le _
theorem Is.cnt {w : World} {h : Hd} {kids : Tm} {p : Pl} (f : Is w h kids p) : Is w (cnt h) kids (cntP h p) := ⟨f.fit.cnt, f.lies⟩
end Tm

end Go.Proofs.YtknhoagicdfikaaGreatDoor
