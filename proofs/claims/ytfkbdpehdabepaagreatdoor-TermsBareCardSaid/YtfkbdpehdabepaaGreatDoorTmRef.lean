/-
  The reference's count, Nodes, deep, Depth of terms.
-/
import Derived.Test.YtfkbdpehdabepaaGreatDoorTmCont
import Derived.Test.YtfkbdpehdabepaaGreatDoorM6
namespace Go.Proofs.YtfkbdpehdabepaaGreatDoor
open Go.RowKit

set_option maxHeartbeats 4000000 in
set_option maxRecDepth 100000 in
theorem tcount_any (K : Nat) : ∀ (h : Hd) (kids : Tm) (p : Pl) (w : World) (m : Nat), Tm.nodes kids < K → Tm.Is w h kids p → m ≤ 8192 →
    Calls Tryz.prog 117 #[.agg #[.int .i8 h.kind, .string h.name, .string h.arg, .int .i64 h.num, .int .i8 h.tk, .slice p.TA p.tn p.tc, .int .i8 h.uk, .slice p.UA p.un p.uc, .int .i64 h.label, .int .i64 h.pos, .slice p.A p.n p.c], .int .i64 m] w fun e w' => ∃ R : Nat, e = .returned (.int .i64 R) ∧ min R 8193 = min (m + Tm.nd h kids) 8193 ∧ R ≤ 40000 ∧ Below w.heap.size w w' := by
  induction K with
  | zero => intro _ _ _ _ _ hK; omega
  | succ K ih =>
    intro h kids p w m hK hIs hm
    have hB0 : Below w.heap.size w (w.alloc (.cells #[.int .i8 h.kind, .string h.name, .string h.arg, .int .i64 h.num, .int .i8 h.tk, .slice p.TA p.tn p.tc, .int .i8 h.uk, .slice p.UA p.un p.uc, .int .i64 h.label, .int .i64 h.pos, .slice p.A p.n p.c] 28)) := (Below.refl _ _).alloc (Nat.le_refl _) _
    have HN := Lib.hid (heap_new w (.cells #[.int .i8 h.kind, .string h.name, .string h.arg, .int .i64 h.num, .int .i8 h.tk, .slice p.TA p.tn p.tc, .int .i8 h.uk, .slice p.UA p.un p.uc, .int .i64 h.label, .int .i64 h.pos, .slice p.A p.n p.c] 28))
    have HT := Lib.hid (fun (W : World) (hb : Below w.heap.size w W) => ref_nodes h.tk h.tkids p.TA p.tn p.tc W (hIs.fit.ty.below hb))
    have HU := Lib.hid (fun (W : World) (hb : Below w.heap.size w W) => ref_nodes h.uk h.ukids p.UA p.un p.uc W (hIs.fit.to.below hb))
    have h1 := Tm.nod_le h.tkids
    have h2 := Tm.nod_le h.ukids
    have H1 := Lib.hid (ref_hasType_any h.kind)
    have H2 := Lib.hid (ref_hasTo_any h.kind)
    have IH := Lib.hid ih
    have HI := Lib.hid (fun (W : World) (hb : Below w.heap.size w W) => (hIs.below hb).lies)
    have HNE := Lib.hid hIs.fit.n_eq
    have i5 : (p.n : Int) ≤ 9223372036854775807 := by have h1 := hIs.fit.n_le; have h2 := hIs.fit.c_le; unfold maxLen at h2; omega
    have i6 : (m : Int) ≤ 8192 := by omega
    have hnd : Tm.nd h kids = 1 + ((if Tm.hasType h.kind then Ty.nod h.tkids else 0) + (if Tm.hasTo h.kind then Ty.nod h.ukids else 0)) + Tm.nodes kids := rfl
    rw [hnd]
    clear ih hIs hnd
    generalize Ty.nod h.tkids = N1 at *
    generalize Ty.nod h.ukids = N2 at *
    have g1 : (N1 : Int) ≤ 8193 := by omega
    have g2 : (N2 : Int) ≤ 8193 := by omega
    have z0 := hB0.size
    generalize ht : Tm.hasType h.kind = b1 at *
    generalize hu : Tm.hasTo h.kind = b2 at *
    clear ht hu
    cases b1
    · cases b2
      · simp only [Bool.false_eq_true, if_false]
        obtain ⟨q0, q1, q2, q3, q4, q5, q6, q7, q8, q9, q10, ql⟩ := own11 HN.out
        go_enter Tryz.func117, Tryz.ntmps117
        go_wp2_with fail
        refine (H1.out _).mono ?_
        rintro e w2 ⟨rfl, rfl⟩
        go_wp2_with fail
        refine (H2.out _).mono ?_
        rintro e w4 ⟨rfl, rfl⟩
        go_wp2_with fail
        have HST := Lib.hid (OverT.start (HI.out _ hB0) HNE.out)
        clear q0 q1 q2 q3 q4 q5 q6 q7 q8 q9 q10
        generalize hW1 : (w.alloc (.cells #[.int .i8 h.kind, .string h.name, .string h.arg, .int .i64 h.num, .int .i8 h.tk, .slice p.TA p.tn p.tc, .int .i8 h.uk, .slice p.UA p.un p.uc, .int .i64 h.label, .int .i64 h.pos, .slice p.A p.n p.c] 28)) = w1 at *
        clear hW1
        go_loopw [1, 5] (fun v1 v5 wr => ∃ (i : Nat) (rest : Tm) (m2 : Nat), v5 = .int .i64 i ∧ v1 = .int .i64 m2 ∧ OverT w1 wr p.A p.n (Tm.nodes kids) i rest ∧ m2 ≤ 40000 ∧ min (m2 + Tm.nodes rest) 8193 = min (m + (1 + (0 + 0) + Tm.nodes kids)) 8193) (fun _ v _ => p.n - (intOf v).toNat)
        case atStart => exact ⟨0, kids, m + 1, rfl, by go_num, HST.out, by omega, by omega⟩
        case round =>
          obtain ⟨i, rest, m2, rfl, rfl, hO, hm2, hRR⟩ := hrel
          have hbB := hB0.trans (hO.below.mono hB0.size)
          have HX := Lib.hid (heap_below hO.below (heap_lt HN.out) HN.out)
          obtain ⟨q0, q1, q2, q3, q4, q5, q6, q7, q8, q9, q10, ql2⟩ := own11 HX.out
          have HRR := Lib.hid hRR
          clear hRR
          have i7 : (m2 : Int) ≤ 40000 := by omega
          cases rest with
          | nil =>
            have hi : i = p.n := by have := hO.i_eq; simpa [Tm.len] using this
            have hfin : min m2 8193 = min (m + (1 + (0 + 0) + Tm.nodes kids)) 8193 := by have := HRR.out; simp only [Tm.nodes] at this; omega
            clear hO
            subst hi
            go_wp2_with fail
            go_ret
            exact ⟨m2, rfl, hfin, hm2, hbB⟩
          | node h' kids' r =>
            have hst := fun w2 hb => OverT.step (w2 := w2) hO hb
            have h1 := hO.i_eq
            have h2 := hO.lies
            have h3 := hO.sub
            simp only [Tm.len, Tm.nodes] at h1 h3
            obtain ⟨bb, oo, p', hpA, hcs, hfit, hl3, hl4⟩ := h2
            have j1 : (i : Int) < p.n := by omega
            by_cases hq : m2 ≤ 8192
            · have hcall := IH.out h' kids' p' wr m2 (by omega) ⟨hfit, hl3⟩ hq
              obtain ⟨c0, c1, c2, c3, c4, c5, c6, c7, c8, c9, c10⟩ := Tm.row hcs
              have HCK := Lib.hid hcall
              have HS2 := Lib.hid hst
              have HL := Lib.hid hl4
              have j2 : (m2 : Int) ≤ 8192 := by omega
              have HPA := Lib.hid hpA
              clear hst hl3 hl4 hcall hO hcs hfit hpA
              generalize hPA : p.A = PA at *
              obtain rfl : PA = some ⟨bb, oo, none⟩ := HPA.out
              clear hPA HPA
              go_wp2_with fail
              refine HCK.out.mono ?_
              rintro e w2 ⟨R', rfl, hR1, hR2, hb⟩
              have hbb := Lib.hid (HS2.out w2 hb HL.out)
              have hnx : min (R' + Tm.nodes r) 8193 = min (m + (1 + (0 + 0) + Tm.nodes kids)) 8193 := by
                have := HRR.out
                simp only [Tm.nodes] at this
                have e : Tm.nd h' kids' = 1 + Tm.tyN h' + Tm.nodes kids' := rfl
                omega
              have HNX := Lib.hid hnx
              clear hb hR1 hnx
              go_wp2_with fail
              go_roundw
              case rel => exact ⟨i + 1, r, R', by go_num, rfl, hbb.out, hR2, HNX.out⟩
              case measure => simp [intOf]; omega
            · have hfin : min m2 8193 = min (m + (1 + (0 + 0) + Tm.nodes kids)) 8193 := by have := HRR.out; omega
              have j2 : (8192 : Int) < (m2 : Int) := by omega
              clear hst hl3 hl4 hO hcs hfit hpA
              go_wp2_with fail
              go_ret
              exact ⟨m2, rfl, hfin, hm2, hbB⟩
      · simp only [if_true, Bool.false_eq_true, if_false]
        obtain ⟨q0, q1, q2, q3, q4, q5, q6, q7, q8, q9, q10, ql⟩ := own11 HN.out
        go_enter Tryz.func117, Tryz.ntmps117
        go_wp2_with fail
        refine (H1.out _).mono ?_
        rintro e w2 ⟨rfl, rfl⟩
        go_wp2_with fail
        refine (H2.out _).mono ?_
        rintro e w4 ⟨rfl, rfl⟩
        go_wp2_with fail
        refine (HU.out _ hB0).mono ?_
        rintro e w5 ⟨rfl, hb⟩
        have hB2 := hB0.trans (hb.mono hB0.size)
        have R2 := Lib.hid (heap_below hb (heap_lt HN.out) HN.out)
        clear q0 q1 q2 q3 q4 q5 q6 q7 q8 q9 q10 ql
        obtain ⟨q0, q1, q2, q3, q4, q5, q6, q7, q8, q9, q10, ql⟩ := own11 R2.out
        clear hb
        go_wp2_with fail
        have HST := Lib.hid (OverT.start (HI.out _ hB2) HNE.out)
        clear q0 q1 q2 q3 q4 q5 q6 q7 q8 q9 q10
        generalize hW1 : w5 = w1 at *
        clear hW1
        go_loopw [1, 5] (fun v1 v5 wr => ∃ (i : Nat) (rest : Tm) (m2 : Nat), v5 = .int .i64 i ∧ v1 = .int .i64 m2 ∧ OverT w1 wr p.A p.n (Tm.nodes kids) i rest ∧ m2 ≤ 40000 ∧ min (m2 + Tm.nodes rest) 8193 = min (m + (1 + (0 + N2) + Tm.nodes kids)) 8193) (fun _ v _ => p.n - (intOf v).toNat)
        case atStart => exact ⟨0, kids, m + 1 + N2, rfl, by go_num, HST.out, by omega, by omega⟩
        case round =>
          obtain ⟨i, rest, m2, rfl, rfl, hO, hm2, hRR⟩ := hrel
          have hbB := hB2.trans (hO.below.mono hB2.size)
          have HX := Lib.hid (heap_below hO.below (heap_lt R2.out) R2.out)
          obtain ⟨q0, q1, q2, q3, q4, q5, q6, q7, q8, q9, q10, ql2⟩ := own11 HX.out
          have HRR := Lib.hid hRR
          clear hRR
          have i7 : (m2 : Int) ≤ 40000 := by omega
          cases rest with
          | nil =>
            have hi : i = p.n := by have := hO.i_eq; simpa [Tm.len] using this
            have hfin : min m2 8193 = min (m + (1 + (0 + N2) + Tm.nodes kids)) 8193 := by have := HRR.out; simp only [Tm.nodes] at this; omega
            clear hO
            subst hi
            go_wp2_with fail
            go_ret
            exact ⟨m2, rfl, hfin, hm2, hbB⟩
          | node h' kids' r =>
            have hst := fun w2 hb => OverT.step (w2 := w2) hO hb
            have h1 := hO.i_eq
            have h2 := hO.lies
            have h3 := hO.sub
            simp only [Tm.len, Tm.nodes] at h1 h3
            obtain ⟨bb, oo, p', hpA, hcs, hfit, hl3, hl4⟩ := h2
            have j1 : (i : Int) < p.n := by omega
            by_cases hq : m2 ≤ 8192
            · have hcall := IH.out h' kids' p' wr m2 (by omega) ⟨hfit, hl3⟩ hq
              obtain ⟨c0, c1, c2, c3, c4, c5, c6, c7, c8, c9, c10⟩ := Tm.row hcs
              have HCK := Lib.hid hcall
              have HS2 := Lib.hid hst
              have HL := Lib.hid hl4
              have j2 : (m2 : Int) ≤ 8192 := by omega
              have HPA := Lib.hid hpA
              clear hst hl3 hl4 hcall hO hcs hfit hpA
              generalize hPA : p.A = PA at *
              obtain rfl : PA = some ⟨bb, oo, none⟩ := HPA.out
              clear hPA HPA
              go_wp2_with fail
              refine HCK.out.mono ?_
              rintro e w2 ⟨R', rfl, hR1, hR2, hb⟩
              have hbb := Lib.hid (HS2.out w2 hb HL.out)
              have hnx : min (R' + Tm.nodes r) 8193 = min (m + (1 + (0 + N2) + Tm.nodes kids)) 8193 := by
                have := HRR.out
                simp only [Tm.nodes] at this
                have e : Tm.nd h' kids' = 1 + Tm.tyN h' + Tm.nodes kids' := rfl
                omega
              have HNX := Lib.hid hnx
              clear hb hR1 hnx
              go_wp2_with fail
              go_roundw
              case rel => exact ⟨i + 1, r, R', by go_num, rfl, hbb.out, hR2, HNX.out⟩
              case measure => simp [intOf]; omega
            · have hfin : min m2 8193 = min (m + (1 + (0 + N2) + Tm.nodes kids)) 8193 := by have := HRR.out; omega
              have j2 : (8192 : Int) < (m2 : Int) := by omega
              clear hst hl3 hl4 hO hcs hfit hpA
              go_wp2_with fail
              go_ret
              exact ⟨m2, rfl, hfin, hm2, hbB⟩
    · cases b2
      · simp only [if_true, Bool.false_eq_true, if_false]
        obtain ⟨q0, q1, q2, q3, q4, q5, q6, q7, q8, q9, q10, ql⟩ := own11 HN.out
        go_enter Tryz.func117, Tryz.ntmps117
        go_wp2_with fail
        refine (H1.out _).mono ?_
        rintro e w2 ⟨rfl, rfl⟩
        go_wp2_with fail
        refine (HT.out _ hB0).mono ?_
        rintro e w3 ⟨rfl, hb⟩
        have hB1 := hB0.trans (hb.mono hB0.size)
        have R1 := Lib.hid (heap_below hb (heap_lt HN.out) HN.out)
        clear q0 q1 q2 q3 q4 q5 q6 q7 q8 q9 q10 ql
        obtain ⟨q0, q1, q2, q3, q4, q5, q6, q7, q8, q9, q10, ql⟩ := own11 R1.out
        clear hb
        go_wp2_with fail
        refine (H2.out _).mono ?_
        rintro e w4 ⟨rfl, rfl⟩
        go_wp2_with fail
        have HST := Lib.hid (OverT.start (HI.out _ hB1) HNE.out)
        clear q0 q1 q2 q3 q4 q5 q6 q7 q8 q9 q10
        generalize hW1 : w3 = w1 at *
        clear hW1
        go_loopw [1, 5] (fun v1 v5 wr => ∃ (i : Nat) (rest : Tm) (m2 : Nat), v5 = .int .i64 i ∧ v1 = .int .i64 m2 ∧ OverT w1 wr p.A p.n (Tm.nodes kids) i rest ∧ m2 ≤ 40000 ∧ min (m2 + Tm.nodes rest) 8193 = min (m + (1 + (N1 + 0) + Tm.nodes kids)) 8193) (fun _ v _ => p.n - (intOf v).toNat)
        case atStart => exact ⟨0, kids, m + 1 + N1, rfl, by go_num, HST.out, by omega, by omega⟩
        case round =>
          obtain ⟨i, rest, m2, rfl, rfl, hO, hm2, hRR⟩ := hrel
          have hbB := hB1.trans (hO.below.mono hB1.size)
          have HX := Lib.hid (heap_below hO.below (heap_lt R1.out) R1.out)
          obtain ⟨q0, q1, q2, q3, q4, q5, q6, q7, q8, q9, q10, ql2⟩ := own11 HX.out
          have HRR := Lib.hid hRR
          clear hRR
          have i7 : (m2 : Int) ≤ 40000 := by omega
          cases rest with
          | nil =>
            have hi : i = p.n := by have := hO.i_eq; simpa [Tm.len] using this
            have hfin : min m2 8193 = min (m + (1 + (N1 + 0) + Tm.nodes kids)) 8193 := by have := HRR.out; simp only [Tm.nodes] at this; omega
            clear hO
            subst hi
            go_wp2_with fail
            go_ret
            exact ⟨m2, rfl, hfin, hm2, hbB⟩
          | node h' kids' r =>
            have hst := fun w2 hb => OverT.step (w2 := w2) hO hb
            have h1 := hO.i_eq
            have h2 := hO.lies
            have h3 := hO.sub
            simp only [Tm.len, Tm.nodes] at h1 h3
            obtain ⟨bb, oo, p', hpA, hcs, hfit, hl3, hl4⟩ := h2
            have j1 : (i : Int) < p.n := by omega
            by_cases hq : m2 ≤ 8192
            · have hcall := IH.out h' kids' p' wr m2 (by omega) ⟨hfit, hl3⟩ hq
              obtain ⟨c0, c1, c2, c3, c4, c5, c6, c7, c8, c9, c10⟩ := Tm.row hcs
              have HCK := Lib.hid hcall
              have HS2 := Lib.hid hst
              have HL := Lib.hid hl4
              have j2 : (m2 : Int) ≤ 8192 := by omega
              have HPA := Lib.hid hpA
              clear hst hl3 hl4 hcall hO hcs hfit hpA
              generalize hPA : p.A = PA at *
              obtain rfl : PA = some ⟨bb, oo, none⟩ := HPA.out
              clear hPA HPA
              go_wp2_with fail
              refine HCK.out.mono ?_
              rintro e w2 ⟨R', rfl, hR1, hR2, hb⟩
              have hbb := Lib.hid (HS2.out w2 hb HL.out)
              have hnx : min (R' + Tm.nodes r) 8193 = min (m + (1 + (N1 + 0) + Tm.nodes kids)) 8193 := by
                have := HRR.out
                simp only [Tm.nodes] at this
                have e : Tm.nd h' kids' = 1 + Tm.tyN h' + Tm.nodes kids' := rfl
                omega
              have HNX := Lib.hid hnx
              clear hb hR1 hnx
              go_wp2_with fail
              go_roundw
              case rel => exact ⟨i + 1, r, R', by go_num, rfl, hbb.out, hR2, HNX.out⟩
              case measure => simp [intOf]; omega
            · have hfin : min m2 8193 = min (m + (1 + (N1 + 0) + Tm.nodes kids)) 8193 := by have := HRR.out; omega
              have j2 : (8192 : Int) < (m2 : Int) := by omega
              clear hst hl3 hl4 hO hcs hfit hpA
              go_wp2_with fail
              go_ret
              exact ⟨m2, rfl, hfin, hm2, hbB⟩
      · simp only [if_true]
        obtain ⟨q0, q1, q2, q3, q4, q5, q6, q7, q8, q9, q10, ql⟩ := own11 HN.out
        go_enter Tryz.func117, Tryz.ntmps117
        go_wp2_with fail
        refine (H1.out _).mono ?_
        rintro e w2 ⟨rfl, rfl⟩
        go_wp2_with fail
        refine (HT.out _ hB0).mono ?_
        rintro e w3 ⟨rfl, hb⟩
        have hB1 := hB0.trans (hb.mono hB0.size)
        have R1 := Lib.hid (heap_below hb (heap_lt HN.out) HN.out)
        clear q0 q1 q2 q3 q4 q5 q6 q7 q8 q9 q10 ql
        obtain ⟨q0, q1, q2, q3, q4, q5, q6, q7, q8, q9, q10, ql⟩ := own11 R1.out
        clear hb
        go_wp2_with fail
        refine (H2.out _).mono ?_
        rintro e w4 ⟨rfl, rfl⟩
        go_wp2_with fail
        refine (HU.out _ hB1).mono ?_
        rintro e w5 ⟨rfl, hb⟩
        have hB2 := hB1.trans (hb.mono hB1.size)
        have R2 := Lib.hid (heap_below hb (heap_lt R1.out) R1.out)
        clear q0 q1 q2 q3 q4 q5 q6 q7 q8 q9 q10 ql
        obtain ⟨q0, q1, q2, q3, q4, q5, q6, q7, q8, q9, q10, ql⟩ := own11 R2.out
        clear hb
        go_wp2_with fail
        have HST := Lib.hid (OverT.start (HI.out _ hB2) HNE.out)
        clear q0 q1 q2 q3 q4 q5 q6 q7 q8 q9 q10
        generalize hW1 : w5 = w1 at *
        clear hW1
        go_loopw [1, 5] (fun v1 v5 wr => ∃ (i : Nat) (rest : Tm) (m2 : Nat), v5 = .int .i64 i ∧ v1 = .int .i64 m2 ∧ OverT w1 wr p.A p.n (Tm.nodes kids) i rest ∧ m2 ≤ 40000 ∧ min (m2 + Tm.nodes rest) 8193 = min (m + (1 + (N1 + N2) + Tm.nodes kids)) 8193) (fun _ v _ => p.n - (intOf v).toNat)
        case atStart => exact ⟨0, kids, m + 1 + N1 + N2, rfl, by go_num, HST.out, by omega, by omega⟩
        case round =>
          obtain ⟨i, rest, m2, rfl, rfl, hO, hm2, hRR⟩ := hrel
          have hbB := hB2.trans (hO.below.mono hB2.size)
          have HX := Lib.hid (heap_below hO.below (heap_lt R2.out) R2.out)
          obtain ⟨q0, q1, q2, q3, q4, q5, q6, q7, q8, q9, q10, ql2⟩ := own11 HX.out
          have HRR := Lib.hid hRR
          clear hRR
          have i7 : (m2 : Int) ≤ 40000 := by omega
          cases rest with
          | nil =>
            have hi : i = p.n := by have := hO.i_eq; simpa [Tm.len] using this
            have hfin : min m2 8193 = min (m + (1 + (N1 + N2) + Tm.nodes kids)) 8193 := by have := HRR.out; simp only [Tm.nodes] at this; omega
            clear hO
            subst hi
            go_wp2_with fail
            go_ret
            exact ⟨m2, rfl, hfin, hm2, hbB⟩
          | node h' kids' r =>
            have hst := fun w2 hb => OverT.step (w2 := w2) hO hb
            have h1 := hO.i_eq
            have h2 := hO.lies
            have h3 := hO.sub
            simp only [Tm.len, Tm.nodes] at h1 h3
            obtain ⟨bb, oo, p', hpA, hcs, hfit, hl3, hl4⟩ := h2
            have j1 : (i : Int) < p.n := by omega
            by_cases hq : m2 ≤ 8192
            · have hcall := IH.out h' kids' p' wr m2 (by omega) ⟨hfit, hl3⟩ hq
              obtain ⟨c0, c1, c2, c3, c4, c5, c6, c7, c8, c9, c10⟩ := Tm.row hcs
              have HCK := Lib.hid hcall
              have HS2 := Lib.hid hst
              have HL := Lib.hid hl4
              have j2 : (m2 : Int) ≤ 8192 := by omega
              have HPA := Lib.hid hpA
              clear hst hl3 hl4 hcall hO hcs hfit hpA
              generalize hPA : p.A = PA at *
              obtain rfl : PA = some ⟨bb, oo, none⟩ := HPA.out
              clear hPA HPA
              go_wp2_with fail
              refine HCK.out.mono ?_
              rintro e w2 ⟨R', rfl, hR1, hR2, hb⟩
              have hbb := Lib.hid (HS2.out w2 hb HL.out)
              have hnx : min (R' + Tm.nodes r) 8193 = min (m + (1 + (N1 + N2) + Tm.nodes kids)) 8193 := by
                have := HRR.out
                simp only [Tm.nodes] at this
                have e : Tm.nd h' kids' = 1 + Tm.tyN h' + Tm.nodes kids' := rfl
                omega
              have HNX := Lib.hid hnx
              clear hb hR1 hnx
              go_wp2_with fail
              go_roundw
              case rel => exact ⟨i + 1, r, R', by go_num, rfl, hbb.out, hR2, HNX.out⟩
              case measure => simp [intOf]; omega
            · have hfin : min m2 8193 = min (m + (1 + (N1 + N2) + Tm.nodes kids)) 8193 := by have := HRR.out; omega
              have j2 : (8192 : Int) < (m2 : Int) := by omega
              clear hst hl3 hl4 hO hcs hfit hpA
              go_wp2_with fail
              go_ret
              exact ⟨m2, rfl, hfin, hm2, hbB⟩

set_option maxHeartbeats 1000000 in
set_option maxRecDepth 100000 in
theorem tref_nodes (h : Hd) (kids : Tm) (p : Pl) (w : World) (hIs : Tm.Is w h kids p) :
    Calls Tryz.prog 75 #[.agg #[.int .i8 h.kind, .string h.name, .string h.arg, .int .i64 h.num, .int .i8 h.tk, .slice p.TA p.tn p.tc, .int .i8 h.uk, .slice p.UA p.un p.uc, .int .i64 h.label, .int .i64 h.pos, .slice p.A p.n p.c]] w fun e w' => e = .returned (.int .i64 (Tm.nod h kids)) ∧ Below w.heap.size w w' := by
  have hB0 : Below w.heap.size w (w.alloc (.cells #[.int .i8 h.kind, .string h.name, .string h.arg, .int .i64 h.num, .int .i8 h.tk, .slice p.TA p.tn p.tc, .int .i8 h.uk, .slice p.UA p.un p.uc, .int .i64 h.label, .int .i64 h.pos, .slice p.A p.n p.c] 28)) := (Below.refl _ _).alloc (Nat.le_refl _) _
  have hc := tcount_any (Tm.nodes kids + 1) h kids p _ 0 (by omega) (hIs.below hB0) (by omega)
  have HC := Lib.hid hc
  clear hIs hc
  go_enter Tryz.func75, Tryz.ntmps75
  go_wp2_with fail
  refine HC.out.mono ?_
  rintro e w3 ⟨R, rfl, hR, hR2, hb⟩
  have HR := Lib.hid hR
  clear hR
  go_wp2_with fail
  go_ret
  exact ⟨ret_i (by have := HR.out; unfold Tm.nod; omega), hB0.trans (hb.mono hB0.size)⟩

set_option maxHeartbeats 4000000 in
set_option maxRecDepth 100000 in
theorem tdeep_any (K : Nat) : ∀ (h : Hd) (kids : Tm) (p : Pl) (w : World) (m : Nat), Tm.nodes kids < K → Tm.Is w h kids p → 1 ≤ m → m ≤ 201 →
    Calls Tryz.prog 118 #[.agg #[.int .i8 h.kind, .string h.name, .string h.arg, .int .i64 h.num, .int .i8 h.tk, .slice p.TA p.tn p.tc, .int .i8 h.uk, .slice p.UA p.un p.uc, .int .i64 h.label, .int .i64 h.pos, .slice p.A p.n p.c], .int .i64 m] w fun e w' => e = .returned (.int .i64 (min (Tm.dp h kids) m : Nat)) ∧ Below w.heap.size w w' := by
  induction K with
  | zero => intro _ _ _ _ _ hK; omega
  | succ K ih =>
    intro h kids p w m hK hIs hm hm2
    have hB0 : Below w.heap.size w (w.alloc (.cells #[.int .i8 h.kind, .string h.name, .string h.arg, .int .i64 h.num, .int .i8 h.tk, .slice p.TA p.tn p.tc, .int .i8 h.uk, .slice p.UA p.un p.uc, .int .i64 h.label, .int .i64 h.pos, .slice p.A p.n p.c] 28)) := (Below.refl _ _).alloc (Nat.le_refl _) _
    have HN := Lib.hid (heap_new w (.cells #[.int .i8 h.kind, .string h.name, .string h.arg, .int .i64 h.num, .int .i8 h.tk, .slice p.TA p.tn p.tc, .int .i8 h.uk, .slice p.UA p.un p.uc, .int .i64 h.label, .int .i64 h.pos, .slice p.A p.n p.c] 28))
    have HT := Lib.hid (fun (W : World) (hb : Below w.heap.size w W) => ref_depth h.tk h.tkids p.TA p.tn p.tc W (hIs.fit.ty.below hb))
    have HU := Lib.hid (fun (W : World) (hb : Below w.heap.size w W) => ref_depth h.uk h.ukids p.UA p.un p.uc W (hIs.fit.to.below hb))
    have h1 := Tm.dpt_le h.tkids
    have h2 := Tm.dpt_le h.ukids
    have H1 := Lib.hid (ref_hasType_any h.kind)
    have H2 := Lib.hid (ref_hasTo_any h.kind)
    have IH := Lib.hid ih
    have HI := Lib.hid (fun (W : World) (hb : Below w.heap.size w W) => (hIs.below hb).lies)
    have HNE := Lib.hid hIs.fit.n_eq
    have i5 : (p.n : Int) ≤ 9223372036854775807 := by have h1 := hIs.fit.n_le; have h2 := hIs.fit.c_le; unfold maxLen at h2; omega
    have hdp : Tm.dp h kids = 1 + max (max (if Tm.hasType h.kind then Ty.dpt h.tkids else 0) (if Tm.hasTo h.kind then Ty.dpt h.ukids else 0)) (Tm.dep kids) := rfl
    rw [hdp]
    clear ih hIs hdp
    generalize Ty.dpt h.tkids = N1 at *
    generalize Ty.dpt h.ukids = N2 at *
    have g1 : (N1 : Int) ≤ 201 := by omega
    have g2 : (N2 : Int) ≤ 201 := by omega
    have z0 := hB0.size
    generalize ht : Tm.hasType h.kind = b1 at *
    generalize hu : Tm.hasTo h.kind = b2 at *
    clear ht hu
    by_cases hm1 : m = 1
    · subst hm1
      have e1 : min (1 + max (max (if b1 = true then N1 else 0) (if b2 = true then N2 else 0)) (Tm.dep kids)) 1 = 1 := by omega
      rw [e1]
      clear e1
      go_enter Tryz.func118, Tryz.ntmps118
      go_wp2_with fail
      go_ret
      exact ⟨rfl, hB0⟩
    have i6 : (1 : Int) < m := by omega
    have i7 : (m : Int) ≤ 201 := by omega
    cases b1
    · cases b2
      · simp only [Bool.false_eq_true, if_false]
        obtain ⟨q0, q1, q2, q3, q4, q5, q6, q7, q8, q9, q10, ql⟩ := own11 HN.out
        go_enter Tryz.func118, Tryz.ntmps118
        go_wp2_with fail
        refine (H1.out _).mono ?_
        rintro e w2 ⟨rfl, rfl⟩
        go_wp2_with fail
        refine (H2.out _).mono ?_
        rintro e w4 ⟨rfl, rfl⟩
        go_wp2_with fail
        have HST := Lib.hid (OverT.start (HI.out _ hB0) HNE.out)
        clear q0 q1 q2 q3 q4 q5 q6 q7 q8 q9 q10
        generalize hW1 : (w.alloc (.cells #[.int .i8 h.kind, .string h.name, .string h.arg, .int .i64 h.num, .int .i8 h.tk, .slice p.TA p.tn p.tc, .int .i8 h.uk, .slice p.UA p.un p.uc, .int .i64 h.label, .int .i64 h.pos, .slice p.A p.n p.c] 28)) = w1 at *
        clear hW1
        go_loopw [5, 6] (fun v5 v6 wr => ∃ (i : Nat) (rest : Tm) (d : Nat), v6 = .int .i64 i ∧ v5 = .int .i64 d ∧ OverT w1 wr p.A p.n (Tm.nodes kids) i rest ∧ d ≤ 201 ∧ min (1 + max d (Tm.dep rest)) m = min (1 + max (max 0 0) (Tm.dep kids)) m) (fun _ v _ => p.n - (intOf v).toNat)
        case atStart => exact ⟨0, kids, 0, rfl, by first | rfl | go_num, HST.out, by omega, by omega⟩
        case round =>
          obtain ⟨i, rest, d, rfl, rfl, hO, hm2, hRR⟩ := hrel
          have hbB := hB0.trans (hO.below.mono hB0.size)
          have HX := Lib.hid (heap_below hO.below (heap_lt HN.out) HN.out)
          obtain ⟨q0, q1, q2, q3, q4, q5, q6, q7, q8, q9, q10, ql2⟩ := own11 HX.out
          have HRR := Lib.hid hRR
          clear hRR
          have i8 : (d : Int) ≤ 201 := by omega
          cases rest with
          | nil =>
            have hi : i = p.n := by have := hO.i_eq; simpa [Tm.len] using this
            have hfin : min (1 + d) m = min (1 + max (max 0 0) (Tm.dep kids)) m := by have := HRR.out; simp only [Tm.dep] at this; omega
            have HFIN := Lib.hid hfin
            clear hO hfin
            subst hi
            go_wp2_with fail
            go_ret
            exact ⟨ret_i (by have := HFIN.out; omega), hbB⟩
          | node h' kids' r =>
            have hst := fun w2 hb => OverT.step (w2 := w2) hO hb
            have h1 := hO.i_eq
            have h2 := hO.lies
            have h3 := hO.sub
            simp only [Tm.len, Tm.nodes] at h1 h3
            obtain ⟨bb, oo, p', hpA, hcs, hfit, hl3, hl4⟩ := h2
            have j1 : (i : Int) < p.n := by omega
            have hcall := IH.out h' kids' p' wr (m - 1) (by omega) ⟨hfit, hl3⟩ (by omega) (by omega)
            rw [show ((m - 1 : Nat) : Int) = (m : Int) - 1 by omega] at hcall
            obtain ⟨c0, c1, c2, c3, c4, c5, c6, c7, c8, c9, c10⟩ := Tm.row hcs
            have HCK := Lib.hid hcall
            have HS2 := Lib.hid hst
            have HL := Lib.hid hl4
            have HPA := Lib.hid hpA
            have hnx : min (1 + max (max d (min (Tm.dp h' kids') (m - 1))) (Tm.dep r)) m = min (1 + max (max 0 0) (Tm.dep kids)) m := by
              have := HRR.out
              simp only [Tm.dep] at this
              have e : Tm.dp h' kids' = 1 + max (Tm.tyD h') (Tm.dep kids') := rfl
              omega
            have HNX := Lib.hid hnx
            clear hst hl3 hl4 hcall hO hcs hfit hpA hnx
            generalize hQ : min (Tm.dp h' kids') (m - 1) = Q at *
            have hQ2 : Q ≤ 201 := by omega
            clear hQ
            generalize hPA : p.A = PA at *
            obtain rfl : PA = some ⟨bb, oo, none⟩ := HPA.out
            clear hPA HPA
            go_wp2_with fail
            refine HCK.out.mono ?_
            rintro e w2 ⟨rfl, hb⟩
            have hbb := Lib.hid (HS2.out w2 hb HL.out)
            clear hb
            go_wp2_with fail
            go_roundw
            case rel => exact ⟨i + 1, r, max d Q, by go_num, by go_num, hbb.out, by omega, HNX.out⟩
            case measure => simp [intOf]; omega
      · simp only [if_true, Bool.false_eq_true, if_false]
        obtain ⟨q0, q1, q2, q3, q4, q5, q6, q7, q8, q9, q10, ql⟩ := own11 HN.out
        go_enter Tryz.func118, Tryz.ntmps118
        go_wp2_with fail
        refine (H1.out _).mono ?_
        rintro e w2 ⟨rfl, rfl⟩
        go_wp2_with fail
        refine (H2.out _).mono ?_
        rintro e w4 ⟨rfl, rfl⟩
        go_wp2_with fail
        refine (HU.out _ hB0).mono ?_
        rintro e w5 ⟨rfl, hb⟩
        have hB2 := hB0.trans (hb.mono hB0.size)
        have R2 := Lib.hid (heap_below hb (heap_lt HN.out) HN.out)
        clear q0 q1 q2 q3 q4 q5 q6 q7 q8 q9 q10 ql
        obtain ⟨q0, q1, q2, q3, q4, q5, q6, q7, q8, q9, q10, ql⟩ := own11 R2.out
        clear hb
        go_wp2_with fail
        have HST := Lib.hid (OverT.start (HI.out _ hB2) HNE.out)
        clear q0 q1 q2 q3 q4 q5 q6 q7 q8 q9 q10
        generalize hW1 : w5 = w1 at *
        clear hW1
        go_loopw [5, 6] (fun v5 v6 wr => ∃ (i : Nat) (rest : Tm) (d : Nat), v6 = .int .i64 i ∧ v5 = .int .i64 d ∧ OverT w1 wr p.A p.n (Tm.nodes kids) i rest ∧ d ≤ 201 ∧ min (1 + max d (Tm.dep rest)) m = min (1 + max (max 0 N2) (Tm.dep kids)) m) (fun _ v _ => p.n - (intOf v).toNat)
        case atStart => exact ⟨0, kids, N2, rfl, by first | rfl | go_num, HST.out, by omega, by omega⟩
        case round =>
          obtain ⟨i, rest, d, rfl, rfl, hO, hm2, hRR⟩ := hrel
          have hbB := hB2.trans (hO.below.mono hB2.size)
          have HX := Lib.hid (heap_below hO.below (heap_lt R2.out) R2.out)
          obtain ⟨q0, q1, q2, q3, q4, q5, q6, q7, q8, q9, q10, ql2⟩ := own11 HX.out
          have HRR := Lib.hid hRR
          clear hRR
          have i8 : (d : Int) ≤ 201 := by omega
          cases rest with
          | nil =>
            have hi : i = p.n := by have := hO.i_eq; simpa [Tm.len] using this
            have hfin : min (1 + d) m = min (1 + max (max 0 N2) (Tm.dep kids)) m := by have := HRR.out; simp only [Tm.dep] at this; omega
            have HFIN := Lib.hid hfin
            clear hO hfin
            subst hi
            go_wp2_with fail
            go_ret
            exact ⟨ret_i (by have := HFIN.out; omega), hbB⟩
          | node h' kids' r =>
            have hst := fun w2 hb => OverT.step (w2 := w2) hO hb
            have h1 := hO.i_eq
            have h2 := hO.lies
            have h3 := hO.sub
            simp only [Tm.len, Tm.nodes] at h1 h3
            obtain ⟨bb, oo, p', hpA, hcs, hfit, hl3, hl4⟩ := h2
            have j1 : (i : Int) < p.n := by omega
            have hcall := IH.out h' kids' p' wr (m - 1) (by omega) ⟨hfit, hl3⟩ (by omega) (by omega)
            rw [show ((m - 1 : Nat) : Int) = (m : Int) - 1 by omega] at hcall
            obtain ⟨c0, c1, c2, c3, c4, c5, c6, c7, c8, c9, c10⟩ := Tm.row hcs
            have HCK := Lib.hid hcall
            have HS2 := Lib.hid hst
            have HL := Lib.hid hl4
            have HPA := Lib.hid hpA
            have hnx : min (1 + max (max d (min (Tm.dp h' kids') (m - 1))) (Tm.dep r)) m = min (1 + max (max 0 N2) (Tm.dep kids)) m := by
              have := HRR.out
              simp only [Tm.dep] at this
              have e : Tm.dp h' kids' = 1 + max (Tm.tyD h') (Tm.dep kids') := rfl
              omega
            have HNX := Lib.hid hnx
            clear hst hl3 hl4 hcall hO hcs hfit hpA hnx
            generalize hQ : min (Tm.dp h' kids') (m - 1) = Q at *
            have hQ2 : Q ≤ 201 := by omega
            clear hQ
            generalize hPA : p.A = PA at *
            obtain rfl : PA = some ⟨bb, oo, none⟩ := HPA.out
            clear hPA HPA
            go_wp2_with fail
            refine HCK.out.mono ?_
            rintro e w2 ⟨rfl, hb⟩
            have hbb := Lib.hid (HS2.out w2 hb HL.out)
            clear hb
            go_wp2_with fail
            go_roundw
            case rel => exact ⟨i + 1, r, max d Q, by go_num, by go_num, hbb.out, by omega, HNX.out⟩
            case measure => simp [intOf]; omega
    · cases b2
      · simp only [if_true, Bool.false_eq_true, if_false]
        obtain ⟨q0, q1, q2, q3, q4, q5, q6, q7, q8, q9, q10, ql⟩ := own11 HN.out
        go_enter Tryz.func118, Tryz.ntmps118
        go_wp2_with fail
        refine (H1.out _).mono ?_
        rintro e w2 ⟨rfl, rfl⟩
        go_wp2_with fail
        refine (HT.out _ hB0).mono ?_
        rintro e w3 ⟨rfl, hb⟩
        have hB1 := hB0.trans (hb.mono hB0.size)
        have R1 := Lib.hid (heap_below hb (heap_lt HN.out) HN.out)
        clear q0 q1 q2 q3 q4 q5 q6 q7 q8 q9 q10 ql
        obtain ⟨q0, q1, q2, q3, q4, q5, q6, q7, q8, q9, q10, ql⟩ := own11 R1.out
        clear hb
        go_wp2_with fail
        refine (H2.out _).mono ?_
        rintro e w4 ⟨rfl, rfl⟩
        go_wp2_with fail
        have HST := Lib.hid (OverT.start (HI.out _ hB1) HNE.out)
        clear q0 q1 q2 q3 q4 q5 q6 q7 q8 q9 q10
        generalize hW1 : w3 = w1 at *
        clear hW1
        go_loopw [5, 6] (fun v5 v6 wr => ∃ (i : Nat) (rest : Tm) (d : Nat), v6 = .int .i64 i ∧ v5 = .int .i64 d ∧ OverT w1 wr p.A p.n (Tm.nodes kids) i rest ∧ d ≤ 201 ∧ min (1 + max d (Tm.dep rest)) m = min (1 + max (max N1 0) (Tm.dep kids)) m) (fun _ v _ => p.n - (intOf v).toNat)
        case atStart => exact ⟨0, kids, N1, rfl, by first | rfl | go_num, HST.out, by omega, by omega⟩
        case round =>
          obtain ⟨i, rest, d, rfl, rfl, hO, hm2, hRR⟩ := hrel
          have hbB := hB1.trans (hO.below.mono hB1.size)
          have HX := Lib.hid (heap_below hO.below (heap_lt R1.out) R1.out)
          obtain ⟨q0, q1, q2, q3, q4, q5, q6, q7, q8, q9, q10, ql2⟩ := own11 HX.out
          have HRR := Lib.hid hRR
          clear hRR
          have i8 : (d : Int) ≤ 201 := by omega
          cases rest with
          | nil =>
            have hi : i = p.n := by have := hO.i_eq; simpa [Tm.len] using this
            have hfin : min (1 + d) m = min (1 + max (max N1 0) (Tm.dep kids)) m := by have := HRR.out; simp only [Tm.dep] at this; omega
            have HFIN := Lib.hid hfin
            clear hO hfin
            subst hi
            go_wp2_with fail
            go_ret
            exact ⟨ret_i (by have := HFIN.out; omega), hbB⟩
          | node h' kids' r =>
            have hst := fun w2 hb => OverT.step (w2 := w2) hO hb
            have h1 := hO.i_eq
            have h2 := hO.lies
            have h3 := hO.sub
            simp only [Tm.len, Tm.nodes] at h1 h3
            obtain ⟨bb, oo, p', hpA, hcs, hfit, hl3, hl4⟩ := h2
            have j1 : (i : Int) < p.n := by omega
            have hcall := IH.out h' kids' p' wr (m - 1) (by omega) ⟨hfit, hl3⟩ (by omega) (by omega)
            rw [show ((m - 1 : Nat) : Int) = (m : Int) - 1 by omega] at hcall
            obtain ⟨c0, c1, c2, c3, c4, c5, c6, c7, c8, c9, c10⟩ := Tm.row hcs
            have HCK := Lib.hid hcall
            have HS2 := Lib.hid hst
            have HL := Lib.hid hl4
            have HPA := Lib.hid hpA
            have hnx : min (1 + max (max d (min (Tm.dp h' kids') (m - 1))) (Tm.dep r)) m = min (1 + max (max N1 0) (Tm.dep kids)) m := by
              have := HRR.out
              simp only [Tm.dep] at this
              have e : Tm.dp h' kids' = 1 + max (Tm.tyD h') (Tm.dep kids') := rfl
              omega
            have HNX := Lib.hid hnx
            clear hst hl3 hl4 hcall hO hcs hfit hpA hnx
            generalize hQ : min (Tm.dp h' kids') (m - 1) = Q at *
            have hQ2 : Q ≤ 201 := by omega
            clear hQ
            generalize hPA : p.A = PA at *
            obtain rfl : PA = some ⟨bb, oo, none⟩ := HPA.out
            clear hPA HPA
            go_wp2_with fail
            refine HCK.out.mono ?_
            rintro e w2 ⟨rfl, hb⟩
            have hbb := Lib.hid (HS2.out w2 hb HL.out)
            clear hb
            go_wp2_with fail
            go_roundw
            case rel => exact ⟨i + 1, r, max d Q, by go_num, by go_num, hbb.out, by omega, HNX.out⟩
            case measure => simp [intOf]; omega
      · simp only [if_true]
        obtain ⟨q0, q1, q2, q3, q4, q5, q6, q7, q8, q9, q10, ql⟩ := own11 HN.out
        go_enter Tryz.func118, Tryz.ntmps118
        go_wp2_with fail
        refine (H1.out _).mono ?_
        rintro e w2 ⟨rfl, rfl⟩
        go_wp2_with fail
        refine (HT.out _ hB0).mono ?_
        rintro e w3 ⟨rfl, hb⟩
        have hB1 := hB0.trans (hb.mono hB0.size)
        have R1 := Lib.hid (heap_below hb (heap_lt HN.out) HN.out)
        clear q0 q1 q2 q3 q4 q5 q6 q7 q8 q9 q10 ql
        obtain ⟨q0, q1, q2, q3, q4, q5, q6, q7, q8, q9, q10, ql⟩ := own11 R1.out
        clear hb
        go_wp2_with fail
        refine (H2.out _).mono ?_
        rintro e w4 ⟨rfl, rfl⟩
        go_wp2_with fail
        refine (HU.out _ hB1).mono ?_
        rintro e w5 ⟨rfl, hb⟩
        have hB2 := hB1.trans (hb.mono hB1.size)
        have R2 := Lib.hid (heap_below hb (heap_lt R1.out) R1.out)
        clear q0 q1 q2 q3 q4 q5 q6 q7 q8 q9 q10 ql
        obtain ⟨q0, q1, q2, q3, q4, q5, q6, q7, q8, q9, q10, ql⟩ := own11 R2.out
        clear hb
        go_wp2_with fail
        have HST := Lib.hid (OverT.start (HI.out _ hB2) HNE.out)
        clear q0 q1 q2 q3 q4 q5 q6 q7 q8 q9 q10
        generalize hW1 : w5 = w1 at *
        clear hW1
        go_loopw [5, 6] (fun v5 v6 wr => ∃ (i : Nat) (rest : Tm) (d : Nat), v6 = .int .i64 i ∧ v5 = .int .i64 d ∧ OverT w1 wr p.A p.n (Tm.nodes kids) i rest ∧ d ≤ 201 ∧ min (1 + max d (Tm.dep rest)) m = min (1 + max (max N1 N2) (Tm.dep kids)) m) (fun _ v _ => p.n - (intOf v).toNat)
        case atStart => exact ⟨0, kids, max N1 N2, rfl, by first | rfl | go_num, HST.out, by omega, by omega⟩
        case round =>
          obtain ⟨i, rest, d, rfl, rfl, hO, hm2, hRR⟩ := hrel
          have hbB := hB2.trans (hO.below.mono hB2.size)
          have HX := Lib.hid (heap_below hO.below (heap_lt R2.out) R2.out)
          obtain ⟨q0, q1, q2, q3, q4, q5, q6, q7, q8, q9, q10, ql2⟩ := own11 HX.out
          have HRR := Lib.hid hRR
          clear hRR
          have i8 : (d : Int) ≤ 201 := by omega
          cases rest with
          | nil =>
            have hi : i = p.n := by have := hO.i_eq; simpa [Tm.len] using this
            have hfin : min (1 + d) m = min (1 + max (max N1 N2) (Tm.dep kids)) m := by have := HRR.out; simp only [Tm.dep] at this; omega
            have HFIN := Lib.hid hfin
            clear hO hfin
            subst hi
            go_wp2_with fail
            go_ret
            exact ⟨ret_i (by have := HFIN.out; omega), hbB⟩
          | node h' kids' r =>
            have hst := fun w2 hb => OverT.step (w2 := w2) hO hb
            have h1 := hO.i_eq
            have h2 := hO.lies
            have h3 := hO.sub
            simp only [Tm.len, Tm.nodes] at h1 h3
            obtain ⟨bb, oo, p', hpA, hcs, hfit, hl3, hl4⟩ := h2
            have j1 : (i : Int) < p.n := by omega
            have hcall := IH.out h' kids' p' wr (m - 1) (by omega) ⟨hfit, hl3⟩ (by omega) (by omega)
            rw [show ((m - 1 : Nat) : Int) = (m : Int) - 1 by omega] at hcall
            obtain ⟨c0, c1, c2, c3, c4, c5, c6, c7, c8, c9, c10⟩ := Tm.row hcs
            have HCK := Lib.hid hcall
            have HS2 := Lib.hid hst
            have HL := Lib.hid hl4
            have HPA := Lib.hid hpA
            have hnx : min (1 + max (max d (min (Tm.dp h' kids') (m - 1))) (Tm.dep r)) m = min (1 + max (max N1 N2) (Tm.dep kids)) m := by
              have := HRR.out
              simp only [Tm.dep] at this
              have e : Tm.dp h' kids' = 1 + max (Tm.tyD h') (Tm.dep kids') := rfl
              omega
            have HNX := Lib.hid hnx
            clear hst hl3 hl4 hcall hO hcs hfit hpA hnx
            generalize hQ : min (Tm.dp h' kids') (m - 1) = Q at *
            have hQ2 : Q ≤ 201 := by omega
            clear hQ
            generalize hPA : p.A = PA at *
            obtain rfl : PA = some ⟨bb, oo, none⟩ := HPA.out
            clear hPA HPA
            go_wp2_with fail
            refine HCK.out.mono ?_
            rintro e w2 ⟨rfl, hb⟩
            have hbb := Lib.hid (HS2.out w2 hb HL.out)
            clear hb
            go_wp2_with fail
            go_roundw
            case rel => exact ⟨i + 1, r, max d Q, by go_num, by go_num, hbb.out, by omega, HNX.out⟩
            case measure => simp [intOf]; omega

set_option maxHeartbeats 1000000 in
set_option maxRecDepth 100000 in
theorem tref_depth (h : Hd) (kids : Tm) (p : Pl) (w : World) (hIs : Tm.Is w h kids p) :
    Calls Tryz.prog 76 #[.agg #[.int .i8 h.kind, .string h.name, .string h.arg, .int .i64 h.num, .int .i8 h.tk, .slice p.TA p.tn p.tc, .int .i8 h.uk, .slice p.UA p.un p.uc, .int .i64 h.label, .int .i64 h.pos, .slice p.A p.n p.c]] w fun e w' => e = .returned (.int .i64 (Tm.dpt h kids)) ∧ Below w.heap.size w w' := by
  have hB0 : Below w.heap.size w (w.alloc (.cells #[.int .i8 h.kind, .string h.name, .string h.arg, .int .i64 h.num, .int .i8 h.tk, .slice p.TA p.tn p.tc, .int .i8 h.uk, .slice p.UA p.un p.uc, .int .i64 h.label, .int .i64 h.pos, .slice p.A p.n p.c] 28)) := (Below.refl _ _).alloc (Nat.le_refl _) _
  have HC := Lib.hid (tref_nodes h kids p _ (hIs.below hB0))
  have HD := Lib.hid (fun (W : World) (hb : Below w.heap.size w W) => tdeep_any (Tm.nodes kids + 1) h kids p W 201 (by omega) (hIs.below hb) (by omega) (by omega))
  have HN := Lib.hid (heap_new w (.cells #[.int .i8 h.kind, .string h.name, .string h.arg, .int .i64 h.num, .int .i8 h.tk, .slice p.TA p.tn p.tc, .int .i8 h.uk, .slice p.UA p.un p.uc, .int .i64 h.label, .int .i64 h.pos, .slice p.A p.n p.c] 28))
  clear hIs
  by_cases hn : 8192 < Tm.nd h kids
  · have e1 : ((Tm.nod h kids : Nat) : Int) = 8193 := by unfold Tm.nod; omega
    have e2 : ((Tm.dpt h kids : Nat) : Int) = 201 := by unfold Tm.dpt; rw [if_pos hn]; rfl
    rw [e2]
    rw [e1] at HC
    clear e1 e2 hn HD
    go_enter Tryz.func76, Tryz.ntmps76
    go_wp2_with fail
    refine HC.out.mono ?_
    rintro e w3 ⟨rfl, hb⟩
    go_wp2_with fail
    go_ret
    exact ⟨rfl, hB0.trans (hb.mono hB0.size)⟩
  · have e1 : ((Tm.nod h kids : Nat) : Int) ≤ 8192 := by unfold Tm.nod; omega
    have e2 : Tm.dpt h kids = min (Tm.dp h kids) 201 := by unfold Tm.dpt; rw [if_neg hn]
    rw [e2]
    generalize Tm.nod h kids = N at *
    generalize min (Tm.dp h kids) 201 = D at *
    clear e2 hn
    go_enter Tryz.func76, Tryz.ntmps76
    go_wp2_with fail
    refine HC.out.mono ?_
    rintro e w3 ⟨rfl, hb⟩
    have hB1 := hB0.trans (hb.mono hB0.size)
    obtain ⟨q0, q1, q2, q3, q4, q5, q6, q7, q8, q9, q10, ql⟩ := own11 (heap_below hb (by simp) HN.out)
    clear hb
    go_wp2_with fail
    refine (HD.out _ hB1).mono ?_
    rintro e w4 ⟨rfl, hb⟩
    go_wp2_with fail
    go_ret
    exact ⟨rfl, hB1.trans (hb.mono hB1.size)⟩
end Go.Proofs.YtfkbdpehdabepaaGreatDoor
