/-
  bare, kinds by what counts.
-/
import Derived.Test.YtfkbdpehdabepaaGreatDoorBareT
import Derived.Deep.AppendLies
namespace Go.Proofs.YtfkbdpehdabepaaGreatDoor
open Go.RowKit

attribute [local go_sem ↓] Go.wp_at_zero Go.wp_at_succ in
set_option maxHeartbeats 8000000 in
set_option maxRecDepth 100000 in
theorem rbare_R (n0 : Nat) (h : Hd) (kids : Tm) (p : Pl) (w : World) (K : Nat) (hK : Tm.nodes kids < K + 1) (hsm : Tm.nodes kids ≤ 8192) (hIs : Tm.Is (mask (fun b => decide (b < n0)) w) h kids p) (hn0 : n0 ≤ w.heap.size)
    (hk : Tm.hasName h.kind = true ∧ Tm.hasArg h.kind = true ∧ Tm.hasNum h.kind = false ∧ Tm.hasType h.kind = true ∧ Tm.hasTo h.kind = true ∧ Tm.hasLabel h.kind = false)
    (ih : ∀ (n0 : Nat) (h : Hd) (kids : Tm) (p : Pl) (w : World), Tm.nodes kids < K → Tm.nodes kids ≤ 8192 → Tm.Is (mask (fun b => decide (b < n0)) w) h kids p → n0 ≤ w.heap.size → Calls Tryz.prog 40 #[.agg #[.int .i8 h.kind, .string h.name, .string h.arg, .int .i64 h.num, .int .i8 h.tk, .slice p.TA p.tn p.tc, .int .i8 h.uk, .slice p.UA p.un p.uc, .int .i64 h.label, .int .i64 h.pos, .slice p.A p.n p.c]] w (CopyTm (fun b => decide (b < n0) || decide (w.heap.size ≤ b)) w h kids)) :
    Calls Tryz.prog 40 #[.agg #[.int .i8 h.kind, .string h.name, .string h.arg, .int .i64 h.num, .int .i8 h.tk, .slice p.TA p.tn p.tc, .int .i8 h.uk, .slice p.UA p.un p.uc, .int .i64 h.label, .int .i64 h.pos, .slice p.A p.n p.c]] w (CopyTm (fun b => decide (b < n0) || decide (w.heap.size ≤ b)) w h kids) := by
  obtain ⟨k0, k1, k2, k3, k4, k5⟩ := hk
  have hb0 : Below w.heap.size w ((w.alloc (.cells #[.int .i8 h.kind, .string h.name, .string h.arg, .int .i64 h.num, .int .i8 h.tk, .slice p.TA p.tn p.tc, .int .i8 h.uk, .slice p.UA p.un p.uc, .int .i64 h.label, .int .i64 h.pos, .slice p.A p.n p.c] 28)).alloc (.cells #[.int .i8 0, .string ⟨#[]⟩, .string ⟨#[]⟩, .int .i64 0, .int .i8 0, .slice none 0 0, .int .i8 0, .slice none 0 0, .int .i64 0, .int .i64 0, .slice none 0 0] 28)) := ((Below.refl _ _).alloc (Nat.le_refl _) _).alloc (by simp) _
  have hB0 : Below w.heap.size w (((w.alloc (.cells #[.int .i8 h.kind, .string h.name, .string h.arg, .int .i64 h.num, .int .i8 h.tk, .slice p.TA p.tn p.tc, .int .i8 h.uk, .slice p.UA p.un p.uc, .int .i64 h.label, .int .i64 h.pos, .slice p.A p.n p.c] 28)).alloc (.cells #[.int .i8 0, .string ⟨#[]⟩, .string ⟨#[]⟩, .int .i64 0, .int .i8 0, .slice none 0 0, .int .i8 0, .slice none 0 0, .int .i64 0, .int .i64 0, .slice none 0 0] 28)).alloc (.cells #[.int .i8 h.kind, .string h.name, .string h.arg, .int .i64 0, .int .i8 h.tk, .slice p.TA p.tn p.tc, .int .i8 h.uk, .slice p.UA p.un p.uc, .int .i64 0, .int .i64 0, .slice none 0 0] 28)) := hb0.alloc hb0.size _
  obtain ⟨r0, r1, r2⟩ := two_new w (.cells #[.int .i8 h.kind, .string h.name, .string h.arg, .int .i64 h.num, .int .i8 h.tk, .slice p.TA p.tn p.tc, .int .i8 h.uk, .slice p.UA p.un p.uc, .int .i64 h.label, .int .i64 h.pos, .slice p.A p.n p.c] 28) (.cells #[.int .i8 0, .string ⟨#[]⟩, .string ⟨#[]⟩, .int .i64 0, .int .i8 0, .slice none 0 0, .int .i8 0, .slice none 0 0, .int .i64 0, .int .i64 0, .slice none 0 0] 28)
  have s0 := heap_old r0 (.cells #[.int .i8 h.kind, .string h.name, .string h.arg, .int .i64 0, .int .i8 h.tk, .slice p.TA p.tn p.tc, .int .i8 h.uk, .slice p.UA p.un p.uc, .int .i64 0, .int .i64 0, .slice none 0 0] 28)
  have s1 := heap_old r1 (.cells #[.int .i8 h.kind, .string h.name, .string h.arg, .int .i64 0, .int .i8 h.tk, .slice p.TA p.tn p.tc, .int .i8 h.uk, .slice p.UA p.un p.uc, .int .i64 0, .int .i64 0, .slice none 0 0] 28)
  have s2 := heap_new ((w.alloc (.cells #[.int .i8 h.kind, .string h.name, .string h.arg, .int .i64 h.num, .int .i8 h.tk, .slice p.TA p.tn p.tc, .int .i8 h.uk, .slice p.UA p.un p.uc, .int .i64 h.label, .int .i64 h.pos, .slice p.A p.n p.c] 28)).alloc (.cells #[.int .i8 0, .string ⟨#[]⟩, .string ⟨#[]⟩, .int .i64 0, .int .i8 0, .slice none 0 0, .int .i8 0, .slice none 0 0, .int .i64 0, .int .i64 0, .slice none 0 0] 28)) (.cells #[.int .i8 h.kind, .string h.name, .string h.arg, .int .i64 0, .int .i8 h.tk, .slice p.TA p.tn p.tc, .int .i8 h.uk, .slice p.UA p.un p.uc, .int .i64 0, .int .i64 0, .slice none 0 0] 28)
  rw [r2] at s2
  have hcn : Tm.cnt h = ⟨h.kind, h.name, h.arg, 0, h.tk, h.tkids, h.uk, h.ukids, 0, 0⟩ := by simp [Tm.cnt, k0, k1, k2, k3, k4, k5]
  have hcp : Tm.cntP h p = ⟨p.TA, p.tn, p.tc, p.UA, p.un, p.uc, p.A, p.n, p.c⟩ := by simp [Tm.cntP, k3, k4]
  have hst : RB n0 w (((w.alloc (.cells #[.int .i8 h.kind, .string h.name, .string h.arg, .int .i64 h.num, .int .i8 h.tk, .slice p.TA p.tn p.tc, .int .i8 h.uk, .slice p.UA p.un p.uc, .int .i64 h.label, .int .i64 h.pos, .slice p.A p.n p.c] 28)).alloc (.cells #[.int .i8 0, .string ⟨#[]⟩, .string ⟨#[]⟩, .int .i64 0, .int .i8 0, .slice none 0 0, .int .i8 0, .slice none 0 0, .int .i64 0, .int .i64 0, .slice none 0 0] 28)).alloc (.cells #[.int .i8 h.kind, .string h.name, .string h.arg, .int .i64 0, .int .i8 h.tk, .slice p.TA p.tn p.tc, .int .i8 h.uk, .slice p.UA p.un p.uc, .int .i64 0, .int .i64 0, .slice none 0 0] 28)) h kids p (Tm.cnt h) (Tm.cntP h p) ⟨(Tm.cntP h p).TA, (Tm.cntP h p).tn, (Tm.cntP h p).tc, (Tm.cntP h p).UA, (Tm.cntP h p).un, (Tm.cntP h p).uc, none, 0, 0⟩ 0 .nil kids [] := by
    refine ⟨rfl, rfl, by rw [hIs.fit.n_eq]; omega, hIs.lies, hB0, s0, s1, by rw [hcn, hcp]; exact s2, ⟨rfl, rfl, rfl, rfl, rfl, rfl⟩, ⟨rfl, .inl ⟨rfl, rfl⟩⟩, rfl, hn0, Nat.le_refl _⟩
  have HST := Lib.hid hst
  have hHN := ref_hasName_any h.kind
  have hHA := ref_hasArg_any h.kind
  have hHT := ref_hasType_any h.kind
  have hHU := ref_hasTo_any h.kind
  have g3 : (h.kind == 1) = false := by rw [← k2]; unfold Tm.hasNum; rw [Bool.eq_iff_iff]; simp
  have g4 : (h.kind == 17) = false := by rw [← k5]; unfold Tm.hasLabel; rw [Bool.eq_iff_iff]; simp
  rw [k0] at hHN
  rw [k1] at hHA
  rw [k3] at hHT
  rw [k4] at hHU
  have IH := Lib.hid ih
  have HIF := Lib.hid hIs.cnt.fit
  have HNE := Lib.hid hIs.fit.n_eq
  have i5 : (p.n : Int) ≤ 9223372036854775807 := by have h1 := hIs.fit.n_le; have h2 := hIs.fit.c_le; unfold maxLen at h2; omega
  have hln := Tm.len_le_nodes kids
  have hpn : p.n ≤ 8192 := by rw [hIs.fit.n_eq]; omega
  obtain ⟨q0, q1, q2, q3, q4, q5, q6, q7, q8, q9, q10, ql⟩ := own11 r0
  obtain ⟨i0, hi, hz0, hz1, hz2⟩ := info_parts info_Term
  clear hIs ih k0 k1 k2 k3 k4 k5 hb0 hB0 r0 r1 r2 s0 s1 s2 hst hcn hcp hn0 hln
  unfold CopyTm
  generalize Tm.cnt h = a at *
  generalize Tm.cntP h p = q at *
  go_enter Tryz.func40, Tryz.ntmps40
  go_wp2_with (first | (go_at_call 78; refine (hHN _).mono ?_; rintro e w9 ⟨rfl, rfl⟩) | (go_at_call 79; refine (hHA _).mono ?_; rintro e w9 ⟨rfl, rfl⟩) | (go_at_call 80; refine (hHT _).mono ?_; rintro e w9 ⟨rfl, rfl⟩) | (go_at_call 81; refine (hHU _).mono ?_; rintro e w9 ⟨rfl, rfl⟩))
  clear q0 q1 q2 q3 q4 q5 q6 q7 q8 q9 q10 ql
  go_loopw [4] (fun v wr => ∃ (i : Nat) (done rest : Tm) (xs : List Value) (q' : Pl), v = .int .i64 i ∧ RB n0 w wr h kids p a q q' i done rest xs) (fun v _ => p.n - (intOf v).toNat)
  case atStart => exact ⟨0, .nil, kids, [], _, rfl, HST.out⟩
  case round =>
    obtain ⟨i, done, rest, xs, q', rfl, hR⟩ := hrel
    obtain ⟨x0, x1, x2, x3, x4, x5, x6, x7, x8, x9, x10, xl⟩ := own11 hR.xx
    obtain ⟨b0, b1, b2, b3, b4, b5, b6, b7, b8, b9, b10, bl⟩ := own11 hR.bx
    have hn0 := hR.n0_le
    have hbz := hR.below.size
    cases rest with
    | nil =>
      have hi2 : i = p.n := by have := hR.i_eq; simpa [Tm.len] using this
      obtain ⟨y0, y1, y2, y3, y4, y5, y6, y7, y8, y9, y10, yl⟩ := own11 hR.rx
      have HRR := Lib.hid hR
      have f0 := free11 HRR.out.rx 0
      have f1 := free11 HRR.out.rx 1
      have f2 := free11 HRR.out.rx 2
      have f3 := free11 HRR.out.rx 3
      have f4 := free11 HRR.out.rx 4
      have f5 := free11 HRR.out.rx 5
      have f6 := free11 HRR.out.rx 6
      have f7 := free11 HRR.out.rx 7
      have f8 := free11 HRR.out.rx 8
      have f9 := free11 HRR.out.rx 9
      have f10 := free11 HRR.out.rx 10
      clear hR
      subst hi2
      go_wp2_with fail
      refine bodyPost_ret (v := .agg #[.int .i8 a.kind, .string a.name, .string a.arg, .int .i64 a.num, .int .i8 a.tk, .slice q'.TA q'.tn q'.tc, .int .i8 a.uk, .slice q'.UA q'.un q'.uc, .int .i64 a.label, .int .i64 a.pos, .slice q'.A q'.n q'.c]) (by simp [results, Tryz.results40, go_sem, *]) rfl (rbare_end HIF.out HNE.out HRR.out (far11 _ _ _ _ _ _ _ _ _ _ _) (below_only11 HRR.out.below (by omega) _ _ _ _ _ _ _ _ _ _ _))
    | node h1 kd r =>
      have h1' := hR.i_eq
      have h2 := hR.lies
      have h3 := hR.sub
      simp only [Tm.len, Tm.nodes] at h1' h3
      obtain ⟨bb, oo, p1, hpA, hcs, hfit, hl3, hl4⟩ := h2
      have hcs' : ∀ j v, (h1.cells p1)[j]? = some v → wr.cell? ⟨bb, oo + i * 11 + j, none⟩ = some v := fun j v hv => by
        have := (mask_at (hcs j v hv)).2
        rw [hR.below.cell (p := ⟨bb, _, none⟩) (Ty.cell_lt this)]; exact this
      obtain ⟨c0, c1, c2, c3, c4, c5, c6, c7, c8, c9, c10⟩ := Tm.row hcs'
      have E0 : Below wr.heap.size wr wr.drew := (Below.refl _ _).drew
      have hcall := IH.out n0 h1 kd p1 wr.drew (by omega) (by omega) (Tm.Is.kept ⟨hfit, hl3⟩ (kept_mask fun b o x hP hx => ⟨hP, by rw [(hR.below.drew).cell (p := ⟨b, o, none⟩) (Ty.cell_lt hx)]; exact hx⟩)) (by show n0 ≤ wr.heap.size; omega)
      have hstp := fun u w3 p' g cap o2 hb hI hown hg hat => RB.step (n1 := wr.drew.heap.size) (u := u) (w3 := w3) (p' := p') (g := g) (cap := cap) (o2 := o2) hR hb rfl hI hown hg hat hl4
      have HSTP := Lib.hid hstp
      have HC := Lib.hid hcall
      have HOWN := Lib.hid hR.own
      have HBX := Lib.hid hR.bx
      have j1 : (0 : Int) ≤ (i : Int) ∧ (i : Int) < p.n := by omega
      have hqn : (q'.n : Nat) = i := by
        rcases hR.own.2 with ⟨e, e2⟩ | ⟨g, cap, cur, e, _⟩
        · injection e with _ e _; omega
        · injection e with _ e _
      have hlt := hR.own.lt
      have HLT := Lib.hid hlt
      have HPA := Lib.hid hpA
      have hbb : bb < wr.heap.size := Ty.cell_lt c0
      clear hstp hcall hR hl3 hl4 hcs hcs' hfit hpA hqn hlt
      generalize hPA : p.A = PA at *
      obtain rfl : PA = some ⟨bb, oo, none⟩ := HPA.out
      clear hPA HPA
      go_wp2_with fail
      go_region_law (first
        | (go_simp; go_at_call 40; (with_reducible refine HC.out.mono ?_); rintro e u ⟨p', rfl, hI, hb⟩; have E1 := E0.trans (hb.mono E0.size); have HI := Lib.hid hI; have hs1 : wr.heap.size ≤ u.heap.size := E1.size; have HO2 := Lib.hid (ownsRow_below HOWN.out E1); have UB := Lib.hid (heap_below E1 bl HBX.out); obtain ⟨d0, d1, d2, d3, d4, d5, d6, d7, d8, d9, d10, dl⟩ := own11 UB.out; have ful : w.heap.size + 2 < u.heap.size := heap_lt UB.out; clear hI hb; go_wp2_with fail)
        | ((refine step_append_lies _ (by rfl) (.tmp 52) (.tmp 59) 26 (by rfl) (w.heap.size + 3) 28 i0 (.agg #[.int .i8 0, .string ⟨#[]⟩, .string ⟨#[]⟩, .int .i64 0, .int .i8 0, .slice none 0 0, .int .i8 0, .slice none 0 0, .int .i64 0, .int .i64 0, .slice none 0 0]) 11 152 Tryz.underlying26 hi hz0 hz1 hz2 (by rfl) (by decide) (.slice q'.A q'.n q'.c) i xs (by rfl) (HO2.out.alloc _) ⟨u.heap.size, 0, none⟩ 1 1 ((Tm.cnt h1).cells p') (by rfl) (by rfl) (World.news_of_block (cs := #[.int .i8 (Tm.cnt h1).kind, .string (Tm.cnt h1).name, .string (Tm.cnt h1).arg, .int .i64 (Tm.cnt h1).num, .int .i8 (Tm.cnt h1).tk, .slice p'.TA p'.tn p'.tc, .int .i8 (Tm.cnt h1).uk, .slice p'.UA p'.un p'.uc, .int .i64 (Tm.cnt h1).label, .int .i64 (Tm.cnt h1).pos, .slice p'.A p'.n p'.c]) (t := 28) (fr := (0, 0)) (heap_alloc_new u _)) (by simp [Value.oneCell']) (by omega) (by unfold maxLen; omega) (by omega) (by simp; omega) (u.heap.size + 1) (by simp) ?_); intro g cap w3 hown3 hgrow hat hlt3; have BB := Lib.hid (rbare_bx UB.out ful HLT.out hgrow); obtain ⟨e0, e1, e2, e3, e4, e5, e6, e7, e8, e9, e10, el⟩ := own11 BB.out; have fw10 := free11 BB.out 10))
      all_goals
        have hR3 := Lib.hid (HSTP.out u w3 p' g cap _ E1 HI.out hown3 hgrow hat)
        go_wp2_with fail
        go_roundw
        case rel => exact ⟨i + 1, _, r, _, _, by go_num, hR3.out⟩
        case measure => simp [intOf]; omega

attribute [local go_sem ↓] Go.wp_at_zero Go.wp_at_succ in
set_option maxHeartbeats 8000000 in
set_option maxRecDepth 100000 in
theorem rbare_I (n0 : Nat) (h : Hd) (kids : Tm) (p : Pl) (w : World) (K : Nat) (hK : Tm.nodes kids < K + 1) (hsm : Tm.nodes kids ≤ 8192) (hIs : Tm.Is (mask (fun b => decide (b < n0)) w) h kids p) (hn0 : n0 ≤ w.heap.size)
    (hk : Tm.hasName h.kind = false ∧ Tm.hasArg h.kind = false ∧ Tm.hasNum h.kind = false ∧ Tm.hasType h.kind = true ∧ Tm.hasTo h.kind = false ∧ Tm.hasLabel h.kind = false)
    (ih : ∀ (n0 : Nat) (h : Hd) (kids : Tm) (p : Pl) (w : World), Tm.nodes kids < K → Tm.nodes kids ≤ 8192 → Tm.Is (mask (fun b => decide (b < n0)) w) h kids p → n0 ≤ w.heap.size → Calls Tryz.prog 40 #[.agg #[.int .i8 h.kind, .string h.name, .string h.arg, .int .i64 h.num, .int .i8 h.tk, .slice p.TA p.tn p.tc, .int .i8 h.uk, .slice p.UA p.un p.uc, .int .i64 h.label, .int .i64 h.pos, .slice p.A p.n p.c]] w (CopyTm (fun b => decide (b < n0) || decide (w.heap.size ≤ b)) w h kids)) :
    Calls Tryz.prog 40 #[.agg #[.int .i8 h.kind, .string h.name, .string h.arg, .int .i64 h.num, .int .i8 h.tk, .slice p.TA p.tn p.tc, .int .i8 h.uk, .slice p.UA p.un p.uc, .int .i64 h.label, .int .i64 h.pos, .slice p.A p.n p.c]] w (CopyTm (fun b => decide (b < n0) || decide (w.heap.size ≤ b)) w h kids) := by
  obtain ⟨k0, k1, k2, k3, k4, k5⟩ := hk
  have hb0 : Below w.heap.size w ((w.alloc (.cells #[.int .i8 h.kind, .string h.name, .string h.arg, .int .i64 h.num, .int .i8 h.tk, .slice p.TA p.tn p.tc, .int .i8 h.uk, .slice p.UA p.un p.uc, .int .i64 h.label, .int .i64 h.pos, .slice p.A p.n p.c] 28)).alloc (.cells #[.int .i8 0, .string ⟨#[]⟩, .string ⟨#[]⟩, .int .i64 0, .int .i8 0, .slice none 0 0, .int .i8 0, .slice none 0 0, .int .i64 0, .int .i64 0, .slice none 0 0] 28)) := ((Below.refl _ _).alloc (Nat.le_refl _) _).alloc (by simp) _
  have hB0 : Below w.heap.size w (((w.alloc (.cells #[.int .i8 h.kind, .string h.name, .string h.arg, .int .i64 h.num, .int .i8 h.tk, .slice p.TA p.tn p.tc, .int .i8 h.uk, .slice p.UA p.un p.uc, .int .i64 h.label, .int .i64 h.pos, .slice p.A p.n p.c] 28)).alloc (.cells #[.int .i8 0, .string ⟨#[]⟩, .string ⟨#[]⟩, .int .i64 0, .int .i8 0, .slice none 0 0, .int .i8 0, .slice none 0 0, .int .i64 0, .int .i64 0, .slice none 0 0] 28)).alloc (.cells #[.int .i8 h.kind, .string ⟨#[]⟩, .string ⟨#[]⟩, .int .i64 0, .int .i8 h.tk, .slice p.TA p.tn p.tc, .int .i8 0, .slice none 0 0, .int .i64 0, .int .i64 0, .slice none 0 0] 28)) := hb0.alloc hb0.size _
  obtain ⟨r0, r1, r2⟩ := two_new w (.cells #[.int .i8 h.kind, .string h.name, .string h.arg, .int .i64 h.num, .int .i8 h.tk, .slice p.TA p.tn p.tc, .int .i8 h.uk, .slice p.UA p.un p.uc, .int .i64 h.label, .int .i64 h.pos, .slice p.A p.n p.c] 28) (.cells #[.int .i8 0, .string ⟨#[]⟩, .string ⟨#[]⟩, .int .i64 0, .int .i8 0, .slice none 0 0, .int .i8 0, .slice none 0 0, .int .i64 0, .int .i64 0, .slice none 0 0] 28)
  have s0 := heap_old r0 (.cells #[.int .i8 h.kind, .string ⟨#[]⟩, .string ⟨#[]⟩, .int .i64 0, .int .i8 h.tk, .slice p.TA p.tn p.tc, .int .i8 0, .slice none 0 0, .int .i64 0, .int .i64 0, .slice none 0 0] 28)
  have s1 := heap_old r1 (.cells #[.int .i8 h.kind, .string ⟨#[]⟩, .string ⟨#[]⟩, .int .i64 0, .int .i8 h.tk, .slice p.TA p.tn p.tc, .int .i8 0, .slice none 0 0, .int .i64 0, .int .i64 0, .slice none 0 0] 28)
  have s2 := heap_new ((w.alloc (.cells #[.int .i8 h.kind, .string h.name, .string h.arg, .int .i64 h.num, .int .i8 h.tk, .slice p.TA p.tn p.tc, .int .i8 h.uk, .slice p.UA p.un p.uc, .int .i64 h.label, .int .i64 h.pos, .slice p.A p.n p.c] 28)).alloc (.cells #[.int .i8 0, .string ⟨#[]⟩, .string ⟨#[]⟩, .int .i64 0, .int .i8 0, .slice none 0 0, .int .i8 0, .slice none 0 0, .int .i64 0, .int .i64 0, .slice none 0 0] 28)) (.cells #[.int .i8 h.kind, .string ⟨#[]⟩, .string ⟨#[]⟩, .int .i64 0, .int .i8 h.tk, .slice p.TA p.tn p.tc, .int .i8 0, .slice none 0 0, .int .i64 0, .int .i64 0, .slice none 0 0] 28)
  rw [r2] at s2
  have hcn : Tm.cnt h = ⟨h.kind, ⟨#[]⟩, ⟨#[]⟩, 0, h.tk, h.tkids, 0, .nil, 0, 0⟩ := by simp [Tm.cnt, k0, k1, k2, k3, k4, k5]
  have hcp : Tm.cntP h p = ⟨p.TA, p.tn, p.tc, none, 0, 0, p.A, p.n, p.c⟩ := by simp [Tm.cntP, k3, k4]
  have hst : RB n0 w (((w.alloc (.cells #[.int .i8 h.kind, .string h.name, .string h.arg, .int .i64 h.num, .int .i8 h.tk, .slice p.TA p.tn p.tc, .int .i8 h.uk, .slice p.UA p.un p.uc, .int .i64 h.label, .int .i64 h.pos, .slice p.A p.n p.c] 28)).alloc (.cells #[.int .i8 0, .string ⟨#[]⟩, .string ⟨#[]⟩, .int .i64 0, .int .i8 0, .slice none 0 0, .int .i8 0, .slice none 0 0, .int .i64 0, .int .i64 0, .slice none 0 0] 28)).alloc (.cells #[.int .i8 h.kind, .string ⟨#[]⟩, .string ⟨#[]⟩, .int .i64 0, .int .i8 h.tk, .slice p.TA p.tn p.tc, .int .i8 0, .slice none 0 0, .int .i64 0, .int .i64 0, .slice none 0 0] 28)) h kids p (Tm.cnt h) (Tm.cntP h p) ⟨(Tm.cntP h p).TA, (Tm.cntP h p).tn, (Tm.cntP h p).tc, (Tm.cntP h p).UA, (Tm.cntP h p).un, (Tm.cntP h p).uc, none, 0, 0⟩ 0 .nil kids [] := by
    refine ⟨rfl, rfl, by rw [hIs.fit.n_eq]; omega, hIs.lies, hB0, s0, s1, by rw [hcn, hcp]; exact s2, ⟨rfl, rfl, rfl, rfl, rfl, rfl⟩, ⟨rfl, .inl ⟨rfl, rfl⟩⟩, rfl, hn0, Nat.le_refl _⟩
  have HST := Lib.hid hst
  have hHN := ref_hasName_any h.kind
  have hHA := ref_hasArg_any h.kind
  have hHT := ref_hasType_any h.kind
  have hHU := ref_hasTo_any h.kind
  have g3 : (h.kind == 1) = false := by rw [← k2]; unfold Tm.hasNum; rw [Bool.eq_iff_iff]; simp
  have g4 : (h.kind == 17) = false := by rw [← k5]; unfold Tm.hasLabel; rw [Bool.eq_iff_iff]; simp
  rw [k0] at hHN
  rw [k1] at hHA
  rw [k3] at hHT
  rw [k4] at hHU
  have IH := Lib.hid ih
  have HIF := Lib.hid hIs.cnt.fit
  have HNE := Lib.hid hIs.fit.n_eq
  have i5 : (p.n : Int) ≤ 9223372036854775807 := by have h1 := hIs.fit.n_le; have h2 := hIs.fit.c_le; unfold maxLen at h2; omega
  have hln := Tm.len_le_nodes kids
  have hpn : p.n ≤ 8192 := by rw [hIs.fit.n_eq]; omega
  obtain ⟨q0, q1, q2, q3, q4, q5, q6, q7, q8, q9, q10, ql⟩ := own11 r0
  obtain ⟨i0, hi, hz0, hz1, hz2⟩ := info_parts info_Term
  clear hIs ih k0 k1 k2 k3 k4 k5 hb0 hB0 r0 r1 r2 s0 s1 s2 hst hcn hcp hn0 hln
  unfold CopyTm
  generalize Tm.cnt h = a at *
  generalize Tm.cntP h p = q at *
  go_enter Tryz.func40, Tryz.ntmps40
  go_wp2_with (first | (go_at_call 78; refine (hHN _).mono ?_; rintro e w9 ⟨rfl, rfl⟩) | (go_at_call 79; refine (hHA _).mono ?_; rintro e w9 ⟨rfl, rfl⟩) | (go_at_call 80; refine (hHT _).mono ?_; rintro e w9 ⟨rfl, rfl⟩) | (go_at_call 81; refine (hHU _).mono ?_; rintro e w9 ⟨rfl, rfl⟩))
  clear q0 q1 q2 q3 q4 q5 q6 q7 q8 q9 q10 ql
  go_loopw [4] (fun v wr => ∃ (i : Nat) (done rest : Tm) (xs : List Value) (q' : Pl), v = .int .i64 i ∧ RB n0 w wr h kids p a q q' i done rest xs) (fun v _ => p.n - (intOf v).toNat)
  case atStart => exact ⟨0, .nil, kids, [], _, rfl, HST.out⟩
  case round =>
    obtain ⟨i, done, rest, xs, q', rfl, hR⟩ := hrel
    obtain ⟨x0, x1, x2, x3, x4, x5, x6, x7, x8, x9, x10, xl⟩ := own11 hR.xx
    obtain ⟨b0, b1, b2, b3, b4, b5, b6, b7, b8, b9, b10, bl⟩ := own11 hR.bx
    have hn0 := hR.n0_le
    have hbz := hR.below.size
    cases rest with
    | nil =>
      have hi2 : i = p.n := by have := hR.i_eq; simpa [Tm.len] using this
      obtain ⟨y0, y1, y2, y3, y4, y5, y6, y7, y8, y9, y10, yl⟩ := own11 hR.rx
      have HRR := Lib.hid hR
      have f0 := free11 HRR.out.rx 0
      have f1 := free11 HRR.out.rx 1
      have f2 := free11 HRR.out.rx 2
      have f3 := free11 HRR.out.rx 3
      have f4 := free11 HRR.out.rx 4
      have f5 := free11 HRR.out.rx 5
      have f6 := free11 HRR.out.rx 6
      have f7 := free11 HRR.out.rx 7
      have f8 := free11 HRR.out.rx 8
      have f9 := free11 HRR.out.rx 9
      have f10 := free11 HRR.out.rx 10
      clear hR
      subst hi2
      go_wp2_with fail
      refine bodyPost_ret (v := .agg #[.int .i8 a.kind, .string a.name, .string a.arg, .int .i64 a.num, .int .i8 a.tk, .slice q'.TA q'.tn q'.tc, .int .i8 a.uk, .slice q'.UA q'.un q'.uc, .int .i64 a.label, .int .i64 a.pos, .slice q'.A q'.n q'.c]) (by simp [results, Tryz.results40, go_sem, *]) rfl (rbare_end HIF.out HNE.out HRR.out (far11 _ _ _ _ _ _ _ _ _ _ _) (below_only11 HRR.out.below (by omega) _ _ _ _ _ _ _ _ _ _ _))
    | node h1 kd r =>
      have h1' := hR.i_eq
      have h2 := hR.lies
      have h3 := hR.sub
      simp only [Tm.len, Tm.nodes] at h1' h3
      obtain ⟨bb, oo, p1, hpA, hcs, hfit, hl3, hl4⟩ := h2
      have hcs' : ∀ j v, (h1.cells p1)[j]? = some v → wr.cell? ⟨bb, oo + i * 11 + j, none⟩ = some v := fun j v hv => by
        have := (mask_at (hcs j v hv)).2
        rw [hR.below.cell (p := ⟨bb, _, none⟩) (Ty.cell_lt this)]; exact this
      obtain ⟨c0, c1, c2, c3, c4, c5, c6, c7, c8, c9, c10⟩ := Tm.row hcs'
      have E0 : Below wr.heap.size wr wr.drew := (Below.refl _ _).drew
      have hcall := IH.out n0 h1 kd p1 wr.drew (by omega) (by omega) (Tm.Is.kept ⟨hfit, hl3⟩ (kept_mask fun b o x hP hx => ⟨hP, by rw [(hR.below.drew).cell (p := ⟨b, o, none⟩) (Ty.cell_lt hx)]; exact hx⟩)) (by show n0 ≤ wr.heap.size; omega)
      have hstp := fun u w3 p' g cap o2 hb hI hown hg hat => RB.step (n1 := wr.drew.heap.size) (u := u) (w3 := w3) (p' := p') (g := g) (cap := cap) (o2 := o2) hR hb rfl hI hown hg hat hl4
      have HSTP := Lib.hid hstp
      have HC := Lib.hid hcall
      have HOWN := Lib.hid hR.own
      have HBX := Lib.hid hR.bx
      have j1 : (0 : Int) ≤ (i : Int) ∧ (i : Int) < p.n := by omega
      have hqn : (q'.n : Nat) = i := by
        rcases hR.own.2 with ⟨e, e2⟩ | ⟨g, cap, cur, e, _⟩
        · injection e with _ e _; omega
        · injection e with _ e _
      have hlt := hR.own.lt
      have HLT := Lib.hid hlt
      have HPA := Lib.hid hpA
      have hbb : bb < wr.heap.size := Ty.cell_lt c0
      clear hstp hcall hR hl3 hl4 hcs hcs' hfit hpA hqn hlt
      generalize hPA : p.A = PA at *
      obtain rfl : PA = some ⟨bb, oo, none⟩ := HPA.out
      clear hPA HPA
      go_wp2_with fail
      go_region_law (first
        | (go_simp; go_at_call 40; (with_reducible refine HC.out.mono ?_); rintro e u ⟨p', rfl, hI, hb⟩; have E1 := E0.trans (hb.mono E0.size); have HI := Lib.hid hI; have hs1 : wr.heap.size ≤ u.heap.size := E1.size; have HO2 := Lib.hid (ownsRow_below HOWN.out E1); have UB := Lib.hid (heap_below E1 bl HBX.out); obtain ⟨d0, d1, d2, d3, d4, d5, d6, d7, d8, d9, d10, dl⟩ := own11 UB.out; have ful : w.heap.size + 2 < u.heap.size := heap_lt UB.out; clear hI hb; go_wp2_with fail)
        | ((refine step_append_lies _ (by rfl) (.tmp 52) (.tmp 59) 26 (by rfl) (w.heap.size + 3) 28 i0 (.agg #[.int .i8 0, .string ⟨#[]⟩, .string ⟨#[]⟩, .int .i64 0, .int .i8 0, .slice none 0 0, .int .i8 0, .slice none 0 0, .int .i64 0, .int .i64 0, .slice none 0 0]) 11 152 Tryz.underlying26 hi hz0 hz1 hz2 (by rfl) (by decide) (.slice q'.A q'.n q'.c) i xs (by rfl) (HO2.out.alloc _) ⟨u.heap.size, 0, none⟩ 1 1 ((Tm.cnt h1).cells p') (by rfl) (by rfl) (World.news_of_block (cs := #[.int .i8 (Tm.cnt h1).kind, .string (Tm.cnt h1).name, .string (Tm.cnt h1).arg, .int .i64 (Tm.cnt h1).num, .int .i8 (Tm.cnt h1).tk, .slice p'.TA p'.tn p'.tc, .int .i8 (Tm.cnt h1).uk, .slice p'.UA p'.un p'.uc, .int .i64 (Tm.cnt h1).label, .int .i64 (Tm.cnt h1).pos, .slice p'.A p'.n p'.c]) (t := 28) (fr := (0, 0)) (heap_alloc_new u _)) (by simp [Value.oneCell']) (by omega) (by unfold maxLen; omega) (by omega) (by simp; omega) (u.heap.size + 1) (by simp) ?_); intro g cap w3 hown3 hgrow hat hlt3; have BB := Lib.hid (rbare_bx UB.out ful HLT.out hgrow); obtain ⟨e0, e1, e2, e3, e4, e5, e6, e7, e8, e9, e10, el⟩ := own11 BB.out; have fw10 := free11 BB.out 10))
      all_goals
        have hR3 := Lib.hid (HSTP.out u w3 p' g cap _ E1 HI.out hown3 hgrow hat)
        go_wp2_with fail
        go_roundw
        case rel => exact ⟨i + 1, _, r, _, _, by go_num, hR3.out⟩
        case measure => simp [intOf]; omega

attribute [local go_sem ↓] Go.wp_at_zero Go.wp_at_succ in
set_option maxHeartbeats 8000000 in
set_option maxRecDepth 100000 in
theorem rbare_C (n0 : Nat) (h : Hd) (kids : Tm) (p : Pl) (w : World) (K : Nat) (hK : Tm.nodes kids < K + 1) (hsm : Tm.nodes kids ≤ 8192) (hIs : Tm.Is (mask (fun b => decide (b < n0)) w) h kids p) (hn0 : n0 ≤ w.heap.size)
    (hk : Tm.hasName h.kind = true ∧ Tm.hasArg h.kind = true ∧ Tm.hasNum h.kind = false ∧ Tm.hasType h.kind = false ∧ Tm.hasTo h.kind = false ∧ Tm.hasLabel h.kind = false)
    (ih : ∀ (n0 : Nat) (h : Hd) (kids : Tm) (p : Pl) (w : World), Tm.nodes kids < K → Tm.nodes kids ≤ 8192 → Tm.Is (mask (fun b => decide (b < n0)) w) h kids p → n0 ≤ w.heap.size → Calls Tryz.prog 40 #[.agg #[.int .i8 h.kind, .string h.name, .string h.arg, .int .i64 h.num, .int .i8 h.tk, .slice p.TA p.tn p.tc, .int .i8 h.uk, .slice p.UA p.un p.uc, .int .i64 h.label, .int .i64 h.pos, .slice p.A p.n p.c]] w (CopyTm (fun b => decide (b < n0) || decide (w.heap.size ≤ b)) w h kids)) :
    Calls Tryz.prog 40 #[.agg #[.int .i8 h.kind, .string h.name, .string h.arg, .int .i64 h.num, .int .i8 h.tk, .slice p.TA p.tn p.tc, .int .i8 h.uk, .slice p.UA p.un p.uc, .int .i64 h.label, .int .i64 h.pos, .slice p.A p.n p.c]] w (CopyTm (fun b => decide (b < n0) || decide (w.heap.size ≤ b)) w h kids) := by
  obtain ⟨k0, k1, k2, k3, k4, k5⟩ := hk
  have hb0 : Below w.heap.size w ((w.alloc (.cells #[.int .i8 h.kind, .string h.name, .string h.arg, .int .i64 h.num, .int .i8 h.tk, .slice p.TA p.tn p.tc, .int .i8 h.uk, .slice p.UA p.un p.uc, .int .i64 h.label, .int .i64 h.pos, .slice p.A p.n p.c] 28)).alloc (.cells #[.int .i8 0, .string ⟨#[]⟩, .string ⟨#[]⟩, .int .i64 0, .int .i8 0, .slice none 0 0, .int .i8 0, .slice none 0 0, .int .i64 0, .int .i64 0, .slice none 0 0] 28)) := ((Below.refl _ _).alloc (Nat.le_refl _) _).alloc (by simp) _
  have hB0 : Below w.heap.size w (((w.alloc (.cells #[.int .i8 h.kind, .string h.name, .string h.arg, .int .i64 h.num, .int .i8 h.tk, .slice p.TA p.tn p.tc, .int .i8 h.uk, .slice p.UA p.un p.uc, .int .i64 h.label, .int .i64 h.pos, .slice p.A p.n p.c] 28)).alloc (.cells #[.int .i8 0, .string ⟨#[]⟩, .string ⟨#[]⟩, .int .i64 0, .int .i8 0, .slice none 0 0, .int .i8 0, .slice none 0 0, .int .i64 0, .int .i64 0, .slice none 0 0] 28)).alloc (.cells #[.int .i8 h.kind, .string h.name, .string h.arg, .int .i64 0, .int .i8 0, .slice none 0 0, .int .i8 0, .slice none 0 0, .int .i64 0, .int .i64 0, .slice none 0 0] 28)) := hb0.alloc hb0.size _
  obtain ⟨r0, r1, r2⟩ := two_new w (.cells #[.int .i8 h.kind, .string h.name, .string h.arg, .int .i64 h.num, .int .i8 h.tk, .slice p.TA p.tn p.tc, .int .i8 h.uk, .slice p.UA p.un p.uc, .int .i64 h.label, .int .i64 h.pos, .slice p.A p.n p.c] 28) (.cells #[.int .i8 0, .string ⟨#[]⟩, .string ⟨#[]⟩, .int .i64 0, .int .i8 0, .slice none 0 0, .int .i8 0, .slice none 0 0, .int .i64 0, .int .i64 0, .slice none 0 0] 28)
  have s0 := heap_old r0 (.cells #[.int .i8 h.kind, .string h.name, .string h.arg, .int .i64 0, .int .i8 0, .slice none 0 0, .int .i8 0, .slice none 0 0, .int .i64 0, .int .i64 0, .slice none 0 0] 28)
  have s1 := heap_old r1 (.cells #[.int .i8 h.kind, .string h.name, .string h.arg, .int .i64 0, .int .i8 0, .slice none 0 0, .int .i8 0, .slice none 0 0, .int .i64 0, .int .i64 0, .slice none 0 0] 28)
  have s2 := heap_new ((w.alloc (.cells #[.int .i8 h.kind, .string h.name, .string h.arg, .int .i64 h.num, .int .i8 h.tk, .slice p.TA p.tn p.tc, .int .i8 h.uk, .slice p.UA p.un p.uc, .int .i64 h.label, .int .i64 h.pos, .slice p.A p.n p.c] 28)).alloc (.cells #[.int .i8 0, .string ⟨#[]⟩, .string ⟨#[]⟩, .int .i64 0, .int .i8 0, .slice none 0 0, .int .i8 0, .slice none 0 0, .int .i64 0, .int .i64 0, .slice none 0 0] 28)) (.cells #[.int .i8 h.kind, .string h.name, .string h.arg, .int .i64 0, .int .i8 0, .slice none 0 0, .int .i8 0, .slice none 0 0, .int .i64 0, .int .i64 0, .slice none 0 0] 28)
  rw [r2] at s2
  have hcn : Tm.cnt h = ⟨h.kind, h.name, h.arg, 0, 0, .nil, 0, .nil, 0, 0⟩ := by simp [Tm.cnt, k0, k1, k2, k3, k4, k5]
  have hcp : Tm.cntP h p = ⟨none, 0, 0, none, 0, 0, p.A, p.n, p.c⟩ := by simp [Tm.cntP, k3, k4]
  have hst : RB n0 w (((w.alloc (.cells #[.int .i8 h.kind, .string h.name, .string h.arg, .int .i64 h.num, .int .i8 h.tk, .slice p.TA p.tn p.tc, .int .i8 h.uk, .slice p.UA p.un p.uc, .int .i64 h.label, .int .i64 h.pos, .slice p.A p.n p.c] 28)).alloc (.cells #[.int .i8 0, .string ⟨#[]⟩, .string ⟨#[]⟩, .int .i64 0, .int .i8 0, .slice none 0 0, .int .i8 0, .slice none 0 0, .int .i64 0, .int .i64 0, .slice none 0 0] 28)).alloc (.cells #[.int .i8 h.kind, .string h.name, .string h.arg, .int .i64 0, .int .i8 0, .slice none 0 0, .int .i8 0, .slice none 0 0, .int .i64 0, .int .i64 0, .slice none 0 0] 28)) h kids p (Tm.cnt h) (Tm.cntP h p) ⟨(Tm.cntP h p).TA, (Tm.cntP h p).tn, (Tm.cntP h p).tc, (Tm.cntP h p).UA, (Tm.cntP h p).un, (Tm.cntP h p).uc, none, 0, 0⟩ 0 .nil kids [] := by
    refine ⟨rfl, rfl, by rw [hIs.fit.n_eq]; omega, hIs.lies, hB0, s0, s1, by rw [hcn, hcp]; exact s2, ⟨rfl, rfl, rfl, rfl, rfl, rfl⟩, ⟨rfl, .inl ⟨rfl, rfl⟩⟩, rfl, hn0, Nat.le_refl _⟩
  have HST := Lib.hid hst
  have hHN := ref_hasName_any h.kind
  have hHA := ref_hasArg_any h.kind
  have hHT := ref_hasType_any h.kind
  have hHU := ref_hasTo_any h.kind
  have g3 : (h.kind == 1) = false := by rw [← k2]; unfold Tm.hasNum; rw [Bool.eq_iff_iff]; simp
  have g4 : (h.kind == 17) = false := by rw [← k5]; unfold Tm.hasLabel; rw [Bool.eq_iff_iff]; simp
  rw [k0] at hHN
  rw [k1] at hHA
  rw [k3] at hHT
  rw [k4] at hHU
  have IH := Lib.hid ih
  have HIF := Lib.hid hIs.cnt.fit
  have HNE := Lib.hid hIs.fit.n_eq
  have i5 : (p.n : Int) ≤ 9223372036854775807 := by have h1 := hIs.fit.n_le; have h2 := hIs.fit.c_le; unfold maxLen at h2; omega
  have hln := Tm.len_le_nodes kids
  have hpn : p.n ≤ 8192 := by rw [hIs.fit.n_eq]; omega
  obtain ⟨q0, q1, q2, q3, q4, q5, q6, q7, q8, q9, q10, ql⟩ := own11 r0
  obtain ⟨i0, hi, hz0, hz1, hz2⟩ := info_parts info_Term
  clear hIs ih k0 k1 k2 k3 k4 k5 hb0 hB0 r0 r1 r2 s0 s1 s2 hst hcn hcp hn0 hln
  unfold CopyTm
  generalize Tm.cnt h = a at *
  generalize Tm.cntP h p = q at *
  go_enter Tryz.func40, Tryz.ntmps40
  go_wp2_with (first | (go_at_call 78; refine (hHN _).mono ?_; rintro e w9 ⟨rfl, rfl⟩) | (go_at_call 79; refine (hHA _).mono ?_; rintro e w9 ⟨rfl, rfl⟩) | (go_at_call 80; refine (hHT _).mono ?_; rintro e w9 ⟨rfl, rfl⟩) | (go_at_call 81; refine (hHU _).mono ?_; rintro e w9 ⟨rfl, rfl⟩))
  clear q0 q1 q2 q3 q4 q5 q6 q7 q8 q9 q10 ql
  go_loopw [4] (fun v wr => ∃ (i : Nat) (done rest : Tm) (xs : List Value) (q' : Pl), v = .int .i64 i ∧ RB n0 w wr h kids p a q q' i done rest xs) (fun v _ => p.n - (intOf v).toNat)
  case atStart => exact ⟨0, .nil, kids, [], _, rfl, HST.out⟩
  case round =>
    obtain ⟨i, done, rest, xs, q', rfl, hR⟩ := hrel
    obtain ⟨x0, x1, x2, x3, x4, x5, x6, x7, x8, x9, x10, xl⟩ := own11 hR.xx
    obtain ⟨b0, b1, b2, b3, b4, b5, b6, b7, b8, b9, b10, bl⟩ := own11 hR.bx
    have hn0 := hR.n0_le
    have hbz := hR.below.size
    cases rest with
    | nil =>
      have hi2 : i = p.n := by have := hR.i_eq; simpa [Tm.len] using this
      obtain ⟨y0, y1, y2, y3, y4, y5, y6, y7, y8, y9, y10, yl⟩ := own11 hR.rx
      have HRR := Lib.hid hR
      have f0 := free11 HRR.out.rx 0
      have f1 := free11 HRR.out.rx 1
      have f2 := free11 HRR.out.rx 2
      have f3 := free11 HRR.out.rx 3
      have f4 := free11 HRR.out.rx 4
      have f5 := free11 HRR.out.rx 5
      have f6 := free11 HRR.out.rx 6
      have f7 := free11 HRR.out.rx 7
      have f8 := free11 HRR.out.rx 8
      have f9 := free11 HRR.out.rx 9
      have f10 := free11 HRR.out.rx 10
      clear hR
      subst hi2
      go_wp2_with fail
      refine bodyPost_ret (v := .agg #[.int .i8 a.kind, .string a.name, .string a.arg, .int .i64 a.num, .int .i8 a.tk, .slice q'.TA q'.tn q'.tc, .int .i8 a.uk, .slice q'.UA q'.un q'.uc, .int .i64 a.label, .int .i64 a.pos, .slice q'.A q'.n q'.c]) (by simp [results, Tryz.results40, go_sem, *]) rfl (rbare_end HIF.out HNE.out HRR.out (far11 _ _ _ _ _ _ _ _ _ _ _) (below_only11 HRR.out.below (by omega) _ _ _ _ _ _ _ _ _ _ _))
    | node h1 kd r =>
      have h1' := hR.i_eq
      have h2 := hR.lies
      have h3 := hR.sub
      simp only [Tm.len, Tm.nodes] at h1' h3
      obtain ⟨bb, oo, p1, hpA, hcs, hfit, hl3, hl4⟩ := h2
      have hcs' : ∀ j v, (h1.cells p1)[j]? = some v → wr.cell? ⟨bb, oo + i * 11 + j, none⟩ = some v := fun j v hv => by
        have := (mask_at (hcs j v hv)).2
        rw [hR.below.cell (p := ⟨bb, _, none⟩) (Ty.cell_lt this)]; exact this
      obtain ⟨c0, c1, c2, c3, c4, c5, c6, c7, c8, c9, c10⟩ := Tm.row hcs'
      have E0 : Below wr.heap.size wr wr.drew := (Below.refl _ _).drew
      have hcall := IH.out n0 h1 kd p1 wr.drew (by omega) (by omega) (Tm.Is.kept ⟨hfit, hl3⟩ (kept_mask fun b o x hP hx => ⟨hP, by rw [(hR.below.drew).cell (p := ⟨b, o, none⟩) (Ty.cell_lt hx)]; exact hx⟩)) (by show n0 ≤ wr.heap.size; omega)
      have hstp := fun u w3 p' g cap o2 hb hI hown hg hat => RB.step (n1 := wr.drew.heap.size) (u := u) (w3 := w3) (p' := p') (g := g) (cap := cap) (o2 := o2) hR hb rfl hI hown hg hat hl4
      have HSTP := Lib.hid hstp
      have HC := Lib.hid hcall
      have HOWN := Lib.hid hR.own
      have HBX := Lib.hid hR.bx
      have j1 : (0 : Int) ≤ (i : Int) ∧ (i : Int) < p.n := by omega
      have hqn : (q'.n : Nat) = i := by
        rcases hR.own.2 with ⟨e, e2⟩ | ⟨g, cap, cur, e, _⟩
        · injection e with _ e _; omega
        · injection e with _ e _
      have hlt := hR.own.lt
      have HLT := Lib.hid hlt
      have HPA := Lib.hid hpA
      have hbb : bb < wr.heap.size := Ty.cell_lt c0
      clear hstp hcall hR hl3 hl4 hcs hcs' hfit hpA hqn hlt
      generalize hPA : p.A = PA at *
      obtain rfl : PA = some ⟨bb, oo, none⟩ := HPA.out
      clear hPA HPA
      go_wp2_with fail
      go_region_law (first
        | (go_simp; go_at_call 40; (with_reducible refine HC.out.mono ?_); rintro e u ⟨p', rfl, hI, hb⟩; have E1 := E0.trans (hb.mono E0.size); have HI := Lib.hid hI; have hs1 : wr.heap.size ≤ u.heap.size := E1.size; have HO2 := Lib.hid (ownsRow_below HOWN.out E1); have UB := Lib.hid (heap_below E1 bl HBX.out); obtain ⟨d0, d1, d2, d3, d4, d5, d6, d7, d8, d9, d10, dl⟩ := own11 UB.out; have ful : w.heap.size + 2 < u.heap.size := heap_lt UB.out; clear hI hb; go_wp2_with fail)
        | ((refine step_append_lies _ (by rfl) (.tmp 52) (.tmp 59) 26 (by rfl) (w.heap.size + 3) 28 i0 (.agg #[.int .i8 0, .string ⟨#[]⟩, .string ⟨#[]⟩, .int .i64 0, .int .i8 0, .slice none 0 0, .int .i8 0, .slice none 0 0, .int .i64 0, .int .i64 0, .slice none 0 0]) 11 152 Tryz.underlying26 hi hz0 hz1 hz2 (by rfl) (by decide) (.slice q'.A q'.n q'.c) i xs (by rfl) (HO2.out.alloc _) ⟨u.heap.size, 0, none⟩ 1 1 ((Tm.cnt h1).cells p') (by rfl) (by rfl) (World.news_of_block (cs := #[.int .i8 (Tm.cnt h1).kind, .string (Tm.cnt h1).name, .string (Tm.cnt h1).arg, .int .i64 (Tm.cnt h1).num, .int .i8 (Tm.cnt h1).tk, .slice p'.TA p'.tn p'.tc, .int .i8 (Tm.cnt h1).uk, .slice p'.UA p'.un p'.uc, .int .i64 (Tm.cnt h1).label, .int .i64 (Tm.cnt h1).pos, .slice p'.A p'.n p'.c]) (t := 28) (fr := (0, 0)) (heap_alloc_new u _)) (by simp [Value.oneCell']) (by omega) (by unfold maxLen; omega) (by omega) (by simp; omega) (u.heap.size + 1) (by simp) ?_); intro g cap w3 hown3 hgrow hat hlt3; have BB := Lib.hid (rbare_bx UB.out ful HLT.out hgrow); obtain ⟨e0, e1, e2, e3, e4, e5, e6, e7, e8, e9, e10, el⟩ := own11 BB.out; have fw10 := free11 BB.out 10))
      all_goals
        have hR3 := Lib.hid (HSTP.out u w3 p' g cap _ E1 HI.out hown3 hgrow hat)
        go_wp2_with fail
        go_roundw
        case rel => exact ⟨i + 1, _, r, _, _, by go_num, hR3.out⟩
        case measure => simp [intOf]; omega

attribute [local go_sem ↓] Go.wp_at_zero Go.wp_at_succ in
set_option maxHeartbeats 8000000 in
set_option maxRecDepth 100000 in
theorem rbare_K (n0 : Nat) (h : Hd) (kids : Tm) (p : Pl) (w : World) (K : Nat) (hK : Tm.nodes kids < K + 1) (hsm : Tm.nodes kids ≤ 8192) (hIs : Tm.Is (mask (fun b => decide (b < n0)) w) h kids p) (hn0 : n0 ≤ w.heap.size)
    (hk : Tm.hasName h.kind = false ∧ Tm.hasArg h.kind = false ∧ Tm.hasNum h.kind = false ∧ Tm.hasType h.kind = true ∧ Tm.hasTo h.kind = true ∧ Tm.hasLabel h.kind = true)
    (ih : ∀ (n0 : Nat) (h : Hd) (kids : Tm) (p : Pl) (w : World), Tm.nodes kids < K → Tm.nodes kids ≤ 8192 → Tm.Is (mask (fun b => decide (b < n0)) w) h kids p → n0 ≤ w.heap.size → Calls Tryz.prog 40 #[.agg #[.int .i8 h.kind, .string h.name, .string h.arg, .int .i64 h.num, .int .i8 h.tk, .slice p.TA p.tn p.tc, .int .i8 h.uk, .slice p.UA p.un p.uc, .int .i64 h.label, .int .i64 h.pos, .slice p.A p.n p.c]] w (CopyTm (fun b => decide (b < n0) || decide (w.heap.size ≤ b)) w h kids)) :
    Calls Tryz.prog 40 #[.agg #[.int .i8 h.kind, .string h.name, .string h.arg, .int .i64 h.num, .int .i8 h.tk, .slice p.TA p.tn p.tc, .int .i8 h.uk, .slice p.UA p.un p.uc, .int .i64 h.label, .int .i64 h.pos, .slice p.A p.n p.c]] w (CopyTm (fun b => decide (b < n0) || decide (w.heap.size ≤ b)) w h kids) := by
  obtain ⟨k0, k1, k2, k3, k4, k5⟩ := hk
  have hb0 : Below w.heap.size w ((w.alloc (.cells #[.int .i8 h.kind, .string h.name, .string h.arg, .int .i64 h.num, .int .i8 h.tk, .slice p.TA p.tn p.tc, .int .i8 h.uk, .slice p.UA p.un p.uc, .int .i64 h.label, .int .i64 h.pos, .slice p.A p.n p.c] 28)).alloc (.cells #[.int .i8 0, .string ⟨#[]⟩, .string ⟨#[]⟩, .int .i64 0, .int .i8 0, .slice none 0 0, .int .i8 0, .slice none 0 0, .int .i64 0, .int .i64 0, .slice none 0 0] 28)) := ((Below.refl _ _).alloc (Nat.le_refl _) _).alloc (by simp) _
  have hB0 : Below w.heap.size w (((w.alloc (.cells #[.int .i8 h.kind, .string h.name, .string h.arg, .int .i64 h.num, .int .i8 h.tk, .slice p.TA p.tn p.tc, .int .i8 h.uk, .slice p.UA p.un p.uc, .int .i64 h.label, .int .i64 h.pos, .slice p.A p.n p.c] 28)).alloc (.cells #[.int .i8 0, .string ⟨#[]⟩, .string ⟨#[]⟩, .int .i64 0, .int .i8 0, .slice none 0 0, .int .i8 0, .slice none 0 0, .int .i64 0, .int .i64 0, .slice none 0 0] 28)).alloc (.cells #[.int .i8 h.kind, .string ⟨#[]⟩, .string ⟨#[]⟩, .int .i64 0, .int .i8 h.tk, .slice p.TA p.tn p.tc, .int .i8 h.uk, .slice p.UA p.un p.uc, .int .i64 h.label, .int .i64 0, .slice none 0 0] 28)) := hb0.alloc hb0.size _
  obtain ⟨r0, r1, r2⟩ := two_new w (.cells #[.int .i8 h.kind, .string h.name, .string h.arg, .int .i64 h.num, .int .i8 h.tk, .slice p.TA p.tn p.tc, .int .i8 h.uk, .slice p.UA p.un p.uc, .int .i64 h.label, .int .i64 h.pos, .slice p.A p.n p.c] 28) (.cells #[.int .i8 0, .string ⟨#[]⟩, .string ⟨#[]⟩, .int .i64 0, .int .i8 0, .slice none 0 0, .int .i8 0, .slice none 0 0, .int .i64 0, .int .i64 0, .slice none 0 0] 28)
  have s0 := heap_old r0 (.cells #[.int .i8 h.kind, .string ⟨#[]⟩, .string ⟨#[]⟩, .int .i64 0, .int .i8 h.tk, .slice p.TA p.tn p.tc, .int .i8 h.uk, .slice p.UA p.un p.uc, .int .i64 h.label, .int .i64 0, .slice none 0 0] 28)
  have s1 := heap_old r1 (.cells #[.int .i8 h.kind, .string ⟨#[]⟩, .string ⟨#[]⟩, .int .i64 0, .int .i8 h.tk, .slice p.TA p.tn p.tc, .int .i8 h.uk, .slice p.UA p.un p.uc, .int .i64 h.label, .int .i64 0, .slice none 0 0] 28)
  have s2 := heap_new ((w.alloc (.cells #[.int .i8 h.kind, .string h.name, .string h.arg, .int .i64 h.num, .int .i8 h.tk, .slice p.TA p.tn p.tc, .int .i8 h.uk, .slice p.UA p.un p.uc, .int .i64 h.label, .int .i64 h.pos, .slice p.A p.n p.c] 28)).alloc (.cells #[.int .i8 0, .string ⟨#[]⟩, .string ⟨#[]⟩, .int .i64 0, .int .i8 0, .slice none 0 0, .int .i8 0, .slice none 0 0, .int .i64 0, .int .i64 0, .slice none 0 0] 28)) (.cells #[.int .i8 h.kind, .string ⟨#[]⟩, .string ⟨#[]⟩, .int .i64 0, .int .i8 h.tk, .slice p.TA p.tn p.tc, .int .i8 h.uk, .slice p.UA p.un p.uc, .int .i64 h.label, .int .i64 0, .slice none 0 0] 28)
  rw [r2] at s2
  have hcn : Tm.cnt h = ⟨h.kind, ⟨#[]⟩, ⟨#[]⟩, 0, h.tk, h.tkids, h.uk, h.ukids, h.label, 0⟩ := by simp [Tm.cnt, k0, k1, k2, k3, k4, k5]
  have hcp : Tm.cntP h p = ⟨p.TA, p.tn, p.tc, p.UA, p.un, p.uc, p.A, p.n, p.c⟩ := by simp [Tm.cntP, k3, k4]
  have hst : RB n0 w (((w.alloc (.cells #[.int .i8 h.kind, .string h.name, .string h.arg, .int .i64 h.num, .int .i8 h.tk, .slice p.TA p.tn p.tc, .int .i8 h.uk, .slice p.UA p.un p.uc, .int .i64 h.label, .int .i64 h.pos, .slice p.A p.n p.c] 28)).alloc (.cells #[.int .i8 0, .string ⟨#[]⟩, .string ⟨#[]⟩, .int .i64 0, .int .i8 0, .slice none 0 0, .int .i8 0, .slice none 0 0, .int .i64 0, .int .i64 0, .slice none 0 0] 28)).alloc (.cells #[.int .i8 h.kind, .string ⟨#[]⟩, .string ⟨#[]⟩, .int .i64 0, .int .i8 h.tk, .slice p.TA p.tn p.tc, .int .i8 h.uk, .slice p.UA p.un p.uc, .int .i64 h.label, .int .i64 0, .slice none 0 0] 28)) h kids p (Tm.cnt h) (Tm.cntP h p) ⟨(Tm.cntP h p).TA, (Tm.cntP h p).tn, (Tm.cntP h p).tc, (Tm.cntP h p).UA, (Tm.cntP h p).un, (Tm.cntP h p).uc, none, 0, 0⟩ 0 .nil kids [] := by
    refine ⟨rfl, rfl, by rw [hIs.fit.n_eq]; omega, hIs.lies, hB0, s0, s1, by rw [hcn, hcp]; exact s2, ⟨rfl, rfl, rfl, rfl, rfl, rfl⟩, ⟨rfl, .inl ⟨rfl, rfl⟩⟩, rfl, hn0, Nat.le_refl _⟩
  have HST := Lib.hid hst
  have hHN := ref_hasName_any h.kind
  have hHA := ref_hasArg_any h.kind
  have hHT := ref_hasType_any h.kind
  have hHU := ref_hasTo_any h.kind
  have g3 : (h.kind == 1) = false := by rw [← k2]; unfold Tm.hasNum; rw [Bool.eq_iff_iff]; simp
  have g4 : (h.kind == 17) = true := by rw [← k5]; unfold Tm.hasLabel; rw [Bool.eq_iff_iff]; simp
  rw [k0] at hHN
  rw [k1] at hHA
  rw [k3] at hHT
  rw [k4] at hHU
  have IH := Lib.hid ih
  have HIF := Lib.hid hIs.cnt.fit
  have HNE := Lib.hid hIs.fit.n_eq
  have i5 : (p.n : Int) ≤ 9223372036854775807 := by have h1 := hIs.fit.n_le; have h2 := hIs.fit.c_le; unfold maxLen at h2; omega
  have hln := Tm.len_le_nodes kids
  have hpn : p.n ≤ 8192 := by rw [hIs.fit.n_eq]; omega
  obtain ⟨q0, q1, q2, q3, q4, q5, q6, q7, q8, q9, q10, ql⟩ := own11 r0
  obtain ⟨i0, hi, hz0, hz1, hz2⟩ := info_parts info_Term
  clear hIs ih k0 k1 k2 k3 k4 k5 hb0 hB0 r0 r1 r2 s0 s1 s2 hst hcn hcp hn0 hln
  unfold CopyTm
  generalize Tm.cnt h = a at *
  generalize Tm.cntP h p = q at *
  go_enter Tryz.func40, Tryz.ntmps40
  go_wp2_with (first | (go_at_call 78; refine (hHN _).mono ?_; rintro e w9 ⟨rfl, rfl⟩) | (go_at_call 79; refine (hHA _).mono ?_; rintro e w9 ⟨rfl, rfl⟩) | (go_at_call 80; refine (hHT _).mono ?_; rintro e w9 ⟨rfl, rfl⟩) | (go_at_call 81; refine (hHU _).mono ?_; rintro e w9 ⟨rfl, rfl⟩))
  clear q0 q1 q2 q3 q4 q5 q6 q7 q8 q9 q10 ql
  go_loopw [4] (fun v wr => ∃ (i : Nat) (done rest : Tm) (xs : List Value) (q' : Pl), v = .int .i64 i ∧ RB n0 w wr h kids p a q q' i done rest xs) (fun v _ => p.n - (intOf v).toNat)
  case atStart => exact ⟨0, .nil, kids, [], _, rfl, HST.out⟩
  case round =>
    obtain ⟨i, done, rest, xs, q', rfl, hR⟩ := hrel
    obtain ⟨x0, x1, x2, x3, x4, x5, x6, x7, x8, x9, x10, xl⟩ := own11 hR.xx
    obtain ⟨b0, b1, b2, b3, b4, b5, b6, b7, b8, b9, b10, bl⟩ := own11 hR.bx
    have hn0 := hR.n0_le
    have hbz := hR.below.size
    cases rest with
    | nil =>
      have hi2 : i = p.n := by have := hR.i_eq; simpa [Tm.len] using this
      obtain ⟨y0, y1, y2, y3, y4, y5, y6, y7, y8, y9, y10, yl⟩ := own11 hR.rx
      have HRR := Lib.hid hR
      have f0 := free11 HRR.out.rx 0
      have f1 := free11 HRR.out.rx 1
      have f2 := free11 HRR.out.rx 2
      have f3 := free11 HRR.out.rx 3
      have f4 := free11 HRR.out.rx 4
      have f5 := free11 HRR.out.rx 5
      have f6 := free11 HRR.out.rx 6
      have f7 := free11 HRR.out.rx 7
      have f8 := free11 HRR.out.rx 8
      have f9 := free11 HRR.out.rx 9
      have f10 := free11 HRR.out.rx 10
      clear hR
      subst hi2
      go_wp2_with fail
      refine bodyPost_ret (v := .agg #[.int .i8 a.kind, .string a.name, .string a.arg, .int .i64 a.num, .int .i8 a.tk, .slice q'.TA q'.tn q'.tc, .int .i8 a.uk, .slice q'.UA q'.un q'.uc, .int .i64 a.label, .int .i64 a.pos, .slice q'.A q'.n q'.c]) (by simp [results, Tryz.results40, go_sem, *]) rfl (rbare_end HIF.out HNE.out HRR.out (far11 _ _ _ _ _ _ _ _ _ _ _) (below_only11 HRR.out.below (by omega) _ _ _ _ _ _ _ _ _ _ _))
    | node h1 kd r =>
      have h1' := hR.i_eq
      have h2 := hR.lies
      have h3 := hR.sub
      simp only [Tm.len, Tm.nodes] at h1' h3
      obtain ⟨bb, oo, p1, hpA, hcs, hfit, hl3, hl4⟩ := h2
      have hcs' : ∀ j v, (h1.cells p1)[j]? = some v → wr.cell? ⟨bb, oo + i * 11 + j, none⟩ = some v := fun j v hv => by
        have := (mask_at (hcs j v hv)).2
        rw [hR.below.cell (p := ⟨bb, _, none⟩) (Ty.cell_lt this)]; exact this
      obtain ⟨c0, c1, c2, c3, c4, c5, c6, c7, c8, c9, c10⟩ := Tm.row hcs'
      have E0 : Below wr.heap.size wr wr.drew := (Below.refl _ _).drew
      have hcall := IH.out n0 h1 kd p1 wr.drew (by omega) (by omega) (Tm.Is.kept ⟨hfit, hl3⟩ (kept_mask fun b o x hP hx => ⟨hP, by rw [(hR.below.drew).cell (p := ⟨b, o, none⟩) (Ty.cell_lt hx)]; exact hx⟩)) (by show n0 ≤ wr.heap.size; omega)
      have hstp := fun u w3 p' g cap o2 hb hI hown hg hat => RB.step (n1 := wr.drew.heap.size) (u := u) (w3 := w3) (p' := p') (g := g) (cap := cap) (o2 := o2) hR hb rfl hI hown hg hat hl4
      have HSTP := Lib.hid hstp
      have HC := Lib.hid hcall
      have HOWN := Lib.hid hR.own
      have HBX := Lib.hid hR.bx
      have j1 : (0 : Int) ≤ (i : Int) ∧ (i : Int) < p.n := by omega
      have hqn : (q'.n : Nat) = i := by
        rcases hR.own.2 with ⟨e, e2⟩ | ⟨g, cap, cur, e, _⟩
        · injection e with _ e _; omega
        · injection e with _ e _
      have hlt := hR.own.lt
      have HLT := Lib.hid hlt
      have HPA := Lib.hid hpA
      have hbb : bb < wr.heap.size := Ty.cell_lt c0
      clear hstp hcall hR hl3 hl4 hcs hcs' hfit hpA hqn hlt
      generalize hPA : p.A = PA at *
      obtain rfl : PA = some ⟨bb, oo, none⟩ := HPA.out
      clear hPA HPA
      go_wp2_with fail
      go_region_law (first
        | (go_simp; go_at_call 40; (with_reducible refine HC.out.mono ?_); rintro e u ⟨p', rfl, hI, hb⟩; have E1 := E0.trans (hb.mono E0.size); have HI := Lib.hid hI; have hs1 : wr.heap.size ≤ u.heap.size := E1.size; have HO2 := Lib.hid (ownsRow_below HOWN.out E1); have UB := Lib.hid (heap_below E1 bl HBX.out); obtain ⟨d0, d1, d2, d3, d4, d5, d6, d7, d8, d9, d10, dl⟩ := own11 UB.out; have ful : w.heap.size + 2 < u.heap.size := heap_lt UB.out; clear hI hb; go_wp2_with fail)
        | ((refine step_append_lies _ (by rfl) (.tmp 52) (.tmp 59) 26 (by rfl) (w.heap.size + 3) 28 i0 (.agg #[.int .i8 0, .string ⟨#[]⟩, .string ⟨#[]⟩, .int .i64 0, .int .i8 0, .slice none 0 0, .int .i8 0, .slice none 0 0, .int .i64 0, .int .i64 0, .slice none 0 0]) 11 152 Tryz.underlying26 hi hz0 hz1 hz2 (by rfl) (by decide) (.slice q'.A q'.n q'.c) i xs (by rfl) (HO2.out.alloc _) ⟨u.heap.size, 0, none⟩ 1 1 ((Tm.cnt h1).cells p') (by rfl) (by rfl) (World.news_of_block (cs := #[.int .i8 (Tm.cnt h1).kind, .string (Tm.cnt h1).name, .string (Tm.cnt h1).arg, .int .i64 (Tm.cnt h1).num, .int .i8 (Tm.cnt h1).tk, .slice p'.TA p'.tn p'.tc, .int .i8 (Tm.cnt h1).uk, .slice p'.UA p'.un p'.uc, .int .i64 (Tm.cnt h1).label, .int .i64 (Tm.cnt h1).pos, .slice p'.A p'.n p'.c]) (t := 28) (fr := (0, 0)) (heap_alloc_new u _)) (by simp [Value.oneCell']) (by omega) (by unfold maxLen; omega) (by omega) (by simp; omega) (u.heap.size + 1) (by simp) ?_); intro g cap w3 hown3 hgrow hat hlt3; have BB := Lib.hid (rbare_bx UB.out ful HLT.out hgrow); obtain ⟨e0, e1, e2, e3, e4, e5, e6, e7, e8, e9, e10, el⟩ := own11 BB.out; have fw10 := free11 BB.out 10))
      all_goals
        have hR3 := Lib.hid (HSTP.out u w3 p' g cap _ E1 HI.out hown3 hgrow hat)
        go_wp2_with fail
        go_roundw
        case rel => exact ⟨i + 1, _, r, _, _, by go_num, hR3.out⟩
        case measure => simp [intOf]; omega
end Go.Proofs.YtfkbdpehdabepaaGreatDoor
