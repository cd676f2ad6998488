/-
  Layer 4: the law's places: the walk.
-/
import Derived.Test.YtocehfklacjgbaaGreatDoorPlw
namespace Go.Proofs.YtocehfklacjgbaaGreatDoor
open Go.RowKit
namespace Plw
set_option maxHeartbeats 4000000 in
set_option maxRecDepth 100000 in
theorem places_any (s : ByteArray) (hs : s.size ≤ 16384) (K : Nat) : ∀ (h : Hd) (kids : Tm) (p : Pl) (w0 w : World) (v : Value) (xs : List Value), Tm.nodes kids < K → Tm.Is w0 h kids p → (∀ g ∈ h :: hds kids, At s g) → xs.length + (hds kids).length + 1 ≤ 16384 →
    (∀ W : World, Below w0.heap.size w0 W → Lib.TabIs Tryz.prog W "internal/strconv.uint64pow10" .u64 Lib.pow10Tab) → w.ownsRow w0.heap.size 3 1 v xs.length xs → Below w0.heap.size w0 w →
    Calls Tryz.prog 14 #[.agg #[.int .i8 h.kind, .string h.name, .string h.arg, .int .i64 h.num, .int .i8 h.tk, .slice p.TA p.tn p.tc, .int .i8 h.uk, .slice p.UA p.un p.uc, .int .i64 h.label, .int .i64 h.pos, .slice p.A p.n p.c], .string s, v] w fun e w' => ∃ v', e = .returned (.tuple #[v', .bool true]) ∧ w'.ownsRow w0.heap.size 3 1 v' (xs.length + (1 + (hds kids).length)) (xs ++ ps (h :: hds kids)) ∧ Grew w w' v v' := by
  induction K with
  | zero => intro _ _ _ _ _ _ _ hK; omega
  | succ K ih =>
    intro h kids p w0 w v xs hK hIs hA hb hT hO hB
    have hAt := hA h (List.mem_cons_self ..)
    obtain ⟨hnum, pp, t, hp, hne, hle, hcut0, hw⟩ := hAt
    have hw2 := hw
    unfold HeadW at hw
    rcases h with ⟨kd, nm, ar, nu, tk, tks, uk, uks, lb, po⟩
    dsimp only at hnum hp hw ⊢
    subst hp
    have hgt := hnum.1
    have hlt := hnum.2
    have hI1 := hIs.below hB
    have hw1b := ((Below.refl w.heap.size w).alloc (Nat.le_refl _) (.cells #[.int .i8 kd, .string nm, .string ar, .int .i64 nu, .int .i8 tk, .slice p.TA p.tn p.tc, .int .i8 uk, .slice p.UA p.un p.uc, .int .i64 lb, .int .i64 (pp : Int), .slice p.A p.n p.c] 30))
    have HR := Lib.hid (heap_new w (.cells #[.int .i8 kd, .string nm, .string ar, .int .i64 nu, .int .i8 tk, .slice p.TA p.tn p.tc, .int .i8 uk, .slice p.UA p.un p.uc, .int .i64 lb, .int .i64 (pp : Int), .slice p.A p.n p.c] 30))
    have HG1 := Lib.hid (Grew.below v hw1b)
    have HB1 := Lib.hid (hB.trans (hw1b.mono hB.size))
    have HO1 := Lib.hid (ownsRow_below hO hw1b)
    have HLT := Lib.hid hO.lt
    have HIS := Lib.hid hIs
    have HAA := Lib.hid hA
    have HT := Lib.hid hT
    have HIH := Lib.hid ih
    have hz0 := hB.size
    clear hI1 hw1b hIs hA hT ih hO hB hnum hw2
    have hpn : (pp : Int) < s.size := by
      have : 0 < t.length := List.length_pos_iff.2 hne
      omega
    have hsl : s.size ≤ 16384 := hs
    go_enter Tryz.func14, Tryz.ntmps14
    go_upto_region 2 with fail
    generalize hw1 : w.alloc (.cells #[.int .i8 kd, .string nm, .string ar, .int .i64 nu, .int .i8 tk, .slice p.TA p.tn p.tc, .int .i8 uk, .slice p.UA p.un p.uc, .int .i64 lb, .int .i64 (pp : Int), .slice p.A p.n p.c] 30) = w1 at *
    obtain ⟨q0, q1, q2, q3, q4, q5, q6, q7, q8, q9, q10, ql⟩ := own11 HR.out
    have j1 : ¬ ((pp : Int) < 0) := by omega
    have j2 : ¬ ((s.size : Int) ≤ pp) := by omega
    go_upto_block 0 with fail
    have HFM := Lib.hid (fun W hb => fmt_any nu hgt hlt W (HT.out W hb))
    go_cut [8] (fun s8 wx => s8 = .string ⟨t.toArray⟩ ∧ Below w1.heap.size w1 wx)
    case first =>
      have HCUT := Lib.hid hcut0
      have HR1 := Lib.hid (Below.refl w1.heap.size w1)
      clear hcut0 hlt hgt hb hK
      have e0 : ∀ {x : ByteArray}, t = x.toList → (⟨t.toArray⟩ : ByteArray) = x := fun {x} e => by
        rw [e, Lib.toList_data]
      rcases hw with ⟨hk | hk, ht⟩ | ⟨hk, hn, ht⟩ | ⟨hk, hn, ht⟩ | ⟨hk, ht⟩
      · have E := Lib.hid (e0 ht)
        clear ht e0 HIH
        subst hk
        go_wp2_with fail
        go_meet
        exact ⟨by rw [E.out], HR1.out⟩
      · have E := Lib.hid (e0 ht)
        clear ht e0 HIH
        subst hk
        go_wp2_with fail
        go_meet
        exact ⟨by rw [E.out], HR1.out⟩
      · subst hk
        have hi : Lib.itoa nu = t := by unfold Lib.itoa; rw [if_neg (by omega), ht]
        have j3 : ¬ (nu < 0) := by omega
        have hd0 : nu = 0 → ∀ hh : pp < s.size, ((s[pp]'hh).toNat : Int) = 48 := fun e hh => by
          subst e
          have q : t = [48] := by rw [ht]; exact Lib.decDigits_one (by omega)
          exact byte_of HCUT.out q hh
        have htn : Lib.itoa nu = t := hi
        have HTN := Lib.hid htn
        have HD := Lib.hid hd0
        clear e0 HIH ht hi hd0 htn
        go_wp2_with fail
        refine (HFM.out w1 HB1.out).mono ?_
        rintro e wu ⟨rfl, hbu⟩
        have HBU := Lib.hid hbu
        rw [HTN.out]
        obtain ⟨a0, a1, a2, a3, a4, a5, a6, a7, a8, a9, a10, al⟩ := own11 (heap_below hbu ql HR.out)
        clear hbu q0 q1 q2 q3 q4 q5 q6 q7 q8 q9 q10
        by_cases hz : nu = 0
        · have hd := HD.out hz
          have hd1 := hd (by omega)
          subst hz
          clear HD hd
          go_wp2_with fail
          go_meet
          exact ⟨rfl, HBU.out⟩
        · have hz1 : ¬ (nu ≤ 0) := by omega
          go_wp2_with fail
          go_meet
          exact ⟨rfl, HBU.out⟩
      · subst hk
        have HD := Lib.hid (fun hh : pp < s.size => byte_of HCUT.out ht hh)
        have HT2 := Lib.hid ht
        clear e0 HIH ht
        go_wp2_with fail
        refine (HFM.out w1 HB1.out).mono ?_
        rintro e wu ⟨rfl, hbu⟩
        have HBU := Lib.hid hbu
        obtain ⟨a0, a1, a2, a3, a4, a5, a6, a7, a8, a9, a10, al⟩ := own11 (heap_below hbu ql HR.out)
        clear hbu q0 q1 q2 q3 q4 q5 q6 q7 q8 q9 q10
        generalize Lib.itoa nu = zz at *
        by_cases hz : nu = 0
        · have hd1 := HD.out (by omega)
          subst hz
          clear HD
          go_wp2_with fail
          go_meet
          exact ⟨by rw [HT2.out], HBU.out⟩
        · have hz1 : nu < 0 := by omega
          go_wp2_with fail
          go_meet
          exact ⟨by rw [HT2.out], HBU.out⟩
      · have hz : kd = 2 ∨ kd = 3 ∨ kd = 4 ∨ kd = 5 ∨ kd = 6 ∨ kd = 7 ∨ kd = 8 ∨ kd = 9 ∨ kd = 10 ∨ kd = 11 ∨ kd = 12 ∨ kd = 13 ∨ kd = 14 ∨ kd = 16 := by omega
        have HT2 := Lib.hid ht
        clear ht e0 HIH hk
        rcases hz with rfl | rfl | rfl | rfl | rfl | rfl | rfl | rfl | rfl | rfl | rfl | rfl | rfl | rfl <;> (go_wp2_with fail; go_meet; exact ⟨by rw [HT2.out]; rfl, HR1.out⟩)
    case rest =>
      obtain ⟨rfl, hbc⟩ := hcut
      have HBC := Lib.hid hbc
      have R2 := Lib.hid (heap_below hbc ql HR.out)
      clear q0 q1 q2 q3 q4 q5 q6 q7 q8 q9 q10 hbc hw
      obtain ⟨q0, q1, q2, q3, q4, q5, q6, q7, q8, q9, q10, ql2⟩ := own11 R2.out
      have j3 : ¬ ((s.size : Int) < pp + (t.length : Int)) := by omega
      go_upto_region 40 with fail
      obtain ⟨T, hT0⟩ : ∃ T : ByteArray, T = ⟨t.toArray⟩ := ⟨_, rfl⟩
      rw [← hT0]
      have hTl : T.toList = t := by rw [hT0, Lib.toList_data]
      have hTs : T.size = t.length := by rw [hT0]; rfl
      have hx : s.extract pp (pp + T.size) = T := by
        rw [hTs]
        refine ByteArray.ext (Array.toList_inj.1 ?_)
        rw [← Lib.toList_data, ← Lib.toList_data, hTl]; exact hcut0
      have j4 : 0 < T.size := by rw [hTs]; exact List.length_pos_iff.2 hne
      have j5 : pp + T.size ≤ s.size := by rw [hTs]; exact hle
      have e1 : ¬ T.toList = [] := by rw [hTl]; exact hne
      have e2 : T.toList.isEmpty = false := by rw [hTl]; simpa using hne
      clear hT0 hTl hTs hcut0 hne hle j3
      have j6 : ¬ ((s.size : Int) < pp + (T.size : Int)) := by omega
      go_upto_region 42 with fail
      clear hx j4 j5 e1 e2 j6 HFM hs hsl hgt hlt
      obtain ⟨i0, hi, hz1, hz2, hz3⟩ := info_parts info_int
      have HO2 := Lib.hid (ownsRow_below HO1.out HBC.out)
      have HB2 := Lib.hid (HB1.out.trans (HBC.out.mono HB1.out.size))
      have HG2 := Lib.hid (HG1.out.trans (Grew.below v HBC.out))
      have z2 := HBC.out.size
      have z1 : w.heap.size < w1.heap.size := ql
      have hO := HO2.out
      clear HO1 HG1 HBC
      go_wp2_with (first | (at_builtin; refine wpList_append_own_at _ rfl (.tmp 103) (.tmp 106) 42 rfl w0.heap.size 3 i0 (.int .i64 0) 1 8 Tryz.underlying42 hi hz1 hz2 hz3 rfl (by decide) v xs.length xs rfl (hO.alloc _) ⟨wc.heap.size, 0, none⟩ 1 1 [.int .i64 pp] rfl rfl ?c1 ?c2 ?c3 ?c4 ?c5 ?_))
      case c2 => rfl
      case c3 => unfold maxLen; omega
      case c4 => omega
      case c5 => omega
      intro v1 w3 hown3 hg3 _ hat
      have hbx : Below wc.heap.size wc (wc.alloc (.cells #[.int .i64 pp] 3)) := (Below.refl _ _).alloc (Nat.le_refl _) _
      have hG3 : Grew wc w3 v v1 := (Grew.below v hbx).trans ⟨hg3, fun j hj => by
        rcases hat with q | q
        · exact .inr (by rw [← q]; exact hj)
        · rw [hj] at q; injection q with q; left; simp; omega⟩
      have hB3 : Below w0.heap.size w0 w3 := HB2.out.grown hG3.1 (by omega) fun k hk => (HLT.out k hk).1
      have hst : Rel w0 wc w3 s kids p.A p.n v v1 (xs ++ ps (⟨kd, nm, ar, nu, tk, tks, uk, uks, lb, pp⟩ :: hds kids)) 0 kids (xs ++ [.int .i64 pp]) :=
        ⟨HIS.out.lies, by rw [HIS.out.fit.n_eq]; omega, by simpa using hown3, by simp, hG3, hB3, fun g hg => HAA.out g (List.mem_cons_of_mem _ hg), Nat.le_refl _⟩
      have HST := Lib.hid hst
      have HFT := Lib.hid HIS.out.fit
      have hnl : p.n ≤ Tm.nodes kids := by rw [HFT.out.n_eq]; exact len_nodes kids
      have hnc := HFT.out.n_le
      have hcm := HFT.out.c_le
      have hne : v.ownBlock ≠ some w.heap.size := fun e => by have := (HLT.out _ e).2; omega
      have HBOX := Lib.hid (fun (W : World) (x : Value) (hg : Grew wc W v x) => (show W.heap[w.heap.size]? = some (.cells #[.int .i8 kd, .string nm, .string ar, .int .i64 nu, .int .i8 tk, .slice p.TA p.tn p.tc, .int .i8 uk, .slice p.UA p.un p.uc, .int .i64 lb, .int .i64 (pp : Int), .slice p.A p.n p.c] 30 (0, 0)) by rw [hg.1.block _ ql2 (fun e => hne e.symm)]; exact R2.out))
      clear q0 q1 q2 q3 q4 q5 q6 q7 q8 q9 q10 ql2 hst hown3 hg3 hat hbx hG3 hB3 hi hz1 hz2 hz3 hO
      have i5 : (p.n : Int) ≤ 9223372036854775807 := by unfold maxLen at hcm; omega
      go_upto_region 44 with fail
      go_wp2_with fail
      go_loopw [2, 9, 10] (fun v2 v9 v10 wr => ∃ (i : Nat) (rest : Tm) (ys : List Value), v9 = .bool true ∧ v10 = .int .i64 i ∧ Rel w0 wc wr s kids p.A p.n v v2 (xs ++ ps (⟨kd, nm, ar, nu, tk, tks, uk, uks, lb, pp⟩ :: hds kids)) i rest ys) (fun _ _ v _ => p.n - (intOf v).toNat)
      case atStart => exact ⟨0, kids, _, rfl, rfl, HST.out⟩
      case round =>
        obtain ⟨i, rest, ys, rfl, rfl, hR⟩ := hrel
        obtain ⟨q0, q1, q2, q3, q4, q5, q6, q7, q8, q9, q10, ql2⟩ := own11 (HBOX.out _ _ hR.grew)
        have h1 := hR.sum
        cases rest with
        | nil =>
          have hi2 : i = p.n := by simpa [Tm.len] using h1
          have HFIN := Lib.hid hR
          clear hR h1
          have j7 : ¬ ((i : Int) < p.n) := by omega
          go_wp2_with fail
          go_ret2
          have q := HFIN.out.all
          simp only [hds, ps, List.map_nil, List.append_nil] at q
          subst q
          refine ⟨_, rfl, ?_, HG2.out.trans HFIN.out.grew⟩
          have e := HFIN.out.own
          simp only [List.map_cons, List.length_append, List.length_cons, List.length_map] at e ⊢
          rw [show xs.length + (1 + (hds kids).length) = xs.length + ((hds kids).length + 1) by omega]
          exact e
        | node g1 k1 r =>
          have h2 := hR.lies
          have h3 := hR.sub
          have h4 := hR.below
          simp only [Tm.len, Tm.nodes] at h1 h3
          obtain ⟨bb, oo, p1, hA, hcs, hft, hl1, hl2⟩ := h2
          have hc1 : ∀ j x, (g1.cells p1)[j]? = some x → wr.cell? ⟨bb, oo + i * 11 + j, none⟩ = some x := fun j x hx => by
            have := hcs j x hx
            rw [h4.cell (p := ⟨bb, _, none⟩) (Ty.cell_lt this)]; exact this
          have hs' : i < p.n := by omega
          have hcall := HIH.out g1 k1 p1 w0 wr u2 ys (by omega) ⟨hft, hl1⟩ (fun g hg => hR.heads g (by simp only [hds, List.mem_cons, List.mem_append] at hg ⊢; rcases hg with hg | hg <;> simp [hg])) (by
            have q := congrArg List.length hR.all
            simp only [ps, hds, List.map_cons, List.map_append, List.length_append, List.length_cons, List.length_map] at q
            omega) HT.out hR.own h4
          have c0 := hc1 0 _ rfl
          have c1 := hc1 1 _ rfl
          have c2 := hc1 2 _ rfl
          have c3 := hc1 3 _ rfl
          have c4 := hc1 4 _ rfl
          have c5 := hc1 5 _ rfl
          have c6 := hc1 6 _ rfl
          have c7 := hc1 7 _ rfl
          have c8 := hc1 8 _ rfl
          have c9 := hc1 9 _ rfl
          have c10 := hc1 10 _ rfl
          simp only [Nat.add_zero] at c0
          have HC := Lib.hid hcall
          have HRR := Lib.hid hR
          have HAA2 := Lib.hid hA
          have HL2 := Lib.hid hl2
          have j7 : (i : Int) < p.n := by omega
          have j8 : (0 : Int) ≤ i ∧ (i : Int) < p.n := by omega
          clear hcall hR hc1 hcs hft hl1 hl2 h4 hA h3
          rw [HAA2.out] at q10
          clear HAA2
          go_wp2_with fail
          refine HC.out.mono ?_
          rintro e wz ⟨v', rfl, hown, hg⟩
          have hrel : Rel w0 wc wz s kids p.A p.n v v' (xs ++ ps (⟨kd, nm, ar, nu, tk, tks, uk, uks, lb, pp⟩ :: hds kids)) (i + 1) r (ys ++ ps (g1 :: hds k1)) := by
            obtain ⟨r1, r2, r3, r4, r5, r6, r7, r8⟩ := HRR.out
            refine ⟨HL2.out, by omega, ?_, ?_, r5.trans hg, r6.grown hg.1 r6.size fun k hk => (r3.lt k hk).1, fun g hg => r7 g (by simp only [hds, List.mem_cons, List.mem_append]; exact .inr (.inr hg)), ?_⟩
            · rw [show (ys ++ ps (g1 :: hds k1)).length = ys.length + (1 + (hds k1).length) by simp; omega]
              exact hown
            · rw [← r4]; simp [hds]
            · simp only [Tm.nodes] at r8; omega
          have HREL := Lib.hid hrel
          clear hrel hown hg
          go_wp2_with fail
          go_roundw
          case rel => exact ⟨i + 1, r, _, rfl, by go_num, HREL.out⟩
          case measure => simp [intOf]; omega
end Plw
end Go.Proofs.YtocehfklacjgbaaGreatDoor
