/-
  Layer 9: the law's Lessened: the kinds that hold a type; all.
-/
import Derived.Test.YtekjhcfjpedbkaaGreatDoorM21
namespace Go.Proofs.YtekjhcfjpedbkaaGreatDoor
open Go.RowKit

set_option maxHeartbeats 8000000 in
set_option maxRecDepth 100000 in
theorem lessened_one (L : List Bool) (LA : Option Addr) (ll lc : Nat) (wb : World) (K : Nat)
    (ih : ∀ (h : Hd) (kids : Tm) (p : Pl) (m : Nat) (W : World), Tm.nodes kids < K → Tm.Is wb h kids p → Below wb.heap.size wb W → BAt W L LA ll lc → Tm.okT h kids = true → Ck.castT h kids = false → m + Tm.nd h kids ≤ 1000000 → Calls Tryz.prog 15 #[.agg #[.int .i8 h.kind, .string h.name, .string h.arg, .int .i64 h.num, .int .i8 h.tk, .slice p.TA p.tn p.tc, .int .i8 h.uk, .slice p.UA p.un p.uc, .int .i64 h.label, .int .i64 h.pos, .slice p.A p.n p.c], .slice LA ll lc, .int .i64 m] W (LsdPost wb W (Ls.lesH L h m) (Ls.lsF L kids (Ls.lesH L h m).2)))
    (h : Hd) (kids : Tm) (p : Pl) (m : Nat) (W : World) (hK : Tm.nodes kids < K + 1) (hIs : Tm.Is wb h kids p) (hwb : Below wb.heap.size wb W) (hL : BAt W L LA ll lc) (ho : Tm.okT h kids = true) (hc : Ck.castT h kids = false) (hm : m + Tm.nd h kids ≤ 1000000) (h4 : h.kind = 4 ∨ h.kind = 7 ∨ h.kind = 12 ∨ h.kind = 13 ∨ h.kind = 16) :
    Calls Tryz.prog 15 #[.agg #[.int .i8 h.kind, .string h.name, .string h.arg, .int .i64 h.num, .int .i8 h.tk, .slice p.TA p.tn p.tc, .int .i8 h.uk, .slice p.UA p.un p.uc, .int .i64 h.label, .int .i64 h.pos, .slice p.A p.n p.c], .slice LA ll lc, .int .i64 m] W (LsdPost wb W (Ls.lesH L h m) (Ls.lsF L kids (Ls.lesH L h m).2)) := by
  have hHH : Ls.lesH L h m = ({ h with tk := (Ls.les L (h.tk, h.tkids) m).1.1, tkids := (Ls.les L (h.tk, h.tkids) m).1.2 }, (Ls.les L (h.tk, h.tkids) m).2) := by unfold Ls.lesH; rw [if_neg (by omega), if_pos h4]; rfl
  obtain ⟨hik, hlen, hokF⟩ := Ck.okT_parts ho
  obtain ⟨h17, hcF⟩ := Ck.castT_parts hc
  have hho := ho
  unfold Tm.okT Tm.headOk Tm.tysOk at hho
  simp only [Bool.and_eq_true, Bool.or_eq_true, Bool.not_eq_true', beq_iff_eq] at hho
  have e1 : Tm.hasType h.kind = true := by unfold Tm.hasType; simp only [decide_eq_true_eq]; omega
  have hct : Ty.chk h.tk h.tkids = 0 := by
    rcases hho.1.2.1 with q | q
    · rw [e1] at q; cases q
    · exact q
  have nt : Ty.nod h.tkids = Ty.nodes h.tkids + 1 := Ls.nod_ok (Ty.chk_ok hct).2.1
  have e2 : Tm.hasTo h.kind = false := by unfold Tm.hasTo; simp only [decide_eq_false_iff_not]; omega
  have hty : Tm.tyN h = Ty.nodes h.tkids + 1 := by unfold Tm.tyN; rw [e1, e2, if_pos rfl, if_neg (by decide), nt]
  have c0 := Ls.les_cnt L (h.tk, h.tkids) m
  skip
  dsimp only at c0 
  unfold Tm.nd at hm
  rw [hty] at hm
  have HN0 := Lib.hid (show m + (Ty.nodes h.tkids + 1) ≤ 1000000 by omega)
  skip
  have HMM := Lib.hid (show (Ls.les L (h.tk, h.tkids) m).2 + Tm.nodes kids ≤ 1000000 by omega)
  have HIST := Lib.hid hIs.fit.ty
  have HISU := Lib.hid hIs.fit.to
  have hb0 := below_n2 W (.cells #[.int .i8 h.kind, .string h.name, .string h.arg, .int .i64 h.num, .int .i8 h.tk, .slice p.TA p.tn p.tc, .int .i8 h.uk, .slice p.UA p.un p.uc, .int .i64 h.label, .int .i64 h.pos, .slice p.A p.n p.c] 28) (.cells #[.int .i8 0, .string ⟨#[]⟩, .string ⟨#[]⟩, .int .i64 0, .int .i8 0, .slice none 0 0, .int .i8 0, .slice none 0 0, .int .i64 0, .int .i64 0, .slice none 0 0] 28)
  obtain ⟨x0, x1⟩ := heap_n2 W (.cells #[.int .i8 h.kind, .string h.name, .string h.arg, .int .i64 h.num, .int .i8 h.tk, .slice p.TA p.tn p.tc, .int .i8 h.uk, .slice p.UA p.un p.uc, .int .i64 h.label, .int .i64 h.pos, .slice p.A p.n p.c] 28) (.cells #[.int .i8 0, .string ⟨#[]⟩, .string ⟨#[]⟩, .int .i64 0, .int .i8 0, .slice none 0 0, .int .i8 0, .slice none 0 0, .int .i64 0, .int .i64 0, .slice none 0 0] 28)
  have hz0 : ((W.alloc (.cells #[.int .i8 h.kind, .string h.name, .string h.arg, .int .i64 h.num, .int .i8 h.tk, .slice p.TA p.tn p.tc, .int .i8 h.uk, .slice p.UA p.un p.uc, .int .i64 h.label, .int .i64 h.pos, .slice p.A p.n p.c] 28)).alloc (.cells #[.int .i8 0, .string ⟨#[]⟩, .string ⟨#[]⟩, .int .i64 0, .int .i8 0, .slice none 0 0, .int .i8 0, .slice none 0 0, .int .i64 0, .int .i64 0, .slice none 0 0] 28)).heap.size = W.heap.size + 2 := by simp
  generalize hw1 : (W.alloc (.cells #[.int .i8 h.kind, .string h.name, .string h.arg, .int .i64 h.num, .int .i8 h.tk, .slice p.TA p.tn p.tc, .int .i8 h.uk, .slice p.UA p.un p.uc, .int .i64 h.label, .int .i64 h.pos, .slice p.A p.n p.c] 28)).alloc (.cells #[.int .i8 0, .string ⟨#[]⟩, .string ⟨#[]⟩, .int .i64 0, .int .i8 0, .slice none 0 0, .int .i8 0, .slice none 0 0, .int .i64 0, .int .i64 0, .slice none 0 0] 28) = w1 at *
  have HW1 := Lib.hid hw1
  have HB := Lib.hid hb0
  have HX3 := Lib.hid x0
  have HX6 := Lib.hid x1
  have HSZ := Lib.hid (show W.heap.size + 2 ≤ w1.heap.size by omega)
  have HWB := Lib.hid hwb
  have HWBC := Lib.hid (hwb.trans (hb0.mono hwb.size))
  have HFT := Lib.hid hIs.fit
  rw [hHH]
  obtain ⟨TF, hTF⟩ : ∃ TF, (Ls.lsF L kids (Ls.les L (h.tk, h.tkids) m).2).1 = TF := ⟨_, rfl⟩
  obtain ⟨MF, hMF⟩ : ∃ MF, (Ls.lsF L kids (Ls.les L (h.tk, h.tkids) m).2).2 = MF := ⟨_, rfl⟩
  have HTF := Lib.hid (show Ls.tcat .nil (Ls.lsF L kids (Ls.les L (h.tk, h.tkids) m).2).1 = TF from hTF)
  have HMF := Lib.hid hMF
  have hpost : ∀ e w', LsdPost wb W ({ h with tk := (Ls.les L (h.tk, h.tkids) m).1.1, tkids := (Ls.les L (h.tk, h.tkids) m).1.2 }, (Ls.les L (h.tk, h.tkids) m).2) (TF, MF) e w' → LsdPost wb W ({ h with tk := (Ls.les L (h.tk, h.tkids) m).1.1, tkids := (Ls.les L (h.tk, h.tkids) m).1.2 }, (Ls.les L (h.tk, h.tkids) m).2) (Ls.lsF L kids (Ls.les L (h.tk, h.tkids) m).2) e w' := fun e w' q => by rw [← hTF, ← hMF] at q; exact q
  refine Calls.mono ?_ hpost
  have HPN := Lib.hid (show p.n = Tm.len kids from hIs.fit.n_eq)
  have HLI := Lib.hid hIs.lies
  have HOK := Lib.hid (And.intro hokF hcF)
  have IH := Lib.hid ih
  have HKB := Lib.hid hK
  have HLL := Lib.hid hL
  have HN9 := Lib.hid (show p.n ≤ 8192 by have h1 := hIs.fit.n_eq; have h2 := Tm.len_le_nodes kids; rw [h1, hlen]; unfold Tm.kidsN; split; omega; split; omega; split <;> omega)
  have hpn3 := HN9.out
  have i5 : (p.n : Int) ≤ 8192 := by omega
  obtain ⟨i0, hi, hz1, hz2, hz3⟩ := info_parts info_Tm9
  clear hik hlen hokF h17 hcF ho hho hc hm hIs hwb hb0 x0 x1 hw1 hz0 hHH hTF hMF hpost ih hK hL e1 e2 hct nt hty c0 
  rcases h4 with hk | hk | hk | hk | hk
  case' inl =>
    have k5 : (h.kind == 5) = false := by rw [hk]; rfl
    have k4 : (h.kind == 4) = true := by rw [hk]; rfl
    have k7 : (h.kind == 7) = false := by rw [hk]; rfl
    have k12 : (h.kind == 12) = false := by rw [hk]; rfl
    have k13 : (h.kind == 13) = false := by rw [hk]; rfl
    have k16 : (h.kind == 16) = false := by rw [hk]; rfl
  case' inr.inl =>
    have k5 : (h.kind == 5) = false := by rw [hk]; rfl
    have k4 : (h.kind == 4) = false := by rw [hk]; rfl
    have k7 : (h.kind == 7) = true := by rw [hk]; rfl
    have k12 : (h.kind == 12) = false := by rw [hk]; rfl
    have k13 : (h.kind == 13) = false := by rw [hk]; rfl
    have k16 : (h.kind == 16) = false := by rw [hk]; rfl
  case' inr.inr.inl =>
    have k5 : (h.kind == 5) = false := by rw [hk]; rfl
    have k4 : (h.kind == 4) = false := by rw [hk]; rfl
    have k7 : (h.kind == 7) = false := by rw [hk]; rfl
    have k12 : (h.kind == 12) = true := by rw [hk]; rfl
    have k13 : (h.kind == 13) = false := by rw [hk]; rfl
    have k16 : (h.kind == 16) = false := by rw [hk]; rfl
  case' inr.inr.inr.inl =>
    have k5 : (h.kind == 5) = false := by rw [hk]; rfl
    have k4 : (h.kind == 4) = false := by rw [hk]; rfl
    have k7 : (h.kind == 7) = false := by rw [hk]; rfl
    have k12 : (h.kind == 12) = false := by rw [hk]; rfl
    have k13 : (h.kind == 13) = true := by rw [hk]; rfl
    have k16 : (h.kind == 16) = false := by rw [hk]; rfl
  case' inr.inr.inr.inr =>
    have k5 : (h.kind == 5) = false := by rw [hk]; rfl
    have k4 : (h.kind == 4) = false := by rw [hk]; rfl
    have k7 : (h.kind == 7) = false := by rw [hk]; rfl
    have k12 : (h.kind == 12) = false := by rw [hk]; rfl
    have k13 : (h.kind == 13) = false := by rw [hk]; rfl
    have k16 : (h.kind == 16) = true := by rw [hk]; rfl
  all_goals
    clear hk
    go_enter Tryz.func15, Tryz.ntmps15
    go_upto_region 1 with fail
    rw [HW1.out]
    obtain ⟨q0, q1, q2, q3, q4, q5, q6, q7, q8, q9, q10, ql⟩ := own11 HX3.out
    have CL0 := Lib.hid (lessen_any L LA ll lc (Ty.nodes h.tkids + 1) h.tk h.tkids p.TA p.tn p.tc m w1 (Nat.lt_succ_self _) (HIST.out.below HWBC.out) (HLL.out.below HB.out) HN0.out)
    go_wp2_with fail
    refine CL0.out.mono ?_
    rintro e u0 ⟨G0, n0, c0, rfl, hT0, hb0⟩
    have x3 := heap_below hb0 (heap_lt HX3.out) HX3.out
    have x6 := heap_below hb0 (heap_lt HX6.out) HX6.out
    have hcs := HSZ.out
    have y3 : ((u0.setCell ⟨W.heap.size, 4, none⟩ (.int .i8 (Ls.les L (h.tk, h.tkids) m).1.1)).setCell ⟨W.heap.size, 5, none⟩ (.slice G0 n0 c0)).heap[W.heap.size]? = some (.cells #[.int .i8 h.kind, .string h.name, .string h.arg, .int .i64 h.num, .int .i8 (Ls.les L (h.tk, h.tkids) m).1.1, .slice G0 n0 c0, .int .i8 h.uk, .slice p.UA p.un p.uc, .int .i64 h.label, .int .i64 h.pos, .slice p.A p.n p.c] 28 (0, 0)) := by simp [World.setCell, Array.getElem?_modify, x3]
    have y6 : ((u0.setCell ⟨W.heap.size, 4, none⟩ (.int .i8 (Ls.les L (h.tk, h.tkids) m).1.1)).setCell ⟨W.heap.size, 5, none⟩ (.slice G0 n0 c0)).heap[W.heap.size + 1]? = some (.cells #[.int .i8 0, .string ⟨#[]⟩, .string ⟨#[]⟩, .int .i64 0, .int .i8 0, .slice none 0 0, .int .i8 0, .slice none 0 0, .int .i64 0, .int .i64 0, .slice none 0 0] 28 (0, 0)) := by simp [World.setCell, Array.getElem?_modify, x6]
    have yB : Below W.heap.size W ((u0.setCell ⟨W.heap.size, 4, none⟩ (.int .i8 (Ls.les L (h.tk, h.tkids) m).1.1)).setCell ⟨W.heap.size, 5, none⟩ (.slice G0 n0 c0)) := ((HB.out.trans (hb0.mono HB.out.size)).setCell (p := ⟨W.heap.size, 4, none⟩) (Nat.le_refl _) _).setCell (p := ⟨W.heap.size, 5, none⟩) (Nat.le_refl _) _
    have yS : W.heap.size + 2 ≤ ((u0.setCell ⟨W.heap.size, 4, none⟩ (.int .i8 (Ls.les L (h.tk, h.tkids) m).1.1)).setCell ⟨W.heap.size, 5, none⟩ (.slice G0 n0 c0)).heap.size := by have := hb0.size; simp [World.setCell]; omega
    have yW : Below wb.heap.size wb ((u0.setCell ⟨W.heap.size, 4, none⟩ (.int .i8 (Ls.les L (h.tk, h.tkids) m).1.1)).setCell ⟨W.heap.size, 5, none⟩ (.slice G0 n0 c0)) := ((HWBC.out.trans (hb0.mono HWBC.out.size)).setCell (p := ⟨W.heap.size, 4, none⟩) HWB.out.size _).setCell (p := ⟨W.heap.size, 5, none⟩) HWB.out.size _
    have yT : Ck.Ly (fun b => b < wb.heap.size ∨ W.heap.size + 2 ≤ b) ((u0.setCell ⟨W.heap.size, 4, none⟩ (.int .i8 (Ls.les L (h.tk, h.tkids) m).1.1)).setCell ⟨W.heap.size, 5, none⟩ (.slice G0 n0 c0)) (Ls.les L (h.tk, h.tkids) m).1 G0 n0 c0 := Lone.to hT0 fun b o x hP hx => by
      have hP2 : w1.heap.size ≤ b := hP
      refine ⟨.inr (by omega), ?_⟩
      rw [World.cell?_setCell_other _ _ _ _ (fun e => by injection e with e; omega), World.cell?_setCell_other _ _ _ _ (fun e => by injection e with e; omega)]
      exact hx
    clear q0 q1 q2 q3 q4 q5 q6 q7 q8 q9 q10 ql
    obtain ⟨q0, q1, q2, q3, q4, q5, q6, q7, q8, q9, q10, ql⟩ := own11 x3
    have f4 := fz11 x3 4
    have f5 := fz11 x3 5
    clear hT0 hb0 hcs x6 
    go_upto_region 11 with fail
    generalize ((u0.setCell ⟨W.heap.size, 4, none⟩ (.int .i8 (Ls.les L (h.tk, h.tkids) m).1.1)).setCell ⟨W.heap.size, 5, none⟩ (.slice G0 n0 c0)) = wl at *
    have HX3 := Lib.hid y3
    have HX6 := Lib.hid y6
    have HB := Lib.hid yB
    have HSZ := Lib.hid yS
    have HWBC := Lib.hid yW
    have HT1K := Lib.hid yT

    clear q0 q1 q2 q3 q4 q5 q6 q7 q8 q9 q10 ql f4 f5 x3 y3 y6 yB yS yW yT 
    have HWBL := HWBC
    have HTY := HT1K
    have HTO : Hid (Ck.Ly (fun b => b < wb.heap.size ∨ W.heap.size + 2 ≤ b) wl (h.uk, h.ukids) p.UA p.un p.uc) := Lib.hid (((Ck.Ly.of (a := (h.uk, h.ukids)) HISU.out).weak fun b hb _ => .inl hb).later HWBC.out)

    obtain ⟨q0, q1, q2, q3, q4, q5, q6, q7, q8, q9, q10, ql⟩ := own11 HX3.out
    go_wp2_with fail
    clear q0 q1 q2 q3 q4 q5 q6 q7 q8 q9 q10 ql
    go_loopw [2, 8, 52] (fun v2 v8 v52 wr => ∃ (i m' : Nat) (done rest : Tm) (xs : List Value), v52 = .int .i64 i ∧ v2 = .int .i64 m' ∧ Ls.LtRel wb wl wr p.A kids v8 p.n i done rest xs ∧ Ls.tcat done (Ls.lsF L rest m').1 = TF ∧ (Ls.lsF L rest m').2 = MF ∧ m' + Tm.nodes rest ≤ 1000000 ∧ Tm.okF rest = true ∧ Ck.castF rest = false) (fun _ _ v _ => p.n - (intOf v).toNat)
    case atStart => exact ⟨0, (Ls.les L (h.tk, h.tkids) m).2, .nil, kids, [], rfl, rfl, ⟨rfl, by have := HPN.out; omega, HLI.out, Below.refl _ _, ⟨rfl, .inl ⟨rfl, rfl⟩⟩, rfl, Nat.le_refl _⟩, HTF.out, HMF.out, HMM.out, HOK.out.1, HOK.out.2⟩
    case round =>
      obtain ⟨i, m', done, rest, xs, rfl, rfl, hR, htf, hmf, hmm, hokr, hcr⟩ := hrel
      have HRB := Lib.hid hR.below
      cases rest with
      | nil =>
        have hi2 : i = p.n := by have := hR.i_eq; simpa [Tm.len] using this
        subst hi2
        obtain ⟨G, cg, rfl, hdn, hdc, hdm, hdl⟩ := hR.done
        simp only [Ls.lsF, Ls.tcat_nil] at htf hmf
        subst htf hmf
        have HD := Lib.hid hdl
        have HDN := Lib.hid (And.intro hdn (And.intro hdc hdm))
        have x3 := heap_below HRB.out (heap_lt HX3.out) HX3.out
        have x6 := heap_below HRB.out (heap_lt HX6.out) HX6.out
        have hf3 := fz11 x3 10
        have hs1 := HSZ.out
        have hs2 := HRB.out.size
        obtain ⟨q0, q1, q2, q3, q4, q5, q6, q7, q8, q9, q10, ql⟩ := own11 x3
        have x3b : (wr.setCell ⟨W.heap.size, 10, none⟩ (.slice G p.n cg)).heap[W.heap.size]? = some (.cells #[.int .i8 h.kind, .string h.name, .string h.arg, .int .i64 h.num, .int .i8 (Ls.les L (h.tk, h.tkids) m).1.1, .slice G0 n0 c0, .int .i8 h.uk, .slice p.UA p.un p.uc, .int .i64 h.label, .int .i64 h.pos, .slice G p.n cg] 28 (0, 0)) := by simp [World.setCell, Array.getElem?_modify, x3]
        have x6b : (wr.setCell ⟨W.heap.size, 10, none⟩ (.slice G p.n cg)).heap[W.heap.size + 1]? = some (.cells #[.int .i8 0, .string ⟨#[]⟩, .string ⟨#[]⟩, .int .i64 0, .int .i8 0, .slice none 0 0, .int .i8 0, .slice none 0 0, .int .i64 0, .int .i64 0, .slice none 0 0] 28 (0, 0)) := by simp [World.setCell, Array.getElem?_modify, x6]
        have HX3B := Lib.hid x3b
        have HX6B := Lib.hid x6b
        have HBB := Lib.hid ((HB.out.trans (HRB.out.mono HB.out.size)).setCell (p := ⟨W.heap.size, 10, none⟩) (Nat.le_refl _) (.slice G p.n cg))
        have HCC := Lib.hid (fun (b o : Nat) (x : Value) (hne : b ≠ W.heap.size) (hx : wr.cell? ⟨b, o, none⟩ = some x) => (show (wr.setCell ⟨W.heap.size, 10, none⟩ (.slice G p.n cg)).cell? ⟨b, o, none⟩ = some x by rw [World.cell?_setCell_other _ _ _ _ (fun e => hne (by injection e with e; exact e.symm))]; exact hx))
        clear hR x3 x6 x3b x6b hdl hdn hdc hdm
        go_upto_region 20 with fail
        generalize wr.setCell ⟨W.heap.size, 10, none⟩ (.slice G p.n cg) = wz at *
        clear q0 q1 q2 q3 q4 q5 q6 q7 q8 q9 q10 ql hf3
        obtain ⟨q0, q1, q2, q3, q4, q5, q6, q7, q8, q9, q10, ql⟩ := own11 HX3B.out
        obtain ⟨y0, y1, y2, y3, y4, y5, y6, y7, y8, y9, y10, yl⟩ := own11 HX6B.out
        have f0 := fz11 HX6B.out 0; have f1 := fz11 HX6B.out 1; have f2 := fz11 HX6B.out 2; have f3 := fz11 HX6B.out 3; have f4 := fz11 HX6B.out 4; have f5 := fz11 HX6B.out 5; have f6 := fz11 HX6B.out 6; have f7 := fz11 HX6B.out 7; have f8 := fz11 HX6B.out 8; have f9 := fz11 HX6B.out 9; have f10 := fz11 HX6B.out 10
        go_wp2_with fail
        have z := set11_own HX6B.out (.int .i8 h.kind) (.string h.name) (.string h.arg) (.int .i64 h.num) (.int .i8 (Ls.les L (h.tk, h.tkids) m).1.1) (.slice G0 n0 c0) (.int .i8 h.uk) (.slice p.UA p.un p.uc) (.int .i64 h.label) (.int .i64 h.pos) (.slice G p.n cg)
        have hbz := set11_below HBB.out (show W.heap.size ≤ W.heap.size + 1 by omega) (.int .i8 h.kind) (.string h.name) (.string h.arg) (.int .i64 h.num) (.int .i8 (Ls.les L (h.tk, h.tkids) m).1.1) (.slice G0 n0 c0) (.int .i8 h.uk) (.slice p.UA p.un p.uc) (.int .i64 h.label) (.int .i64 h.pos) (.slice G p.n cg)
        have hcz := fun (b o : Nat) (x : Value) (hne : b ≠ W.heap.size + 1) (hx : wz.cell? ⟨b, o, none⟩ = some x) => set11_cell hx hne (.int .i8 h.kind) (.string h.name) (.string h.arg) (.int .i64 h.num) (.int .i8 (Ls.les L (h.tk, h.tkids) m).1.1) (.slice G0 n0 c0) (.int .i8 h.uk) (.slice p.UA p.un p.uc) (.int .i64 h.label) (.int .i64 h.pos) (.slice G p.n cg)
        unfold set11 at z hbz hcz
        obtain ⟨k0, k1, k2, k3, k4, k5, k6, k7, k8, k9, k10, kl⟩ := own11 z
        refine bodyPost_ret (v := .tuple #[.agg #[.int .i8 h.kind, .string h.name, .string h.arg, .int .i64 h.num, .int .i8 (Ls.les L (h.tk, h.tkids) m).1.1, .slice G0 n0 c0, .int .i8 h.uk, .slice p.UA p.un p.uc, .int .i64 h.label, .int .i64 h.pos, .slice G p.n cg], .int .i64 m']) (by simp [results, Tryz.results15, go_sem, k0, k1, k2, k3, k4, k5, k6, k7, k8, k9, k10]) rfl ?_
        refine ⟨(⟨G0, n0, c0, p.UA, p.un, p.uc, G, p.n, cg⟩ : Pl), ?_, fun u hu => ?_, hbz⟩
        · rfl
        · have hk : ∀ b o x, (b < wb.heap.size ∨ wl.heap.size ≤ b) → wr.cell? ⟨b, o, none⟩ = some x → u.cell? ⟨b, o, none⟩ = some x := fun b o x hP hx => by
            have hwbs := HWB.out.size
            refine hu b o x (by rcases hP with q | q; exact .inl q; exact .inr (by omega)) (hcz b o x (by rcases hP with q | q <;> omega) (HCC.out b o x (by rcases hP with q | q <;> omega) hx))
          have hk2 : ∀ b o x, (fun b => b < wb.heap.size ∨ W.heap.size + 2 ≤ b) b → wl.cell? ⟨b, o, none⟩ = some x → u.cell? ⟨b, o, none⟩ = some x := fun b o x hP hx => by
            have hwbs := HWB.out.size
            have hx2 := keep_cell hx HRB.out
            refine hu b o x (by rcases hP with q | q; exact .inl q; exact .inr (by omega)) (hcz b o x (by rcases hP with q | q <;> omega) (HCC.out b o x (by rcases hP with q | q <;> omega) hx2))
          have hF := HFT.out
          exact ⟨⟨HTY.out u hk2, HTO.out u hk2, HDN.out.1, HDN.out.2.1, HDN.out.2.2, hF.klo, hF.khi, hF.llo, hF.lhi, hF.nm, hF.ar⟩, HD.out u hk⟩
      | node h1 k1 r =>
        have hie := hR.i_eq
        have hsb := hR.sub
        have hO := hR.own
        have hok1 := Ck.okF_node' hokr
        have hcr0 := hcr
        simp only [Tm.len, Tm.nodes] at hie hsb
        simp only [Ck.castF, Bool.or_eq_false_iff] at hcr
        obtain ⟨bb, oo, q, hA, hcl, hft, hkl, hrl⟩ := hR.lies
        simp only [Tm.nodes] at hmm
        have hc1 : Ck.castT h1 k1 = false := by unfold Ck.castT; rw [hcr.1.1, hcr.1.2]; rfl
        have hbwl := HWBL.out
        have hcall := fun (W2 : World) (hb : Below wr.heap.size wr W2) => IH.out h1 k1 q m' W2 (by have := HKB.out; omega) ⟨hft, hkl⟩ (hbwl.trans ((HRB.out.trans (hb.mono HRB.out.size)).mono hbwl.size)) (HLL.out.below (HB.out.trans ((HRB.out.trans (hb.mono HRB.out.size)).mono HB.out.size))) hok1.1 hc1 (by unfold Tm.nd; omega)
        have hstp := fun W2 u u2 w3 v' p2 o2 X hW hX hb hI hu2 hu2c hu2s hown hg hat => Ls.LtRel.step (W := W2) (u := u) (u2 := u2) (w3 := w3) (v' := v') (h' := (Ls.lesH L h1 m').1) (k' := (Ls.lsF L k1 (Ls.lesH L h1 m').2).1) (p := p2) (o2 := o2) (X := X) hR hbwl.size hW hX hb hI hu2 hu2c hu2s hown hg hat hrl
        have d0 := keep_cell (hcl 0 _ rfl) (hbwl.trans (HRB.out.mono hbwl.size))
        have d1 := keep_cell (hcl 1 _ rfl) (hbwl.trans (HRB.out.mono hbwl.size))
        have d2 := keep_cell (hcl 2 _ rfl) (hbwl.trans (HRB.out.mono hbwl.size))
        have d3 := keep_cell (hcl 3 _ rfl) (hbwl.trans (HRB.out.mono hbwl.size))
        have d4 := keep_cell (hcl 4 _ rfl) (hbwl.trans (HRB.out.mono hbwl.size))
        have d5 := keep_cell (hcl 5 _ rfl) (hbwl.trans (HRB.out.mono hbwl.size))
        have d6 := keep_cell (hcl 6 _ rfl) (hbwl.trans (HRB.out.mono hbwl.size))
        have d7 := keep_cell (hcl 7 _ rfl) (hbwl.trans (HRB.out.mono hbwl.size))
        have d8 := keep_cell (hcl 8 _ rfl) (hbwl.trans (HRB.out.mono hbwl.size))
        have d9 := keep_cell (hcl 9 _ rfl) (hbwl.trans (HRB.out.mono hbwl.size))
        have d10 := keep_cell (hcl 10 _ rfl) (hbwl.trans (HRB.out.mono hbwl.size))
        rw [Nat.add_zero] at d0
        have HC := Lib.hid hcall
        have HSTP := Lib.hid hstp
        have HTF2 := Lib.hid htf
        have HMF2 := Lib.hid hmf
        have HNX := Lib.hid (And.intro hok1.2 hcr.2)
        have hcnt1 := (Ls.lesH_ok L h1 m' (Tm.len k1) (by have := hok1.1; unfold Tm.okT at this; rw [Bool.and_eq_true] at this; exact this.1) (Ck.castT_parts hc1).1).2.2.2.2.2
        have hcnt2 := Ls.lsF_cnt L k1 (Ls.lesH L h1 m').2 (by have := hok1.1; unfold Tm.okT at this; rw [Bool.and_eq_true] at this; exact this.2) (Ck.castT_parts hc1).2
        have HCNT := Lib.hid (show (Ls.lsF L k1 (Ls.lesH L h1 m').2).2 + Tm.nodes r ≤ 1000000 by omega)
        have j1 : (i : Int) < p.n := by omega
        have hn9 := HN9.out
        have HAA := Lib.hid hA
        have z4 := HRB.out.size
        have hb9 := below_n2 wr (.cells #[.int .i8 h1.kind, .string h1.name, .string h1.arg, .int .i64 h1.num, .int .i8 h1.tk, .slice q.TA q.tn q.tc, .int .i8 h1.uk, .slice q.UA q.un q.uc, .int .i64 h1.label, .int .i64 h1.pos, .slice q.A q.n q.c] 28) (.cells #[.int .i8 0, .string ⟨#[]⟩, .string ⟨#[]⟩, .int .i64 0, .int .i8 0, .slice none 0 0, .int .i8 0, .slice none 0 0, .int .i64 0, .int .i64 0, .slice none 0 0] 28)
        obtain ⟨xa, xb⟩ := heap_n2 wr (.cells #[.int .i8 h1.kind, .string h1.name, .string h1.arg, .int .i64 h1.num, .int .i8 h1.tk, .slice q.TA q.tn q.tc, .int .i8 h1.uk, .slice q.UA q.un q.uc, .int .i64 h1.label, .int .i64 h1.pos, .slice q.A q.n q.c] 28) (.cells #[.int .i8 0, .string ⟨#[]⟩, .string ⟨#[]⟩, .int .i64 0, .int .i8 0, .slice none 0 0, .int .i8 0, .slice none 0 0, .int .i64 0, .int .i64 0, .slice none 0 0] 28)
        have hsz9 : ((wr.alloc (.cells #[.int .i8 h1.kind, .string h1.name, .string h1.arg, .int .i64 h1.num, .int .i8 h1.tk, .slice q.TA q.tn q.tc, .int .i8 h1.uk, .slice q.UA q.un q.uc, .int .i64 h1.label, .int .i64 h1.pos, .slice q.A q.n q.c] 28)).alloc (.cells #[.int .i8 0, .string ⟨#[]⟩, .string ⟨#[]⟩, .int .i64 0, .int .i8 0, .slice none 0 0, .int .i8 0, .slice none 0 0, .int .i64 0, .int .i64 0, .slice none 0 0] 28)).heap.size = wr.heap.size + 2 := by simp
        have hO9 := ownsRow_below hO hb9
        clear hcall hstp hR hcl hft hkl hrl hok1 hcr hcr0 htf hmf hokr hA hsb hcnt1 hcnt2 hc1 hmm
        obtain ⟨PTA, Ptn, Ptc, PUA, Pun, Puc, pA, pn, pc⟩ := p
        dsimp only at *
        obtain rfl : pA = some ⟨bb, oo, none⟩ := HAA.out
        clear HAA
        go_upto_region 16 with fail
        generalize hW2 : (wr.alloc (.cells #[.int .i8 h1.kind, .string h1.name, .string h1.arg, .int .i64 h1.num, .int .i8 h1.tk, .slice q.TA q.tn q.tc, .int .i8 h1.uk, .slice q.UA q.un q.uc, .int .i64 h1.label, .int .i64 h1.pos, .slice q.A q.n q.c] 28)).alloc (.cells #[.int .i8 0, .string ⟨#[]⟩, .string ⟨#[]⟩, .int .i64 0, .int .i8 0, .slice none 0 0, .int .i8 0, .slice none 0 0, .int .i64 0, .int .i64 0, .slice none 0 0] 28) = W2 at *
        have HB9 := Lib.hid hb9
        have XB := Lib.hid xb
        have HO9 := Lib.hid hO9
        have HS9 := Lib.hid hsz9
        clear hW2 hb9 xb hO9 d0 d1 d2 d3 d4 d5 d6 d7 d8 d9 d10
        obtain ⟨q0, q1, q2, q3, q4, q5, q6, q7, q8, q9, q10, ql⟩ := own11 xa
        go_wp2_with fail
        refine (HC.out W2 HB9.out).mono ?_
        rintro e u ⟨p2, rfl, hI, hb⟩
        have HI := Lib.hid hI
        have HBU := Lib.hid hb
        have xbu := heap_below hb (heap_lt XB.out) XB.out
        have XBU := Lib.hid xbu
        have HOU := Lib.hid (ownsRow_below HO9.out hb)
        clear hI hb q0 q1 q2 q3 q4 q5 q6 q7 q8 q9 q10 ql xa
        have hxw : W2.heap.size = wr.heap.size + 2 := HS9.out
        have hlt0 := HOU.out.lt
        have hXO : u8.ownBlock ≠ some (wr.heap.size + 1) := fun e => by have h1 := (hO.lt _ e).2; omega
        have z := set11_own xbu (.int .i8 (Ls.lesH L h1 m').1.kind) (.string (Ls.lesH L h1 m').1.name) (.string (Ls.lesH L h1 m').1.arg) (.int .i64 (Ls.lesH L h1 m').1.num) (.int .i8 (Ls.lesH L h1 m').1.tk) (.slice p2.TA p2.tn p2.tc) (.int .i8 (Ls.lesH L h1 m').1.uk) (.slice p2.UA p2.un p2.uc) (.int .i64 (Ls.lesH L h1 m').1.label) (.int .i64 (Ls.lesH L h1 m').1.pos) (.slice p2.A p2.n p2.c)
        have hbz : Below (wr.heap.size + 1) u (set11 u (wr.heap.size + 1) (.int .i8 (Ls.lesH L h1 m').1.kind) (.string (Ls.lesH L h1 m').1.name) (.string (Ls.lesH L h1 m').1.arg) (.int .i64 (Ls.lesH L h1 m').1.num) (.int .i8 (Ls.lesH L h1 m').1.tk) (.slice p2.TA p2.tn p2.tc) (.int .i8 (Ls.lesH L h1 m').1.uk) (.slice p2.UA p2.un p2.uc) (.int .i64 (Ls.lesH L h1 m').1.label) (.int .i64 (Ls.lesH L h1 m').1.pos) (.slice p2.A p2.n p2.c)) := set11_below (Below.refl _ u) (Nat.le_refl _) (.int .i8 (Ls.lesH L h1 m').1.kind) (.string (Ls.lesH L h1 m').1.name) (.string (Ls.lesH L h1 m').1.arg) (.int .i64 (Ls.lesH L h1 m').1.num) (.int .i8 (Ls.lesH L h1 m').1.tk) (.slice p2.TA p2.tn p2.tc) (.int .i8 (Ls.lesH L h1 m').1.uk) (.slice p2.UA p2.un p2.uc) (.int .i64 (Ls.lesH L h1 m').1.label) (.int .i64 (Ls.lesH L h1 m').1.pos) (.slice p2.A p2.n p2.c)
        have hcz := fun (b o : Nat) (x : Value) (hne : b ≠ wr.heap.size + 1) (hx : u.cell? ⟨b, o, none⟩ = some x) => set11_cell hx hne (.int .i8 (Ls.lesH L h1 m').1.kind) (.string (Ls.lesH L h1 m').1.name) (.string (Ls.lesH L h1 m').1.arg) (.int .i64 (Ls.lesH L h1 m').1.num) (.int .i8 (Ls.lesH L h1 m').1.tk) (.slice p2.TA p2.tn p2.tc) (.int .i8 (Ls.lesH L h1 m').1.uk) (.slice p2.UA p2.un p2.uc) (.int .i64 (Ls.lesH L h1 m').1.label) (.int .i64 (Ls.lesH L h1 m').1.pos) (.slice p2.A p2.n p2.c)
        have hsz2 := set11_size u (wr.heap.size + 1) (.int .i8 (Ls.lesH L h1 m').1.kind) (.string (Ls.lesH L h1 m').1.name) (.string (Ls.lesH L h1 m').1.arg) (.int .i64 (Ls.lesH L h1 m').1.num) (.int .i8 (Ls.lesH L h1 m').1.tk) (.slice p2.TA p2.tn p2.tc) (.int .i8 (Ls.lesH L h1 m').1.uk) (.slice p2.UA p2.un p2.uc) (.int .i64 (Ls.lesH L h1 m').1.label) (.int .i64 (Ls.lesH L h1 m').1.pos) (.slice p2.A p2.n p2.c)
        have hro := set11_row HOU.out hXO (.int .i8 (Ls.lesH L h1 m').1.kind) (.string (Ls.lesH L h1 m').1.name) (.string (Ls.lesH L h1 m').1.arg) (.int .i64 (Ls.lesH L h1 m').1.num) (.int .i8 (Ls.lesH L h1 m').1.tk) (.slice p2.TA p2.tn p2.tc) (.int .i8 (Ls.lesH L h1 m').1.uk) (.slice p2.UA p2.un p2.uc) (.int .i64 (Ls.lesH L h1 m').1.label) (.int .i64 (Ls.lesH L h1 m').1.pos) (.slice p2.A p2.n p2.c)
        have f0 := fz11 xbu 0; have f1 := fz11 xbu 1; have f2 := fz11 xbu 2; have f3 := fz11 xbu 3; have f4 := fz11 xbu 4; have f5 := fz11 xbu 5; have f6 := fz11 xbu 6; have f7 := fz11 xbu 7; have f8 := fz11 xbu 8; have f9 := fz11 xbu 9; have f10 := fz11 xbu 10
        obtain ⟨y0, y1, y2, y3, y4, y5, y6, y7, y8, y9, y10, yl⟩ := own11 xbu
        have HSZ2 := Lib.hid hsz2
        have HXW := Lib.hid hxw
        have HZ4 := Lib.hid z4
        clear hsz2 hxw hlt0 z4 hXO
        go_upto_region 17 with fail
        rw [set11_eq]
        generalize set11 u (wr.heap.size + 1) (.int .i8 (Ls.lesH L h1 m').1.kind) (.string (Ls.lesH L h1 m').1.name) (.string (Ls.lesH L h1 m').1.arg) (.int .i64 (Ls.lesH L h1 m').1.num) (.int .i8 (Ls.lesH L h1 m').1.tk) (.slice p2.TA p2.tn p2.tc) (.int .i8 (Ls.lesH L h1 m').1.uk) (.slice p2.UA p2.un p2.uc) (.int .i64 (Ls.lesH L h1 m').1.label) (.int .i64 (Ls.lesH L h1 m').1.pos) (.slice p2.A p2.n p2.c) = u2 at *
        have HZZ := Lib.hid z
        have HBZ := Lib.hid hbz
        have HCZ := Lib.hid hcz
        have hro2 := hro
        clear xbu hbz hcz y0 y1 y2 y3 y4 y5 y6 y7 y8 y9 y10 yl f0 f1 f2 f3 f4 f5 f6 f7 f8 f9 f10
        obtain ⟨q0, q1, q2, q3, q4, q5, q6, q7, q8, q9, q10, ql⟩ := own11 z
        go_wp2_with (first | (at_builtin; refine wpList_append_own_at _ rfl (.tmp 63) (.tmp 65) 26 rfl wl.heap.size 28 i0 (.agg #[.int .i8 0, .string ⟨#[]⟩, .string ⟨#[]⟩, .int .i64 0, .int .i8 0, .slice none 0 0, .int .i8 0, .slice none 0 0, .int .i64 0, .int .i64 0, .slice none 0 0]) 11 152 Tryz.underlying26 hi hz1 hz2 hz3 rfl (by decide) u8 _ _ rfl (hro2.alloc _) ⟨u2.heap.size, 0, none⟩ 1 1 [.int .i8 (Ls.lesH L h1 m').1.kind, .string (Ls.lesH L h1 m').1.name, .string (Ls.lesH L h1 m').1.arg, .int .i64 (Ls.lesH L h1 m').1.num, .int .i8 (Ls.lesH L h1 m').1.tk, .slice p2.TA p2.tn p2.tc, .int .i8 (Ls.lesH L h1 m').1.uk, .slice p2.UA p2.un p2.uc, .int .i64 (Ls.lesH L h1 m').1.label, .int .i64 (Ls.lesH L h1 m').1.pos, .slice p2.A p2.n p2.c] rfl rfl ?c1 ?c2 ?c3 ?c4 ?c5 ?_))
        case c1 => exact cells_of_heap (heap_new u2 _)
        case c2 => intro x hx; simp at hx; rcases hx with rfl | rfl | rfl | rfl | rfl | rfl | rfl | rfl | rfl | rfl | rfl <;> rfl
        case c3 => unfold maxLen; omega
        case c4 => omega
        case c5 => have h1 := HBU.out.size; have h2 := HSZ2.out; have h3 := HXW.out; have h4 := HRB.out.size; simp; omega
        intro v' w3 hown3 hg3 _ hat
        have hxw := HXW.out
        have hR3 := Lib.hid (HSTP.out W2 u u2 w3 v' p2 _ (wr.heap.size + 1) HB9.out ⟨by omega, by omega⟩ HBU.out HI.out HBZ.out HCZ.out HSZ2.out hown3 hg3 (by simpa using hat))
        clear hxw hown3 hg3 hat hro hro2 hO q0 q1 q2 q3 q4 q5 q6 q7 q8 q9 q10 ql
        go_wp2_with fail
        go_roundw
        case rel =>
          refine ⟨i + 1, _, _, r, _, by go_num, rfl, hR3.out, ?_, ?_, HCNT.out, HNX.out.1, HNX.out.2⟩
          · rw [Ls.tcat_snoc]; exact HTF2.out
          · exact HMF2.out
        case measure => simp [intOf]; omega

set_option maxHeartbeats 8000000 in
set_option maxRecDepth 100000 in
theorem lessened_two (L : List Bool) (LA : Option Addr) (ll lc : Nat) (wb : World) (K : Nat)
    (ih : ∀ (h : Hd) (kids : Tm) (p : Pl) (m : Nat) (W : World), Tm.nodes kids < K → Tm.Is wb h kids p → Below wb.heap.size wb W → BAt W L LA ll lc → Tm.okT h kids = true → Ck.castT h kids = false → m + Tm.nd h kids ≤ 1000000 → Calls Tryz.prog 15 #[.agg #[.int .i8 h.kind, .string h.name, .string h.arg, .int .i64 h.num, .int .i8 h.tk, .slice p.TA p.tn p.tc, .int .i8 h.uk, .slice p.UA p.un p.uc, .int .i64 h.label, .int .i64 h.pos, .slice p.A p.n p.c], .slice LA ll lc, .int .i64 m] W (LsdPost wb W (Ls.lesH L h m) (Ls.lsF L kids (Ls.lesH L h m).2)))
    (h : Hd) (kids : Tm) (p : Pl) (m : Nat) (W : World) (hK : Tm.nodes kids < K + 1) (hIs : Tm.Is wb h kids p) (hwb : Below wb.heap.size wb W) (hL : BAt W L LA ll lc) (ho : Tm.okT h kids = true) (hc : Ck.castT h kids = false) (hm : m + Tm.nd h kids ≤ 1000000) (h5 : h.kind = 5) :
    Calls Tryz.prog 15 #[.agg #[.int .i8 h.kind, .string h.name, .string h.arg, .int .i64 h.num, .int .i8 h.tk, .slice p.TA p.tn p.tc, .int .i8 h.uk, .slice p.UA p.un p.uc, .int .i64 h.label, .int .i64 h.pos, .slice p.A p.n p.c], .slice LA ll lc, .int .i64 m] W (LsdPost wb W (Ls.lesH L h m) (Ls.lsF L kids (Ls.lesH L h m).2)) := by
  have hHH : Ls.lesH L h m = ({ h with tk := (Ls.les L (h.tk, h.tkids) m).1.1, tkids := (Ls.les L (h.tk, h.tkids) m).1.2, uk := (Ls.les L (h.uk, h.ukids) (Ls.les L (h.tk, h.tkids) m).2).1.1, ukids := (Ls.les L (h.uk, h.ukids) (Ls.les L (h.tk, h.tkids) m).2).1.2 }, (Ls.les L (h.uk, h.ukids) (Ls.les L (h.tk, h.tkids) m).2).2) := by unfold Ls.lesH; rw [if_pos h5]; rfl
  obtain ⟨hik, hlen, hokF⟩ := Ck.okT_parts ho
  obtain ⟨h17, hcF⟩ := Ck.castT_parts hc
  have hho := ho
  unfold Tm.okT Tm.headOk Tm.tysOk at hho
  simp only [Bool.and_eq_true, Bool.or_eq_true, Bool.not_eq_true', beq_iff_eq] at hho
  have e1 : Tm.hasType h.kind = true := by unfold Tm.hasType; simp only [decide_eq_true_eq]; omega
  have hct : Ty.chk h.tk h.tkids = 0 := by
    rcases hho.1.2.1 with q | q
    · rw [e1] at q; cases q
    · exact q
  have nt : Ty.nod h.tkids = Ty.nodes h.tkids + 1 := Ls.nod_ok (Ty.chk_ok hct).2.1
  have e2 : Tm.hasTo h.kind = true := by unfold Tm.hasTo; simp only [decide_eq_true_eq]; omega
  have hcu : Ty.chk h.uk h.ukids = 0 := by
    rcases hho.1.2.2 with q | q
    · rw [e2] at q; cases q
    · exact q
  have nu : Ty.nod h.ukids = Ty.nodes h.ukids + 1 := Ls.nod_ok (Ty.chk_ok hcu).2.1
  have hty : Tm.tyN h = (Ty.nodes h.tkids + 1) + (Ty.nodes h.ukids + 1) := by unfold Tm.tyN; rw [e1, e2, if_pos rfl, if_pos rfl, nt, nu]
  have c0 := Ls.les_cnt L (h.tk, h.tkids) m
  have c1 := Ls.les_cnt L (h.uk, h.ukids) (Ls.les L (h.tk, h.tkids) m).2
  dsimp only at c0 c1
  unfold Tm.nd at hm
  rw [hty] at hm
  have HN0 := Lib.hid (show m + (Ty.nodes h.tkids + 1) ≤ 1000000 by omega)
  have HN1 := Lib.hid (show (Ls.les L (h.tk, h.tkids) m).2 + (Ty.nodes h.ukids + 1) ≤ 1000000 by omega)
  have HMM := Lib.hid (show (Ls.les L (h.uk, h.ukids) (Ls.les L (h.tk, h.tkids) m).2).2 + Tm.nodes kids ≤ 1000000 by omega)
  have HIST := Lib.hid hIs.fit.ty
  have HISU := Lib.hid hIs.fit.to
  have hb0 := below_n2 W (.cells #[.int .i8 h.kind, .string h.name, .string h.arg, .int .i64 h.num, .int .i8 h.tk, .slice p.TA p.tn p.tc, .int .i8 h.uk, .slice p.UA p.un p.uc, .int .i64 h.label, .int .i64 h.pos, .slice p.A p.n p.c] 28) (.cells #[.int .i8 0, .string ⟨#[]⟩, .string ⟨#[]⟩, .int .i64 0, .int .i8 0, .slice none 0 0, .int .i8 0, .slice none 0 0, .int .i64 0, .int .i64 0, .slice none 0 0] 28)
  obtain ⟨x0, x1⟩ := heap_n2 W (.cells #[.int .i8 h.kind, .string h.name, .string h.arg, .int .i64 h.num, .int .i8 h.tk, .slice p.TA p.tn p.tc, .int .i8 h.uk, .slice p.UA p.un p.uc, .int .i64 h.label, .int .i64 h.pos, .slice p.A p.n p.c] 28) (.cells #[.int .i8 0, .string ⟨#[]⟩, .string ⟨#[]⟩, .int .i64 0, .int .i8 0, .slice none 0 0, .int .i8 0, .slice none 0 0, .int .i64 0, .int .i64 0, .slice none 0 0] 28)
  have hz0 : ((W.alloc (.cells #[.int .i8 h.kind, .string h.name, .string h.arg, .int .i64 h.num, .int .i8 h.tk, .slice p.TA p.tn p.tc, .int .i8 h.uk, .slice p.UA p.un p.uc, .int .i64 h.label, .int .i64 h.pos, .slice p.A p.n p.c] 28)).alloc (.cells #[.int .i8 0, .string ⟨#[]⟩, .string ⟨#[]⟩, .int .i64 0, .int .i8 0, .slice none 0 0, .int .i8 0, .slice none 0 0, .int .i64 0, .int .i64 0, .slice none 0 0] 28)).heap.size = W.heap.size + 2 := by simp
  generalize hw1 : (W.alloc (.cells #[.int .i8 h.kind, .string h.name, .string h.arg, .int .i64 h.num, .int .i8 h.tk, .slice p.TA p.tn p.tc, .int .i8 h.uk, .slice p.UA p.un p.uc, .int .i64 h.label, .int .i64 h.pos, .slice p.A p.n p.c] 28)).alloc (.cells #[.int .i8 0, .string ⟨#[]⟩, .string ⟨#[]⟩, .int .i64 0, .int .i8 0, .slice none 0 0, .int .i8 0, .slice none 0 0, .int .i64 0, .int .i64 0, .slice none 0 0] 28) = w1 at *
  have HW1 := Lib.hid hw1
  have HB := Lib.hid hb0
  have HX3 := Lib.hid x0
  have HX6 := Lib.hid x1
  have HSZ := Lib.hid (show W.heap.size + 2 ≤ w1.heap.size by omega)
  have HWB := Lib.hid hwb
  have HWBC := Lib.hid (hwb.trans (hb0.mono hwb.size))
  have HFT := Lib.hid hIs.fit
  rw [hHH]
  obtain ⟨TF, hTF⟩ : ∃ TF, (Ls.lsF L kids (Ls.les L (h.uk, h.ukids) (Ls.les L (h.tk, h.tkids) m).2).2).1 = TF := ⟨_, rfl⟩
  obtain ⟨MF, hMF⟩ : ∃ MF, (Ls.lsF L kids (Ls.les L (h.uk, h.ukids) (Ls.les L (h.tk, h.tkids) m).2).2).2 = MF := ⟨_, rfl⟩
  have HTF := Lib.hid (show Ls.tcat .nil (Ls.lsF L kids (Ls.les L (h.uk, h.ukids) (Ls.les L (h.tk, h.tkids) m).2).2).1 = TF from hTF)
  have HMF := Lib.hid hMF
  have hpost : ∀ e w', LsdPost wb W ({ h with tk := (Ls.les L (h.tk, h.tkids) m).1.1, tkids := (Ls.les L (h.tk, h.tkids) m).1.2, uk := (Ls.les L (h.uk, h.ukids) (Ls.les L (h.tk, h.tkids) m).2).1.1, ukids := (Ls.les L (h.uk, h.ukids) (Ls.les L (h.tk, h.tkids) m).2).1.2 }, (Ls.les L (h.uk, h.ukids) (Ls.les L (h.tk, h.tkids) m).2).2) (TF, MF) e w' → LsdPost wb W ({ h with tk := (Ls.les L (h.tk, h.tkids) m).1.1, tkids := (Ls.les L (h.tk, h.tkids) m).1.2, uk := (Ls.les L (h.uk, h.ukids) (Ls.les L (h.tk, h.tkids) m).2).1.1, ukids := (Ls.les L (h.uk, h.ukids) (Ls.les L (h.tk, h.tkids) m).2).1.2 }, (Ls.les L (h.uk, h.ukids) (Ls.les L (h.tk, h.tkids) m).2).2) (Ls.lsF L kids (Ls.les L (h.uk, h.ukids) (Ls.les L (h.tk, h.tkids) m).2).2) e w' := fun e w' q => by rw [← hTF, ← hMF] at q; exact q
  refine Calls.mono ?_ hpost
  have HPN := Lib.hid (show p.n = Tm.len kids from hIs.fit.n_eq)
  have HLI := Lib.hid hIs.lies
  have HOK := Lib.hid (And.intro hokF hcF)
  have IH := Lib.hid ih
  have HKB := Lib.hid hK
  have HLL := Lib.hid hL
  have HN9 := Lib.hid (show p.n ≤ 8192 by have h1 := hIs.fit.n_eq; have h2 := Tm.len_le_nodes kids; rw [h1, hlen]; unfold Tm.kidsN; split; omega; split; omega; split <;> omega)
  have hpn3 := HN9.out
  have i5 : (p.n : Int) ≤ 8192 := by omega
  obtain ⟨i0, hi, hz1, hz2, hz3⟩ := info_parts info_Tm9
  clear hik hlen hokF h17 hcF ho hho hc hm hIs hwb hb0 x0 x1 hw1 hz0 hHH hTF hMF hpost ih hK hL e1 e2 hct nt hty c0 hcu nu c1
  have k5 : (h.kind == 5) = true := by rw [h5]; rfl
  clear h5
  go_enter Tryz.func15, Tryz.ntmps15
  go_upto_region 1 with fail
  rw [HW1.out]
  obtain ⟨q0, q1, q2, q3, q4, q5, q6, q7, q8, q9, q10, ql⟩ := own11 HX3.out
  have CL0 := Lib.hid (lessen_any L LA ll lc (Ty.nodes h.tkids + 1) h.tk h.tkids p.TA p.tn p.tc m w1 (Nat.lt_succ_self _) (HIST.out.below HWBC.out) (HLL.out.below HB.out) HN0.out)
  go_wp2_with fail
  refine CL0.out.mono ?_
  rintro e u0 ⟨G0, n0, c0, rfl, hT0, hb0⟩
  have x3 := heap_below hb0 (heap_lt HX3.out) HX3.out
  have x6 := heap_below hb0 (heap_lt HX6.out) HX6.out
  have hcs := HSZ.out
  have y3 : ((u0.setCell ⟨W.heap.size, 4, none⟩ (.int .i8 (Ls.les L (h.tk, h.tkids) m).1.1)).setCell ⟨W.heap.size, 5, none⟩ (.slice G0 n0 c0)).heap[W.heap.size]? = some (.cells #[.int .i8 h.kind, .string h.name, .string h.arg, .int .i64 h.num, .int .i8 (Ls.les L (h.tk, h.tkids) m).1.1, .slice G0 n0 c0, .int .i8 h.uk, .slice p.UA p.un p.uc, .int .i64 h.label, .int .i64 h.pos, .slice p.A p.n p.c] 28 (0, 0)) := by simp [World.setCell, Array.getElem?_modify, x3]
  have y6 : ((u0.setCell ⟨W.heap.size, 4, none⟩ (.int .i8 (Ls.les L (h.tk, h.tkids) m).1.1)).setCell ⟨W.heap.size, 5, none⟩ (.slice G0 n0 c0)).heap[W.heap.size + 1]? = some (.cells #[.int .i8 0, .string ⟨#[]⟩, .string ⟨#[]⟩, .int .i64 0, .int .i8 0, .slice none 0 0, .int .i8 0, .slice none 0 0, .int .i64 0, .int .i64 0, .slice none 0 0] 28 (0, 0)) := by simp [World.setCell, Array.getElem?_modify, x6]
  have yB : Below W.heap.size W ((u0.setCell ⟨W.heap.size, 4, none⟩ (.int .i8 (Ls.les L (h.tk, h.tkids) m).1.1)).setCell ⟨W.heap.size, 5, none⟩ (.slice G0 n0 c0)) := ((HB.out.trans (hb0.mono HB.out.size)).setCell (p := ⟨W.heap.size, 4, none⟩) (Nat.le_refl _) _).setCell (p := ⟨W.heap.size, 5, none⟩) (Nat.le_refl _) _
  have yS : W.heap.size + 2 ≤ ((u0.setCell ⟨W.heap.size, 4, none⟩ (.int .i8 (Ls.les L (h.tk, h.tkids) m).1.1)).setCell ⟨W.heap.size, 5, none⟩ (.slice G0 n0 c0)).heap.size := by have := hb0.size; simp [World.setCell]; omega
  have yW : Below wb.heap.size wb ((u0.setCell ⟨W.heap.size, 4, none⟩ (.int .i8 (Ls.les L (h.tk, h.tkids) m).1.1)).setCell ⟨W.heap.size, 5, none⟩ (.slice G0 n0 c0)) := ((HWBC.out.trans (hb0.mono HWBC.out.size)).setCell (p := ⟨W.heap.size, 4, none⟩) HWB.out.size _).setCell (p := ⟨W.heap.size, 5, none⟩) HWB.out.size _
  have yT : Ck.Ly (fun b => b < wb.heap.size ∨ W.heap.size + 2 ≤ b) ((u0.setCell ⟨W.heap.size, 4, none⟩ (.int .i8 (Ls.les L (h.tk, h.tkids) m).1.1)).setCell ⟨W.heap.size, 5, none⟩ (.slice G0 n0 c0)) (Ls.les L (h.tk, h.tkids) m).1 G0 n0 c0 := Lone.to hT0 fun b o x hP hx => by
    have hP2 : w1.heap.size ≤ b := hP
    refine ⟨.inr (by omega), ?_⟩
    rw [World.cell?_setCell_other _ _ _ _ (fun e => by injection e with e; omega), World.cell?_setCell_other _ _ _ _ (fun e => by injection e with e; omega)]
    exact hx
  clear q0 q1 q2 q3 q4 q5 q6 q7 q8 q9 q10 ql
  obtain ⟨q0, q1, q2, q3, q4, q5, q6, q7, q8, q9, q10, ql⟩ := own11 x3
  have f4 := fz11 x3 4
  have f5 := fz11 x3 5
  clear hT0 hb0 hcs x6 
  go_upto_region 4 with fail
  generalize ((u0.setCell ⟨W.heap.size, 4, none⟩ (.int .i8 (Ls.les L (h.tk, h.tkids) m).1.1)).setCell ⟨W.heap.size, 5, none⟩ (.slice G0 n0 c0)) = w2 at *
  have HX3 := Lib.hid y3
  have HX6 := Lib.hid y6
  have HB := Lib.hid yB
  have HSZ := Lib.hid yS
  have HWBC := Lib.hid yW
  have HT1K := Lib.hid yT

  clear q0 q1 q2 q3 q4 q5 q6 q7 q8 q9 q10 ql f4 f5 x3 y3 y6 yB yS yW yT 
  obtain ⟨q0, q1, q2, q3, q4, q5, q6, q7, q8, q9, q10, ql⟩ := own11 HX3.out
  have CL1 := Lib.hid (lessen_any L LA ll lc (Ty.nodes h.ukids + 1) h.uk h.ukids p.UA p.un p.uc (Ls.les L (h.tk, h.tkids) m).2 w2 (Nat.lt_succ_self _) (HISU.out.below HWBC.out) (HLL.out.below HB.out) HN1.out)
  go_wp2_with fail
  refine CL1.out.mono ?_
  rintro e u1 ⟨G1, n1, c1, rfl, hT1, hb1⟩
  have x3 := heap_below hb1 (heap_lt HX3.out) HX3.out
  have x6 := heap_below hb1 (heap_lt HX6.out) HX6.out
  have hcs := HSZ.out
  have y3 : ((u1.setCell ⟨W.heap.size, 6, none⟩ (.int .i8 (Ls.les L (h.uk, h.ukids) (Ls.les L (h.tk, h.tkids) m).2).1.1)).setCell ⟨W.heap.size, 7, none⟩ (.slice G1 n1 c1)).heap[W.heap.size]? = some (.cells #[.int .i8 h.kind, .string h.name, .string h.arg, .int .i64 h.num, .int .i8 (Ls.les L (h.tk, h.tkids) m).1.1, .slice G0 n0 c0, .int .i8 (Ls.les L (h.uk, h.ukids) (Ls.les L (h.tk, h.tkids) m).2).1.1, .slice G1 n1 c1, .int .i64 h.label, .int .i64 h.pos, .slice p.A p.n p.c] 28 (0, 0)) := by simp [World.setCell, Array.getElem?_modify, x3]
  have y6 : ((u1.setCell ⟨W.heap.size, 6, none⟩ (.int .i8 (Ls.les L (h.uk, h.ukids) (Ls.les L (h.tk, h.tkids) m).2).1.1)).setCell ⟨W.heap.size, 7, none⟩ (.slice G1 n1 c1)).heap[W.heap.size + 1]? = some (.cells #[.int .i8 0, .string ⟨#[]⟩, .string ⟨#[]⟩, .int .i64 0, .int .i8 0, .slice none 0 0, .int .i8 0, .slice none 0 0, .int .i64 0, .int .i64 0, .slice none 0 0] 28 (0, 0)) := by simp [World.setCell, Array.getElem?_modify, x6]
  have yB : Below W.heap.size W ((u1.setCell ⟨W.heap.size, 6, none⟩ (.int .i8 (Ls.les L (h.uk, h.ukids) (Ls.les L (h.tk, h.tkids) m).2).1.1)).setCell ⟨W.heap.size, 7, none⟩ (.slice G1 n1 c1)) := ((HB.out.trans (hb1.mono HB.out.size)).setCell (p := ⟨W.heap.size, 6, none⟩) (Nat.le_refl _) _).setCell (p := ⟨W.heap.size, 7, none⟩) (Nat.le_refl _) _
  have yS : W.heap.size + 2 ≤ ((u1.setCell ⟨W.heap.size, 6, none⟩ (.int .i8 (Ls.les L (h.uk, h.ukids) (Ls.les L (h.tk, h.tkids) m).2).1.1)).setCell ⟨W.heap.size, 7, none⟩ (.slice G1 n1 c1)).heap.size := by have := hb1.size; simp [World.setCell]; omega
  have yW : Below wb.heap.size wb ((u1.setCell ⟨W.heap.size, 6, none⟩ (.int .i8 (Ls.les L (h.uk, h.ukids) (Ls.les L (h.tk, h.tkids) m).2).1.1)).setCell ⟨W.heap.size, 7, none⟩ (.slice G1 n1 c1)) := ((HWBC.out.trans (hb1.mono HWBC.out.size)).setCell (p := ⟨W.heap.size, 6, none⟩) HWB.out.size _).setCell (p := ⟨W.heap.size, 7, none⟩) HWB.out.size _
  have yT : Ck.Ly (fun b => b < wb.heap.size ∨ W.heap.size + 2 ≤ b) ((u1.setCell ⟨W.heap.size, 6, none⟩ (.int .i8 (Ls.les L (h.uk, h.ukids) (Ls.les L (h.tk, h.tkids) m).2).1.1)).setCell ⟨W.heap.size, 7, none⟩ (.slice G1 n1 c1)) (Ls.les L (h.uk, h.ukids) (Ls.les L (h.tk, h.tkids) m).2).1 G1 n1 c1 := Lone.to hT1 fun b o x hP hx => by
    have hP2 : w2.heap.size ≤ b := hP
    refine ⟨.inr (by omega), ?_⟩
    rw [World.cell?_setCell_other _ _ _ _ (fun e => by injection e with e; omega), World.cell?_setCell_other _ _ _ _ (fun e => by injection e with e; omega)]
    exact hx
  have yK := Ck.Ly.weak (Q' := (fun b => b < wb.heap.size ∨ W.heap.size + 2 ≤ b)) (HT1K.out.later hb1) (fun _ _ q => q)
  have yK2 : Ck.Ly (fun b => b < wb.heap.size ∨ W.heap.size + 2 ≤ b) ((u1.setCell ⟨W.heap.size, 6, none⟩ (.int .i8 (Ls.les L (h.uk, h.ukids) (Ls.les L (h.tk, h.tkids) m).2).1.1)).setCell ⟨W.heap.size, 7, none⟩ (.slice G1 n1 c1)) (Ls.les L (h.tk, h.tkids) m).1 G0 n0 c0 := Lone.to yK fun b o x hP hx => by
    have hwbs := HWB.out.size
    refine ⟨hP, ?_⟩
    rw [World.cell?_setCell_other _ _ _ _ (fun e => by injection e with e; rcases hP with q | q <;> omega), World.cell?_setCell_other _ _ _ _ (fun e => by injection e with e; rcases hP with q | q <;> omega)]
    exact hx
  clear q0 q1 q2 q3 q4 q5 q6 q7 q8 q9 q10 ql
  obtain ⟨q0, q1, q2, q3, q4, q5, q6, q7, q8, q9, q10, ql⟩ := own11 x3
  have f4 := fz11 x3 6
  have f5 := fz11 x3 7
  clear hT1 hb1 hcs x6 yK
  go_upto_region 11 with fail
  generalize ((u1.setCell ⟨W.heap.size, 6, none⟩ (.int .i8 (Ls.les L (h.uk, h.ukids) (Ls.les L (h.tk, h.tkids) m).2).1.1)).setCell ⟨W.heap.size, 7, none⟩ (.slice G1 n1 c1)) = wl at *
  have HX3 := Lib.hid y3
  have HX6 := Lib.hid y6
  have HB := Lib.hid yB
  have HSZ := Lib.hid yS
  have HWBC := Lib.hid yW
  have HT2K := Lib.hid yT
  have HT1K := Lib.hid yK2
  clear q0 q1 q2 q3 q4 q5 q6 q7 q8 q9 q10 ql f4 f5 x3 y3 y6 yB yS yW yT yK2
  have HWBL := HWBC
  have HTY := HT1K
  have HTO := HT2K

  obtain ⟨q0, q1, q2, q3, q4, q5, q6, q7, q8, q9, q10, ql⟩ := own11 HX3.out
  go_wp2_with fail
  clear q0 q1 q2 q3 q4 q5 q6 q7 q8 q9 q10 ql
  go_loopw [2, 8, 52] (fun v2 v8 v52 wr => ∃ (i m' : Nat) (done rest : Tm) (xs : List Value), v52 = .int .i64 i ∧ v2 = .int .i64 m' ∧ Ls.LtRel wb wl wr p.A kids v8 p.n i done rest xs ∧ Ls.tcat done (Ls.lsF L rest m').1 = TF ∧ (Ls.lsF L rest m').2 = MF ∧ m' + Tm.nodes rest ≤ 1000000 ∧ Tm.okF rest = true ∧ Ck.castF rest = false) (fun _ _ v _ => p.n - (intOf v).toNat)
  case atStart => exact ⟨0, (Ls.les L (h.uk, h.ukids) (Ls.les L (h.tk, h.tkids) m).2).2, .nil, kids, [], rfl, rfl, ⟨rfl, by have := HPN.out; omega, HLI.out, Below.refl _ _, ⟨rfl, .inl ⟨rfl, rfl⟩⟩, rfl, Nat.le_refl _⟩, HTF.out, HMF.out, HMM.out, HOK.out.1, HOK.out.2⟩
  case round =>
    obtain ⟨i, m', done, rest, xs, rfl, rfl, hR, htf, hmf, hmm, hokr, hcr⟩ := hrel
    have HRB := Lib.hid hR.below
    cases rest with
    | nil =>
      have hi2 : i = p.n := by have := hR.i_eq; simpa [Tm.len] using this
      subst hi2
      obtain ⟨G, cg, rfl, hdn, hdc, hdm, hdl⟩ := hR.done
      simp only [Ls.lsF, Ls.tcat_nil] at htf hmf
      subst htf hmf
      have HD := Lib.hid hdl
      have HDN := Lib.hid (And.intro hdn (And.intro hdc hdm))
      have x3 := heap_below HRB.out (heap_lt HX3.out) HX3.out
      have x6 := heap_below HRB.out (heap_lt HX6.out) HX6.out
      have hf3 := fz11 x3 10
      have hs1 := HSZ.out
      have hs2 := HRB.out.size
      obtain ⟨q0, q1, q2, q3, q4, q5, q6, q7, q8, q9, q10, ql⟩ := own11 x3
      have x3b : (wr.setCell ⟨W.heap.size, 10, none⟩ (.slice G p.n cg)).heap[W.heap.size]? = some (.cells #[.int .i8 h.kind, .string h.name, .string h.arg, .int .i64 h.num, .int .i8 (Ls.les L (h.tk, h.tkids) m).1.1, .slice G0 n0 c0, .int .i8 (Ls.les L (h.uk, h.ukids) (Ls.les L (h.tk, h.tkids) m).2).1.1, .slice G1 n1 c1, .int .i64 h.label, .int .i64 h.pos, .slice G p.n cg] 28 (0, 0)) := by simp [World.setCell, Array.getElem?_modify, x3]
      have x6b : (wr.setCell ⟨W.heap.size, 10, none⟩ (.slice G p.n cg)).heap[W.heap.size + 1]? = some (.cells #[.int .i8 0, .string ⟨#[]⟩, .string ⟨#[]⟩, .int .i64 0, .int .i8 0, .slice none 0 0, .int .i8 0, .slice none 0 0, .int .i64 0, .int .i64 0, .slice none 0 0] 28 (0, 0)) := by simp [World.setCell, Array.getElem?_modify, x6]
      have HX3B := Lib.hid x3b
      have HX6B := Lib.hid x6b
      have HBB := Lib.hid ((HB.out.trans (HRB.out.mono HB.out.size)).setCell (p := ⟨W.heap.size, 10, none⟩) (Nat.le_refl _) (.slice G p.n cg))
      have HCC := Lib.hid (fun (b o : Nat) (x : Value) (hne : b ≠ W.heap.size) (hx : wr.cell? ⟨b, o, none⟩ = some x) => (show (wr.setCell ⟨W.heap.size, 10, none⟩ (.slice G p.n cg)).cell? ⟨b, o, none⟩ = some x by rw [World.cell?_setCell_other _ _ _ _ (fun e => hne (by injection e with e; exact e.symm))]; exact hx))
      clear hR x3 x6 x3b x6b hdl hdn hdc hdm
      go_upto_region 20 with fail
      generalize wr.setCell ⟨W.heap.size, 10, none⟩ (.slice G p.n cg) = wz at *
      clear q0 q1 q2 q3 q4 q5 q6 q7 q8 q9 q10 ql hf3
      obtain ⟨q0, q1, q2, q3, q4, q5, q6, q7, q8, q9, q10, ql⟩ := own11 HX3B.out
      obtain ⟨y0, y1, y2, y3, y4, y5, y6, y7, y8, y9, y10, yl⟩ := own11 HX6B.out
      have f0 := fz11 HX6B.out 0; have f1 := fz11 HX6B.out 1; have f2 := fz11 HX6B.out 2; have f3 := fz11 HX6B.out 3; have f4 := fz11 HX6B.out 4; have f5 := fz11 HX6B.out 5; have f6 := fz11 HX6B.out 6; have f7 := fz11 HX6B.out 7; have f8 := fz11 HX6B.out 8; have f9 := fz11 HX6B.out 9; have f10 := fz11 HX6B.out 10
      go_wp2_with fail
      have z := set11_own HX6B.out (.int .i8 h.kind) (.string h.name) (.string h.arg) (.int .i64 h.num) (.int .i8 (Ls.les L (h.tk, h.tkids) m).1.1) (.slice G0 n0 c0) (.int .i8 (Ls.les L (h.uk, h.ukids) (Ls.les L (h.tk, h.tkids) m).2).1.1) (.slice G1 n1 c1) (.int .i64 h.label) (.int .i64 h.pos) (.slice G p.n cg)
      have hbz := set11_below HBB.out (show W.heap.size ≤ W.heap.size + 1 by omega) (.int .i8 h.kind) (.string h.name) (.string h.arg) (.int .i64 h.num) (.int .i8 (Ls.les L (h.tk, h.tkids) m).1.1) (.slice G0 n0 c0) (.int .i8 (Ls.les L (h.uk, h.ukids) (Ls.les L (h.tk, h.tkids) m).2).1.1) (.slice G1 n1 c1) (.int .i64 h.label) (.int .i64 h.pos) (.slice G p.n cg)
      have hcz := fun (b o : Nat) (x : Value) (hne : b ≠ W.heap.size + 1) (hx : wz.cell? ⟨b, o, none⟩ = some x) => set11_cell hx hne (.int .i8 h.kind) (.string h.name) (.string h.arg) (.int .i64 h.num) (.int .i8 (Ls.les L (h.tk, h.tkids) m).1.1) (.slice G0 n0 c0) (.int .i8 (Ls.les L (h.uk, h.ukids) (Ls.les L (h.tk, h.tkids) m).2).1.1) (.slice G1 n1 c1) (.int .i64 h.label) (.int .i64 h.pos) (.slice G p.n cg)
      unfold set11 at z hbz hcz
      obtain ⟨k0, k1, k2, k3, k4, k5, k6, k7, k8, k9, k10, kl⟩ := own11 z
      refine bodyPost_ret (v := .tuple #[.agg #[.int .i8 h.kind, .string h.name, .string h.arg, .int .i64 h.num, .int .i8 (Ls.les L (h.tk, h.tkids) m).1.1, .slice G0 n0 c0, .int .i8 (Ls.les L (h.uk, h.ukids) (Ls.les L (h.tk, h.tkids) m).2).1.1, .slice G1 n1 c1, .int .i64 h.label, .int .i64 h.pos, .slice G p.n cg], .int .i64 m']) (by simp [results, Tryz.results15, go_sem, k0, k1, k2, k3, k4, k5, k6, k7, k8, k9, k10]) rfl ?_
      refine ⟨(⟨G0, n0, c0, G1, n1, c1, G, p.n, cg⟩ : Pl), ?_, fun u hu => ?_, hbz⟩
      · rfl
      · have hk : ∀ b o x, (b < wb.heap.size ∨ wl.heap.size ≤ b) → wr.cell? ⟨b, o, none⟩ = some x → u.cell? ⟨b, o, none⟩ = some x := fun b o x hP hx => by
          have hwbs := HWB.out.size
          refine hu b o x (by rcases hP with q | q; exact .inl q; exact .inr (by omega)) (hcz b o x (by rcases hP with q | q <;> omega) (HCC.out b o x (by rcases hP with q | q <;> omega) hx))
        have hk2 : ∀ b o x, (fun b => b < wb.heap.size ∨ W.heap.size + 2 ≤ b) b → wl.cell? ⟨b, o, none⟩ = some x → u.cell? ⟨b, o, none⟩ = some x := fun b o x hP hx => by
          have hwbs := HWB.out.size
          have hx2 := keep_cell hx HRB.out
          refine hu b o x (by rcases hP with q | q; exact .inl q; exact .inr (by omega)) (hcz b o x (by rcases hP with q | q <;> omega) (HCC.out b o x (by rcases hP with q | q <;> omega) hx2))
        have hF := HFT.out
        exact ⟨⟨HTY.out u hk2, HTO.out u hk2, HDN.out.1, HDN.out.2.1, HDN.out.2.2, hF.klo, hF.khi, hF.llo, hF.lhi, hF.nm, hF.ar⟩, HD.out u hk⟩
    | node h1 k1 r =>
      have hie := hR.i_eq
      have hsb := hR.sub
      have hO := hR.own
      have hok1 := Ck.okF_node' hokr
      have hcr0 := hcr
      simp only [Tm.len, Tm.nodes] at hie hsb
      simp only [Ck.castF, Bool.or_eq_false_iff] at hcr
      obtain ⟨bb, oo, q, hA, hcl, hft, hkl, hrl⟩ := hR.lies
      simp only [Tm.nodes] at hmm
      have hc1 : Ck.castT h1 k1 = false := by unfold Ck.castT; rw [hcr.1.1, hcr.1.2]; rfl
      have hbwl := HWBL.out
      have hcall := fun (W2 : World) (hb : Below wr.heap.size wr W2) => IH.out h1 k1 q m' W2 (by have := HKB.out; omega) ⟨hft, hkl⟩ (hbwl.trans ((HRB.out.trans (hb.mono HRB.out.size)).mono hbwl.size)) (HLL.out.below (HB.out.trans ((HRB.out.trans (hb.mono HRB.out.size)).mono HB.out.size))) hok1.1 hc1 (by unfold Tm.nd; omega)
      have hstp := fun W2 u u2 w3 v' p2 o2 X hW hX hb hI hu2 hu2c hu2s hown hg hat => Ls.LtRel.step (W := W2) (u := u) (u2 := u2) (w3 := w3) (v' := v') (h' := (Ls.lesH L h1 m').1) (k' := (Ls.lsF L k1 (Ls.lesH L h1 m').2).1) (p := p2) (o2 := o2) (X := X) hR hbwl.size hW hX hb hI hu2 hu2c hu2s hown hg hat hrl
      have d0 := keep_cell (hcl 0 _ rfl) (hbwl.trans (HRB.out.mono hbwl.size))
      have d1 := keep_cell (hcl 1 _ rfl) (hbwl.trans (HRB.out.mono hbwl.size))
      have d2 := keep_cell (hcl 2 _ rfl) (hbwl.trans (HRB.out.mono hbwl.size))
      have d3 := keep_cell (hcl 3 _ rfl) (hbwl.trans (HRB.out.mono hbwl.size))
      have d4 := keep_cell (hcl 4 _ rfl) (hbwl.trans (HRB.out.mono hbwl.size))
      have d5 := keep_cell (hcl 5 _ rfl) (hbwl.trans (HRB.out.mono hbwl.size))
      have d6 := keep_cell (hcl 6 _ rfl) (hbwl.trans (HRB.out.mono hbwl.size))
      have d7 := keep_cell (hcl 7 _ rfl) (hbwl.trans (HRB.out.mono hbwl.size))
      have d8 := keep_cell (hcl 8 _ rfl) (hbwl.trans (HRB.out.mono hbwl.size))
      have d9 := keep_cell (hcl 9 _ rfl) (hbwl.trans (HRB.out.mono hbwl.size))
      have d10 := keep_cell (hcl 10 _ rfl) (hbwl.trans (HRB.out.mono hbwl.size))
      rw [Nat.add_zero] at d0
      have HC := Lib.hid hcall
      have HSTP := Lib.hid hstp
      have HTF2 := Lib.hid htf
      have HMF2 := Lib.hid hmf
      have HNX := Lib.hid (And.intro hok1.2 hcr.2)
      have hcnt1 := (Ls.lesH_ok L h1 m' (Tm.len k1) (by have := hok1.1; unfold Tm.okT at this; rw [Bool.and_eq_true] at this; exact this.1) (Ck.castT_parts hc1).1).2.2.2.2.2
      have hcnt2 := Ls.lsF_cnt L k1 (Ls.lesH L h1 m').2 (by have := hok1.1; unfold Tm.okT at this; rw [Bool.and_eq_true] at this; exact this.2) (Ck.castT_parts hc1).2
      have HCNT := Lib.hid (show (Ls.lsF L k1 (Ls.lesH L h1 m').2).2 + Tm.nodes r ≤ 1000000 by omega)
      have j1 : (i : Int) < p.n := by omega
      have hn9 := HN9.out
      have HAA := Lib.hid hA
      have z4 := HRB.out.size
      have hb9 := below_n2 wr (.cells #[.int .i8 h1.kind, .string h1.name, .string h1.arg, .int .i64 h1.num, .int .i8 h1.tk, .slice q.TA q.tn q.tc, .int .i8 h1.uk, .slice q.UA q.un q.uc, .int .i64 h1.label, .int .i64 h1.pos, .slice q.A q.n q.c] 28) (.cells #[.int .i8 0, .string ⟨#[]⟩, .string ⟨#[]⟩, .int .i64 0, .int .i8 0, .slice none 0 0, .int .i8 0, .slice none 0 0, .int .i64 0, .int .i64 0, .slice none 0 0] 28)
      obtain ⟨xa, xb⟩ := heap_n2 wr (.cells #[.int .i8 h1.kind, .string h1.name, .string h1.arg, .int .i64 h1.num, .int .i8 h1.tk, .slice q.TA q.tn q.tc, .int .i8 h1.uk, .slice q.UA q.un q.uc, .int .i64 h1.label, .int .i64 h1.pos, .slice q.A q.n q.c] 28) (.cells #[.int .i8 0, .string ⟨#[]⟩, .string ⟨#[]⟩, .int .i64 0, .int .i8 0, .slice none 0 0, .int .i8 0, .slice none 0 0, .int .i64 0, .int .i64 0, .slice none 0 0] 28)
      have hsz9 : ((wr.alloc (.cells #[.int .i8 h1.kind, .string h1.name, .string h1.arg, .int .i64 h1.num, .int .i8 h1.tk, .slice q.TA q.tn q.tc, .int .i8 h1.uk, .slice q.UA q.un q.uc, .int .i64 h1.label, .int .i64 h1.pos, .slice q.A q.n q.c] 28)).alloc (.cells #[.int .i8 0, .string ⟨#[]⟩, .string ⟨#[]⟩, .int .i64 0, .int .i8 0, .slice none 0 0, .int .i8 0, .slice none 0 0, .int .i64 0, .int .i64 0, .slice none 0 0] 28)).heap.size = wr.heap.size + 2 := by simp
      have hO9 := ownsRow_below hO hb9
      clear hcall hstp hR hcl hft hkl hrl hok1 hcr hcr0 htf hmf hokr hA hsb hcnt1 hcnt2 hc1 hmm
      obtain ⟨PTA, Ptn, Ptc, PUA, Pun, Puc, pA, pn, pc⟩ := p
      dsimp only at *
      obtain rfl : pA = some ⟨bb, oo, none⟩ := HAA.out
      clear HAA
      go_upto_region 16 with fail
      generalize hW2 : (wr.alloc (.cells #[.int .i8 h1.kind, .string h1.name, .string h1.arg, .int .i64 h1.num, .int .i8 h1.tk, .slice q.TA q.tn q.tc, .int .i8 h1.uk, .slice q.UA q.un q.uc, .int .i64 h1.label, .int .i64 h1.pos, .slice q.A q.n q.c] 28)).alloc (.cells #[.int .i8 0, .string ⟨#[]⟩, .string ⟨#[]⟩, .int .i64 0, .int .i8 0, .slice none 0 0, .int .i8 0, .slice none 0 0, .int .i64 0, .int .i64 0, .slice none 0 0] 28) = W2 at *
      have HB9 := Lib.hid hb9
      have XB := Lib.hid xb
      have HO9 := Lib.hid hO9
      have HS9 := Lib.hid hsz9
      clear hW2 hb9 xb hO9 d0 d1 d2 d3 d4 d5 d6 d7 d8 d9 d10
      obtain ⟨q0, q1, q2, q3, q4, q5, q6, q7, q8, q9, q10, ql⟩ := own11 xa
      go_wp2_with fail
      refine (HC.out W2 HB9.out).mono ?_
      rintro e u ⟨p2, rfl, hI, hb⟩
      have HI := Lib.hid hI
      have HBU := Lib.hid hb
      have xbu := heap_below hb (heap_lt XB.out) XB.out
      have XBU := Lib.hid xbu
      have HOU := Lib.hid (ownsRow_below HO9.out hb)
      clear hI hb q0 q1 q2 q3 q4 q5 q6 q7 q8 q9 q10 ql xa
      have hxw : W2.heap.size = wr.heap.size + 2 := HS9.out
      have hlt0 := HOU.out.lt
      have hXO : u8.ownBlock ≠ some (wr.heap.size + 1) := fun e => by have h1 := (hO.lt _ e).2; omega
      have z := set11_own xbu (.int .i8 (Ls.lesH L h1 m').1.kind) (.string (Ls.lesH L h1 m').1.name) (.string (Ls.lesH L h1 m').1.arg) (.int .i64 (Ls.lesH L h1 m').1.num) (.int .i8 (Ls.lesH L h1 m').1.tk) (.slice p2.TA p2.tn p2.tc) (.int .i8 (Ls.lesH L h1 m').1.uk) (.slice p2.UA p2.un p2.uc) (.int .i64 (Ls.lesH L h1 m').1.label) (.int .i64 (Ls.lesH L h1 m').1.pos) (.slice p2.A p2.n p2.c)
      have hbz : Below (wr.heap.size + 1) u (set11 u (wr.heap.size + 1) (.int .i8 (Ls.lesH L h1 m').1.kind) (.string (Ls.lesH L h1 m').1.name) (.string (Ls.lesH L h1 m').1.arg) (.int .i64 (Ls.lesH L h1 m').1.num) (.int .i8 (Ls.lesH L h1 m').1.tk) (.slice p2.TA p2.tn p2.tc) (.int .i8 (Ls.lesH L h1 m').1.uk) (.slice p2.UA p2.un p2.uc) (.int .i64 (Ls.lesH L h1 m').1.label) (.int .i64 (Ls.lesH L h1 m').1.pos) (.slice p2.A p2.n p2.c)) := set11_below (Below.refl _ u) (Nat.le_refl _) (.int .i8 (Ls.lesH L h1 m').1.kind) (.string (Ls.lesH L h1 m').1.name) (.string (Ls.lesH L h1 m').1.arg) (.int .i64 (Ls.lesH L h1 m').1.num) (.int .i8 (Ls.lesH L h1 m').1.tk) (.slice p2.TA p2.tn p2.tc) (.int .i8 (Ls.lesH L h1 m').1.uk) (.slice p2.UA p2.un p2.uc) (.int .i64 (Ls.lesH L h1 m').1.label) (.int .i64 (Ls.lesH L h1 m').1.pos) (.slice p2.A p2.n p2.c)
      have hcz := fun (b o : Nat) (x : Value) (hne : b ≠ wr.heap.size + 1) (hx : u.cell? ⟨b, o, none⟩ = some x) => set11_cell hx hne (.int .i8 (Ls.lesH L h1 m').1.kind) (.string (Ls.lesH L h1 m').1.name) (.string (Ls.lesH L h1 m').1.arg) (.int .i64 (Ls.lesH L h1 m').1.num) (.int .i8 (Ls.lesH L h1 m').1.tk) (.slice p2.TA p2.tn p2.tc) (.int .i8 (Ls.lesH L h1 m').1.uk) (.slice p2.UA p2.un p2.uc) (.int .i64 (Ls.lesH L h1 m').1.label) (.int .i64 (Ls.lesH L h1 m').1.pos) (.slice p2.A p2.n p2.c)
      have hsz2 := set11_size u (wr.heap.size + 1) (.int .i8 (Ls.lesH L h1 m').1.kind) (.string (Ls.lesH L h1 m').1.name) (.string (Ls.lesH L h1 m').1.arg) (.int .i64 (Ls.lesH L h1 m').1.num) (.int .i8 (Ls.lesH L h1 m').1.tk) (.slice p2.TA p2.tn p2.tc) (.int .i8 (Ls.lesH L h1 m').1.uk) (.slice p2.UA p2.un p2.uc) (.int .i64 (Ls.lesH L h1 m').1.label) (.int .i64 (Ls.lesH L h1 m').1.pos) (.slice p2.A p2.n p2.c)
      have hro := set11_row HOU.out hXO (.int .i8 (Ls.lesH L h1 m').1.kind) (.string (Ls.lesH L h1 m').1.name) (.string (Ls.lesH L h1 m').1.arg) (.int .i64 (Ls.lesH L h1 m').1.num) (.int .i8 (Ls.lesH L h1 m').1.tk) (.slice p2.TA p2.tn p2.tc) (.int .i8 (Ls.lesH L h1 m').1.uk) (.slice p2.UA p2.un p2.uc) (.int .i64 (Ls.lesH L h1 m').1.label) (.int .i64 (Ls.lesH L h1 m').1.pos) (.slice p2.A p2.n p2.c)
      have f0 := fz11 xbu 0; have f1 := fz11 xbu 1; have f2 := fz11 xbu 2; have f3 := fz11 xbu 3; have f4 := fz11 xbu 4; have f5 := fz11 xbu 5; have f6 := fz11 xbu 6; have f7 := fz11 xbu 7; have f8 := fz11 xbu 8; have f9 := fz11 xbu 9; have f10 := fz11 xbu 10
      obtain ⟨y0, y1, y2, y3, y4, y5, y6, y7, y8, y9, y10, yl⟩ := own11 xbu
      have HSZ2 := Lib.hid hsz2
      have HXW := Lib.hid hxw
      have HZ4 := Lib.hid z4
      clear hsz2 hxw hlt0 z4 hXO
      go_upto_region 17 with fail
      rw [set11_eq]
      generalize set11 u (wr.heap.size + 1) (.int .i8 (Ls.lesH L h1 m').1.kind) (.string (Ls.lesH L h1 m').1.name) (.string (Ls.lesH L h1 m').1.arg) (.int .i64 (Ls.lesH L h1 m').1.num) (.int .i8 (Ls.lesH L h1 m').1.tk) (.slice p2.TA p2.tn p2.tc) (.int .i8 (Ls.lesH L h1 m').1.uk) (.slice p2.UA p2.un p2.uc) (.int .i64 (Ls.lesH L h1 m').1.label) (.int .i64 (Ls.lesH L h1 m').1.pos) (.slice p2.A p2.n p2.c) = u2 at *
      have HZZ := Lib.hid z
      have HBZ := Lib.hid hbz
      have HCZ := Lib.hid hcz
      have hro2 := hro
      clear xbu hbz hcz y0 y1 y2 y3 y4 y5 y6 y7 y8 y9 y10 yl f0 f1 f2 f3 f4 f5 f6 f7 f8 f9 f10
      obtain ⟨q0, q1, q2, q3, q4, q5, q6, q7, q8, q9, q10, ql⟩ := own11 z
      go_wp2_with (first | (at_builtin; refine wpList_append_own_at _ rfl (.tmp 63) (.tmp 65) 26 rfl wl.heap.size 28 i0 (.agg #[.int .i8 0, .string ⟨#[]⟩, .string ⟨#[]⟩, .int .i64 0, .int .i8 0, .slice none 0 0, .int .i8 0, .slice none 0 0, .int .i64 0, .int .i64 0, .slice none 0 0]) 11 152 Tryz.underlying26 hi hz1 hz2 hz3 rfl (by decide) u8 _ _ rfl (hro2.alloc _) ⟨u2.heap.size, 0, none⟩ 1 1 [.int .i8 (Ls.lesH L h1 m').1.kind, .string (Ls.lesH L h1 m').1.name, .string (Ls.lesH L h1 m').1.arg, .int .i64 (Ls.lesH L h1 m').1.num, .int .i8 (Ls.lesH L h1 m').1.tk, .slice p2.TA p2.tn p2.tc, .int .i8 (Ls.lesH L h1 m').1.uk, .slice p2.UA p2.un p2.uc, .int .i64 (Ls.lesH L h1 m').1.label, .int .i64 (Ls.lesH L h1 m').1.pos, .slice p2.A p2.n p2.c] rfl rfl ?c1 ?c2 ?c3 ?c4 ?c5 ?_))
      case c1 => exact cells_of_heap (heap_new u2 _)
      case c2 => intro x hx; simp at hx; rcases hx with rfl | rfl | rfl | rfl | rfl | rfl | rfl | rfl | rfl | rfl | rfl <;> rfl
      case c3 => unfold maxLen; omega
      case c4 => omega
      case c5 => have h1 := HBU.out.size; have h2 := HSZ2.out; have h3 := HXW.out; have h4 := HRB.out.size; simp; omega
      intro v' w3 hown3 hg3 _ hat
      have hxw := HXW.out
      have hR3 := Lib.hid (HSTP.out W2 u u2 w3 v' p2 _ (wr.heap.size + 1) HB9.out ⟨by omega, by omega⟩ HBU.out HI.out HBZ.out HCZ.out HSZ2.out hown3 hg3 (by simpa using hat))
      clear hxw hown3 hg3 hat hro hro2 hO q0 q1 q2 q3 q4 q5 q6 q7 q8 q9 q10 ql
      go_wp2_with fail
      go_roundw
      case rel =>
        refine ⟨i + 1, _, _, r, _, by go_num, rfl, hR3.out, ?_, ?_, HCNT.out, HNX.out.1, HNX.out.2⟩
        · rw [Ls.tcat_snoc]; exact HTF2.out
        · exact HMF2.out
      case measure => simp [intOf]; omega
theorem lessened_any (L : List Bool) (LA : Option Addr) (ll lc : Nat) (wb : World) (K : Nat) : ∀ (h : Hd) (kids : Tm) (p : Pl) (m : Nat) (W : World), Tm.nodes kids < K → Tm.Is wb h kids p → Below wb.heap.size wb W → BAt W L LA ll lc → Tm.okT h kids = true → Ck.castT h kids = false → m + Tm.nd h kids ≤ 1000000 → Calls Tryz.prog 15 #[.agg #[.int .i8 h.kind, .string h.name, .string h.arg, .int .i64 h.num, .int .i8 h.tk, .slice p.TA p.tn p.tc, .int .i8 h.uk, .slice p.UA p.un p.uc, .int .i64 h.label, .int .i64 h.pos, .slice p.A p.n p.c], .slice LA ll lc, .int .i64 m] W (LsdPost wb W (Ls.lesH L h m) (Ls.lsF L kids (Ls.lesH L h m).2)) := by
  induction K with
  | zero => intro _ _ _ _ _ hK; omega
  | succ K ih =>
    intro h kids p m W hK hIs hwb hL ho hc hm
    by_cases h5 : h.kind = 5
    · exact lessened_two L LA ll lc wb K ih h kids p m W hK hIs hwb hL ho hc hm h5
    · by_cases h4 : h.kind = 4 ∨ h.kind = 7 ∨ h.kind = 12 ∨ h.kind = 13 ∨ h.kind = 16
      · exact lessened_one L LA ll lc wb K ih h kids p m W hK hIs hwb hL ho hc hm h4
      · exact lessened_plain L LA ll lc wb K ih h kids p m W hK hIs hwb hL ho hc hm h5 h4
end Go.Proofs.YtekjhcfjpedbkaaGreatDoor
