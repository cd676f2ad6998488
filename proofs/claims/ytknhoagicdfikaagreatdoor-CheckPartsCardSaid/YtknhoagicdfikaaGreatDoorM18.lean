/-
  Layer 9: what keeps a term from being one that the rules speak of; the closure that takes a rule's fault. Layer 9: the rules' small parts: meet, answerOf, named.
-/
import Derived.Test.YtknhoagicdfikaaGreatDoorM16
import Derived.Test.YtknhoagicdfikaaGreatDoorM17
import Derived.Test.YtknhoagicdfikaaGreatDoorM10
import Derived.Test.YtknhoagicdfikaaGreatDoorM5
import Derived.Test.YtknhoagicdfikaaGreatDoorKc
import Derived.WalkSmall
namespace Go.Proofs.YtknhoagicdfikaaGreatDoor
open Go.RowKit
theorem cf_has1 (args : Array Value) (W : World) : (callFunc 67 args).run Tryz.prog W = .ok (.enter 67 args) W := by simp [go_sem]
set_option maxHeartbeats 1000000 in
set_option maxRecDepth 100000 in
theorem ckhas1_of (kd : Int) (g : Addr) (h : Hd) (p : Pl) (w : World) (R : Bool) (hg : ∀ W : World, Below w.heap.size w W → W.cell? g = some (.int .i8 kd))
    (hC : ∀ W : World, Below w.heap.size w W → Calls Tryz.prog 45 #[.agg #[.int .i8 h.kind, .string h.name, .string h.arg, .int .i64 h.num, .int .i8 h.tk, .slice p.TA p.tn p.tc, .int .i8 h.uk, .slice p.UA p.un p.uc, .int .i64 h.label, .int .i64 h.pos, .slice p.A p.n p.c], .int .i8 kd] W fun e w' => e = .returned (.bool R) ∧ Below W.heap.size W w') :
    Calls Tryz.prog 67 #[.agg #[.int .i8 h.kind, .string h.name, .string h.arg, .int .i64 h.num, .int .i8 h.tk, .slice p.TA p.tn p.tc, .int .i8 h.uk, .slice p.UA p.un p.uc, .int .i64 h.label, .int .i64 h.pos, .slice p.A p.n p.c], .pointer (some g)] w fun e w' => e = .returned (.bool R) ∧ Below w.heap.size w w' := by
  have HB1 := Lib.hid (below_n1 w (.cells #[.int .i8 h.kind, .string h.name, .string h.arg, .int .i64 h.num, .int .i8 h.tk, .slice p.TA p.tn p.tc, .int .i8 h.uk, .slice p.UA p.un p.uc, .int .i64 h.label, .int .i64 h.pos, .slice p.A p.n p.c] 28))
  have HX := Lib.hid (heap_new w (.cells #[.int .i8 h.kind, .string h.name, .string h.arg, .int .i64 h.num, .int .i8 h.tk, .slice p.TA p.tn p.tc, .int .i8 h.uk, .slice p.UA p.un p.uc, .int .i64 h.label, .int .i64 h.pos, .slice p.A p.n p.c] 28))
  have hgg := hg _ HB1.out
  have HC := Lib.hid (hC _ HB1.out)
  clear hg hC
  go_enter Tryz.func67, Tryz.ntmps67
  go_upto_region 1 with fail
  generalize w.alloc (.cells #[.int .i8 h.kind, .string h.name, .string h.arg, .int .i64 h.num, .int .i8 h.tk, .slice p.TA p.tn p.tc, .int .i8 h.uk, .slice p.UA p.un p.uc, .int .i64 h.label, .int .i64 h.pos, .slice p.A p.n p.c] 28) = w1 at *
  obtain ⟨q0, q1, q2, q3, q4, q5, q6, q7, q8, q9, q10, ql⟩ := own11 HX.out
  go_wp2_with fail
  refine HC.out.mono ?_
  rintro e w2 ⟨rfl, hb⟩
  have HB2 := Lib.hid (HB1.out.trans (hb.mono HB1.out.size))
  clear hb
  go_wp2_with fail
  go_ret
  exact ⟨rfl, HB2.out⟩

set_option maxHeartbeats 4000000 in
set_option maxRecDepth 100000 in
theorem ckhas_any (kd : Int) (K : Nat) : ∀ (h : Hd) (kids : Tm) (p : Pl) (w : World), Tm.nodes kids < K → Tm.Is w h kids p →
    Calls Tryz.prog 45 #[.agg #[.int .i8 h.kind, .string h.name, .string h.arg, .int .i64 h.num, .int .i8 h.tk, .slice p.TA p.tn p.tc, .int .i8 h.uk, .slice p.UA p.un p.uc, .int .i64 h.label, .int .i64 h.pos, .slice p.A p.n p.c], .int .i8 kd] w fun e w' => e = .returned (.bool (Ck.hasT kd h kids)) ∧ Below w.heap.size w w' := by
  induction K with
  | zero => intro _ _ _ _ hK; omega
  | succ K ih =>
    intro h kids p w hK hIs
    have hB0 := below_n2 w (.cells #[.int .i8 h.kind, .string h.name, .string h.arg, .int .i64 h.num, .int .i8 h.tk, .slice p.TA p.tn p.tc, .int .i8 h.uk, .slice p.UA p.un p.uc, .int .i64 h.label, .int .i64 h.pos, .slice p.A p.n p.c] 28) (.cells #[.int .i8 kd] 22)
    obtain ⟨h0, h1⟩ := heap_n2 w (.cells #[.int .i8 h.kind, .string h.name, .string h.arg, .int .i64 h.num, .int .i8 h.tk, .slice p.TA p.tn p.tc, .int .i8 h.uk, .slice p.UA p.un p.uc, .int .i64 h.label, .int .i64 h.pos, .slice p.A p.n p.c] 28) (.cells #[.int .i8 kd] 22)
    have HX := Lib.hid h0
    have HY := Lib.hid h1
    have hI := hIs.below hB0
    have CC := Lib.hid (tm_containsc_any 67 ⟨w.heap.size + 1, 0, none⟩ (Ck.hasT kd) kids p.A p.n p.c _ hI.lies hI.fit.n_eq hI.fit.n_le hI.fit.c_le cf_has1
      (fun h1 k1 q W h2 h3 h4 => ckhas1_of kd _ h1 q W (Ck.hasT kd h1 k1) (fun U hU => (own1 (heap_below (h4.trans (hU.mono h4.size)) (heap_lt HY.out) HY.out)).1) (fun U hU => ih h1 k1 q U (by omega) (h3.below hU))))
    rw [← Ck.hasF_any] at CC
    obtain ⟨b0, hb0⟩ : ∃ b, (h.kind == kd) = b := ⟨_, rfl⟩
    obtain ⟨R, hR⟩ : ∃ b, Ck.hasF kd kids = b := ⟨_, rfl⟩
    have hres : Ck.hasT kd h kids = (b0 || R) := by unfold Ck.hasT; rw [hb0, hR]
    rw [hres]
    rw [hR] at CC
    have HB0 := Lib.hid hB0
    clear ih hIs hI hres hR h0 h1 hB0
    cases b0
    all_goals
      go_enter Tryz.func45, Tryz.ntmps45
      go_upto_region 1 with fail
      generalize (w.alloc (.cells #[.int .i8 h.kind, .string h.name, .string h.arg, .int .i64 h.num, .int .i8 h.tk, .slice p.TA p.tn p.tc, .int .i8 h.uk, .slice p.UA p.un p.uc, .int .i64 h.label, .int .i64 h.pos, .slice p.A p.n p.c] 28)).alloc (.cells #[.int .i8 kd] 22) = w1 at *
      obtain ⟨q0, q1, q2, q3, q4, q5, q6, q7, q8, q9, q10, ql⟩ := own11 HX.out
      obtain ⟨y0, -, yl⟩ := own1 HY.out
      go_wp2_with fail
      first
        | (go_ret
           exact ⟨rfl, HB0.out⟩)
        | (refine CC.out.mono ?_
           rintro e w2 ⟨rfl, hb⟩
           have HB2 := Lib.hid (HB0.out.trans (hb.mono HB0.out.size))
           clear hb
           go_wp2_with fail
           go_ret
           exact ⟨rfl, HB2.out⟩)

set_option maxHeartbeats 1000000 in
set_option maxRecDepth 100000 in
theorem ckwithout_any (kd : Int) (w : World) : Calls Tryz.prog 21 #[.int .i8 kd] w fun e w' => ∃ g, e = .returned (.func (Fn.func 44) #[] #[.pointer (some ⟨g, 0, none⟩)]) ∧ w'.heap[g]? = some (.cells #[.int .i8 kd] 22 (0, 0)) ∧ w.heap.size ≤ g ∧ Below w.heap.size w w' := by
  have HB := Lib.hid (below_n1 w (.cells #[.int .i8 kd] 22))
  have HX := Lib.hid (heap_new w (.cells #[.int .i8 kd] 22))
  go_enter Tryz.func21, Tryz.ntmps21
  go_wp2_with fail
  go_ret
  exact ⟨w.heap.size, rfl, HX.out, Nat.le_refl _, HB.out⟩

set_option maxHeartbeats 1000000 in
set_option maxRecDepth 100000 in
theorem ckwithout1_any (kd : Int) (g : Nat) (h : Hd) (kids : Tm) (p : Pl) (w : World) (hIs : Tm.Is w h kids p) (hG : TGlob w) (hg : w.heap[g]? = some (.cells #[.int .i8 kd] 22 (0, 0))) :
    Calls Tryz.prog 44 #[.agg #[.int .i8 h.kind, .string h.name, .string h.arg, .int .i64 h.num, .int .i8 h.tk, .slice p.TA p.tn p.tc, .int .i8 h.uk, .slice p.UA p.un p.uc, .int .i64 h.label, .int .i64 h.pos, .slice p.A p.n p.c], .pointer (some ⟨g, 0, none⟩)] w (Cg.RefPost w (Ck.refKO kd h kids)) := by
  have HB0 := Lib.hid (below_n1 w (.cells #[.int .i8 h.kind, .string h.name, .string h.arg, .int .i64 h.num, .int .i8 h.tk, .slice p.TA p.tn p.tc, .int .i8 h.uk, .slice p.UA p.un p.uc, .int .i64 h.label, .int .i64 h.pos, .slice p.A p.n p.c] 28))
  have HC := Lib.hid (fun (W : World) (hb : Below w.heap.size w W) => tcheck_any h kids p W (hIs.below hb) (hG.below hb))
  have HH := Lib.hid (fun (W : World) (hb : Below w.heap.size w W) => ckhas_any kd (Tm.nodes kids + 1) h kids p W (Nat.lt_succ_self _) (hIs.below hb))
  have HKG := Lib.hid (fun (W : World) (hb : Below w.heap.size w W) => (own1 (heap_below hb (heap_lt hg) hg)).1)
  have HX := Lib.hid (heap_new w (.cells #[.int .i8 h.kind, .string h.name, .string h.arg, .int .i64 h.num, .int .i8 h.tk, .slice p.TA p.tn p.tc, .int .i8 h.uk, .slice p.UA p.un p.uc, .int .i64 h.label, .int .i64 h.pos, .slice p.A p.n p.c] 28))
  clear hIs hG hg
  by_cases h0 : Tm.chk h kids = 0
  · rw [h0] at HC
    cases hc : Ck.hasT kd h kids
    all_goals rw [hc] at HH
    · have hr : Ck.refKO kd h kids = none := by
        have hu : Ck.refK kd h kids = 0 := by unfold Ck.refK; rw [if_neg (by simpa using h0), if_neg (by rw [hc]; decide)]
        unfold Ck.refKO; rw [if_pos hu]
      rw [hr]
      clear hc hr h0
      go_enter Tryz.func44, Tryz.ntmps44
      go_upto_region 1 with fail
      generalize w.alloc (.cells #[.int .i8 h.kind, .string h.name, .string h.arg, .int .i64 h.num, .int .i8 h.tk, .slice p.TA p.tn p.tc, .int .i8 h.uk, .slice p.UA p.un p.uc, .int .i64 h.label, .int .i64 h.pos, .slice p.A p.n p.c] 28) = w1 at *
      obtain ⟨q0, q1, q2, q3, q4, q5, q6, q7, q8, q9, q10, ql⟩ := own11 HX.out
      go_wp2_with fail
      refine (HC.out _ HB0.out).mono ?_
      rintro e w2 ⟨rfl, hb2⟩
      have HB2 := Lib.hid (HB0.out.trans (hb2.mono HB0.out.size))
      have HX2 := Lib.hid (heap_below hb2 (heap_lt HX.out) HX.out)
      clear q0 q1 q2 q3 q4 q5 q6 q7 q8 q9 q10 ql
      obtain ⟨q0, q1, q2, q3, q4, q5, q6, q7, q8, q9, q10, ql⟩ := own11 HX2.out
      have hk := HKG.out _ HB2.out
      clear hb2
      go_wp2_with fail
      refine (HH.out _ HB2.out).mono ?_
      rintro e w3 ⟨rfl, hb3⟩
      have HB3 := Lib.hid (HB2.out.trans (hb3.mono HB2.out.size))
      clear hb3 hk q0 q1 q2 q3 q4 q5 q6 q7 q8 q9 q10 ql
      go_wp2_with fail
      go_ret
      exact ⟨rfl, HB3.out⟩
    · have hr : Ck.refKO kd h kids = some (30, 0) := by
        have hu : Ck.refK kd h kids = 30 := by unfold Ck.refK; rw [if_neg (by simpa using h0), if_pos hc]
        unfold Ck.refKO; rw [hu]; rfl
      rw [hr]
      clear hc hr h0
      go_enter Tryz.func44, Tryz.ntmps44
      go_upto_region 1 with fail
      generalize w.alloc (.cells #[.int .i8 h.kind, .string h.name, .string h.arg, .int .i64 h.num, .int .i8 h.tk, .slice p.TA p.tn p.tc, .int .i8 h.uk, .slice p.UA p.un p.uc, .int .i64 h.label, .int .i64 h.pos, .slice p.A p.n p.c] 28) = w1 at *
      obtain ⟨q0, q1, q2, q3, q4, q5, q6, q7, q8, q9, q10, ql⟩ := own11 HX.out
      go_wp2_with fail
      refine (HC.out _ HB0.out).mono ?_
      rintro e w2 ⟨rfl, hb2⟩
      have HB2 := Lib.hid (HB0.out.trans (hb2.mono HB0.out.size))
      have HX2 := Lib.hid (heap_below hb2 (heap_lt HX.out) HX.out)
      clear q0 q1 q2 q3 q4 q5 q6 q7 q8 q9 q10 ql
      obtain ⟨q0, q1, q2, q3, q4, q5, q6, q7, q8, q9, q10, ql⟩ := own11 HX2.out
      have hk := HKG.out _ HB2.out
      clear hb2
      go_wp2_with fail
      refine (HH.out _ HB2.out).mono ?_
      rintro e w3 ⟨rfl, hb3⟩
      have HB3 := Lib.hid (HB2.out.trans (hb3.mono HB2.out.size))
      have HB4 := Lib.hid (HB3.out.alloc HB3.out.size (.cells #[.int .i64 30, .int .i64 0, .string ⟨#[]⟩] 56))
      have HF := Lib.hid (heap_new w3 (.cells #[.int .i64 30, .int .i64 0, .string ⟨#[]⟩] 56))
      clear hb3 hk q0 q1 q2 q3 q4 q5 q6 q7 q8 q9 q10 ql
      go_wp2_with fail
      go_ret
      exact ⟨w3.heap.size, rfl, HF.out, HB3.out.size, HB4.out⟩
  · have hr : Ck.refKO kd h kids = some (((Tm.chk h kids : Nat) : Int), 0) := by
      have hu : Ck.refK kd h kids = Tm.chk h kids := by unfold Ck.refK; rw [if_pos (by simpa using h0)]
      unfold Ck.refKO; rw [hu, if_neg (by omega)]
    rw [hr]
    have hcn : (((Tm.chk h kids : Nat) : Int) == 0) = false := by simp; omega
    generalize Tm.chk h kids = C at *
    clear hr h0 HH
    go_enter Tryz.func44, Tryz.ntmps44
    go_upto_region 1 with fail
    generalize w.alloc (.cells #[.int .i8 h.kind, .string h.name, .string h.arg, .int .i64 h.num, .int .i8 h.tk, .slice p.TA p.tn p.tc, .int .i8 h.uk, .slice p.UA p.un p.uc, .int .i64 h.label, .int .i64 h.pos, .slice p.A p.n p.c] 28) = w1 at *
    obtain ⟨q0, q1, q2, q3, q4, q5, q6, q7, q8, q9, q10, ql⟩ := own11 HX.out
    go_wp2_with fail
    refine (HC.out _ HB0.out).mono ?_
    rintro e w2 ⟨rfl, hb2⟩
    have HB2 := Lib.hid (HB0.out.trans (hb2.mono HB0.out.size))
    have HB4 := Lib.hid (HB2.out.alloc HB2.out.size (.cells #[.int .i64 C, .int .i64 0, .string ⟨#[]⟩] 56))
    have HF := Lib.hid (heap_new w2 (.cells #[.int .i64 C, .int .i64 0, .string ⟨#[]⟩] 56))
    clear hb2 q0 q1 q2 q3 q4 q5 q6 q7 q8 q9 q10 ql
    go_wp2_with fail
    go_ret
    exact ⟨w2.heap.size, rfl, HF.out, HB2.out.size, HB4.out⟩

theorem ckasFault (p : Option Addr) (w : World) : (Instr.typeAssert (.iface 52 (.pointer p)) 20 52 true).run Tryz.prog w = .ok (.tuple #[.pointer p, .bool true]) w := by kernel_rfl
theorem ckasNone (w : World) : (Instr.typeAssert .nilIface 20 52 true).run Tryz.prog w = .ok (.tuple #[.pointer none, .bool false]) w := by kernel_rfl
set_option maxHeartbeats 4000000 in
set_option maxRecDepth 100000 in
theorem ckcatch_fault (P R : Nat) (g : Addr) (x0 x1 z : Value) (w : World) (h0 : w.cell? ⟨P, 0, none⟩ = some x0) (h1 : w.cell? ⟨P, 1, none⟩ = some x1) (hr : w.cell? ⟨R, 0, none⟩ = some z)
    (hPR : P ≠ R) (f0 : w.frozen? ⟨P, 0, none⟩ = false) (f1 : w.frozen? ⟨P, 1, none⟩ = false) (fr : w.frozen? ⟨R, 0, none⟩ = false) :
    CallsD Tryz.prog 26 #[.pointer (some ⟨P, 0, none⟩), .pointer (some ⟨R, 0, none⟩)] (.panicking [{ v := .iface 52 (.pointer (some g)), recovered := false }]) w fun e u' w' =>
      e = .returned (.tuple #[]) ∧ u' = .panicking [{ v := .iface 52 (.pointer (some g)), recovered := true }] ∧ w' = ((w.setCell ⟨P, 0, none⟩ (.int .i8 0)).setCell ⟨P, 1, none⟩ (.slice none 0 0)).setCell ⟨R, 0, none⟩ (.iface 52 (.pointer (some g))) := by
  have e1 := ckasFault
  have k1 : (w.setCell ⟨P, 0, none⟩ (.int .i8 0)).cell? ⟨P, 1, none⟩ = some x1 := by
    rw [World.cell?_setCell_other _ _ _ _ (fun e => by injection e with e1 e2; omega)]; exact h1
  have kr : ((w.setCell ⟨P, 0, none⟩ (.int .i8 0)).setCell ⟨P, 1, none⟩ (.slice none 0 0)).cell? ⟨R, 0, none⟩ = some z := by
    rw [World.cell?_setCell_other _ _ _ _ (fun e => by injection e with e1 e2; omega), World.cell?_setCell_other _ _ _ _ (fun e => by injection e with e1 e2; omega)]; exact hr
  refine callsD_of_wpS Tryz.func26 rfl fun c₀ cs hu => ?_
  apply wpS_seq
  apply wpS_region
  simp [wpOpsS, go_sem, recoverD, hu, Tryz.ntmps26, Exit.thenS]
  refine wpS_of_wp ?_
  change Code.wp _ _ _ { tmps := #[.pointer (some ⟨P, 0, none⟩), .pointer (some ⟨R, 0, none⟩), .iface 52 (.pointer (some g)), undef, undef, .iface 52 (.pointer (some g)), undef, undef, undef, undef, undef, undef, undef, undef, undef, undef, undef, undef], defers := [] } w
  clear hu
  go_wp2_with fail
  exact ⟨rfl, _, rfl, .tuple #[], by simp [results, Tryz.results26], rfl, rfl, rfl⟩

set_option maxHeartbeats 4000000 in
set_option maxRecDepth 100000 in
theorem ckcatch_none (p r : Addr) (w : World) :
    CallsD Tryz.prog 26 #[.pointer (some p), .pointer (some r)] .returning w fun e u' w' => e = .returned (.tuple #[]) ∧ u' = .returning ∧ w' = w := by
  have e1 := ckasNone
  have e2 := neqNone
  refine callsD_of_wpS Tryz.func26 rfl fun c₀ cs hu => ?_
  apply wpS_seq
  apply wpS_region
  simp [wpOpsS, go_sem, recoverD, hu, Tryz.ntmps26, Exit.thenS]
  refine wpS_of_wp ?_
  change Code.wp _ _ _ { tmps := #[.pointer (some p), .pointer (some r), .nilIface, undef, undef, .nilIface, undef, undef, undef, undef, undef, undef, undef, undef, undef, undef, undef, undef], defers := [] } w
  go_wp2_with fail
  exact ⟨rfl, .returning, by cases c₀; simp_all, .tuple #[], by simp [results, Tryz.results26], rfl, rfl, rfl⟩
end Go.Proofs.YtknhoagicdfikaaGreatDoor
namespace Go.Proofs.YtknhoagicdfikaaGreatDoor
open Go.RowKit

set_option maxHeartbeats 2000000 in
set_option maxRecDepth 100000 in
theorem ckmeet_no (rv : Cg.Rv) (Q : Nat → Prop) (h : Hd) (p : Pl) (a : Ck.T2) (A : Option Addr) (n c : Nat) (b : Ck.T2) (A' : Option Addr) (n' c' : Nat) (w : World) (hL : Ck.Ly Q w a A n c) (hL' : Ck.Ly Q w b A' n' c') (hS : Shapes w) (hag : rv.D.ag a b = false) :
    Calls Tryz.prog 90 #[.agg #[.func (Fn.func rv.fr) #[] rv.cpt, .func (Fn.func rv.fa) #[] #[], .func (Fn.func rv.fm) #[] #[], .func (Fn.func rv.ft) #[] #[], rv.vg], .agg #[.int .i8 h.kind, .string h.name, .string h.arg, .int .i64 h.num, .int .i8 h.tk, .slice p.TA p.tn p.tc, .int .i8 h.uk, .slice p.UA p.un p.uc, .int .i64 h.label, .int .i64 h.pos, .slice p.A p.n p.c], .agg #[.int .i8 a.1, .slice A n c], .agg #[.int .i8 b.1, .slice A' n' c']] w (Ck.Gave w 91 h.pos Ck.e0) := by
  have HB5 := Lib.hid (below_n5 w (.cells #[.func (Fn.func rv.fr) #[] rv.cpt, .func (Fn.func rv.fa) #[] #[], .func (Fn.func rv.fm) #[] #[], .func (Fn.func rv.ft) #[] #[], rv.vg] 47) (.cells #[.int .i8 h.kind, .string h.name, .string h.arg, .int .i64 h.num, .int .i8 h.tk, .slice p.TA p.tn p.tc, .int .i8 h.uk, .slice p.UA p.un p.uc, .int .i64 h.label, .int .i64 h.pos, .slice p.A p.n p.c] 28) (.cells #[.int .i8 a.1, .slice A n c] 25) (.cells #[.int .i8 b.1, .slice A' n' c'] 25) (.cells #[.int .i8 0, .slice none 0 0] 25))
  have CW := Lib.hid (fun (W : World) (hb : Below w.heap.size w W) => ckwant_no rv h p a.1 a.2 A n c b.1 b.2 A' n' c' W (hL.later hb).is (hL'.later hb).is (hS.below hb) hag)
  clear hL hL' hS hag
  go_enter Tryz.func90, Tryz.ntmps90
  go_wp2_with fail
  refine (CW.out _ HB5.out).mono ?_
  rintro e w6 hg
  have HG := Lib.hid (Ck.Gave.from (w := w) hg HB5.out)
  obtain ⟨g, rfl, -⟩ := hg
  go_wp2_with fail
  exact ⟨rfl, HG.out⟩

set_option maxHeartbeats 2000000 in
set_option maxRecDepth 100000 in
theorem ckmeet_yes (rv : Cg.Rv) (Q : Nat → Prop) (h : Hd) (p : Pl) (a : Ck.T2) (A : Option Addr) (n c : Nat) (b : Ck.T2) (A' : Option Addr) (n' c' : Nat) (w : World) (hL : Ck.Ly Q w a A n c) (hL' : Ck.Ly Q w b A' n' c') (hS : Shapes w) (hag : rv.D.ag a b = true) :
    Calls Tryz.prog 90 #[.agg #[.func (Fn.func rv.fr) #[] rv.cpt, .func (Fn.func rv.fa) #[] #[], .func (Fn.func rv.fm) #[] #[], .func (Fn.func rv.ft) #[] #[], rv.vg], .agg #[.int .i8 h.kind, .string h.name, .string h.arg, .int .i64 h.num, .int .i8 h.tk, .slice p.TA p.tn p.tc, .int .i8 h.uk, .slice p.UA p.un p.uc, .int .i64 h.label, .int .i64 h.pos, .slice p.A p.n p.c], .agg #[.int .i8 a.1, .slice A n c], .agg #[.int .i8 b.1, .slice A' n' c']] w (Ck.Gives Q w (rv.D.mt a b)) := by
  have HB5 := Lib.hid (below_n5 w (.cells #[.func (Fn.func rv.fr) #[] rv.cpt, .func (Fn.func rv.fa) #[] #[], .func (Fn.func rv.fm) #[] #[], .func (Fn.func rv.ft) #[] #[], rv.vg] 47) (.cells #[.int .i8 h.kind, .string h.name, .string h.arg, .int .i64 h.num, .int .i8 h.tk, .slice p.TA p.tn p.tc, .int .i8 h.uk, .slice p.UA p.un p.uc, .int .i64 h.label, .int .i64 h.pos, .slice p.A p.n p.c] 28) (.cells #[.int .i8 a.1, .slice A n c] 25) (.cells #[.int .i8 b.1, .slice A' n' c'] 25) (.cells #[.int .i8 0, .slice none 0 0] 25))
  have CW := Lib.hid (fun (W : World) (hb : Below w.heap.size w W) => ckwant_yes rv h p a.1 a.2 A n c b.1 b.2 A' n' c' W (hL.later hb).is (hL'.later hb).is (hS.below hb) hag)
  obtain ⟨h0, -, h2, h3, h4⟩ := heap_n5 w (.cells #[.func (Fn.func rv.fr) #[] rv.cpt, .func (Fn.func rv.fa) #[] #[], .func (Fn.func rv.fm) #[] #[], .func (Fn.func rv.ft) #[] #[], rv.vg] 47) (.cells #[.int .i8 h.kind, .string h.name, .string h.arg, .int .i64 h.num, .int .i8 h.tk, .slice p.TA p.tn p.tc, .int .i8 h.uk, .slice p.UA p.un p.uc, .int .i64 h.label, .int .i64 h.pos, .slice p.A p.n p.c] 28) (.cells #[.int .i8 a.1, .slice A n c] 25) (.cells #[.int .i8 b.1, .slice A' n' c'] 25) (.cells #[.int .i8 0, .slice none 0 0] 25)
  have hcf := rv.cft
  have CM := Lib.hid (fun (W : World) (hb : Below w.heap.size w W) => rv.mtC (fun b => Q b ∧ b < w.heap.size) a A n c b A' n' c' W ((hL.weak (fun b hl hq => ⟨hq, hl⟩)).later hb) ((hL'.weak (fun b hl hq => ⟨hq, hl⟩)).later hb) hag (hS.below hb))
  have H0 := Lib.hid h0
  have H2 := Lib.hid h2
  have H3 := Lib.hid h3
  have H4 := Lib.hid h4
  clear hL hL' hS hag h0 h2 h3 h4
  go_enter Tryz.func90, Tryz.ntmps90
  go_wp2_with fail
  refine (CW.out _ HB5.out).mono ?_
  rintro e w6 ⟨rfl, hb6⟩
  have HB6 := Lib.hid (HB5.out.trans (hb6.mono HB5.out.size))
  have H0 := Lib.hid (heap_below hb6 (heap_lt H0.out) H0.out)
  have H2 := Lib.hid (heap_below hb6 (heap_lt H2.out) H2.out)
  have H3 := Lib.hid (heap_below hb6 (heap_lt H3.out) H3.out)
  have H4 := Lib.hid (heap_below hb6 (heap_lt H4.out) H4.out)
  have hz6 := hb6.size
  simp only [World.size_alloc] at hz6
  clear hb6
  obtain ⟨r0, r1, r2, r3, r4, -, -, -, -, -, rl⟩ := own5 H0.out
  obtain ⟨x0, x1, -, -, xl⟩ := own2 H2.out
  obtain ⟨y0, y1, -, -, yl⟩ := own2 H3.out
  go_wp2_with fail
  refine (CM.out _ HB6.out).mono ?_
  rintro e w7 ⟨G, m, cg, rfl, hR, hb7⟩
  have HB7 := Lib.hid (HB6.out.trans (hb7.mono HB6.out.size))
  have HL := Lib.hid (Ck.Ly.weak (Q' := Ck.Cut Q w.heap.size (w.heap.size + 5)) (a := rv.D.mt a b) (w := w7) hR (fun b _ h => Or.elim h (fun h => .inl h.1) (fun h => .inr (by omega))))
  have H4 := Lib.hid (heap_below hb7 (heap_lt H4.out) H4.out)
  clear hR hb7 r0 r1 r2 r3 r4 rl x0 x1 xl y0 y1 yl
  obtain ⟨x0, x1, f0, f1, xl⟩ := own2 H4.out
  have HNE := Lib.hid (fun (b : Nat) (hq : Ck.Cut Q w.heap.size (w.heap.size + 5) b) => hq.ne (X := w.heap.size + 1 + 1 + 1 + 1) (by omega) (by omega))
  go_wp2_with fail
  refine bodyPost_ret (v := .agg #[.int .i8 (rv.D.mt a b).1, .slice G m cg]) (by simp [results, Tryz.results90, go_sem, *]) rfl ⟨G, m, cg, rfl, ?_, ?_⟩
  · exact (HL.out.set2 HNE.out _ _).weak fun b _ hq => hq.out (by omega)
  · exact below_set2 HB7.out (by omega) _ _

set_option maxHeartbeats 1000000 in
set_option maxRecDepth 100000 in
theorem ckanswer_any (s : ByteArray) (w : World) : Calls Tryz.prog 91 #[.string s] w fun e w' => e = .returned (.agg #[.int .i8 (Ck.opAns s).1, .slice none 0 0]) ∧ Below w.heap.size w w' := by
  have HB1 := Lib.hid (below_n1 w (.cells #[.int .i8 0, .slice none 0 0] 25))
  have CO := Lib.hid (fun (k : Int) (W : World) => ckof_any k none 0 0 W)
  have H1 := Lib.hid (heap_new w (.cells #[.int .i8 0, .slice none 0 0] 25))
  cases h60 : (s.toList == [60]) with
  | true =>
    have hR : (Ck.opAns s).1 = 2 := by unfold Ck.opAns; rw [h60]; rfl
    rw [hR]
    clear hR
    go_enter Tryz.func91, Tryz.ntmps91
    go_wp2_with fail
    refine (CO.out 2 _).mono ?_
    rintro e w2 ⟨rfl, hb2⟩
    obtain ⟨x0, x1, f0, f1, xl⟩ := own2 (heap_below hb2 (heap_lt H1.out) H1.out)
    have HB2 := Lib.hid (HB1.out.trans (hb2.mono HB1.out.size))
    clear hb2 h60
    go_wp2_with fail
    exact bodyPost_ret (v := .agg #[.int .i8 2, .slice none 0 0]) (by simp [results, Tryz.results91, go_sem, *]) rfl ⟨rfl, below_set2 HB2.out (Nat.le_refl _) _ _⟩
  | false =>
    cases h61 : (s.toList == [61]) with
    | true =>
      have hR : (Ck.opAns s).1 = 2 := by unfold Ck.opAns; rw [h60, h61]; rfl
      rw [hR]
      clear hR
      go_enter Tryz.func91, Tryz.ntmps91
      go_wp2_with fail
      refine (CO.out 2 _).mono ?_
      rintro e w2 ⟨rfl, hb2⟩
      obtain ⟨x0, x1, f0, f1, xl⟩ := own2 (heap_below hb2 (heap_lt H1.out) H1.out)
      have HB2 := Lib.hid (HB1.out.trans (hb2.mono HB1.out.size))
      clear hb2 h60 h61
      go_wp2_with fail
      exact bodyPost_ret (v := .agg #[.int .i8 2, .slice none 0 0]) (by simp [results, Tryz.results91, go_sem, *]) rfl ⟨rfl, below_set2 HB2.out (Nat.le_refl _) _ _⟩
    | false =>
      have hR : (Ck.opAns s).1 = 1 := by unfold Ck.opAns; rw [h60, h61]; rfl
      rw [hR]
      clear hR
      go_enter Tryz.func91, Tryz.ntmps91
      go_wp2_with fail
      refine (CO.out 1 _).mono ?_
      rintro e w2 ⟨rfl, hb2⟩
      obtain ⟨x0, x1, f0, f1, xl⟩ := own2 (heap_below hb2 (heap_lt H1.out) H1.out)
      have HB2 := Lib.hid (HB1.out.trans (hb2.mono HB1.out.size))
      clear hb2 h60 h61
      go_wp2_with fail
      exact bodyPost_ret (v := .agg #[.int .i8 1, .slice none 0 0]) (by simp [results, Tryz.results91, go_sem, *]) rfl ⟨rfl, below_set2 HB2.out (Nat.le_refl _) _ _⟩

/-- none of the first i names, from the end on, is this one -/
theorem Ck.fnd_split : ∀ (l : Ck.Env) (x : ByteArray) (i : Nat), i ≤ l.length → (∀ j y, i ≤ j → l[j]? = some y → (y.1.toList == x.toList) = false) → Ck.fnd l x = Ck.fnd (l.take i) x
  | [], x, i, _, _ => by simp
  | b :: l, x, 0, _, h => by
    have h1 := Ck.fnd_split l x 0 (Nat.zero_le _) (fun j y hj hy => h (j + 1) y (by omega) (by rw [List.getElem?_cons_succ]; exact hy))
    have h2 := h 0 b (Nat.le_refl _) rfl
    simp only [List.take_zero] at h1 ⊢
    unfold Ck.fnd
    rw [h1]
    simp [Ck.fnd, h2]
  | b :: l, x, i + 1, hi, h => by
    have h1 := Ck.fnd_split l x i (by simp only [List.length_cons] at hi; omega) (fun j y hj hy => h (j + 1) y (by omega) (by rw [List.getElem?_cons_succ]; exact hy))
    rw [List.take_succ_cons]
    unfold Ck.fnd
    rw [h1]
theorem Ck.fnd_last {l : Ck.Env} {x : ByteArray} {i : Nat} {y : ByteArray × Ck.T2} (hy : l[i]? = some y) (he : (y.1.toList == x.toList) = true) (h : ∀ j z, i + 1 ≤ j → l[j]? = some z → (z.1.toList == x.toList) = false) : Ck.fnd l x = some y.2 := by
  have hi : i < l.length := by rcases Nat.lt_or_ge i l.length with q | q; exact q; rw [List.getElem?_eq_none q] at hy; cases hy
  rw [Ck.fnd_split l x (i + 1) (by omega) h, List.take_add_one, hy]
  have hs : ∀ m : Ck.Env, Ck.fnd (m ++ [y]) x = some y.2 := by
    intro m
    induction m with
    | nil => simp [Ck.fnd, he]
    | cons b m ih => simp only [List.cons_append]; unfold Ck.fnd; rw [ih]
  exact hs _
theorem Ck.fnd_none {l : Ck.Env} {x : ByteArray} (h : ∀ (j : Nat) (z : ByteArray × Ck.T2), l[j]? = some z → (z.1.toList == x.toList) = false) : Ck.fnd l x = none := by
  rw [Ck.fnd_split l x 0 (Nat.zero_le _) (fun j y _ hy => h j y hy), List.take_zero]; rfl

/-- a type that is found around, or none -/
def Ck.OfPost (Q : Nat → Prop) (w : World) (r : Option Ck.T2) (e : Ending) (w' : World) : Prop := match r with
  | some a => ∃ G m c, e = .returned (.tuple #[.agg #[.int .i8 a.1, .slice G m c], .bool true]) ∧ Ck.Ly (Ck.Cut Q w.heap.size w.heap.size) w' a G m c ∧ Below w.heap.size w w'
  | none => e = .returned (.tuple #[.agg #[.int .i8 0, .slice none 0 0], .bool false]) ∧ Below w.heap.size w w'
set_option maxHeartbeats 2000000 in
set_option maxRecDepth 100000 in
theorem ckaround_any (Q : Nat → Prop) (x : ByteArray) (l : Ck.Env) (A : Option Addr) (n c : Nat) (w : World) (hE : Ck.EAt Q w l A n c) :
    Calls Tryz.prog 86 #[.slice A n c, .string x] w (Ck.OfPost Q w (Ck.fnd l x)) := by
  have HB1 := Lib.hid (below_n1 w (.cells #[.int .i8 0, .slice none 0 0] 25))
  have h1 := heap_new w (.cells #[.int .i8 0, .slice none 0 0] 25)
  have HY := Lib.hid h1
  have HE := Lib.hid hE
  have hn := hE.n_eq
  have HN := Lib.hid hn
  have hnc := hE.n_le
  have hcm := hE.c_le
  have i5 : (n : Int) ≤ 9223372036854775807 := by unfold maxLen at hcm; omega
  obtain ⟨R, hR⟩ : ∃ R, R = Ck.fnd l x := ⟨_, rfl⟩
  rw [← hR]
  have HR := Lib.hid hR
  clear h1 hE hn hR
  go_enter Tryz.func86, Tryz.ntmps86
  go_upto_region 1 with fail
  generalize w.alloc (.cells #[.int .i8 0, .slice none 0 0] 25) = w1 at *
  go_wp2_with fail
  go_loopw [6] (fun v5 wr => ∃ i : Nat, v5 = .int .i64 ((i : Int) - 1) ∧ i ≤ n ∧ (∀ (j : Nat) (y : ByteArray × Ck.T2), i ≤ j → l[j]? = some y → (y.1.toList == x.toList) = false) ∧ Below w1.heap.size w1 wr) (fun v _ => (intOf v + 1).toNat)
  case atStart =>
    refine ⟨n, rfl, Nat.le_refl _, fun j y hj hy => ?_, Below.refl _ _⟩
    have hnn := HN.out
    rw [List.getElem?_eq_none (by omega)] at hy; cases hy
  case round =>
    obtain ⟨i, rfl, hin, hno, hb⟩ := hrel
    cases i with
    | zero =>
      have HF := Lib.hid (Ck.fnd_none fun j z hz => hno j z (Nat.zero_le _) hz)
      have HBR := Lib.hid (HB1.out.trans (hb.mono HB1.out.size))
      have HY2 := Lib.hid (heap_below hb (heap_lt HY.out) HY.out)
      clear hno hb
      obtain ⟨y0, y1, f0, f1, yl⟩ := own2 HY2.out
      go_wp2_with fail
      have z3 := set_two HY2.out (.int .i8 0) (.slice none 0 0)
      obtain ⟨k0, k1, -, -, -⟩ := own2 z3
      refine bodyPost_ret (v := .tuple #[.agg #[.int .i8 0, .slice none 0 0], .bool false]) (by simp [results, Tryz.results86, go_sem, k0, k1]) rfl ?_
      rw [HR.out, HF.out]
      exact ⟨rfl, below_set2 HBR.out (Nat.le_refl _) _ _⟩
    | succ j =>
      have hj : j < l.length := by have := HN.out; omega
      obtain ⟨y, hy⟩ : ∃ y, l[j]? = some y := ⟨l[j]'hj, List.getElem?_eq_getElem hj⟩
      obtain ⟨b, o, G, m, k, hA, c0, c1, c2, hL⟩ := HE.out.at hy
      have hbw := HB1.out.trans (hb.mono HB1.out.size)
      have c0 := keep_cell c0 hbw
      have c1 := keep_cell c1 hbw
      have c2 := keep_cell c2 hbw
      have hL := (hL.weak (Q' := Ck.Cut Q w.heap.size (w.heap.size + 1)) fun b hb hq => .inl ⟨hq, hb⟩).later hbw
      clear hbw
      have HY2 := Lib.hid (heap_below hb (heap_lt HY.out) HY.out)
      have HBR := Lib.hid (HB1.out.trans (hb.mono HB1.out.size))
      have HB := Lib.hid hb
      have HL := Lib.hid hL
      have HNO := Lib.hid hno
      have HYY := Lib.hid hy
      have e1 : ((j + 1 : Nat) : Int) - 1 = (j : Int) := by omega
      rw [e1]
      have j1 : (0 : Int) ≤ j := by omega
      have j2 : (j : Int) < n := by omega
      have j3 : (0 : Int) ≤ j ∧ (j : Int) < n := by omega
      clear hno hb hL hy e1 hj
      subst hA
      cases hq : (y.1.toList == x.toList)
      · have HQ := Lib.hid hq
        go_wp2_with fail
        go_roundw
        case rel =>
          refine ⟨j, by go_num, by omega, fun i' y' hi' hy' => ?_, HB.out⟩
          rcases Nat.lt_or_ge j i' with g | g
          · exact HNO.out i' y' (by omega) hy'
          · obtain rfl : i' = j := by omega
            have q := HYY.out
            rw [hy'] at q
            injection q with q
            rw [q]; exact HQ.out
        case measure => simp [intOf]
      · have HQ := Lib.hid hq
        have HF := Lib.hid (Ck.fnd_last HYY.out HQ.out fun i' z hi' hz' => HNO.out i' z hi' hz')
        have HBL := Lib.hid (fun (b : Nat) (hq : Ck.Cut Q w.heap.size (w.heap.size + 1) b) => hq.ne (X := w.heap.size) (by omega) (by omega))
        obtain ⟨x0, x1, f0, f1, xl⟩ := own2 HY2.out
        go_wp2_with fail
        have z3 := set_two HY2.out (.int .i8 y.2.1) (.slice G m k)
        obtain ⟨k0, k1, -, -, -⟩ := own2 z3
        refine bodyPost_ret (v := .tuple #[.agg #[.int .i8 y.2.1, .slice G m k], .bool true]) (by simp [results, Tryz.results86, go_sem, k0, k1]) rfl ?_
        rw [HR.out, HF.out]
        refine ⟨G, m, k, rfl, ?_, below_set2 HBR.out (Nat.le_refl _) _ _⟩
        exact (HL.out.set2 HBL.out _ _).weak fun b _ hq => hq.out (by omega)

set_option maxHeartbeats 2000000 in
set_option maxRecDepth 100000 in
theorem cknamed_any (Q : Nat → Prop) (h : Hd) (p : Pl) (l : Ck.Env) (A : Option Addr) (n c : Nat) (w : World) (hE : Ck.EAt Q w l A n c) (hnm : h.name.size ≤ 281474976710656) :
    Calls Tryz.prog 70 #[.agg #[.int .i8 h.kind, .string h.name, .string h.arg, .int .i64 h.num, .int .i8 h.tk, .slice p.TA p.tn p.tc, .int .i8 h.uk, .slice p.UA p.un p.uc, .int .i64 h.label, .int .i64 h.pos, .slice p.A p.n p.c], .slice A n c] w (Ck.Post Q w (match Ck.fnd l h.name with | some a => .ok a | none => .bad 41 h.pos h.name)) := by
  have HB2 := Lib.hid (below_n2 w (.cells #[.int .i8 h.kind, .string h.name, .string h.arg, .int .i64 h.num, .int .i8 h.tk, .slice p.TA p.tn p.tc, .int .i8 h.uk, .slice p.UA p.un p.uc, .int .i64 h.label, .int .i64 h.pos, .slice p.A p.n p.c] 28) (.cells #[.int .i8 0, .slice none 0 0] 25))
  obtain ⟨h0, h1⟩ := heap_n2 w (.cells #[.int .i8 h.kind, .string h.name, .string h.arg, .int .i64 h.num, .int .i8 h.tk, .slice p.TA p.tn p.tc, .int .i8 h.uk, .slice p.UA p.un p.uc, .int .i64 h.label, .int .i64 h.pos, .slice p.A p.n p.c] 28) (.cells #[.int .i8 0, .slice none 0 0] 25)
  have HX := Lib.hid h0
  have HY := Lib.hid h1
  have HCL := Lib.hid (fun W => clone_any h.name hnm W)
  have HA := Lib.hid (fun (W : World) (hb : Below w.heap.size w W) => ckaround_any (fun b => Q b ∧ b < w.heap.size) h.name l A n c W ((hE.weak (fun b hl hq => ⟨hq, hl⟩)).below hb))
  have hzz : ((w.alloc (.cells #[.int .i8 h.kind, .string h.name, .string h.arg, .int .i64 h.num, .int .i8 h.tk, .slice p.TA p.tn p.tc, .int .i8 h.uk, .slice p.UA p.un p.uc, .int .i64 h.label, .int .i64 h.pos, .slice p.A p.n p.c] 28)).alloc (.cells #[.int .i8 0, .slice none 0 0] 25)).heap.size = w.heap.size + 2 := by simp
  have HZ := Lib.hid hzz
  obtain ⟨R, hR⟩ : ∃ R, R = (match Ck.fnd l h.name with | some a => Ck.R.ok a | none => Ck.R.bad 41 h.pos h.name) := ⟨_, rfl⟩
  rw [← hR]
  have HR := Lib.hid hR
  clear h0 h1 hE hR hzz
  go_enter Tryz.func70, Tryz.ntmps70
  go_upto_region 1 with fail
  generalize (w.alloc (.cells #[.int .i8 h.kind, .string h.name, .string h.arg, .int .i64 h.num, .int .i8 h.tk, .slice p.TA p.tn p.tc, .int .i8 h.uk, .slice p.UA p.un p.uc, .int .i64 h.label, .int .i64 h.pos, .slice p.A p.n p.c] 28)).alloc (.cells #[.int .i8 0, .slice none 0 0] 25) = w1 at *
  obtain ⟨q0, q1, q2, q3, q4, q5, q6, q7, q8, q9, q10, ql⟩ := own11 HX.out
  cases hf : Ck.fnd l h.name with
  | none =>
    have HF := Lib.hid hf
    rw [hf] at HA
    clear hf
    go_wp2_with fail
    refine (HA.out _ HB2.out).mono ?_
    rintro e w5 ⟨rfl, hb5⟩
    have hb6 := below_n1 w5 (.cells #[.int .i8 0, .slice none 0 0] 25)
    have HB6 := Lib.hid (HB2.out.trans ((hb5.trans (hb6.mono hb5.size)).mono HB2.out.size))
    have HX6 := Lib.hid (heap_below (hb5.trans (hb6.mono hb5.size)) (heap_lt HX.out) HX.out)
    clear q0 q1 q2 q3 q4 q5 q6 q7 q8 q9 q10 ql hb5 hb6
    go_upto_region 3 with fail
    generalize w5.alloc (.cells #[.int .i8 0, .slice none 0 0] 25) = wr at *
    obtain ⟨q0, q1, q2, q3, q4, q5, q6, q7, q8, q9, q10, ql⟩ := own11 HX6.out
    have HQ1 := Lib.hid q1
    have HQ9 := Lib.hid q9
    have HFIN := Lib.hid (fun (u : World) (hbu : Below wr.heap.size wr u) => (show Ck.Post Q w R (.panicked [{ v := .iface 52 (.pointer (some ⟨u.heap.size, 0, none⟩)), recovered := false }]) (u.alloc (.cells #[.int .i64 41, .int .i64 h.pos, .string h.name] 56)) from by
      rw [HR.out, HF.out]
      exact ⟨u.heap.size, rfl, heap_new u _, Nat.le_trans HB6.out.size hbu.size, (HB6.out.trans (hbu.mono HB6.out.size)).alloc (Nat.le_trans HB6.out.size hbu.size) _⟩))
    clear q0 q2 q3 q4 q5 q6 q7 q8 q10
    have D0 : Below wr.heap.size wr wr.drew := (Below.refl _ _).drew
    go_region_with (first
      | (go_at_call 87; (with_reducible refine (HCL.out _).mono ?_); rintro e u ⟨rfl, hbu⟩; have D1 := D0.trans (hbu.mono D0.size); have e9 := keep_cell HQ9.out D1; have HFU := Lib.hid (HFIN.out u D1); clear hbu)
      | (with_reducible (refine (show bodyPost _ _ _ (.panic _) _ _ from ?_)); refine panic_end (P := Tryz.prog) (w := wr) ?_))
    all_goals exact ⟨rfl, HFU.out⟩
  | some a =>
    have HF := Lib.hid hf
    rw [hf] at HA
    clear hf
    go_wp2_with fail
    refine (HA.out _ HB2.out).mono ?_
    rintro e w5 ⟨G, m, cg, rfl, hl, hb5⟩
    have hb6 := below_n1 w5 (.cells #[.int .i8 a.1, .slice G m cg] 25)
    have hs5 := hb5.size
    have hz := HZ.out
    have HL := Lib.hid (Ck.Ly.later (Ck.Ly.weak (Q' := Ck.Cut Q w.heap.size (w.heap.size + 2)) (a := a) (w := w5) hl (fun b _ h => Or.elim h (fun h => .inl h.1) (fun h => .inr (by omega)))) hb6)
    have HB6 := Lib.hid (HB2.out.trans ((hb5.trans (hb6.mono hb5.size)).mono HB2.out.size))
    have HY6 := Lib.hid (heap_below (hb5.trans (hb6.mono hb5.size)) (heap_lt HY.out) HY.out)
    have HN6 := Lib.hid (heap_new w5 (.cells #[.int .i8 a.1, .slice G m cg] 25))
    clear q0 q1 q2 q3 q4 q5 q6 q7 q8 q9 q10 ql hb5 hb6 hl
    go_upto_region 4 with fail
    generalize w5.alloc (.cells #[.int .i8 a.1, .slice G m cg] 25) = w6 at *
    obtain ⟨y0, y1, f0, f1, yl⟩ := own2 HY6.out
    obtain ⟨u0, u1, -, -, -⟩ := own2 HN6.out
    go_wp2_with fail
    have z3 := set_two HY6.out (.int .i8 a.1) (.slice G m cg)
    obtain ⟨k0, k1, -, -, -⟩ := own2 z3
    refine bodyPost_ret (v := .agg #[.int .i8 a.1, .slice G m cg]) (by simp [results, Tryz.results70, go_sem, k0, k1]) rfl ?_
    rw [HR.out, HF.out]
    exact ⟨G, m, cg, rfl, (HL.out.set2 (fun b hq => hq.ne (X := w.heap.size + 1) (by omega) (by omega)) _ _).weak (fun b _ hq => hq.out (by omega)), below_set2 HB6.out (by omega) _ _⟩

end Go.Proofs.YtknhoagicdfikaaGreatDoor
