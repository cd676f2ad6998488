/-
  Layer 9: what keeps a term from being one that the rules speak of; the closure that takes a rule's fault. A world with some blocks struck out: where a type, a term lies. terms.each over types; terms.copied. terms.each over terms.
-/
import Derived.Test.YtekjhcfjpedbkaaGreatDoorM16
import Derived.Test.YtekjhcfjpedbkaaGreatDoorCk5
import Derived.Test.YtekjhcfjpedbkaaGreatDoorM11
import Derived.Test.YtekjhcfjpedbkaaGreatDoorM6
import Derived.Test.YtekjhcfjpedbkaaGreatDoorM5
import Derived.Maps.AppendAt
import Derived.Test.YtekjhcfjpedbkaaGreatDoorM7
import Derived.Deep.RegionLaw
import Derived.Deep.RegionHeld3
import Derived.Deep.DrawnRows
namespace Go.Proofs.YtekjhcfjpedbkaaGreatDoor
open Go.RowKit
theorem cf_has1 (args : Array Value) (W : World) : (callFunc 134 args).run Tryz.prog W = .ok (.enter 134 args) W := by simp [go_sem]
set_option maxHeartbeats 1000000 in
set_option maxRecDepth 100000 in
theorem ckhas1_of (kd : Int) (g : Addr) (h : Hd) (p : Pl) (w : World) (R : Bool) (hg : ∀ W : World, Below w.heap.size w W → W.cell? g = some (.int .i8 kd))
    (hC : ∀ W : World, Below w.heap.size w W → Calls Tryz.prog 98 #[.agg #[.int .i8 h.kind, .string h.name, .string h.arg, .int .i64 h.num, .int .i8 h.tk, .slice p.TA p.tn p.tc, .int .i8 h.uk, .slice p.UA p.un p.uc, .int .i64 h.label, .int .i64 h.pos, .slice p.A p.n p.c], .int .i8 kd] W fun e w' => e = .returned (.bool R) ∧ Below W.heap.size W w') :
    Calls Tryz.prog 134 #[.agg #[.int .i8 h.kind, .string h.name, .string h.arg, .int .i64 h.num, .int .i8 h.tk, .slice p.TA p.tn p.tc, .int .i8 h.uk, .slice p.UA p.un p.uc, .int .i64 h.label, .int .i64 h.pos, .slice p.A p.n p.c], .pointer (some g)] w fun e w' => e = .returned (.bool R) ∧ Below w.heap.size w w' := by
  have HB1 := Lib.hid (below_n1 w (.cells #[.int .i8 h.kind, .string h.name, .string h.arg, .int .i64 h.num, .int .i8 h.tk, .slice p.TA p.tn p.tc, .int .i8 h.uk, .slice p.UA p.un p.uc, .int .i64 h.label, .int .i64 h.pos, .slice p.A p.n p.c] 28))
  have HX := Lib.hid (heap_new w (.cells #[.int .i8 h.kind, .string h.name, .string h.arg, .int .i64 h.num, .int .i8 h.tk, .slice p.TA p.tn p.tc, .int .i8 h.uk, .slice p.UA p.un p.uc, .int .i64 h.label, .int .i64 h.pos, .slice p.A p.n p.c] 28))
  have hgg := hg _ HB1.out
  have HC := Lib.hid (hC _ HB1.out)
  clear hg hC
  go_enter Tryz.func134, Tryz.ntmps134
  go_upto_region 1 with fail
  generalize w.alloc (.cells #[.int .i8 h.kind, .string h.name, .string h.arg, .int .i64 h.num, .int .i8 h.tk, .slice p.TA p.tn p.tc, .int .i8 h.uk, .slice p.UA p.un p.uc, .int .i64 h.label, .int .i64 h.pos, .slice p.A p.n p.c] 28) = w1 at *
  obtain ⟨q0, q1, q2, q3, q4, q5, q6, q7, q8, q9, q10, ql⟩ := own11 HX.out
  go_wp2_with fail
  refine HC.out.mono ?_
  rintro e w2 ⟨rfl, hb⟩
  have HB2 := Lib.hid (HB1.out.trans (hb.mono HB1.out.size))
  clear hb
  go_wp2_with fail
  go_ret
  exact ⟨rfl, HB2.out⟩

set_option maxHeartbeats 4000000 in
set_option maxRecDepth 100000 in
theorem ckhas_any (kd : Int) (K : Nat) : ∀ (h : Hd) (kids : Tm) (p : Pl) (w : World), Tm.nodes kids < K → Tm.Is w h kids p →
    Calls Tryz.prog 98 #[.agg #[.int .i8 h.kind, .string h.name, .string h.arg, .int .i64 h.num, .int .i8 h.tk, .slice p.TA p.tn p.tc, .int .i8 h.uk, .slice p.UA p.un p.uc, .int .i64 h.label, .int .i64 h.pos, .slice p.A p.n p.c], .int .i8 kd] w fun e w' => e = .returned (.bool (Ck.hasT kd h kids)) ∧ Below w.heap.size w w' := by
  induction K with
  | zero => intro _ _ _ _ hK; omega
  | succ K ih =>
    intro h kids p w hK hIs
    have hB0 := below_n2 w (.cells #[.int .i8 h.kind, .string h.name, .string h.arg, .int .i64 h.num, .int .i8 h.tk, .slice p.TA p.tn p.tc, .int .i8 h.uk, .slice p.UA p.un p.uc, .int .i64 h.label, .int .i64 h.pos, .slice p.A p.n p.c] 28) (.cells #[.int .i8 kd] 22)
    obtain ⟨h0, h1⟩ := heap_n2 w (.cells #[.int .i8 h.kind, .string h.name, .string h.arg, .int .i64 h.num, .int .i8 h.tk, .slice p.TA p.tn p.tc, .int .i8 h.uk, .slice p.UA p.un p.uc, .int .i64 h.label, .int .i64 h.pos, .slice p.A p.n p.c] 28) (.cells #[.int .i8 kd] 22)
    have HX := Lib.hid h0
    have HY := Lib.hid h1
    have hI := hIs.below hB0
    have CC := Lib.hid (tm_containsc_any 134 ⟨w.heap.size + 1, 0, none⟩ (Ck.hasT kd) kids p.A p.n p.c _ hI.lies hI.fit.n_eq hI.fit.n_le hI.fit.c_le cf_has1
      (fun h1 k1 q W h2 h3 h4 => ckhas1_of kd _ h1 q W (Ck.hasT kd h1 k1) (fun U hU => (own1 (heap_below (h4.trans (hU.mono h4.size)) (heap_lt HY.out) HY.out)).1) (fun U hU => ih h1 k1 q U (by omega) (h3.below hU))))
    rw [← Ck.hasF_any] at CC
    obtain ⟨b0, hb0⟩ : ∃ b, (h.kind == kd) = b := ⟨_, rfl⟩
    obtain ⟨R, hR⟩ : ∃ b, Ck.hasF kd kids = b := ⟨_, rfl⟩
    have hres : Ck.hasT kd h kids = (b0 || R) := by unfold Ck.hasT; rw [hb0, hR]
    rw [hres]
    rw [hR] at CC
    have HB0 := Lib.hid hB0
    clear ih hIs hI hres hR h0 h1 hB0
    cases b0
    all_goals
      go_enter Tryz.func98, Tryz.ntmps98
      go_upto_region 1 with fail
      generalize (w.alloc (.cells #[.int .i8 h.kind, .string h.name, .string h.arg, .int .i64 h.num, .int .i8 h.tk, .slice p.TA p.tn p.tc, .int .i8 h.uk, .slice p.UA p.un p.uc, .int .i64 h.label, .int .i64 h.pos, .slice p.A p.n p.c] 28)).alloc (.cells #[.int .i8 kd] 22) = w1 at *
      obtain ⟨q0, q1, q2, q3, q4, q5, q6, q7, q8, q9, q10, ql⟩ := own11 HX.out
      obtain ⟨y0, -, yl⟩ := own1 HY.out
      go_wp2_with fail
      first
        | (go_ret
           exact ⟨rfl, HB0.out⟩)
        | (refine CC.out.mono ?_
           rintro e w2 ⟨rfl, hb⟩
           have HB2 := Lib.hid (HB0.out.trans (hb.mono HB0.out.size))
           clear hb
           go_wp2_with fail
           go_ret
           exact ⟨rfl, HB2.out⟩)

set_option maxHeartbeats 1000000 in
set_option maxRecDepth 100000 in
theorem ckwithout_any (kd : Int) (w : World) : Calls Tryz.prog 52 #[.int .i8 kd] w fun e w' => ∃ g, e = .returned (.func (Fn.func 97) #[] #[.pointer (some ⟨g, 0, none⟩)]) ∧ w'.heap[g]? = some (.cells #[.int .i8 kd] 22 (0, 0)) ∧ w.heap.size ≤ g ∧ Below w.heap.size w w' := by
  have HB := Lib.hid (below_n1 w (.cells #[.int .i8 kd] 22))
  have HX := Lib.hid (heap_new w (.cells #[.int .i8 kd] 22))
  go_enter Tryz.func52, Tryz.ntmps52
  go_wp2_with fail
  go_ret
  exact ⟨w.heap.size, rfl, HX.out, Nat.le_refl _, HB.out⟩

set_option maxHeartbeats 1000000 in
set_option maxRecDepth 100000 in
theorem ckwithout1_any (kd : Int) (g : Nat) (h : Hd) (kids : Tm) (p : Pl) (w : World) (hIs : Tm.Is w h kids p) (hG : TGlob w) (hg : w.heap[g]? = some (.cells #[.int .i8 kd] 22 (0, 0))) :
    Calls Tryz.prog 97 #[.agg #[.int .i8 h.kind, .string h.name, .string h.arg, .int .i64 h.num, .int .i8 h.tk, .slice p.TA p.tn p.tc, .int .i8 h.uk, .slice p.UA p.un p.uc, .int .i64 h.label, .int .i64 h.pos, .slice p.A p.n p.c], .pointer (some ⟨g, 0, none⟩)] w (Cg.RefPost w (Ck.refKO kd h kids)) := by
  have HB0 := Lib.hid (below_n1 w (.cells #[.int .i8 h.kind, .string h.name, .string h.arg, .int .i64 h.num, .int .i8 h.tk, .slice p.TA p.tn p.tc, .int .i8 h.uk, .slice p.UA p.un p.uc, .int .i64 h.label, .int .i64 h.pos, .slice p.A p.n p.c] 28))
  have HC := Lib.hid (fun (W : World) (hb : Below w.heap.size w W) => tcheck_any h kids p W (hIs.below hb) (hG.below hb))
  have HH := Lib.hid (fun (W : World) (hb : Below w.heap.size w W) => ckhas_any kd (Tm.nodes kids + 1) h kids p W (Nat.lt_succ_self _) (hIs.below hb))
  have HKG := Lib.hid (fun (W : World) (hb : Below w.heap.size w W) => (own1 (heap_below hb (heap_lt hg) hg)).1)
  have HX := Lib.hid (heap_new w (.cells #[.int .i8 h.kind, .string h.name, .string h.arg, .int .i64 h.num, .int .i8 h.tk, .slice p.TA p.tn p.tc, .int .i8 h.uk, .slice p.UA p.un p.uc, .int .i64 h.label, .int .i64 h.pos, .slice p.A p.n p.c] 28))
  clear hIs hG hg
  by_cases h0 : Tm.chk h kids = 0
  · rw [h0] at HC
    cases hc : Ck.hasT kd h kids
    all_goals rw [hc] at HH
    · have hr : Ck.refKO kd h kids = none := by
        have hu : Ck.refK kd h kids = 0 := by unfold Ck.refK; rw [if_neg (by simpa using h0), if_neg (by rw [hc]; decide)]
        unfold Ck.refKO; rw [if_pos hu]
      rw [hr]
      clear hc hr h0
      go_enter Tryz.func97, Tryz.ntmps97
      go_upto_region 1 with fail
      generalize w.alloc (.cells #[.int .i8 h.kind, .string h.name, .string h.arg, .int .i64 h.num, .int .i8 h.tk, .slice p.TA p.tn p.tc, .int .i8 h.uk, .slice p.UA p.un p.uc, .int .i64 h.label, .int .i64 h.pos, .slice p.A p.n p.c] 28) = w1 at *
      obtain ⟨q0, q1, q2, q3, q4, q5, q6, q7, q8, q9, q10, ql⟩ := own11 HX.out
      go_wp2_with fail
      refine (HC.out _ HB0.out).mono ?_
      rintro e w2 ⟨rfl, hb2⟩
      have HB2 := Lib.hid (HB0.out.trans (hb2.mono HB0.out.size))
      have HX2 := Lib.hid (heap_below hb2 (heap_lt HX.out) HX.out)
      clear q0 q1 q2 q3 q4 q5 q6 q7 q8 q9 q10 ql
      obtain ⟨q0, q1, q2, q3, q4, q5, q6, q7, q8, q9, q10, ql⟩ := own11 HX2.out
      have hk := HKG.out _ HB2.out
      clear hb2
      go_wp2_with fail
      refine (HH.out _ HB2.out).mono ?_
      rintro e w3 ⟨rfl, hb3⟩
      have HB3 := Lib.hid (HB2.out.trans (hb3.mono HB2.out.size))
      clear hb3 hk q0 q1 q2 q3 q4 q5 q6 q7 q8 q9 q10 ql
      go_wp2_with fail
      go_ret
      exact ⟨rfl, HB3.out⟩
    · have hr : Ck.refKO kd h kids = some (30, 0) := by
        have hu : Ck.refK kd h kids = 30 := by unfold Ck.refK; rw [if_neg (by simpa using h0), if_pos hc]
        unfold Ck.refKO; rw [hu]; rfl
      rw [hr]
      clear hc hr h0
      go_enter Tryz.func97, Tryz.ntmps97
      go_upto_region 1 with fail
      generalize w.alloc (.cells #[.int .i8 h.kind, .string h.name, .string h.arg, .int .i64 h.num, .int .i8 h.tk, .slice p.TA p.tn p.tc, .int .i8 h.uk, .slice p.UA p.un p.uc, .int .i64 h.label, .int .i64 h.pos, .slice p.A p.n p.c] 28) = w1 at *
      obtain ⟨q0, q1, q2, q3, q4, q5, q6, q7, q8, q9, q10, ql⟩ := own11 HX.out
      go_wp2_with fail
      refine (HC.out _ HB0.out).mono ?_
      rintro e w2 ⟨rfl, hb2⟩
      have HB2 := Lib.hid (HB0.out.trans (hb2.mono HB0.out.size))
      have HX2 := Lib.hid (heap_below hb2 (heap_lt HX.out) HX.out)
      clear q0 q1 q2 q3 q4 q5 q6 q7 q8 q9 q10 ql
      obtain ⟨q0, q1, q2, q3, q4, q5, q6, q7, q8, q9, q10, ql⟩ := own11 HX2.out
      have hk := HKG.out _ HB2.out
      clear hb2
      go_wp2_with fail
      refine (HH.out _ HB2.out).mono ?_
      rintro e w3 ⟨rfl, hb3⟩
      have HB3 := Lib.hid (HB2.out.trans (hb3.mono HB2.out.size))
      have HB4 := Lib.hid (HB3.out.alloc HB3.out.size (.cells #[.int .i64 30, .int .i64 0, .string ⟨#[]⟩] 75))
      have HF := Lib.hid (heap_new w3 (.cells #[.int .i64 30, .int .i64 0, .string ⟨#[]⟩] 75))
      clear hb3 hk q0 q1 q2 q3 q4 q5 q6 q7 q8 q9 q10 ql
      go_wp2_with fail
      go_ret
      exact ⟨w3.heap.size, rfl, HF.out, HB3.out.size, HB4.out⟩
  · have hr : Ck.refKO kd h kids = some (((Tm.chk h kids : Nat) : Int), 0) := by
      have hu : Ck.refK kd h kids = Tm.chk h kids := by unfold Ck.refK; rw [if_pos (by simpa using h0)]
      unfold Ck.refKO; rw [hu, if_neg (by omega)]
    rw [hr]
    have hcn : (((Tm.chk h kids : Nat) : Int) == 0) = false := by simp; omega
    generalize Tm.chk h kids = C at *
    clear hr h0 HH
    go_enter Tryz.func97, Tryz.ntmps97
    go_upto_region 1 with fail
    generalize w.alloc (.cells #[.int .i8 h.kind, .string h.name, .string h.arg, .int .i64 h.num, .int .i8 h.tk, .slice p.TA p.tn p.tc, .int .i8 h.uk, .slice p.UA p.un p.uc, .int .i64 h.label, .int .i64 h.pos, .slice p.A p.n p.c] 28) = w1 at *
    obtain ⟨q0, q1, q2, q3, q4, q5, q6, q7, q8, q9, q10, ql⟩ := own11 HX.out
    go_wp2_with fail
    refine (HC.out _ HB0.out).mono ?_
    rintro e w2 ⟨rfl, hb2⟩
    have HB2 := Lib.hid (HB0.out.trans (hb2.mono HB0.out.size))
    have HB4 := Lib.hid (HB2.out.alloc HB2.out.size (.cells #[.int .i64 C, .int .i64 0, .string ⟨#[]⟩] 75))
    have HF := Lib.hid (heap_new w2 (.cells #[.int .i64 C, .int .i64 0, .string ⟨#[]⟩] 75))
    clear hb2 q0 q1 q2 q3 q4 q5 q6 q7 q8 q9 q10 ql
    go_wp2_with fail
    go_ret
    exact ⟨w2.heap.size, rfl, HF.out, HB2.out.size, HB4.out⟩

theorem ckasFault (p : Option Addr) (w : World) : (Instr.typeAssert (.iface 71 (.pointer p)) 20 71 true).run Tryz.prog w = .ok (.tuple #[.pointer p, .bool true]) w := by kernel_rfl
theorem ckasNone (w : World) : (Instr.typeAssert .nilIface 20 71 true).run Tryz.prog w = .ok (.tuple #[.pointer none, .bool false]) w := by kernel_rfl
set_option maxHeartbeats 4000000 in
set_option maxRecDepth 100000 in
theorem ckcatch_fault (P R : Nat) (g : Addr) (x0 x1 z : Value) (w : World) (h0 : w.cell? ⟨P, 0, none⟩ = some x0) (h1 : w.cell? ⟨P, 1, none⟩ = some x1) (hr : w.cell? ⟨R, 0, none⟩ = some z)
    (hPR : P ≠ R) (f0 : w.frozen? ⟨P, 0, none⟩ = false) (f1 : w.frozen? ⟨P, 1, none⟩ = false) (fr : w.frozen? ⟨R, 0, none⟩ = false) :
    CallsD Tryz.prog 56 #[.pointer (some ⟨P, 0, none⟩), .pointer (some ⟨R, 0, none⟩)] (.panicking [{ v := .iface 71 (.pointer (some g)), recovered := false }]) w fun e u' w' =>
      e = .returned (.tuple #[]) ∧ u' = .panicking [{ v := .iface 71 (.pointer (some g)), recovered := true }] ∧ w' = ((w.setCell ⟨P, 0, none⟩ (.int .i8 0)).setCell ⟨P, 1, none⟩ (.slice none 0 0)).setCell ⟨R, 0, none⟩ (.iface 71 (.pointer (some g))) := by
  have e1 := ckasFault
  have k1 : (w.setCell ⟨P, 0, none⟩ (.int .i8 0)).cell? ⟨P, 1, none⟩ = some x1 := by
    rw [World.cell?_setCell_other _ _ _ _ (fun e => by injection e with e1 e2; omega)]; exact h1
  have kr : ((w.setCell ⟨P, 0, none⟩ (.int .i8 0)).setCell ⟨P, 1, none⟩ (.slice none 0 0)).cell? ⟨R, 0, none⟩ = some z := by
    rw [World.cell?_setCell_other _ _ _ _ (fun e => by injection e with e1 e2; omega), World.cell?_setCell_other _ _ _ _ (fun e => by injection e with e1 e2; omega)]; exact hr
  refine callsD_of_wpS Tryz.func56 rfl fun c₀ cs hu => ?_
  apply wpS_seq
  apply wpS_region
  simp [wpOpsS, go_sem, recoverD, hu, Tryz.ntmps56, Exit.thenS]
  refine wpS_of_wp ?_
  change Code.wp _ _ _ { tmps := #[.pointer (some ⟨P, 0, none⟩), .pointer (some ⟨R, 0, none⟩), .iface 71 (.pointer (some g)), undef, undef, .iface 71 (.pointer (some g)), undef, undef, undef, undef, undef, undef, undef, undef, undef, undef, undef, undef], defers := [] } w
  clear hu
  go_wp2_with fail
  exact ⟨rfl, _, rfl, .tuple #[], by simp [results, Tryz.results56], rfl, rfl, rfl⟩

set_option maxHeartbeats 4000000 in
set_option maxRecDepth 100000 in
theorem ckcatch_none (p r : Addr) (w : World) :
    CallsD Tryz.prog 56 #[.pointer (some p), .pointer (some r)] .returning w fun e u' w' => e = .returned (.tuple #[]) ∧ u' = .returning ∧ w' = w := by
  have e1 := ckasNone
  have e2 := neqNone
  refine callsD_of_wpS Tryz.func56 rfl fun c₀ cs hu => ?_
  apply wpS_seq
  apply wpS_region
  simp [wpOpsS, go_sem, recoverD, hu, Tryz.ntmps56, Exit.thenS]
  refine wpS_of_wp ?_
  change Code.wp _ _ _ { tmps := #[.pointer (some p), .pointer (some r), .nilIface, undef, undef, .nilIface, undef, undef, undef, undef, undef, undef, undef, undef, undef, undef, undef, undef], defers := [] } w
  go_wp2_with fail
  exact ⟨rfl, .returning, by cases c₀; simp_all, .tuple #[], by simp [results, Tryz.results56], rfl, rfl, rfl⟩
end Go.Proofs.YtekjhcfjpedbkaaGreatDoor
namespace Go.Proofs.YtekjhcfjpedbkaaGreatDoor
open Go.RowKit

/-- the world with those blocks alone of which P holds -/
def mask (P : Nat → Bool) (w : World) : World := { w with heap := w.heap.mapIdx fun i o => if P i then o else .cells #[] 0 (0, 0) }
theorem mask_of {P : Nat → Bool} {w : World} {b o : Nat} {v : Value} (hP : P b = true) (h : w.cell? ⟨b, o, none⟩ = some v) : (mask P w).cell? ⟨b, o, none⟩ = some v := by
  unfold mask
  simp only [World.cell?, Array.getElem?_mapIdx] at h ⊢
  cases hb : w.heap[b]? with
  | none => simp [hb] at h
  | some x => rw [hb] at h; simpa [hP] using h
theorem mask_at {P : Nat → Bool} {w : World} {b o : Nat} {v : Value} (h : (mask P w).cell? ⟨b, o, none⟩ = some v) : P b = true ∧ w.cell? ⟨b, o, none⟩ = some v := by
  unfold mask at h
  simp only [World.cell?, Array.getElem?_mapIdx] at h ⊢
  cases hb : w.heap[b]? with
  | none => simp [hb] at h
  | some x =>
    rw [hb] at h
    cases hp : P b
    · simp [hp] at h
    · exact ⟨rfl, by simpa [hp] using h⟩
/-- what keeps the blocks that are looked into -/
theorem kept_mask {P P' : Nat → Bool} {w w' : World} (hk : ∀ b o v, P b = true → w.cell? ⟨b, o, none⟩ = some v → P' b = true ∧ w'.cell? ⟨b, o, none⟩ = some v) : Tm.Kept (mask P w) (mask P' w') := fun b _ o v h => by
  obtain ⟨h1, h2⟩ := mask_at h
  obtain ⟨h3, h4⟩ := hk b o v h1 h2
  exact mask_of h3 h4
namespace Ty
def app : Fo → Fo → Fo
  | .nil, g => g
  | .node a b k kids r, g => .node a b k kids (app r g)
theorem app_snoc : ∀ (f : Fo) (a b : Nat) (k : Int) (kids r : Fo), app (app f (.node a b k kids .nil)) r = app f (.node a b k kids r)
  | .nil, _, _, _, _, _ => rfl
  | .node _ _ _ _ q, a, b, k, kids, r => by simp only [app]; rw [app_snoc q]
theorem len_snoc : ∀ (f : Fo) (a b : Nat) (k : Int) (kids : Fo), len (app f (.node a b k kids .nil)) = len f + 1
  | .nil, _, _, _, _ => rfl
  | .node _ _ _ _ q, a, b, k, kids => by simp only [app, len]; rw [len_snoc q]
/-- the cells of a list of types, each of which lies in the world -/
def Flat (w : World) : Fo → List Value → Prop
  | .nil, xs => xs = []
  | .node _ _ k kids r, xs => ∃ A m c ys, xs = .int .i8 k :: .slice A m c :: ys ∧ Is w k kids A m c ∧ Flat w r ys
theorem Flat.snoc {w : World} {a b : Nat} {k : Int} {kids : Fo} {A : Option Addr} {m c : Nat} (hI : Is w k kids A m c) : ∀ (f : Fo) (xs : List Value), Flat w f xs → Flat w (app f (.node a b k kids .nil)) (xs ++ [.int .i8 k, .slice A m c])
  | .nil, xs, h => by cases h; exact ⟨A, m, c, [], rfl, hI, rfl⟩
  | .node _ _ _ _ q, xs, h => by
    obtain ⟨A', m', c', ys, rfl, h1, h2⟩ := h
    exact ⟨A', m', c', _, rfl, h1, Flat.snoc hI q ys h2⟩
theorem Flat.kept {w w' : World} (hk : Tm.Kept w w') : ∀ (f : Fo) (xs : List Value), Flat w f xs → Flat w' f xs
  | .nil, _, h => h
  | .node _ _ _ _ q, _, h => by
    obtain ⟨A', m', c', ys, rfl, h1, h2⟩ := h
    exact ⟨A', m', c', ys, rfl, h1.kept hk, Flat.kept hk q ys h2⟩
theorem Flat.lies {w : World} {g : Nat} : ∀ (f : Fo) (xs : List Value) (i : Nat), Flat w f xs → (∀ j u, xs[j]? = some u → w.cell? ⟨g, i * 2 + j, none⟩ = some u) → Lies w f (some ⟨g, 0, none⟩) i
  | .nil, _, _, _, _ => trivial
  | .node _ _ k kids r, _, i, h, hc => by
    obtain ⟨A', m', c', ys, rfl, h1, h2⟩ := h
    refine ⟨g, 0, A', c', rfl, ⟨h1.lo, h1.hi⟩, by rw [Nat.zero_add]; exact hc 0 _ rfl, by rw [Nat.zero_add, ← h1.n_eq]; exact hc 1 _ rfl, by rw [← h1.n_eq]; exact h1.n_le, h1.c_le, h1.lies, ?_⟩
    exact Flat.lies r ys (i + 1) h2 fun j u hu => by
      have := hc (j + 2) u (by simpa using hu)
      rwa [show i * 2 + (j + 2) = (i + 1) * 2 + j by omega] at this
end Ty
end Go.Proofs.YtekjhcfjpedbkaaGreatDoor
namespace Go.Proofs.YtekjhcfjpedbkaaGreatDoor
open Go.RowKit

/-- a round's state -/
structure EachRel (w wr : World) (A : Option Addr) (kids : Fo) (v : Value) (n i : Nat) (done rest : Fo) (xs : List Value) : Prop where
  eq : Ty.app done rest = kids
  len : Ty.len done = i
  i_eq : i + Ty.len rest = n
  lies : Ty.Lies w rest A i
  below : Below w.heap.size w wr
  own : wr.ownsRow w.heap.size 25 2 v i xs
  flat : Ty.Flat (mask (fun b => decide (w.heap.size ≤ b) && decide (v.ownBlock ≠ some b)) wr) done xs
  sub : Ty.nodes rest ≤ Ty.nodes kids

theorem EachRel.step {w wr u w3 : World} {A : Option Addr} {kids : Fo} {v v' : Value} {n i a b : Nat} {done r kd : Fo} {k : Int} {xs : List Value} {G : Option Addr} {m c : Nat} {o1 o2 : Obj}
    (h : EachRel w wr A kids v n i done (.node a b k kd r) xs) (hb : Below (wr.alloc o1).heap.size (wr.alloc o1) u) (hI : Ty.Is (mask (fun b => decide ((wr.alloc o1).heap.size ≤ b)) u) k kd G m c)
    (hown : w3.ownsRow w.heap.size 25 2 v' (i + 1) (xs ++ [.int .i8 k, .slice G m c])) (hg : (u.alloc o2).grownBy w3 v.ownBlock) (hat : v'.ownBlock = v.ownBlock ∨ v'.ownBlock = some (u.alloc o2).heap.size) (hl : Ty.Lies w r A (i + 1)) :
    EachRel w w3 A kids v' n (i + 1) (Ty.app done (.node a b k kd .nil)) r (xs ++ [.int .i8 k, .slice G m c]) := by
  obtain ⟨h1, h2, h3, h4, h5, h6, h7, h8⟩ := h
  simp only [Ty.len, Ty.nodes] at h3 h8
  have hlt := h6.lt
  have hs1 : wr.heap.size < (wr.alloc o1).heap.size := by simp
  have hs2 := hb.size
  have hs3 : u.heap.size < (u.alloc o2).heap.size := by simp
  have hwu : Below wr.heap.size wr (u.alloc o2) := (((Below.refl _ _).alloc (Nat.le_refl _) o1).trans (hb.mono (by omega))).alloc (by omega) o2
  refine ⟨by rw [Ty.app_snoc]; exact h1, by rw [Ty.len_snoc]; omega, by omega, hl, ?_, hown, ?_, by omega⟩
  · exact (h5.trans (hwu.mono h5.size)).grown hg (Nat.le_trans h5.size hwu.size) fun q hq => (hlt q hq).1
  · refine Ty.Flat.snoc (hI.kept (kept_mask fun b' o' x hP hx => ?_)) done xs (h7.kept (kept_mask fun b' o' x hP hx => ?_))
    · have hP' : (wr.alloc o1).heap.size ≤ b' := by simpa using hP
      have hbl := Ty.cell_lt hx
      have hne : some b' ≠ v.ownBlock := fun e => by have := (hlt b' e.symm).2; omega
      refine ⟨?_, ?_⟩
      · simp only [Bool.and_eq_true, decide_eq_true_eq]
        refine ⟨by have := h5.size; omega, fun e => ?_⟩
        rcases hat with q | q
        · exact hne (by rw [← q, e])
        · rw [q] at e; injection e with e; omega
      · rw [World.cell?_of_block (hg.block b' (by omega) hne), ((Below.refl u.heap.size u).alloc (Nat.le_refl _) o2).cell (p := ⟨b', o', none⟩) hbl]; exact hx
    · simp only [Bool.and_eq_true, decide_eq_true_eq] at hP
      have hbl := Ty.cell_lt hx
      have hne : some b' ≠ v.ownBlock := fun e => hP.2 e.symm
      refine ⟨?_, ?_⟩
      · simp only [Bool.and_eq_true, decide_eq_true_eq]
        refine ⟨hP.1, fun e => ?_⟩
        rcases hat with q | q
        · exact hP.2 (by rw [← q, e])
        · rw [q] at e; injection e with e; have := hwu.size; omega
      · rw [World.cell?_of_block (hg.block b' (Nat.lt_of_lt_of_le hbl hwu.size) hne), hwu.cell (p := ⟨b', o', none⟩) hbl]; exact hx

attribute [local go_sem ↓] Go.wp_at_zero Go.wp_at_succ
end Go.Proofs.YtekjhcfjpedbkaaGreatDoor
namespace Go.Proofs.YtekjhcfjpedbkaaGreatDoor
open Go.RowKit

namespace Tm
/-- what counts of a list of terms -/
def bF : Tm → Tm
  | .nil => .nil
  | .node h kids r => .node (cnt h) (bF kids) (bF r)
def app : Tm → Tm → Tm
  | .nil, g => g
  | .node h kids r, g => .node h kids (app r g)
theorem app_snoc : ∀ (f : Tm) (h : Hd) (kids r : Tm), app (app f (.node h kids .nil)) r = app f (.node h kids r)
  | .nil, _, _, _ => rfl
  | .node _ _ q, h, kids, r => by simp only [app]; rw [app_snoc q]
theorem len_snoc : ∀ (f : Tm) (h : Hd) (kids : Tm), len (app f (.node h kids .nil)) = len f + 1
  | .nil, _, _ => rfl
  | .node _ _ q, h, kids => by simp only [app, len]; rw [len_snoc q]
/-- the cells of a list of terms, each of which lies in the world -/
def Flat (w : World) : Tm → List Value → Prop
  | .nil, xs => xs = []
  | .node h kids r, xs => ∃ p ys, xs = h.cells p ++ ys ∧ Is w h kids p ∧ Flat w r ys
theorem Flat.snoc {w : World} {h : Hd} {kids : Tm} {p : Pl} (hI : Is w h kids p) : ∀ (f : Tm) (xs : List Value), Flat w f xs → Flat w (app f (.node h kids .nil)) (xs ++ h.cells p)
  | .nil, xs, e => by cases e; exact ⟨p, [], by simp, hI, rfl⟩
  | .node _ _ q, xs, e => by
    obtain ⟨p', ys, rfl, h1, h2⟩ := e
    exact ⟨p', ys ++ h.cells p, by rw [List.append_assoc], h1, Flat.snoc hI q ys h2⟩
theorem Flat.kept {w w' : World} (hk : Kept w w') : ∀ (f : Tm) (xs : List Value), Flat w f xs → Flat w' f xs
  | .nil, _, e => e
  | .node _ _ q, _, e => by
    obtain ⟨p', ys, rfl, h1, h2⟩ := e
    exact ⟨p', ys, rfl, h1.kept hk, Flat.kept hk q ys h2⟩
theorem Flat.lies {w : World} {g : Nat} : ∀ (f : Tm) (xs : List Value) (i : Nat), Flat w f xs → (∀ j u, xs[j]? = some u → w.cell? ⟨g, i * 11 + j, none⟩ = some u) → Lies w f (some ⟨g, 0, none⟩) i
  | .nil, _, _, _, _ => trivial
  | .node h kids r, _, i, e, hc => by
    obtain ⟨p, ys, rfl, h1, h2⟩ := e
    have hlen : (h.cells p).length = 11 := rfl
    refine ⟨g, 0, p, rfl, fun j v hv => ?_, h1.fit, h1.lies, ?_⟩
    · have hj : j < (h.cells p).length := by
        rcases Nat.lt_or_ge j (h.cells p).length with q | q
        · exact q
        · rw [List.getElem?_eq_none q] at hv; cases hv
      rw [Nat.zero_add]
      exact hc j v (by rw [List.getElem?_append_left hj]; exact hv)
    · exact Flat.lies r ys (i + 1) h2 fun j u hu => by
        have := hc (j + 11) u (by rw [List.getElem?_append_right (by rw [hlen]; omega), hlen, show j + 11 - 11 = j by omega]; exact hu)
        rwa [show i * 11 + (j + 11) = (i + 1) * 11 + j by omega] at this
end Tm

/-- a round's state -/
structure EachRelT (w wr : World) (A : Option Addr) (kids : Tm) (v : Value) (n i : Nat) (done rest : Tm) (xs : List Value) : Prop where
  eq : Tm.app done (Tm.bF rest) = Tm.bF kids
  len : Tm.len done = i
  i_eq : i + Tm.len rest = n
  lies : Tm.Lies w rest A i
  below : Below w.heap.size w wr
  own : wr.ownsRow w.heap.size 28 11 v i xs
  flat : Tm.Flat (mask (fun b => decide (w.heap.size ≤ b) && decide (v.ownBlock ≠ some b)) wr) done xs
  sub : Tm.nodes rest ≤ Tm.nodes kids

theorem EachRelT.step {w wr u w3 : World} {A : Option Addr} {kids : Tm} {v v' : Value} {n i : Nat} {done r kd : Tm} {h : Hd} {xs : List Value} {p : Pl} {o1 o2 : Obj}
    (e : EachRelT w wr A kids v n i done (.node h kd r) xs) (hb : Below (wr.alloc o1).heap.size (wr.alloc o1) u) (hI : Tm.Is (mask (fun b => decide ((wr.alloc o1).heap.size ≤ b)) u) (Tm.cnt h) (Tm.bF kd) p)
    (hown : w3.ownsRow w.heap.size 28 11 v' (i + 1) (xs ++ (Tm.cnt h).cells p)) (hg : (u.alloc o2).grownBy w3 v.ownBlock) (hat : v'.ownBlock = v.ownBlock ∨ v'.ownBlock = some (u.alloc o2).heap.size) (hl : Tm.Lies w r A (i + 1)) :
    EachRelT w w3 A kids v' n (i + 1) (Tm.app done (.node (Tm.cnt h) (Tm.bF kd) .nil)) r (xs ++ (Tm.cnt h).cells p) := by
  obtain ⟨h1, h2, h3, h4, h5, h6, h7, h8⟩ := e
  simp only [Tm.len, Tm.nodes, Tm.bF] at h1 h3 h8
  have hlt := h6.lt
  have hs1 : wr.heap.size < (wr.alloc o1).heap.size := by simp
  have hs2 := hb.size
  have hs3 : u.heap.size < (u.alloc o2).heap.size := by simp
  have hwu : Below wr.heap.size wr (u.alloc o2) := (((Below.refl _ _).alloc (Nat.le_refl _) o1).trans (hb.mono (by omega))).alloc (by omega) o2
  refine ⟨by rw [Tm.app_snoc]; exact h1, by rw [Tm.len_snoc]; omega, by omega, hl, ?_, hown, ?_, by omega⟩
  · exact (h5.trans (hwu.mono h5.size)).grown hg (Nat.le_trans h5.size hwu.size) fun q hq => (hlt q hq).1
  · refine Tm.Flat.snoc (hI.kept (kept_mask fun b' o' x hP hx => ?_)) done xs (h7.kept (kept_mask fun b' o' x hP hx => ?_))
    · have hP' : (wr.alloc o1).heap.size ≤ b' := by simpa using hP
      have hbl := Ty.cell_lt hx
      have hne : some b' ≠ v.ownBlock := fun e => by have := (hlt b' e.symm).2; omega
      refine ⟨?_, ?_⟩
      · simp only [Bool.and_eq_true, decide_eq_true_eq]
        refine ⟨by have := h5.size; omega, fun e => ?_⟩
        rcases hat with q | q
        · exact hne (by rw [← q, e])
        · rw [q] at e; injection e with e; omega
      · rw [World.cell?_of_block (hg.block b' (by omega) hne), ((Below.refl u.heap.size u).alloc (Nat.le_refl _) o2).cell (p := ⟨b', o', none⟩) hbl]; exact hx
    · simp only [Bool.and_eq_true, decide_eq_true_eq] at hP
      have hbl := Ty.cell_lt hx
      have hne : some b' ≠ v.ownBlock := fun e => hP.2 e.symm
      refine ⟨?_, ?_⟩
      · simp only [Bool.and_eq_true, decide_eq_true_eq]
        refine ⟨hP.1, fun e => ?_⟩
        rcases hat with q | q
        · exact hP.2 (by rw [← q, e])
        · rw [q] at e; injection e with e; have := hwu.size; omega
      · rw [World.cell?_of_block (hg.block b' (Nat.lt_of_lt_of_le hbl hwu.size) hne), hwu.cell (p := ⟨b', o', none⟩) hbl]; exact hx

end Go.Proofs.YtekjhcfjpedbkaaGreatDoor
