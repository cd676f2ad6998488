/-
  Layer 9: what keeps a term from being one that the rules speak of; the closure that takes a rule's fault. Layer 9: the rules' small parts: meet, answerOf, named. Layer 9: how much fuel is enough; what is told of a closed pair.
-/
import Derived.Test.YtjpohjcnjanoaaaGreatDoorM15
import Derived.Test.YtjpohjcnjanoaaaGreatDoorM10
import Derived.Test.YtjpohjcnjanoaaaGreatDoorM5
import Derived.Test.YtjpohjcnjanoaaaGreatDoorKc
import Derived.WalkSmall
import Derived.Test.YtjpohjcnjanoaaaGreatDoorM19
namespace Go.Proofs.YtjpohjcnjanoaaaGreatDoor
open Go.RowKit
namespace Ck
theorem castF_any : ∀ t : Tm, castF t = Tm.anyF castT t
  | .nil => rfl
  | .node h kids r => by
    simp only [castF, Tm.anyF, castT]
    rw [castF_any r]
end Ck
theorem cf_cast (args : Array Value) (W : World) : (callFunc 77 args).run Tryz.prog W = .ok (.enter 77 args) W := by simp [go_sem]

set_option maxHeartbeats 4000000 in
set_option maxRecDepth 100000 in
theorem ckcast_any (K : Nat) : ∀ (h : Hd) (kids : Tm) (p : Pl) (w : World), Tm.nodes kids < K → Tm.Is w h kids p →
    Calls Tryz.prog 77 #[.agg #[.int .i8 h.kind, .string h.name, .string h.arg, .int .i64 h.num, .int .i8 h.tk, .slice p.TA p.tn p.tc, .int .i8 h.uk, .slice p.UA p.un p.uc, .int .i64 h.label, .int .i64 h.pos, .slice p.A p.n p.c]] w fun e w' => e = .returned (.bool (Ck.castT h kids)) ∧ Below w.heap.size w w' := by
  induction K with
  | zero => intro _ _ _ _ hK; omega
  | succ K ih =>
    intro h kids p w hK hIs
    have hB0 : Below w.heap.size w (w.alloc (.cells #[.int .i8 h.kind, .string h.name, .string h.arg, .int .i64 h.num, .int .i8 h.tk, .slice p.TA p.tn p.tc, .int .i8 h.uk, .slice p.UA p.un p.uc, .int .i64 h.label, .int .i64 h.pos, .slice p.A p.n p.c] 28)) := (Below.refl _ _).alloc (Nat.le_refl _) _
    have hI := hIs.below hB0
    have CC := Lib.hid (tm_contains_any 77 Ck.castT kids p.A p.n p.c _ hI.lies hI.fit.n_eq hI.fit.n_le hI.fit.c_le cf_cast (fun h1 k1 q W h2 h3 _ => ih h1 k1 q W (by omega) h3))
    rw [← Ck.castF_any] at CC
    obtain ⟨b0, hb0⟩ : ∃ b, (h.kind == 17) = b := ⟨_, rfl⟩
    obtain ⟨R, hR⟩ : ∃ b, Ck.castF kids = b := ⟨_, rfl⟩
    have hres : Ck.castT h kids = (b0 || R) := by unfold Ck.castT; rw [hb0, hR]
    rw [hres]
    rw [hR] at CC
    clear ih hIs hI hres hR
    cases b0
    all_goals
      go_enter Tryz.func77, Tryz.ntmps77
      go_wp2_with fail
      first
        | (go_ret
           exact ⟨rfl, hB0⟩)
        | (refine CC.out.mono ?_
           rintro e w2 ⟨rfl, hb⟩
           go_wp2_with fail
           go_ret
           exact ⟨rfl, hB0.trans (hb.mono hB0.size)⟩)

namespace Ck
/-- what keeps a term from being one that the rules speak of -/
def refu (h : Hd) (kids : Tm) : Int := if Tm.chk h kids ≠ 0 then Tm.chk h kids else if castT h kids = true then 30 else 0
end Ck
namespace Ck
/-- what is refused, and where -/
def refO (h : Hd) (kids : Tm) : Option (Int × Int) := if refu h kids = 0 then none else some (refu h kids, 0)
end Ck
set_option maxHeartbeats 1000000 in
set_option maxRecDepth 100000 in
theorem ckrefuse_any (h : Hd) (kids : Tm) (p : Pl) (w : World) (hIs : Tm.Is w h kids p) (hG : TGlob w) :
    Calls Tryz.prog 38 #[.agg #[.int .i8 h.kind, .string h.name, .string h.arg, .int .i64 h.num, .int .i8 h.tk, .slice p.TA p.tn p.tc, .int .i8 h.uk, .slice p.UA p.un p.uc, .int .i64 h.label, .int .i64 h.pos, .slice p.A p.n p.c]] w (Cg.RefPost w (Ck.refO h kids)) := by
  have hB0 : Below w.heap.size w (w.alloc (.cells #[.int .i8 h.kind, .string h.name, .string h.arg, .int .i64 h.num, .int .i8 h.tk, .slice p.TA p.tn p.tc, .int .i8 h.uk, .slice p.UA p.un p.uc, .int .i64 h.label, .int .i64 h.pos, .slice p.A p.n p.c] 28)) := (Below.refl _ _).alloc (Nat.le_refl _) _
  have HC := Lib.hid (fun (W : World) (hb : Below w.heap.size w W) => tcheck_any h kids p W (hIs.below hb) (hG.below hb))
  have HH := Lib.hid (fun (W : World) (hb : Below w.heap.size w W) => ckcast_any (Tm.nodes kids + 1) h kids p W (Nat.lt_succ_self _) (hIs.below hb))
  have HB0 := Lib.hid hB0
  have HX := Lib.hid (heap_new w (.cells #[.int .i8 h.kind, .string h.name, .string h.arg, .int .i64 h.num, .int .i8 h.tk, .slice p.TA p.tn p.tc, .int .i8 h.uk, .slice p.UA p.un p.uc, .int .i64 h.label, .int .i64 h.pos, .slice p.A p.n p.c] 28))
  clear hIs hG hB0
  by_cases h0 : Tm.chk h kids = 0
  · rw [h0] at HC
    cases hc : Ck.castT h kids
    · have hr : Ck.refO h kids = none := by
        have hu : Ck.refu h kids = 0 := by unfold Ck.refu; rw [if_neg (by simpa using h0), if_neg (by rw [hc]; decide)]
        unfold Ck.refO; rw [if_pos hu]
      rw [hr]
      rw [hc] at HH
      clear hc hr h0
      go_enter Tryz.func38, Tryz.ntmps38
      go_wp2_with fail
      refine (HC.out _ HB0.out).mono ?_
      rintro e w2 ⟨rfl, hb2⟩
      have HB2 := Lib.hid (HB0.out.trans (hb2.mono HB0.out.size))
      obtain ⟨q0, q1, q2, q3, q4, q5, q6, q7, q8, q9, q10, ql⟩ := own11 (heap_below hb2 (heap_lt HX.out) HX.out)
      clear hb2
      go_wp2_with fail
      refine (HH.out _ HB2.out).mono ?_
      rintro e w3 ⟨rfl, hb3⟩
      have HB3 := Lib.hid (HB2.out.trans (hb3.mono HB2.out.size))
      clear hb3 q0 q1 q2 q3 q4 q5 q6 q7 q8 q9 q10 ql
      go_wp2_with fail
      go_ret
      exact ⟨rfl, HB3.out⟩
    · have hr : Ck.refO h kids = some (30, 0) := by
        have hu : Ck.refu h kids = 30 := by unfold Ck.refu; rw [if_neg (by simpa using h0), if_pos hc]
        unfold Ck.refO; rw [hu]; rfl
      rw [hr]
      rw [hc] at HH
      clear hc hr h0
      go_enter Tryz.func38, Tryz.ntmps38
      go_wp2_with fail
      refine (HC.out _ HB0.out).mono ?_
      rintro e w2 ⟨rfl, hb2⟩
      have HB2 := Lib.hid (HB0.out.trans (hb2.mono HB0.out.size))
      obtain ⟨q0, q1, q2, q3, q4, q5, q6, q7, q8, q9, q10, ql⟩ := own11 (heap_below hb2 (heap_lt HX.out) HX.out)
      clear hb2
      go_wp2_with fail
      refine (HH.out _ HB2.out).mono ?_
      rintro e w3 ⟨rfl, hb3⟩
      have HB3 := Lib.hid (HB2.out.trans (hb3.mono HB2.out.size))
      have HB4 := Lib.hid (HB3.out.alloc HB3.out.size (.cells #[.int .i64 30, .int .i64 0, .string ⟨#[]⟩] 69))
      have HF := Lib.hid (heap_new w3 (.cells #[.int .i64 30, .int .i64 0, .string ⟨#[]⟩] 69))
      clear hb3 q0 q1 q2 q3 q4 q5 q6 q7 q8 q9 q10 ql
      go_wp2_with fail
      go_ret
      exact ⟨w3.heap.size, rfl, HF.out, HB3.out.size, HB4.out⟩
  · have hr : Ck.refO h kids = some (((Tm.chk h kids : Nat) : Int), 0) := by
      have hu : Ck.refu h kids = Tm.chk h kids := by unfold Ck.refu; rw [if_pos (by simpa using h0)]
      unfold Ck.refO; rw [hu, if_neg (by omega)]
    rw [hr]
    have hcn : (((Tm.chk h kids : Nat) : Int) == 0) = false := by simp; omega
    generalize Tm.chk h kids = C at *
    clear hr h0
    go_enter Tryz.func38, Tryz.ntmps38
    go_wp2_with fail
    refine (HC.out _ HB0.out).mono ?_
    rintro e w2 ⟨rfl, hb2⟩
    have HB2 := Lib.hid (HB0.out.trans (hb2.mono HB0.out.size))
    have HB4 := Lib.hid (HB2.out.alloc HB2.out.size (.cells #[.int .i64 C, .int .i64 0, .string ⟨#[]⟩] 69))
    have HF := Lib.hid (heap_new w2 (.cells #[.int .i64 C, .int .i64 0, .string ⟨#[]⟩] 69))
    clear hb2
    go_wp2_with fail
    go_ret
    exact ⟨w2.heap.size, rfl, HF.out, HB2.out.size, HB4.out⟩

theorem ckasFault (p : Option Addr) (w : World) : (Instr.typeAssert (.iface 65 (.pointer p)) 20 65 true).run Tryz.prog w = .ok (.tuple #[.pointer p, .bool true]) w := by kernel_rfl
theorem ckasNone (w : World) : (Instr.typeAssert .nilIface 20 65 true).run Tryz.prog w = .ok (.tuple #[.pointer none, .bool false]) w := by kernel_rfl
set_option maxHeartbeats 4000000 in
set_option maxRecDepth 100000 in
theorem ckcatch_fault (P R : Nat) (g : Addr) (x0 x1 z : Value) (w : World) (h0 : w.cell? ⟨P, 0, none⟩ = some x0) (h1 : w.cell? ⟨P, 1, none⟩ = some x1) (hr : w.cell? ⟨R, 0, none⟩ = some z)
    (hPR : P ≠ R) (f0 : w.frozen? ⟨P, 0, none⟩ = false) (f1 : w.frozen? ⟨P, 1, none⟩ = false) (fr : w.frozen? ⟨R, 0, none⟩ = false) :
    CallsD Tryz.prog 43 #[.pointer (some ⟨P, 0, none⟩), .pointer (some ⟨R, 0, none⟩)] (.panicking [{ v := .iface 65 (.pointer (some g)), recovered := false }]) w fun e u' w' =>
      e = .returned (.tuple #[]) ∧ u' = .panicking [{ v := .iface 65 (.pointer (some g)), recovered := true }] ∧ w' = ((w.setCell ⟨P, 0, none⟩ (.int .i8 0)).setCell ⟨P, 1, none⟩ (.slice none 0 0)).setCell ⟨R, 0, none⟩ (.iface 65 (.pointer (some g))) := by
  have e1 := ckasFault
  have k1 : (w.setCell ⟨P, 0, none⟩ (.int .i8 0)).cell? ⟨P, 1, none⟩ = some x1 := by
    rw [World.cell?_setCell_other _ _ _ _ (fun e => by injection e with e1 e2; omega)]; exact h1
  have kr : ((w.setCell ⟨P, 0, none⟩ (.int .i8 0)).setCell ⟨P, 1, none⟩ (.slice none 0 0)).cell? ⟨R, 0, none⟩ = some z := by
    rw [World.cell?_setCell_other _ _ _ _ (fun e => by injection e with e1 e2; omega), World.cell?_setCell_other _ _ _ _ (fun e => by injection e with e1 e2; omega)]; exact hr
  refine callsD_of_wpS Tryz.func43 rfl fun c₀ cs hu => ?_
  apply wpS_seq
  apply wpS_region
  simp [wpOpsS, go_sem, recoverD, hu, Tryz.ntmps43, Exit.thenS]
  refine wpS_of_wp ?_
  change Code.wp _ _ _ { tmps := #[.pointer (some ⟨P, 0, none⟩), .pointer (some ⟨R, 0, none⟩), .iface 65 (.pointer (some g)), undef, undef, .iface 65 (.pointer (some g)), undef, undef, undef, undef, undef, undef, undef, undef, undef, undef, undef, undef], defers := [] } w
  clear hu
  go_wp2_with fail
  exact ⟨rfl, _, rfl, .tuple #[], by simp [results, Tryz.results43], rfl, rfl, rfl⟩

set_option maxHeartbeats 4000000 in
set_option maxRecDepth 100000 in
theorem ckcatch_none (p r : Addr) (w : World) :
    CallsD Tryz.prog 43 #[.pointer (some p), .pointer (some r)] .returning w fun e u' w' => e = .returned (.tuple #[]) ∧ u' = .returning ∧ w' = w := by
  have e1 := ckasNone
  have e2 := neqNone
  refine callsD_of_wpS Tryz.func43 rfl fun c₀ cs hu => ?_
  apply wpS_seq
  apply wpS_region
  simp [wpOpsS, go_sem, recoverD, hu, Tryz.ntmps43, Exit.thenS]
  refine wpS_of_wp ?_
  change Code.wp _ _ _ { tmps := #[.pointer (some p), .pointer (some r), .nilIface, undef, undef, .nilIface, undef, undef, undef, undef, undef, undef, undef, undef, undef, undef, undef, undef], defers := [] } w
  go_wp2_with fail
  exact ⟨rfl, .returning, by cases c₀; simp_all, .tuple #[], by simp [results, Tryz.results43], rfl, rfl, rfl⟩
end Go.Proofs.YtjpohjcnjanoaaaGreatDoor
namespace Go.Proofs.YtjpohjcnjanoaaaGreatDoor
open Go.RowKit

set_option maxHeartbeats 2000000 in
set_option maxRecDepth 100000 in
theorem ckmeet_no (rv : Cg.Rv) (Q : Nat → Prop) (h : Hd) (p : Pl) (a : Ck.T2) (A : Option Addr) (n c : Nat) (b : Ck.T2) (A' : Option Addr) (n' c' : Nat) (w : World) (hL : Ck.Ly Q w a A n c) (hL' : Ck.Ly Q w b A' n' c') (hS : Shapes w) (hag : rv.D.ag a b = false) :
    Calls Tryz.prog 152 #[.agg #[.func (Fn.func rv.fr) #[] #[], .func (Fn.func rv.fa) #[] #[], .func (Fn.func rv.fm) #[] #[], .func (Fn.func rv.ft) #[] #[]], .agg #[.int .i8 h.kind, .string h.name, .string h.arg, .int .i64 h.num, .int .i8 h.tk, .slice p.TA p.tn p.tc, .int .i8 h.uk, .slice p.UA p.un p.uc, .int .i64 h.label, .int .i64 h.pos, .slice p.A p.n p.c], .agg #[.int .i8 a.1, .slice A n c], .agg #[.int .i8 b.1, .slice A' n' c']] w (Ck.Gave w 91 h.pos Ck.e0) := by
  have HB5 := Lib.hid (below_n5 w (.cells #[.func (Fn.func rv.fr) #[] #[], .func (Fn.func rv.fa) #[] #[], .func (Fn.func rv.fm) #[] #[], .func (Fn.func rv.ft) #[] #[]] 54) (.cells #[.int .i8 h.kind, .string h.name, .string h.arg, .int .i64 h.num, .int .i8 h.tk, .slice p.TA p.tn p.tc, .int .i8 h.uk, .slice p.UA p.un p.uc, .int .i64 h.label, .int .i64 h.pos, .slice p.A p.n p.c] 28) (.cells #[.int .i8 a.1, .slice A n c] 25) (.cells #[.int .i8 b.1, .slice A' n' c'] 25) (.cells #[.int .i8 0, .slice none 0 0] 25))
  have CW := Lib.hid (fun (W : World) (hb : Below w.heap.size w W) => ckwant_no rv h p a.1 a.2 A n c b.1 b.2 A' n' c' W (hL.later hb).is (hL'.later hb).is (hS.below hb) hag)
  clear hL hL' hS hag
  go_enter Tryz.func152, Tryz.ntmps152
  go_wp2_with fail
  refine (CW.out _ HB5.out).mono ?_
  rintro e w6 hg
  have HG := Lib.hid (Ck.Gave.from (w := w) hg HB5.out)
  obtain ⟨g, rfl, -⟩ := hg
  go_wp2_with fail
  exact ⟨rfl, HG.out⟩

set_option maxHeartbeats 2000000 in
set_option maxRecDepth 100000 in
theorem ckmeet_yes (rv : Cg.Rv) (Q : Nat → Prop) (h : Hd) (p : Pl) (a : Ck.T2) (A : Option Addr) (n c : Nat) (b : Ck.T2) (A' : Option Addr) (n' c' : Nat) (w : World) (hL : Ck.Ly Q w a A n c) (hL' : Ck.Ly Q w b A' n' c') (hS : Shapes w) (hag : rv.D.ag a b = true) :
    Calls Tryz.prog 152 #[.agg #[.func (Fn.func rv.fr) #[] #[], .func (Fn.func rv.fa) #[] #[], .func (Fn.func rv.fm) #[] #[], .func (Fn.func rv.ft) #[] #[]], .agg #[.int .i8 h.kind, .string h.name, .string h.arg, .int .i64 h.num, .int .i8 h.tk, .slice p.TA p.tn p.tc, .int .i8 h.uk, .slice p.UA p.un p.uc, .int .i64 h.label, .int .i64 h.pos, .slice p.A p.n p.c], .agg #[.int .i8 a.1, .slice A n c], .agg #[.int .i8 b.1, .slice A' n' c']] w (Ck.Gives Q w (rv.D.mt a b)) := by
  have HB5 := Lib.hid (below_n5 w (.cells #[.func (Fn.func rv.fr) #[] #[], .func (Fn.func rv.fa) #[] #[], .func (Fn.func rv.fm) #[] #[], .func (Fn.func rv.ft) #[] #[]] 54) (.cells #[.int .i8 h.kind, .string h.name, .string h.arg, .int .i64 h.num, .int .i8 h.tk, .slice p.TA p.tn p.tc, .int .i8 h.uk, .slice p.UA p.un p.uc, .int .i64 h.label, .int .i64 h.pos, .slice p.A p.n p.c] 28) (.cells #[.int .i8 a.1, .slice A n c] 25) (.cells #[.int .i8 b.1, .slice A' n' c'] 25) (.cells #[.int .i8 0, .slice none 0 0] 25))
  have CW := Lib.hid (fun (W : World) (hb : Below w.heap.size w W) => ckwant_yes rv h p a.1 a.2 A n c b.1 b.2 A' n' c' W (hL.later hb).is (hL'.later hb).is (hS.below hb) hag)
  obtain ⟨h0, -, h2, h3, h4⟩ := heap_n5 w (.cells #[.func (Fn.func rv.fr) #[] #[], .func (Fn.func rv.fa) #[] #[], .func (Fn.func rv.fm) #[] #[], .func (Fn.func rv.ft) #[] #[]] 54) (.cells #[.int .i8 h.kind, .string h.name, .string h.arg, .int .i64 h.num, .int .i8 h.tk, .slice p.TA p.tn p.tc, .int .i8 h.uk, .slice p.UA p.un p.uc, .int .i64 h.label, .int .i64 h.pos, .slice p.A p.n p.c] 28) (.cells #[.int .i8 a.1, .slice A n c] 25) (.cells #[.int .i8 b.1, .slice A' n' c'] 25) (.cells #[.int .i8 0, .slice none 0 0] 25)
  have hcf := rv.cft
  have CM := Lib.hid (fun (W : World) (hb : Below w.heap.size w W) => rv.mtC (fun b => Q b ∧ b < w.heap.size) a A n c b A' n' c' W ((hL.weak (fun b hl hq => ⟨hq, hl⟩)).later hb) ((hL'.weak (fun b hl hq => ⟨hq, hl⟩)).later hb) hag (hS.below hb))
  have H0 := Lib.hid h0
  have H2 := Lib.hid h2
  have H3 := Lib.hid h3
  have H4 := Lib.hid h4
  clear hL hL' hS hag h0 h2 h3 h4
  go_enter Tryz.func152, Tryz.ntmps152
  go_wp2_with fail
  refine (CW.out _ HB5.out).mono ?_
  rintro e w6 ⟨rfl, hb6⟩
  have HB6 := Lib.hid (HB5.out.trans (hb6.mono HB5.out.size))
  have H0 := Lib.hid (heap_below hb6 (heap_lt H0.out) H0.out)
  have H2 := Lib.hid (heap_below hb6 (heap_lt H2.out) H2.out)
  have H3 := Lib.hid (heap_below hb6 (heap_lt H3.out) H3.out)
  have H4 := Lib.hid (heap_below hb6 (heap_lt H4.out) H4.out)
  have hz6 := hb6.size
  simp only [World.size_alloc] at hz6
  clear hb6
  obtain ⟨r0, r1, r2, r3, -, -, -, -, rl⟩ := own4 H0.out
  obtain ⟨x0, x1, -, -, xl⟩ := own2 H2.out
  obtain ⟨y0, y1, -, -, yl⟩ := own2 H3.out
  go_wp2_with fail
  refine (CM.out _ HB6.out).mono ?_
  rintro e w7 ⟨G, m, cg, rfl, hR, hb7⟩
  have HB7 := Lib.hid (HB6.out.trans (hb7.mono HB6.out.size))
  have HL := Lib.hid (Ck.Ly.weak (Q' := Ck.Cut Q w.heap.size (w.heap.size + 5)) (a := rv.D.mt a b) (w := w7) hR (fun b _ h => Or.elim h (fun h => .inl h.1) (fun h => .inr (by omega))))
  have H4 := Lib.hid (heap_below hb7 (heap_lt H4.out) H4.out)
  clear hR hb7 r0 r1 r2 r3 rl x0 x1 xl y0 y1 yl
  obtain ⟨x0, x1, f0, f1, xl⟩ := own2 H4.out
  have HNE := Lib.hid (fun (b : Nat) (hq : Ck.Cut Q w.heap.size (w.heap.size + 5) b) => hq.ne (X := w.heap.size + 1 + 1 + 1 + 1) (by omega) (by omega))
  go_wp2_with fail
  refine bodyPost_ret (v := .agg #[.int .i8 (rv.D.mt a b).1, .slice G m cg]) (by simp [results, Tryz.results152, go_sem, *]) rfl ⟨G, m, cg, rfl, ?_, ?_⟩
  · exact (HL.out.set2 HNE.out _ _).weak fun b _ hq => hq.out (by omega)
  · exact below_set2 HB7.out (by omega) _ _

set_option maxHeartbeats 1000000 in
set_option maxRecDepth 100000 in
theorem ckanswer_any (s : ByteArray) (w : World) : Calls Tryz.prog 153 #[.string s] w fun e w' => e = .returned (.agg #[.int .i8 (Ck.opAns s).1, .slice none 0 0]) ∧ Below w.heap.size w w' := by
  have HB1 := Lib.hid (below_n1 w (.cells #[.int .i8 0, .slice none 0 0] 25))
  have CO := Lib.hid (fun (k : Int) (W : World) => ckof_any k none 0 0 W)
  have H1 := Lib.hid (heap_new w (.cells #[.int .i8 0, .slice none 0 0] 25))
  cases h60 : (s.toList == [60]) with
  | true =>
    have hR : (Ck.opAns s).1 = 2 := by unfold Ck.opAns; rw [h60]; rfl
    rw [hR]
    clear hR
    go_enter Tryz.func153, Tryz.ntmps153
    go_wp2_with fail
    refine (CO.out 2 _).mono ?_
    rintro e w2 ⟨rfl, hb2⟩
    obtain ⟨x0, x1, f0, f1, xl⟩ := own2 (heap_below hb2 (heap_lt H1.out) H1.out)
    have HB2 := Lib.hid (HB1.out.trans (hb2.mono HB1.out.size))
    clear hb2 h60
    go_wp2_with fail
    exact bodyPost_ret (v := .agg #[.int .i8 2, .slice none 0 0]) (by simp [results, Tryz.results153, go_sem, *]) rfl ⟨rfl, below_set2 HB2.out (Nat.le_refl _) _ _⟩
  | false =>
    cases h61 : (s.toList == [61]) with
    | true =>
      have hR : (Ck.opAns s).1 = 2 := by unfold Ck.opAns; rw [h60, h61]; rfl
      rw [hR]
      clear hR
      go_enter Tryz.func153, Tryz.ntmps153
      go_wp2_with fail
      refine (CO.out 2 _).mono ?_
      rintro e w2 ⟨rfl, hb2⟩
      obtain ⟨x0, x1, f0, f1, xl⟩ := own2 (heap_below hb2 (heap_lt H1.out) H1.out)
      have HB2 := Lib.hid (HB1.out.trans (hb2.mono HB1.out.size))
      clear hb2 h60 h61
      go_wp2_with fail
      exact bodyPost_ret (v := .agg #[.int .i8 2, .slice none 0 0]) (by simp [results, Tryz.results153, go_sem, *]) rfl ⟨rfl, below_set2 HB2.out (Nat.le_refl _) _ _⟩
    | false =>
      have hR : (Ck.opAns s).1 = 1 := by unfold Ck.opAns; rw [h60, h61]; rfl
      rw [hR]
      clear hR
      go_enter Tryz.func153, Tryz.ntmps153
      go_wp2_with fail
      refine (CO.out 1 _).mono ?_
      rintro e w2 ⟨rfl, hb2⟩
      obtain ⟨x0, x1, f0, f1, xl⟩ := own2 (heap_below hb2 (heap_lt H1.out) H1.out)
      have HB2 := Lib.hid (HB1.out.trans (hb2.mono HB1.out.size))
      clear hb2 h60 h61
      go_wp2_with fail
      exact bodyPost_ret (v := .agg #[.int .i8 1, .slice none 0 0]) (by simp [results, Tryz.results153, go_sem, *]) rfl ⟨rfl, below_set2 HB2.out (Nat.le_refl _) _ _⟩

/-- none of the first i names, from the end on, is this one -/
theorem Ck.fnd_split : ∀ (l : Ck.Env) (x : ByteArray) (i : Nat), i ≤ l.length → (∀ j y, i ≤ j → l[j]? = some y → (y.1.toList == x.toList) = false) → Ck.fnd l x = Ck.fnd (l.take i) x
  | [], x, i, _, _ => by simp
  | b :: l, x, 0, _, h => by
    have h1 := Ck.fnd_split l x 0 (Nat.zero_le _) (fun j y hj hy => h (j + 1) y (by omega) (by rw [List.getElem?_cons_succ]; exact hy))
    have h2 := h 0 b (Nat.le_refl _) rfl
    simp only [List.take_zero] at h1 ⊢
    unfold Ck.fnd
    rw [h1]
    simp [Ck.fnd, h2]
  | b :: l, x, i + 1, hi, h => by
    have h1 := Ck.fnd_split l x i (by simp only [List.length_cons] at hi; omega) (fun j y hj hy => h (j + 1) y (by omega) (by rw [List.getElem?_cons_succ]; exact hy))
    rw [List.take_succ_cons]
    unfold Ck.fnd
    rw [h1]
theorem Ck.fnd_last {l : Ck.Env} {x : ByteArray} {i : Nat} {y : ByteArray × Ck.T2} (hy : l[i]? = some y) (he : (y.1.toList == x.toList) = true) (h : ∀ j z, i + 1 ≤ j → l[j]? = some z → (z.1.toList == x.toList) = false) : Ck.fnd l x = some y.2 := by
  have hi : i < l.length := by rcases Nat.lt_or_ge i l.length with q | q; exact q; rw [List.getElem?_eq_none q] at hy; cases hy
  rw [Ck.fnd_split l x (i + 1) (by omega) h, List.take_add_one, hy]
  have hs : ∀ m : Ck.Env, Ck.fnd (m ++ [y]) x = some y.2 := by
    intro m
    induction m with
    | nil => simp [Ck.fnd, he]
    | cons b m ih => simp only [List.cons_append]; unfold Ck.fnd; rw [ih]
  exact hs _
theorem Ck.fnd_none {l : Ck.Env} {x : ByteArray} (h : ∀ (j : Nat) (z : ByteArray × Ck.T2), l[j]? = some z → (z.1.toList == x.toList) = false) : Ck.fnd l x = none := by
  rw [Ck.fnd_split l x 0 (Nat.zero_le _) (fun j y _ hy => h j y hy), List.take_zero]; rfl

set_option maxHeartbeats 2000000 in
set_option maxRecDepth 100000 in
theorem cknamed_any (Q : Nat → Prop) (h : Hd) (p : Pl) (l : Ck.Env) (A : Option Addr) (n c : Nat) (w : World) (hE : Ck.EAt Q w l A n c) (hnm : h.name.size ≤ 281474976710656) :
    Calls Tryz.prog 119 #[.agg #[.int .i8 h.kind, .string h.name, .string h.arg, .int .i64 h.num, .int .i8 h.tk, .slice p.TA p.tn p.tc, .int .i8 h.uk, .slice p.UA p.un p.uc, .int .i64 h.label, .int .i64 h.pos, .slice p.A p.n p.c], .slice A n c] w (Ck.Post Q w (match Ck.fnd l h.name with | some a => .ok a | none => .bad 41 h.pos h.name)) := by
  have HB1 := Lib.hid (below_n2 w (.cells #[.int .i8 h.kind, .string h.name, .string h.arg, .int .i64 h.num, .int .i8 h.tk, .slice p.TA p.tn p.tc, .int .i8 h.uk, .slice p.UA p.un p.uc, .int .i64 h.label, .int .i64 h.pos, .slice p.A p.n p.c] 28) (.cells #[.int .i8 0, .slice none 0 0] 25))
  obtain ⟨h0, h1⟩ := heap_n2 w (.cells #[.int .i8 h.kind, .string h.name, .string h.arg, .int .i64 h.num, .int .i8 h.tk, .slice p.TA p.tn p.tc, .int .i8 h.uk, .slice p.UA p.un p.uc, .int .i64 h.label, .int .i64 h.pos, .slice p.A p.n p.c] 28) (.cells #[.int .i8 0, .slice none 0 0] 25)
  have HX := Lib.hid h0
  have HY := Lib.hid h1
  have HE := Lib.hid hE
  have hn := hE.n_eq
  have HN := Lib.hid hn
  have hnc := hE.n_le
  have hcm := hE.c_le
  have i5 : (n : Int) ≤ 9223372036854775807 := by unfold maxLen at hcm; omega
  have HCL := Lib.hid (fun W => clone_any h.name hnm W)
  obtain ⟨R, hR⟩ : ∃ R, R = (match Ck.fnd l h.name with | some a => Ck.R.ok a | none => Ck.R.bad 41 h.pos h.name) := ⟨_, rfl⟩
  rw [← hR]
  have HR := Lib.hid hR
  clear h0 h1 hE hn hR
  go_enter Tryz.func119, Tryz.ntmps119
  go_upto_region 1 with fail
  generalize (w.alloc (.cells #[.int .i8 h.kind, .string h.name, .string h.arg, .int .i64 h.num, .int .i8 h.tk, .slice p.TA p.tn p.tc, .int .i8 h.uk, .slice p.UA p.un p.uc, .int .i64 h.label, .int .i64 h.pos, .slice p.A p.n p.c] 28)).alloc (.cells #[.int .i8 0, .slice none 0 0] 25) = w1 at *
  go_wp2_with fail
  go_loopw [5] (fun v5 wr => ∃ i : Nat, v5 = .int .i64 ((i : Int) - 1) ∧ i ≤ n ∧ (∀ (j : Nat) (y : ByteArray × Ck.T2), i ≤ j → l[j]? = some y → (y.1.toList == h.name.toList) = false) ∧ Below w1.heap.size w1 wr) (fun v _ => (intOf v + 1).toNat)
  case atStart =>
    refine ⟨n, rfl, Nat.le_refl _, fun j y hj hy => ?_, Below.refl _ _⟩
    have hnn := HN.out
    rw [List.getElem?_eq_none (by omega)] at hy; cases hy
  case round =>
    obtain ⟨i, rfl, hin, hno, hb⟩ := hrel
    cases i with
    | zero =>
      have hf : Ck.fnd l h.name = none := Ck.fnd_none fun j z hz => hno j z (Nat.zero_le _) hz
      have HF := Lib.hid hf
      have HBR := Lib.hid (HB1.out.trans (hb.mono HB1.out.size))
      obtain ⟨q0, q1, q2, q3, q4, q5, q6, q7, q8, q9, q10, ql⟩ := own11 (heap_below hb (heap_lt HX.out) HX.out)
      have HQ1 := Lib.hid q1
      have HQ9 := Lib.hid q9
      have HFIN := Lib.hid (fun (u : World) (hbu : Below wr.heap.size wr u) => (show Ck.Post Q w R (.panicked [{ v := .iface 65 (.pointer (some ⟨u.heap.size, 0, none⟩)), recovered := false }]) (u.alloc (.cells #[.int .i64 41, .int .i64 h.pos, .string h.name] 69)) from by
        rw [HR.out, HF.out]
        exact ⟨u.heap.size, rfl, heap_new u _, Nat.le_trans HBR.out.size hbu.size, (HBR.out.trans (hbu.mono HBR.out.size)).alloc (Nat.le_trans HBR.out.size hbu.size) _⟩))
      clear hno hf hb q0 q2 q3 q4 q5 q6 q7 q8 q10
      go_wp2_with fail
      have D0 : Below wr.heap.size wr wr.drew := (Below.refl _ _).drew
      go_region_with (first
        | (go_at_call 104; (with_reducible refine (HCL.out _).mono ?_); rintro e u ⟨rfl, hbu⟩; have D1 := D0.trans (hbu.mono D0.size); have e9 := keep_cell HQ9.out D1; have HFU := Lib.hid (HFIN.out u D1); clear hbu)
        | (with_reducible (refine (show bodyPost _ _ _ (.panic _) _ _ from ?_)); refine panic_end (P := Tryz.prog) (w := wr) ?_))
      all_goals exact ⟨rfl, HFU.out⟩
    | succ j =>
      have hj : j < l.length := by have := HN.out; omega
      obtain ⟨y, hy⟩ : ∃ y, l[j]? = some y := ⟨l[j]'hj, List.getElem?_eq_getElem hj⟩
      obtain ⟨b, o, G, m, k, hA, c0, c1, c2, hL⟩ := HE.out.at hy
      have hbw := HB1.out.trans (hb.mono HB1.out.size)
      have c0 := keep_cell c0 hbw
      have c1 := keep_cell c1 hbw
      have c2 := keep_cell c2 hbw
      have hL := (hL.weak (Q' := Ck.Cut Q w.heap.size (w.heap.size + 2)) fun b hb hq => .inl ⟨hq, hb⟩).later hbw
      clear hbw
      obtain ⟨q0, q1, q2, q3, q4, q5, q6, q7, q8, q9, q10, ql⟩ := own11 (heap_below hb (heap_lt HX.out) HX.out)
      have HY2 := Lib.hid (heap_below hb (heap_lt HY.out) HY.out)
      have HBR := Lib.hid (HB1.out.trans (hb.mono HB1.out.size))
      have HB := Lib.hid hb
      have HL := Lib.hid hL
      have HNO := Lib.hid hno
      have HYY := Lib.hid hy
      have e1 : ((j + 1 : Nat) : Int) - 1 = (j : Int) := by omega
      rw [e1]
      have j1 : (0 : Int) ≤ j := by omega
      have j2 : (j : Int) < n := by omega
      have j3 : (0 : Int) ≤ j ∧ (j : Int) < n := by omega
      clear hno hb hL hy e1 hj
      subst hA
      cases hq : (y.1.toList == h.name.toList)
      · have HQ := Lib.hid hq
        go_wp2_with fail
        go_quiet (fail)
        have HB3 := Lib.hid (show Below w1.heap.size w1 (wr.drewN nq) from HB.out.trans ((below_drewN (Below.refl wr.heap.size wr) nq).mono HB.out.size))
        generalize wr.drewN nq = w3 at *
        go_wp2_with fail
        go_roundw
        case rel =>
          refine ⟨j, by go_num, by omega, fun i' y' hi' hy' => ?_, HB3.out⟩
          rcases Nat.lt_or_ge j i' with g | g
          · exact HNO.out i' y' (by omega) hy'
          · obtain rfl : i' = j := by omega
            have q := HYY.out
            rw [hy'] at q
            injection q with q
            rw [q]; exact HQ.out
        case measure => simp [intOf]
      · have HQ := Lib.hid hq
        go_wp2_with fail
        go_quiet (fail)
        have HD3 := Lib.hid (below_drewN (Below.refl wr.heap.size wr) nq)
        have HB3 := Lib.hid (show Below w1.heap.size w1 (wr.drewN nq) from HB.out.trans (HD3.out.mono HB.out.size))
        have c1 := keep_cell c1 HD3.out
        have c2 := keep_cell c2 HD3.out
        have HL3 := Lib.hid (HL.out.later HD3.out)
        have HY3 := Lib.hid (heap_below HD3.out (heap_lt HY2.out) HY2.out)
        generalize wr.drewN nq = w3 at *
        obtain ⟨x0, x1, f0, f1, xl⟩ := own2 HY3.out
        have HF := Lib.hid (Ck.fnd_last HYY.out HQ.out fun i' z hi' hz' => HNO.out i' z hi' hz')
        have HB4 := Lib.hid (HB1.out.trans (HB3.out.mono HB1.out.size))
        have HBL := Lib.hid (fun (b : Nat) (hq : Ck.Cut Q w.heap.size (w.heap.size + 2) b) => hq.ne (X := w.heap.size + 1) (by omega) (by omega))
        go_wp2_with fail
        refine bodyPost_ret (v := .agg #[.int .i8 y.2.1, .slice G m k]) (by simp [results, Tryz.results119, go_sem, *]) rfl ?_
        rw [HR.out, HF.out]
        refine ⟨G, m, k, rfl, ?_, below_set2 HB4.out (by omega) _ _⟩
        exact (HL3.out.set2 HBL.out _ _).weak fun b _ hq => hq.out (by omega)

end Go.Proofs.YtjpohjcnjanoaaaGreatDoor
namespace Go.Proofs.YtjpohjcnjanoaaaGreatDoor
namespace Ck
theorem raw_congr {F G : Hd → Tm → Env → R} (h : Hd) (kids : Tm) (l : Env) (hi : Tm.isKind h.kind = true) (hn : Tm.len kids = Tm.kidsN h.kind)
    (h1 : 1 ≤ Tm.len kids → ∀ l, F (k1 kids).1 (k1 kids).2 l = G (k1 kids).1 (k1 kids).2 l)
    (h2 : 2 ≤ Tm.len kids → ∀ l, F (k2 kids).1 (k2 kids).2 l = G (k2 kids).1 (k2 kids).2 l)
    (h3 : 3 ≤ Tm.len kids → ∀ l, F (k3 kids).1 (k3 kids).2 l = G (k3 kids).1 (k3 kids).2 l) : raw F h kids l = raw G h kids l := by
  have hk : h.kind = 0 ∨ h.kind = 1 ∨ h.kind = 2 ∨ h.kind = 3 ∨ h.kind = 4 ∨ h.kind = 5 ∨ h.kind = 6 ∨ h.kind = 7 ∨ h.kind = 8 ∨ h.kind = 9 ∨ h.kind = 10 ∨ h.kind = 11 ∨ h.kind = 12 ∨ h.kind = 13 ∨ h.kind = 14 ∨ h.kind = 15 ∨ h.kind = 16 ∨ h.kind = 17 := by
    simp only [Tm.isKind, decide_eq_true_eq] at hi
    omega
  rcases hk with hk | hk | hk | hk | hk | hk | hk | hk | hk | hk | hk | hk | hk | hk | hk | hk | hk | hk
  · rw [hn, hk] at h1 h2 h3
    simp only [raw_0 F h kids l hk, raw_0 G h kids l hk]
  · rw [hn, hk] at h1 h2 h3
    simp only [raw_1 F h kids l hk, raw_1 G h kids l hk]
  · rw [hn, hk] at h1 h2 h3
    simp only [raw_2 F h kids l hk, raw_2 G h kids l hk]
  · rw [hn, hk] at h1 h2 h3
    simp only [raw_3 F h kids l hk, raw_3 G h kids l hk]
  · rw [hn, hk] at h1 h2 h3
    simp only [raw_4 F h kids l hk, raw_4 G h kids l hk, h1 (by decide)]
  · rw [hn, hk] at h1 h2 h3
    simp only [raw_5 F h kids l hk, raw_5 G h kids l hk, h1 (by decide)]
  · rw [hn, hk] at h1 h2 h3
    simp only [raw_6 F h kids l hk, raw_6 G h kids l hk, h1 (by decide), h2 (by decide)]
  · rw [hn, hk] at h1 h2 h3
    simp only [raw_7 F h kids l hk, raw_7 G h kids l hk, h1 (by decide), h2 (by decide)]
  · rw [hn, hk] at h1 h2 h3
    simp only [raw_8 F h kids l hk, raw_8 G h kids l hk, h1 (by decide), h2 (by decide), h3 (by decide)]
  · rw [hn, hk] at h1 h2 h3
    simp only [raw_9 F h kids l hk, raw_9 G h kids l hk, h1 (by decide), h2 (by decide)]
  · rw [hn, hk] at h1 h2 h3
    simp only [raw_10 F h kids l hk, raw_10 G h kids l hk, h1 (by decide)]
  · rw [hn, hk] at h1 h2 h3
    simp only [raw_11 F h kids l hk, raw_11 G h kids l hk, h1 (by decide)]
  · rw [hn, hk] at h1 h2 h3
    simp only [raw_12 F h kids l hk, raw_12 G h kids l hk, h1 (by decide)]
  · rw [hn, hk] at h1 h2 h3
    simp only [raw_13 F h kids l hk, raw_13 G h kids l hk, h1 (by decide)]
  · rw [hn, hk] at h1 h2 h3
    simp only [raw_14 F h kids l hk, raw_14 G h kids l hk, h1 (by decide), h2 (by decide), h3 (by decide)]
  · rw [hn, hk] at h1 h2 h3
    simp only [raw_15 F h kids l hk, raw_15 G h kids l hk, h1 (by decide), h2 (by decide)]
  · rw [hn, hk] at h1 h2 h3
    simp only [raw_16 F h kids l hk, raw_16 G h kids l hk, h1 (by decide)]
  · rw [hn, hk] at h1 h2 h3
    simp only [raw_17 F h kids l hk, raw_17 G h kids l hk, h1 (by decide)]
theorem okF_node' {h : Hd} {k r : Tm} (h0 : Tm.okF (.node h k r) = true) : Tm.okT h k = true ∧ Tm.okF r = true := by
  simp only [Tm.okF, Bool.and_eq_true] at h0
  exact ⟨by unfold Tm.okT; rw [h0.1.1, h0.1.2]; rfl, h0.2⟩
theorem k1_in {kids : Tm} (h : 1 ≤ Tm.len kids) : (Tm.okF kids = true → Tm.okT (k1 kids).1 (k1 kids).2 = true) ∧ (castF kids = false → castT (k1 kids).1 (k1 kids).2 = false) ∧ Tm.nodes (k1 kids).2 < Tm.nodes kids := by
  cases kids with
  | nil => simp [Tm.len] at h
  | node h k r =>
    refine ⟨fun h0 => (okF_node' h0).1, fun h0 => ?_, by simp only [k1, Tm.nodes]; omega⟩
    simp only [castF, Bool.or_eq_false_iff] at h0
    simp only [k1, castT, h0.1.1, h0.1.2, Bool.or_false]
theorem k2_in {kids : Tm} (h : 2 ≤ Tm.len kids) : (Tm.okF kids = true → Tm.okT (k2 kids).1 (k2 kids).2 = true) ∧ (castF kids = false → castT (k2 kids).1 (k2 kids).2 = false) ∧ Tm.nodes (k2 kids).2 < Tm.nodes kids := by
  cases kids with
  | nil => simp [Tm.len] at h
  | node h' k r =>
    obtain ⟨x, y, z⟩ := k1_in (kids := r) (by simp only [Tm.len] at h; omega)
    refine ⟨fun h0 => x (okF_node' h0).2, fun h0 => ?_, by simp only [k2, Tm.nodes]; omega⟩
    simp only [castF, Bool.or_eq_false_iff] at h0
    exact y h0.2
theorem k3_in {kids : Tm} (h : 3 ≤ Tm.len kids) : (Tm.okF kids = true → Tm.okT (k3 kids).1 (k3 kids).2 = true) ∧ (castF kids = false → castT (k3 kids).1 (k3 kids).2 = false) ∧ Tm.nodes (k3 kids).2 < Tm.nodes kids := by
  cases kids with
  | nil => simp [Tm.len] at h
  | node h' k r =>
    obtain ⟨x, y, z⟩ := k2_in (kids := r) (by simp only [Tm.len] at h; omega)
    refine ⟨fun h0 => x (okF_node' h0).2, fun h0 => ?_, by simp only [k3, Tm.nodes]; omega⟩
    simp only [castF, Bool.or_eq_false_iff] at h0
    exact y h0.2
/-- what a right term's fields say -/
theorem okT_parts {h : Hd} {kids : Tm} (h0 : Tm.okT h kids = true) : Tm.isKind h.kind = true ∧ Tm.len kids = Tm.kidsN h.kind ∧ Tm.okF kids = true := by
  unfold Tm.okT Tm.headOk at h0
  simp only [Bool.and_eq_true, decide_eq_true_eq] at h0
  exact ⟨h0.1.1.1.1.1, h0.1.1.1.1.2, h0.2⟩
theorem castT_parts {h : Hd} {kids : Tm} (h0 : castT h kids = false) : h.kind ≠ 17 ∧ castF kids = false := by
  unfold castT at h0
  simp only [Bool.or_eq_false_iff, beq_eq_false_iff_ne] at h0
  exact h0
/-- more fuel tells the same -/
theorem ty_more : ∀ (K K' : Nat) (h : Hd) (kids : Tm) (l : Env), Tm.okT h kids = true → Tm.nodes kids < K → Tm.nodes kids < K' → ty K h kids l = ty K' h kids l
  | 0, _, _, _, _, _, h1, _ => by omega
  | _ + 1, 0, _, _, _, _, _, h2 => by omega
  | K + 1, K' + 1, h, kids, l, h0, hK, hK' => by
    obtain ⟨x, y, z⟩ := okT_parts h0
    rw [ty_succ, ty_succ, raw_congr (F := ty K) (G := ty K') h kids l x y
      (fun g l => by obtain ⟨a, -, c⟩ := k1_in g; exact ty_more K K' _ _ l (a z) (by omega) (by omega))
      (fun g l => by obtain ⟨a, -, c⟩ := k2_in g; exact ty_more K K' _ _ l (a z) (by omega) (by omega))
      (fun g l => by obtain ⟨a, -, c⟩ := k3_in g; exact ty_more K K' _ _ l (a z) (by omega) (by omega))]
theorem chk_parts {h : Hd} {kids : Tm} (h0 : Tm.chk h kids = 0) : Tm.nd h kids ≤ 8192 ∧ Tm.dp h kids ≤ 200 ∧ Tm.okT h kids = true := by
  unfold Tm.chk at h0
  split at h0
  · cases h0
  · split at h0
    · cases h0
    · split at h0
      · exact ⟨by omega, by omega, by assumption⟩
      · cases h0
theorem chk_of' {h : Hd} {kids : Tm} (h1 : Tm.nd h kids ≤ 8192) (h2 : Tm.dp h kids ≤ 200) (h3 : Tm.okT h kids = true) : Tm.chk h kids = 0 := by
  unfold Tm.chk
  rw [if_neg (by omega), if_neg (by omega), if_pos h3]
/-- a pair of terms -/
def hd9 : Hd := ⟨9, e0, e0, 0, 0, .nil, 0, .nil, 0, 0⟩
def two (h : Hd) (k : Tm) (h' : Hd) (k' : Tm) : Tm := .node h k (.node h' k' .nil)
theorem two_ok {h : Hd} {k : Tm} {h' : Hd} {k' : Tm} : Tm.okT hd9 (two h k h' k') = (Tm.okT h k && Tm.okT h' k') := by
  unfold Tm.okT two
  simp [Tm.okF, Tm.headOk, Tm.len, hd9, Tm.isKind, Tm.kidsN, Tm.nameOk, Tm.hasName, Tm.hasArg, Tm.hasLabel, Tm.hasType, Tm.hasTo, Tm.tysOk, Bool.and_assoc]
theorem two_size {h : Hd} {k : Tm} {h' : Hd} {k' : Tm} : Tm.nd hd9 (two h k h' k') = 1 + Tm.nd h k + Tm.nd h' k' ∧ Tm.dp hd9 (two h k h' k') = 1 + max (Tm.dp h k) (Tm.dp h' k') := by
  unfold Tm.nd Tm.dp two
  simp only [Tm.nodes, Tm.dep, hd9, Tm.tyN, Tm.tyD, Tm.hasType, Tm.hasTo]
  constructor
  · simp; omega
  · simp
theorem two_cast {h : Hd} {k : Tm} {h' : Hd} {k' : Tm} : castT hd9 (two h k h' k') = (castT h k || castT h' k') := by
  simp [castT, two, castF, hd9, Bool.or_assoc]
theorem two_chk {h : Hd} {k : Tm} {h' : Hd} {k' : Tm} (h0 : Tm.chk hd9 (two h k h' k') = 0) : Tm.chk h k = 0 ∧ Tm.chk h' k' = 0 := by
  obtain ⟨x, y, z⟩ := chk_parts h0
  obtain ⟨s, d⟩ := two_size (h := h) (k := k) (h' := h') (k' := k')
  rw [two_ok, Bool.and_eq_true] at z
  exact ⟨chk_of' (by omega) (by omega) z.1, chk_of' (by omega) (by omega) z.2⟩
def isBad : R → Prop
  | .ok _ => False
  | .bad _ _ _ => True
theorem tell_eq {h : Hd} {k : Tm} (h0 : Tm.chk h k = 0) (hc : castT h k = false) : tell h k = ty (Tm.nodes k + 1) h k [] := by
  unfold tell
  rw [if_neg (by omega), if_neg (by rw [hc]; decide)]
/-- what is told of a closed pair -/
theorem tell_two (h : Hd) (k : Tm) (h' : Hd) (k' : Tm) :
    (isBad (tell hd9 (two h k h' k')) ∧ (isBad (tell h k) ∨ isBad (tell h' k') ∨ (Tm.chk hd9 (two h k h' k') ≠ 0 ∨ ∃ a b, tell h k = .ok a ∧ tell h' k' = .ok b ∧ chk (mk2 4 a b) ≠ 0)))
    ∨ ∃ a b, tell hd9 (two h k h' k') = .ok (mk2 4 a b) ∧ tell h k = .ok a ∧ tell h' k' = .ok b := by
  by_cases h0 : Tm.chk hd9 (two h k h' k') = 0
  case neg =>
    refine .inl ⟨?_, .inr (.inr (.inl h0))⟩
    unfold tell
    rw [if_pos h0]
    trivial
  obtain ⟨x, y⟩ := two_chk h0
  cases hc : castT hd9 (two h k h' k')
  case true =>
    refine .inl ⟨?_, ?_⟩
    · unfold tell
      rw [if_neg (by omega), if_pos hc]
      trivial
    · rw [two_cast, Bool.or_eq_true] at hc
      rcases hc with hc | hc
      · refine .inl ?_
        unfold tell
        rw [if_neg (by omega), if_pos hc]
        trivial
      · refine .inr (.inl ?_)
        unfold tell
        rw [if_neg (by omega), if_pos hc]
        trivial
  have hc2 := hc
  rw [two_cast, Bool.or_eq_false_iff] at hc2
  rw [tell_eq h0 hc, tell_eq x hc2.1, tell_eq y hc2.2, ty_succ, raw_9 _ _ _ _ rfl]
  have e1 : ty (Tm.nodes (two h k h' k')) (k1 (two h k h' k')).1 (k1 (two h k h' k')).2 [] = ty (Tm.nodes k + 1) h k [] :=
    ty_more _ _ h k [] (chk_parts x).2.2 (by simp only [two, Tm.nodes]; omega) (by omega)
  have e2 : ty (Tm.nodes (two h k h' k')) (k2 (two h k h' k')).1 (k2 (two h k h' k')).2 [] = ty (Tm.nodes k' + 1) h' k' [] :=
    ty_more _ _ h' k' [] (chk_parts y).2.2 (by simp only [two, Tm.nodes]; omega) (by omega)
  rw [e1]
  cases q1 : ty (Tm.nodes k + 1) h k [] with
  | bad E p s => exact .inl ⟨trivial, .inl trivial⟩
  | ok a =>
    simp only [bnd]
    rw [e2]
    cases q2 : ty (Tm.nodes k' + 1) h' k' [] with
    | bad E p s => exact .inl ⟨trivial, .inr (.inl trivial)⟩
    | ok b =>
      simp only []
      rw [over_9 _ _ _ _ rfl]
      simp only [lift]
      by_cases hz : chk (mk2 4 a b) = 0
      · rw [if_pos hz]
        exact .inr ⟨a, b, rfl, rfl, rfl⟩
      · rw [if_neg hz]
        exact .inl ⟨trivial, .inr (.inr (.inr ⟨a, b, rfl, rfl, hz⟩))⟩
end Ck
end Go.Proofs.YtjpohjcnjanoaaaGreatDoor
