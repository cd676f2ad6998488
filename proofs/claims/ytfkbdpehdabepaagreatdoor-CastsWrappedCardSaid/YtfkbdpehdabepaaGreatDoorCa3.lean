/-
  Layer 14: through: what is handed to a function, term by term, each ahead of its kids.
-/
import Derived.Test.YtfkbdpehdabepaaGreatDoorCa0
import Derived.Test.YtfkbdpehdabepaaGreatDoorM8
import Derived.Test.YtfkbdpehdabepaaGreatDoorM2
namespace Go.Proofs.YtfkbdpehdabepaaGreatDoor
open Go.RowKit
namespace Ca
/-- what may turn: M at first, M' behind it -/
structure Go (M M' : Nat → Prop) (w w' : World) : Prop where
  block : ∀ b, b < w.heap.size → ¬ M b → w'.heap[b]? = w.heap[b]?
  new : ∀ b, M' b → M b ∨ w.heap.size ≤ b
  size : w.heap.size ≤ w'.heap.size
theorem Go.trans {M M' M2 : Nat → Prop} {a b c : World} (h : Go M M' a b) (k : Go M' M2 b c) : Go M M2 a c :=
  ⟨fun x hx hm => by
    have hn : ¬ M' x := fun e => by rcases h.new x e with q | q; exact hm q; omega
    rw [k.block x (Nat.lt_of_lt_of_le hx h.size) hn, h.block x hx hm],
   fun x hx => by
    rcases k.new x hx with q | q
    · exact h.new x q
    · exact .inr (Nat.le_trans h.size q), Nat.le_trans h.size k.size⟩
theorem Go.of_below {M : Nat → Prop} {a b : World} (h : Below a.heap.size a b) : Go M M a b := ⟨fun x hx _ => h.block x hx, fun _ q => .inl q, h.size⟩
/-- what is asked of the function that is handed the terms: I tells what holds of the world behind a list of terms -/
structure Use (f : FuncId) (w0 : World) (I : List Hd → (Nat → Prop) → World → Prop) : Prop where
  cf : ∀ (args : Array Value) (W : World), (callFunc f args).run Tryz.prog W = .ok (.enter f args) W
  base : ∀ vs M W, I vs M W → ∀ b o v, w0.cell? ⟨b, o, none⟩ = some v → W.cell? ⟨b, o, none⟩ = some v
  lt : ∀ vs M W, I vs M W → ∀ b, M b → b < W.heap.size
  new : ∀ vs M W W', I vs M W → Below W.heap.size W W' → I vs M W'
/-- the function, handed a term -/
def UseAt (N : Nat) (f : FuncId) (cap : Array Value) (I : List Hd → (Nat → Prop) → World → Prop) (h : Hd) (p : Pl) : Prop :=
  ∀ (vs : List Hd) (M : Nat → Prop) (W : World), vs.length < N → I vs M W → Calls Tryz.prog f (#[.agg #[.int .i8 h.kind, .string h.name, .string h.arg, .int .i64 h.num, .int .i8 h.tk, .slice p.TA p.tn p.tc, .int .i8 h.uk, .slice p.UA p.un p.uc, .int .i64 h.label, .int .i64 h.pos, .slice p.A p.n p.c]] ++ cap) W fun e w' => e = .returned (.tuple #[]) ∧ ∃ M', I (vs ++ [h]) M' w' ∧ Go M M' W w'
/-- each of a list's terms, and those within them -/
def UseF (N : Nat) (f : FuncId) (cap : Array Value) (I : List Hd → (Nat → Prop) → World → Prop) (w0 : World) (t : Tm) : Prop :=
  ∀ (h : Hd) (k : Tm) (q : Pl), h ∈ pre t → Tm.Is w0 h k q → UseAt N f cap I h q
end Ca
/-- the state of the loop over a term's kids -/
structure ThruR (N : Nat) (f : FuncId) (cap : Array Value) (w0 w1 wr : World) (I : List Hd → (Nat → Prop) → World → Prop) (A : Option Addr) (n nk : Nat) (L : List Hd) (M : Nat → Prop) (i : Nat) (rest : Tm) (vs : List Hd) (M' : Nat → Prop) : Prop where
  i_eq : i + Tm.len rest = n
  lies : Tm.Lies w0 rest A i
  sub : Tm.nodes rest ≤ nk
  st : I vs M' wr
  go : Ca.Go M M' w1 wr
  eq : vs ++ Ca.pre rest = L
  use : Ca.UseF N f cap I w0 rest
set_option maxHeartbeats 2000000 in
set_option maxRecDepth 100000 in
theorem through_any (N : Nat) (f : FuncId) (cap : Array Value) (w0 : World) (I : List Hd → (Nat → Prop) → World → Prop) (hU : Ca.Use f w0 I) (K : Nat) : ∀ (h : Hd) (kids : Tm) (p : Pl) (vs : List Hd) (M : Nat → Prop) (w : World), Tm.nodes kids < K → Tm.Is w0 h kids p → I vs M w → vs.length + (Ca.pre (.node h kids .nil)).length ≤ N →
    Ca.UseF N f cap I w0 (.node h kids .nil) →
    Calls Tryz.prog 58 #[.agg #[.int .i8 h.kind, .string h.name, .string h.arg, .int .i64 h.num, .int .i8 h.tk, .slice p.TA p.tn p.tc, .int .i8 h.uk, .slice p.UA p.un p.uc, .int .i64 h.label, .int .i64 h.pos, .slice p.A p.n p.c], .func (Fn.func f) #[] cap] w fun e w' => e = .returned (.tuple #[]) ∧ ∃ M', I (vs ++ Ca.pre (.node h kids .nil)) M' w' ∧ Ca.Go M M' w w' := by
  induction K with
  | zero => intro _ _ _ _ _ _ hK; omega
  | succ K ih =>
    intro h kids p vs M w hK hIs hI hNN hF
    have hB1 : Below w.heap.size w (w.alloc (.cells #[.int .i8 h.kind, .string h.name, .string h.arg, .int .i64 h.num, .int .i8 h.tk, .slice p.TA p.tn p.tc, .int .i8 h.uk, .slice p.UA p.un p.uc, .int .i64 h.label, .int .i64 h.pos, .slice p.A p.n p.c] 28)) := (Below.refl _ _).alloc (Nat.le_refl _) _
    have h0 := heap_new w (.cells #[.int .i8 h.kind, .string h.name, .string h.arg, .int .i64 h.num, .int .i8 h.tk, .slice p.TA p.tn p.tc, .int .i8 h.uk, .slice p.UA p.un p.uc, .int .i64 h.label, .int .i64 h.pos, .slice p.A p.n p.c] 28)
    have hI1 := hU.new _ _ _ _ hI hB1
    have hX : ¬ M w.heap.size := fun e => by have := hU.lt _ _ _ hI _ e; omega
    obtain ⟨w1, hw1⟩ : ∃ w1, w1 = w.alloc (.cells #[.int .i8 h.kind, .string h.name, .string h.arg, .int .i64 h.num, .int .i8 h.tk, .slice p.TA p.tn p.tc, .int .i8 h.uk, .slice p.UA p.un p.uc, .int .i64 h.label, .int .i64 h.pos, .slice p.A p.n p.c] 28) := ⟨_, rfl⟩
    rw [← hw1] at hB1 h0 hI1
    have hpre : Ca.pre (.node h kids .nil) = h :: Ca.pre kids := by simp [Ca.pre]
    have hF1 : Ca.UseF N f cap I w0 kids := fun h' k' q' hm => hF h' k' q' (by rw [hpre]; exact List.mem_cons_of_mem _ hm)
    rw [hpre] at hNN ⊢
    simp only [List.length_cons] at hNN
    have C0 := Lib.hid (hF h kids p (by rw [hpre]; exact List.mem_cons_self) hIs vs M w1 (by omega) hI1)
    have HNN := Lib.hid hNN
    have hn := hIs.fit.n_eq
    have hnc := hIs.fit.n_le
    have hc := hIs.fit.c_le
    have i5 : (p.n : Int) ≤ 9223372036854775807 := by unfold maxLen at hc; omega
    have HW := Lib.hid hw1
    have HZ := Lib.hid (show w1.heap.size = w.heap.size + 1 by rw [hw1]; simp)
    have HB1 := Lib.hid hB1
    have HL := Lib.hid hIs.lies
    have HF1 := Lib.hid hF1
    have HIH := Lib.hid ih
    have HN := Lib.hid hn
    have H0 := Lib.hid h0
    have HU := Lib.hid hU
    have HKK := Lib.hid hK
    have HXX := Lib.hid hX
    have hcf := hU.cf
    clear hNN
    clear ih hF hF1 hI hI1 hIs hpre hnc hc hn hU hK hB1 hX
    obtain ⟨q0, q1, q2, q3, q4, q5, q6, q7, q8, q9, q10, ql⟩ := own11 h0
    clear h0
    unfold Ca.UseAt at C0
    go_enter Tryz.func58, Tryz.ntmps58
    go_upto_region 1 with fail
    rw [← HW.out]
    clear hw1 HW
    go_wp2_with fail
    refine C0.out.mono ?_
    rintro e w2 ⟨rfl, M2, hI2, hG2⟩
    have hb2 : w2.heap[w.heap.size]? = some (.cells #[.int .i8 h.kind, .string h.name, .string h.arg, .int .i64 h.num, .int .i8 h.tk, .slice p.TA p.tn p.tc, .int .i8 h.uk, .slice p.UA p.un p.uc, .int .i64 h.label, .int .i64 h.pos, .slice p.A p.n p.c] 28 (0, 0)) := by rw [hG2.block _ ql HXX.out]; exact H0.out
    have HS := Lib.hid (show ThruR N f cap w0 w1 w2 I p.A p.n (Tm.nodes kids) (vs ++ h :: Ca.pre kids) M 0 kids (vs ++ [h]) M2 from ⟨by rw [HN.out]; omega, HL.out, Nat.le_refl _, hI2, hG2, by simp, HF1.out⟩)
    have H2 := Lib.hid hb2
    clear q0 q1 q2 q3 q4 q5 q6 q7 q8 q9 q10 ql C0 hI2 hG2
    obtain ⟨q0, q1, q2, q3, q4, q5, q6, q7, q8, q9, q10, ql⟩ := own11 hb2
    clear hb2
    go_wp2_with fail
    go_loopw [12] (fun v wr => ∃ (i : Nat) (rest : Tm) (vs' : List Hd) (M' : Nat → Prop), v = .int .i64 i ∧ ThruR N f cap w0 w1 wr I p.A p.n (Tm.nodes kids) (vs ++ h :: Ca.pre kids) M i rest vs' M') (fun v _ => p.n - (intOf v).toNat)
    case atStart => exact ⟨0, kids, vs ++ [h], M2, rfl, HS.out⟩
    case round =>
      obtain ⟨i, rest, vs', M', rfl, hR⟩ := hrel
      cases rest with
      | nil =>
        have hi2 : (i : Int) = p.n := by have := hR.i_eq; simp only [Tm.len] at this; omega
        have hlt : ¬ (i : Int) < p.n := by omega
        have HR := Lib.hid hR
        clear hR
        go_wp2_with fail
        go_end0
        refine ⟨rfl, M', ?_, ?_⟩
        · have := HR.out.st
          have e := HR.out.eq
          simp only [Ca.pre, List.append_nil] at e
          rwa [e] at this
        · exact (Ca.Go.of_below HB1.out).trans HR.out.go
      | node h1 k1 r =>
        have h1' := hR.i_eq
        have h2 := hR.lies
        have h3 := hR.sub
        have heq := hR.eq
        have hbs := HU.out.base _ _ _ hR.st
        simp only [Tm.len, Tm.nodes] at h1' h3
        obtain ⟨bb, oo, q, hA, hcs, hfit, hl3, hl4⟩ := h2
        have hcs' : ∀ j v, (h1.cells q)[j]? = some v → wr.cell? ⟨bb, oo + i * 11 + j, none⟩ = some v := fun j v hv =>
           hbs _ _ _ (hcs j v hv)
        have hK1 : Ca.pre (.node h1 k1 r) = Ca.pre (.node h1 k1 .nil) ++ Ca.pre r := by simp [Ca.pre]
        have hu1 : Ca.UseF N f cap I w0 (.node h1 k1 .nil) := fun h' k' q' hm => hR.use h' k' q' (by rw [hK1]; exact List.mem_append_left _ hm)
        have hu2 : Ca.UseF N f cap I w0 r := fun h' k' q' hm => hR.use h' k' q' (by rw [hK1]; exact List.mem_append_right _ hm)
        have hcall := HIH.out h1 k1 q vs' M' (wr.alloc (.cells #[.int .i8 h1.kind, .string h1.name, .string h1.arg, .int .i64 h1.num, .int .i8 h1.tk, .slice q.TA q.tn q.tc, .int .i8 h1.uk, .slice q.UA q.un q.uc, .int .i64 h1.label, .int .i64 h1.pos, .slice q.A q.n q.c] 28)) (by have := HKK.out; omega) ⟨hfit, hl3⟩ (HU.out.new _ _ _ _ hR.st ((Below.refl _ _).alloc (Nat.le_refl _) _)) (by have e := congrArg List.length heq; rw [hK1] at e; simp only [List.length_append, List.length_cons] at e; have := HNN.out; omega) hu1
        have hstp : ∀ (u : World) (M2 : Nat → Prop), I (vs' ++ Ca.pre (.node h1 k1 .nil)) M2 u → Ca.Go M' M2 (wr.alloc (.cells #[.int .i8 h1.kind, .string h1.name, .string h1.arg, .int .i64 h1.num, .int .i8 h1.tk, .slice q.TA q.tn q.tc, .int .i8 h1.uk, .slice q.UA q.un q.uc, .int .i64 h1.label, .int .i64 h1.pos, .slice q.A q.n q.c] 28)) u → ThruR N f cap w0 w1 u I p.A p.n (Tm.nodes kids) (vs ++ h :: Ca.pre kids) M (i + 1) r (vs' ++ Ca.pre (.node h1 k1 .nil)) M2 := fun u M2 hI hG =>
          ⟨by omega, hl4, by omega, hI, (hR.go.trans (Ca.Go.of_below ((Below.refl _ _).alloc (Nat.le_refl _) _))).trans hG, by rw [List.append_assoc, ← hK1]; exact heq, hu2⟩
        have HC := Lib.hid hcall
        have HSTP := Lib.hid hstp
        obtain ⟨c0, c1, c2, c3, c4, c5, c6, c7, c8, c9, c10⟩ := Tm.row hcs'
        have j1 : (i : Int) < p.n := by omega
        have HAA := Lib.hid hA
        clear hcall hstp hR hl3 hl4 hcs hcs' hA hfit hu1 hu2 heq hbs hK1
        rw [HAA.out]
        go_wp2_with fail
        refine HC.out.mono ?_
        rintro e u ⟨rfl, M2, hI2, hG2⟩
        have hR3 := Lib.hid (HSTP.out u M2 hI2 hG2)
        clear hI2 hG2 c0 c1 c2 c3 c4 c5 c6 c7 c8 c9 c10
        go_wp2_with fail
        go_roundw
        case rel => exact ⟨i + 1, r, _, M2, by go_num, HAA.out ▸ hR3.out⟩
        case measure => simp [intOf]; omega

namespace Ca
/-- the state behind throughCasts's own function -/
def IC (I : List Hd → (Nat → Prop) → World → Prop) (vs : List Hd) (Y : Nat) (f : FuncId) (cap : Array Value) (us : List Hd) (M : Nat → Prop) (W : World) : Prop :=
  I (vs ++ us.filter isC) M W ∧ W.heap[Y]? = some (.cells #[.func (Fn.func f) #[] cap] 45 (0, 0)) ∧ ¬ M Y
theorem IC.use {f : FuncId} {cap : Array Value} {w0 : World} {I : List Hd → (Nat → Prop) → World → Prop} (hU : Use f w0 I) (vs : List Hd) (Y : Nat) : Use 100 w0 (IC I vs Y f cap) :=
  ⟨fun args W => by simp [go_sem], fun us M W h => hU.base _ _ _ h.1, fun us M W h => hU.lt _ _ _ h.1, fun us M W W' h hb => ⟨hU.new _ _ _ _ h.1 hb, heap_below hb (heap_lt h.2.1) h.2.1, h.2.2⟩⟩
end Ca
set_option maxHeartbeats 2000000 in
set_option maxRecDepth 100000 in
theorem thruC_use (N N' : Nat) (f : FuncId) (cap : Array Value) (w0 : World) (I : List Hd → (Nat → Prop) → World → Prop) (hU : Ca.Use f w0 I) (vs : List Hd) (Y : Nat) (h : Hd) (p : Pl) (hF : h.kind = 17 → Ca.UseAt N f cap I h p) (hN : vs.length + N' ≤ N) :
    Ca.UseAt N' 100 #[.pointer (some ⟨Y, 0, none⟩)] (Ca.IC I vs Y f cap) h p := by
  intro us M w hlt hI
  rw [show (#[.agg #[.int .i8 h.kind, .string h.name, .string h.arg, .int .i64 h.num, .int .i8 h.tk, .slice p.TA p.tn p.tc, .int .i8 h.uk, .slice p.UA p.un p.uc, .int .i64 h.label, .int .i64 h.pos, .slice p.A p.n p.c]] ++ #[.pointer (some ⟨Y, 0, none⟩)] : Array Value) = #[.agg #[.int .i8 h.kind, .string h.name, .string h.arg, .int .i64 h.num, .int .i8 h.tk, .slice p.TA p.tn p.tc, .int .i8 h.uk, .slice p.UA p.un p.uc, .int .i64 h.label, .int .i64 h.pos, .slice p.A p.n p.c], .pointer (some ⟨Y, 0, none⟩)] from rfl]
  have hB1 : Below w.heap.size w (w.alloc (.cells #[.int .i8 h.kind, .string h.name, .string h.arg, .int .i64 h.num, .int .i8 h.tk, .slice p.TA p.tn p.tc, .int .i8 h.uk, .slice p.UA p.un p.uc, .int .i64 h.label, .int .i64 h.pos, .slice p.A p.n p.c] 28)) := (Below.refl _ _).alloc (Nat.le_refl _) _
  have h0 := heap_new w (.cells #[.int .i8 h.kind, .string h.name, .string h.arg, .int .i64 h.num, .int .i8 h.tk, .slice p.TA p.tn p.tc, .int .i8 h.uk, .slice p.UA p.un p.uc, .int .i64 h.label, .int .i64 h.pos, .slice p.A p.n p.c] 28)
  have hI1 := (Ca.IC.use hU vs Y).new _ _ _ _ hI hB1
  obtain ⟨w1, hw1⟩ : ∃ w1, w1 = w.alloc (.cells #[.int .i8 h.kind, .string h.name, .string h.arg, .int .i64 h.num, .int .i8 h.tk, .slice p.TA p.tn p.tc, .int .i8 h.uk, .slice p.UA p.un p.uc, .int .i64 h.label, .int .i64 h.pos, .slice p.A p.n p.c] 28) := ⟨_, rfl⟩
  rw [← hw1] at hB1 h0 hI1
  have HW := Lib.hid hw1
  have HB1 := Lib.hid hB1
  have HI1 := Lib.hid hI1
  have y1 := hI1.2.1
  have hcf := hU.cf
  have HF := Lib.hid hF
  clear hI hI1 hB1 hF
  obtain ⟨q0, q1, q2, q3, q4, q5, q6, q7, q8, q9, q10, ql⟩ := own11 h0
  obtain ⟨y2, y3, y4⟩ := own1 y1
  clear h0 y1
  by_cases hk : h.kind = 17
  · have C0 := Lib.hid (HF.out hk _ _ _ (by rw [List.length_append]; have := List.length_filter_le Ca.isC us; omega) HI1.out.1)
    have e17 : (h.kind == 17) = true := by simp [hk]
    have EK := Lib.hid hk
    clear hk HF
    go_enter Tryz.func100, Tryz.ntmps100
    go_upto_region 1 with fail
    rw [← HW.out]
    clear hw1 HW
    go_wp2_with fail
    refine C0.out.mono ?_
    rintro e w2 ⟨rfl, M2, hI2, hG2⟩
    have HFIN := Lib.hid (show ∃ M', Ca.IC I vs Y f cap (us ++ [h]) M' w2 ∧ Ca.Go M M' w w2 from ⟨M2, ⟨by
      rw [List.filter_append, show [h].filter Ca.isC = [h] by simp [Ca.isC, EK.out], ← List.append_assoc]; exact hI2, by rw [hG2.block _ (heap_lt HI1.out.2.1) HI1.out.2.2]; exact HI1.out.2.1, fun e => by
        rcases hG2.new _ e with q | q
        · exact HI1.out.2.2 q
        · have := heap_lt HI1.out.2.1; omega⟩, (Ca.Go.of_below HB1.out).trans hG2⟩)
    clear hI2 hG2
    go_wp2_with fail
    go_end0
    exact ⟨rfl, HFIN.out⟩
  · have e17 : (h.kind == 17) = false := by simp [hk]
    have EK := Lib.hid hk
    clear hk HF
    go_enter Tryz.func100, Tryz.ntmps100
    go_upto_region 1 with fail
    rw [← HW.out]
    clear hw1 HW
    go_wp2_with fail
    go_end0
    refine ⟨rfl, M, ⟨?_, HI1.out.2⟩, Ca.Go.of_below HB1.out⟩
    rw [List.filter_append, show [h].filter Ca.isC = [] by simp [Ca.isC, EK.out], List.append_nil]
    exact HI1.out.1
/-- each Cast, handed on -/
theorem thruC_any (N : Nat) (f : FuncId) (cap : Array Value) (w0 : World) (I : List Hd → (Nat → Prop) → World → Prop) (hU : Ca.Use f w0 I) (h : Hd) (kids : Tm) (p : Pl) (vs : List Hd) (M : Nat → Prop) (w : World) (hIs : Tm.Is w0 h kids p) (hI : I vs M w)
    (hF : ∀ (h' : Hd) (k : Tm) (q : Pl), h' ∈ Ca.cs (.node h kids .nil) → Tm.Is w0 h' k q → Ca.UseAt N f cap I h' q) (hN : vs.length + (Ca.pre (.node h kids .nil)).length ≤ N) :
    Calls Tryz.prog 50 #[.agg #[.int .i8 h.kind, .string h.name, .string h.arg, .int .i64 h.num, .int .i8 h.tk, .slice p.TA p.tn p.tc, .int .i8 h.uk, .slice p.UA p.un p.uc, .int .i64 h.label, .int .i64 h.pos, .slice p.A p.n p.c], .func (Fn.func f) #[] cap] w fun e w' => e = .returned (.tuple #[]) ∧ ∃ M', I (vs ++ Ca.cs (.node h kids .nil)) M' w' ∧ Ca.Go M M' w w' := by
  have hB1 := below_n2 w (.cells #[.int .i8 h.kind, .string h.name, .string h.arg, .int .i64 h.num, .int .i8 h.tk, .slice p.TA p.tn p.tc, .int .i8 h.uk, .slice p.UA p.un p.uc, .int .i64 h.label, .int .i64 h.pos, .slice p.A p.n p.c] 28) (.cells #[.func (Fn.func f) #[] cap] 45)
  obtain ⟨h0, h1⟩ := heap_n2 w (.cells #[.int .i8 h.kind, .string h.name, .string h.arg, .int .i64 h.num, .int .i8 h.tk, .slice p.TA p.tn p.tc, .int .i8 h.uk, .slice p.UA p.un p.uc, .int .i64 h.label, .int .i64 h.pos, .slice p.A p.n p.c] 28) (.cells #[.func (Fn.func f) #[] cap] 45)
  have hI1 := hU.new _ _ _ _ hI hB1
  have hY : ¬ M (w.heap.size + 1) := fun e => by have := hU.lt _ _ _ hI _ e; omega
  obtain ⟨w1, hw1⟩ : ∃ w1, w1 = (w.alloc (.cells #[.int .i8 h.kind, .string h.name, .string h.arg, .int .i64 h.num, .int .i8 h.tk, .slice p.TA p.tn p.tc, .int .i8 h.uk, .slice p.UA p.un p.uc, .int .i64 h.label, .int .i64 h.pos, .slice p.A p.n p.c] 28)).alloc (.cells #[.func (Fn.func f) #[] cap] 45) := ⟨_, rfl⟩
  rw [← hw1] at hB1 h0 h1 hI1
  have hIC : Ca.IC I vs (w.heap.size + 1) f cap [] M w1 := ⟨by simpa using hI1, h1, hY⟩
  have C0 := Lib.hid (through_any (Ca.pre (.node h kids .nil)).length 100 #[.pointer (some ⟨w.heap.size + 1, 0, none⟩)] w0 _ (Ca.IC.use hU vs (w.heap.size + 1)) (Tm.nodes kids + 1) h kids p [] M w1 (Nat.lt_succ_self _) hIs hIC (by simp) (fun h' k' q' hm hI' => thruC_use N _ f cap w0 I hU vs _ h' q' (fun hk => hF h' k' q' (List.mem_filter.mpr ⟨hm, Ca.isC_of hk⟩) hI') hN))
  have HW := Lib.hid hw1
  have HB1 := Lib.hid hB1
  clear hI hI1 hB1 hF hIs hIC hY hU
  obtain ⟨q0, q1, q2, q3, q4, q5, q6, q7, q8, q9, q10, ql⟩ := own11 h0
  obtain ⟨y2, y3, y4⟩ := own1 h1
  clear h0 h1
  go_enter Tryz.func50, Tryz.ntmps50
  go_upto_region 1 with fail
  rw [← HW.out]
  clear hw1 HW
  go_wp2_with fail
  refine C0.out.mono ?_
  rintro e w2 ⟨rfl, M2, hI2, hG2⟩
  have HFIN := Lib.hid (show ∃ M', I (vs ++ Ca.cs (.node h kids .nil)) M' w2 ∧ Ca.Go M M' w w2 from ⟨M2, hI2.1, (Ca.Go.of_below HB1.out).trans hG2⟩)
  clear hI2 hG2
  go_wp2_with fail
  go_end0
  exact ⟨rfl, HFIN.out⟩
end Go.Proofs.YtfkbdpehdabepaaGreatDoor
