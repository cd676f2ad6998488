/-
  terms.tape: note; what lay goes by. terms.tape: lay.
-/
import Derived.Test.YtknhoagicdfikaaGreatDoorM4
import Derived.Test.YtknhoagicdfikaaGreatDoorM6
import Derived.Deep.RegionHeld3
import Derived.Deep.DrawnRows
import Derived.Deep.RegionWith
namespace Go.Proofs.YtknhoagicdfikaaGreatDoor
open Go.RowKit

/-- the tape's block -/
def TTape (w : World) (t n m : Nat) : Prop := w.heap[t]? = some (.cells #[.int .i64 n, .int .i64 m] 92 (0, 0))
def TLayOk (w : World) (t N M : Nat) (e : Ending) (w' : World) : Prop := e = .returned (.tuple #[]) ∧ TTape w' t N M ∧ w.grownBy w' (some t)
def TLayBig (w : World) (t : Nat) (e : Ending) (w' : World) : Prop := e = .panicked [{ v := .iface 94 (.agg #[]), recovered := false }] ∧ w.grownBy w' (some t)

theorem TTape.alloc {w : World} {t n m : Nat} (h : TTape w t n m) (o : Obj) : TTape (w.alloc o) t n m := heap_old h o
theorem TTape.below {w w' : World} {t n m : Nat} (h : TTape w t n m) (hb : Below w.heap.size w w') : TTape w' t n m := heap_below hb (heap_lt h) h
theorem ttape_set {w : World} {t n m : Nat} (h : TTape w t n m) (n' m' : Nat) : TTape ((w.setCell ⟨t, 0, none⟩ (.int .i64 n')).setCell ⟨t, 1, none⟩ (.int .i64 m')) t n' m' := by
  unfold TTape at h ⊢
  simp [World.setCell, Array.getElem?_modify, h]
theorem ttape_no {w : World} {t n m : Nat} (h : TTape w t n m) : ∀ o (k : Int), w.cell? ⟨t, o, none⟩ = some (.int .i8 k) → False := by
  intro o k hv
  unfold TTape at h
  simp only [World.cell?, h] at hv
  match o with
  | 0 => simp at hv
  | 1 => simp at hv
  | (q + 2) => simp at hv
theorem ttape_ne {w : World} {t n m : Nat} (h : TTape w t n m) (hS : TShapes w) : t ≠ 2 := by
  rintro rfl
  have := hS.row 0 (by omega) (by omega) 0 _ rfl
  unfold TTape at h
  simp only [World.cell?] at this
  rw [show (0 : Int).toNat * 7 + 0 = 0 from rfl, h] at this
  simp at this
theorem only_belowT {a w w' : World} {g : Nat} (h : a.grownBy w (some g)) (hb : Below w.heap.size w w') : a.grownBy w' (some g) :=
  ⟨hb.os.trans h.os, hb.tape.trans h.tape, hb.output.trans h.output, Nat.le_trans h.size hb.size, fun i hi hne => (hb.block i (Nat.lt_of_lt_of_le hi h.size)).trans (h.block i hi hne)⟩

namespace Tm
def sumN : Fo → Nat
  | .nil => 0
  | .node _ _ _ kids r => Ty.nod kids + sumN r
def maxD : Fo → Nat
  | .nil => 0
  | .node _ _ _ kids r => max (Ty.dpt kids) (maxD r)
theorem sumN_tys (h : Hd) : sumN (tys h) = tyN h := by
  unfold tys tyN
  cases ht : hasType h.kind
  · have hu : hasTo h.kind = false := by
      cases hq : hasTo h.kind
      · rfl
      · rw [hasTo_type hq] at ht; cases ht
    simp [hu, sumN]
  · cases hu : hasTo h.kind <;> simp [sumN]
theorem maxD_tys (h : Hd) : maxD (tys h) = tyD h := by
  unfold tys tyD
  cases ht : hasType h.kind
  · have hu : hasTo h.kind = false := by
      cases hq : hasTo h.kind
      · rfl
      · rw [hasTo_type hq] at ht; cases ht
    simp [hu, maxD]
  · cases hu : hasTo h.kind <;> simp [maxD]
theorem nod_le (kids : Fo) : Ty.nod kids ≤ 8193 := by unfold Ty.nod; omega
theorem dpt_le (kids : Fo) : Ty.dpt kids ≤ 201 := by unfold Ty.dpt; split <;> omega
end Tm

set_option maxHeartbeats 1000000 in
set_option maxRecDepth 100000 in
theorem note_ok (w : World) (t n m a d : Nat) (hT : TTape w t n m) (h1 : n + a ≤ 8192) (h2 : d ≤ 10000) (h3 : m ≤ 10000) :
    Calls Tryz.prog 78 #[.pointer (some ⟨t, 0, none⟩), .int .i64 a, .int .i64 d] w (TLayOk w t (n + a) (max m d)) := by
  obtain ⟨t0, t1, f0, f1, htl⟩ := own2 hT
  have i1 : (n : Int) + a ≤ 8192 := by omega
  have i2 : (d : Int) ≤ 10000 := by omega
  have i3 : (m : Int) ≤ 10000 := by omega
  have i4 : decide ((8192 : Int) < (n : Int) + a) = false := by simp; omega
  have hset := Lib.hid (ttape_set hT (n + a) (max m d))
  rw [show ((max m d : Nat) : Int) = max (m : Int) (d : Int) by omega, show ((n + a : Nat) : Int) = (n : Int) + a by omega] at hset
  clear hT
  go_enter Tryz.func78, Tryz.ntmps78
  go_wp2_with fail
  go_end0
  exact ⟨rfl, hset.out, only_set2 w t _ _⟩

set_option maxHeartbeats 1000000 in
set_option maxRecDepth 100000 in
theorem note_big (w : World) (t n m a : Nat) (d : Int) (hT : TTape w t n m) (h1 : 8192 < n + a) (h2 : n ≤ 8192) (h3 : a ≤ 8193) :
    Calls Tryz.prog 78 #[.pointer (some ⟨t, 0, none⟩), .int .i64 a, .int .i64 d] w (TLayBig w t) := by
  obtain ⟨t0, t1, f0, f1, htl⟩ := own2 hT
  have i1 : (n : Int) + a ≤ 16385 := by omega
  have i4 : decide ((8192 : Int) < (n : Int) + a) = true := by simp; omega
  clear hT
  go_enter Tryz.func78, Tryz.ntmps78
  go_wp2_with fail
  refine ⟨rfl, rfl, ?_⟩
  exact only_setCell (only_refl _ _) (.inl rfl) _
end Go.Proofs.YtknhoagicdfikaaGreatDoor
namespace Go.Proofs.YtknhoagicdfikaaGreatDoor
open Go.RowKit

/-- a round's state over a term's own types -/
structure L1 (w wr : World) (A : Option Addr) (t N M d len i : Nat) (rest : Fo) (n' m' : Nat) : Prop where
  i_eq : i + Ty.len rest = len
  lies : Ty.Lies wr rest A i
  tape : TTape wr t n' m'
  n_le : n' ≤ 8192
  cnt : n' + Tm.sumN rest = N
  mx : max m' (d + Tm.maxD rest) = M
  dm : d ≤ m'
  m_le : m' ≤ 10000
  lo : d ≤ n'
  only : w.grownBy wr (some t)
theorem L1.step {w wr w2 : World} {A : Option Addr} {t N M d len i n' m' x y : Nat} {k : Int} {kids r : Fo} (h : L1 w wr A t N M d len i (.node x y k kids r) n' m') (hfit : n' + Ty.nod kids ≤ 8192) (hd : d ≤ 8193)
    (o : Obj) (hT : TTape w2 t (n' + Ty.nod kids) (max m' (d + Ty.dpt kids))) (hk : (wr.alloc o).grownBy w2 (some t)) :
    L1 w w2 A t N M d len (i + 1) r (n' + Ty.nod kids) (max m' (d + Ty.dpt kids)) := by
  obtain ⟨h1, h2, h3, h4, h5, h6, h7, h8, h10, h9⟩ := h
  simp only [Ty.len, Tm.sumN, Tm.maxD] at h1 h5 h6
  obtain ⟨_, _, _, _, _, _, _, _, _, _, _, hr⟩ := h2
  have := Tm.dpt_le kids
  refine ⟨by omega, ?_, hT, hfit, by omega, by omega, by omega, by omega, by omega, only_trans h9 (only_trans (only_alloc (only_refl _ _) o) hk)⟩
  exact (hr.alloc o).kept (Tm.Kept.grown hk (ttape_no (h3.alloc o)))
theorem L1.start {w wr : World} {A : Option Addr} {t n' m' d : Nat} {f : Fo} (hL : Ty.Lies wr f A 0) (hT : TTape wr t n' m') (hn : n' ≤ 8192) (hm : m' ≤ 10000) (hd : d ≤ m') (hlo : d ≤ n') (ho : w.grownBy wr (some t)) :
    L1 w wr A t (n' + Tm.sumN f) (max m' (d + Tm.maxD f)) d (Ty.len f) 0 f n' m' :=
  ⟨by omega, hL, hT, hn, rfl, rfl, hd, hm, hlo, ho⟩

/-- a round's state over a term's kids -/
structure L2 (w wr : World) (A : Option Addr) (t N M d len nk i : Nat) (rest : Tm) (n' m' : Nat) : Prop where
  i_eq : i + Tm.len rest = len
  lies : Tm.Lies wr rest A i
  tape : TTape wr t n' m'
  n_le : n' ≤ 8192
  cnt : n' + Tm.nodes rest = N
  mx : max m' (d + Tm.dep rest) = M
  dm : d ≤ m'
  m_le : m' ≤ 10000
  lo : d ≤ n'
  sub : Tm.nodes rest ≤ nk
  shapes : TShapes wr
  only : w.grownBy wr (some t)
theorem Tm.dp_le_nd : ∀ f : Tm, Tm.dep f ≤ Tm.nodes f + 201
  | .nil => by simp only [Tm.dep, Tm.nodes]; omega
  | .node h kids r => by
    have := Tm.dp_le_nd kids
    have := Tm.dp_le_nd r
    have h1 : Tm.tyD h ≤ 201 := by
      unfold Tm.tyD
      have := Tm.dpt_le h.tkids
      have := Tm.dpt_le h.ukids
      split <;> split <;> omega
    simp only [Tm.dep, Tm.nodes]; omega
theorem L2.step {w wr w2 : World} {A : Option Addr} {t N M d len nk i n' m' : Nat} {h : Hd} {kids r : Tm} (g : L2 w wr A t N M d len nk i (.node h kids r) n' m') (hfit : n' + Tm.nd h kids ≤ 8192)
    (o : Obj) (hT : TTape w2 t (n' + Tm.nd h kids) (max m' (d + Tm.dp h kids))) (hk : (wr.alloc o).grownBy w2 (some t)) (hs : TShapes (wr.alloc o)) :
    L2 w w2 A t N M d len nk (i + 1) r (n' + Tm.nd h kids) (max m' (d + Tm.dp h kids)) := by
  obtain ⟨h1, h2, h3, h4, h5, h6, h7, h8, h10, h11, h12, h9⟩ := g
  simp only [Tm.len, Tm.nodes, Tm.dep] at h1 h5 h6 h11
  obtain ⟨_, _, _, _, _, _, _, hr⟩ := h2
  have hd1 := Tm.dp_le_nd kids
  have h1' : Tm.tyD h ≤ 201 := by
    unfold Tm.tyD
    have := Tm.dpt_le h.tkids
    have := Tm.dpt_le h.ukids
    split <;> split <;> omega
  have hnd : Tm.nd h kids = 1 + Tm.tyN h + Tm.nodes kids := rfl
  have hdp : Tm.dp h kids = 1 + max (Tm.tyD h) (Tm.dep kids) := rfl
  refine ⟨by omega, ?_, hT, hfit, by omega, by omega, by omega, by omega, by omega, by omega, ?_, only_trans h9 (only_trans (only_alloc (only_refl _ _) o) hk)⟩
  · exact (hr.alloc o).kept (Tm.Kept.grown hk (ttape_no (h3.alloc o)))
  · exact hs.grown hk (ttape_ne (h3.alloc o) hs)

/-- what lay leaves: all counted, or left early -/
def TLayPost (w : World) (t n m d : Nat) (h : Hd) (kids : Tm) (e : Ending) (w' : World) : Prop :=
  (n + Tm.nd h kids ≤ 8192 ∧ TLayOk w t (n + Tm.nd h kids) (max m (d + max (Tm.tyD h) (Tm.dep kids))) e w') ∨ (8192 < n + Tm.nd h kids ∧ TLayBig w t e w')

theorem keepH {g : Nat} {v0 v1 : Value} {W w2 : World} (h : W.cell? ⟨g, 0, none⟩ = some v0 ∧ W.cell? ⟨g, 1, none⟩ = some v1) (hb : Below W.heap.size W w2) : w2.cell? ⟨g, 0, none⟩ = some v0 ∧ w2.cell? ⟨g, 1, none⟩ = some v1 :=
  ⟨by rw [(bcell hb).1 _ _ (Ty.cell_lt h.1)]; exact h.1, by rw [(bcell hb).1 _ _ (Ty.cell_lt h.2)]; exact h.2⟩

theorem keepG {g t : Nat} {v0 v1 : Value} {W w2 : World} (h : W.cell? ⟨g, 0, none⟩ = some v0 ∧ W.cell? ⟨g, 1, none⟩ = some v1) (hg : W.grownBy w2 (some t)) (hne : g ≠ t) : w2.cell? ⟨g, 0, none⟩ = some v0 ∧ w2.cell? ⟨g, 1, none⟩ = some v1 := by
  have hb := hg.block g (Ty.cell_lt h.1) (fun e => hne (by injection e))
  exact ⟨by rw [World.cell?_of_block hb]; exact h.1, by rw [World.cell?_of_block hb]; exact h.2⟩

/-- a way that ends in a panic, inside a region whose order is drawn: what is left to show, as the end of a region of no operations -/
theorem panic_end {P : Program} {G : Prop} {w : World} (h : wpAny P .any #[] (fun _ _ _ => G) 0 #[] { tmps := #[], defers := [] } w) : G := h.2

attribute [local go_sem ↓] Go.wp_at_zero Go.wp_at_succ
set_option maxHeartbeats 4000000 in
set_option maxRecDepth 100000 in
theorem tlay_any (K : Nat) : ∀ (h : Hd) (kids : Tm) (p : Pl) (w : World) (t n m d : Nat), Tm.nodes kids < K → Tm.Is w h kids p → TShapes w → TTape w t n m → n ≤ 8192 → d ≤ n + 1 → m ≤ 10000 →
    Calls Tryz.prog 52 #[.pointer (some ⟨t, 0, none⟩), .agg #[.int .i8 h.kind, .string h.name, .string h.arg, .int .i64 h.num, .int .i8 h.tk, .slice p.TA p.tn p.tc, .int .i8 h.uk, .slice p.UA p.un p.uc, .int .i64 h.label, .int .i64 h.pos, .slice p.A p.n p.c], .int .i64 d] w (TLayPost w t n m d h kids) := by
  induction K with
  | zero => intro _ _ _ _ _ _ _ _ hK; omega
  | succ K ih =>
    intro h kids p w t n m d hK hIs hS hT hn hd hm
    have IH := Lib.hid ih
    clear ih
    have htl := heap_lt hT
    have hne : w.heap.size ≠ t := by omega
    have hB0 : Below w.heap.size w (w.alloc (.cells #[.int .i8 h.kind, .string h.name, .string h.arg, .int .i64 h.num, .int .i8 h.tk, .slice p.TA p.tn p.tc, .int .i8 h.uk, .slice p.UA p.un p.uc, .int .i64 h.label, .int .i64 h.pos, .slice p.A p.n p.c] 28)) := (Below.refl _ _).alloc (Nat.le_refl _) _
    have HN := Lib.hid (heap_new w (.cells #[.int .i8 h.kind, .string h.name, .string h.arg, .int .i64 h.num, .int .i8 h.tk, .slice p.TA p.tn p.tc, .int .i8 h.uk, .slice p.UA p.un p.uc, .int .i64 h.label, .int .i64 h.pos, .slice p.A p.n p.c] 28))
    have HI := Lib.hid (hIs.below hB0)
    have HS := Lib.hid (hS.below hB0)
    have HT := Lib.hid (hT.below hB0)
    have HO := Lib.hid (only_alloc (only_refl w t) (.cells #[.int .i8 h.kind, .string h.name, .string h.arg, .int .i64 h.num, .int .i8 h.tk, .slice p.TA p.tn p.tc, .int .i8 h.uk, .slice p.UA p.un p.uc, .int .i64 h.label, .int .i64 h.pos, .slice p.A p.n p.c] 28))
    have hnd : Tm.nd h kids = 1 + Tm.tyN h + Tm.nodes kids := rfl
    have HND := Lib.hid hnd
    clear hnd hIs hS hT hB0
    have i2 : (d : Int) ≤ 8193 := by omega
    by_cases hn1 : n + 1 ≤ 8192
    · have hnote := note_ok _ t n m 1 d HT.out hn1 (by omega) hm
      have HC := Lib.hid hnote
      clear hnote
      go_enter Tryz.func52, Tryz.ntmps52
      go_wp2_with fail
      refine HC.out.mono ?_
      rintro e w2 ⟨rfl, hT2, hg2⟩
      have hk2 := Tm.Kept.grown hg2 (ttape_no HT.out)
      have HI2 := Lib.hid (HI.out.kept hk2)
      have HS2 := Lib.hid (HS.out.grown hg2 (ttape_ne HT.out HS.out))
      have HN2 := Lib.hid (heap_grown hg2 hne HN.out)
      have HO2 := Lib.hid (only_trans HO.out hg2)
      have HT2 := Lib.hid hT2
      obtain ⟨q0, q1, q2, q3, q4, q5, q6, q7, q8, q9, q10, ql⟩ := own11 HN2.out
      clear hT2 hg2 hk2
      go_wp2_with fail
      refine (typesOf_any h _ p _ HI2.out.fit HS2.out).mono ?_
      rintro e w3 ⟨A3, n3, c3, rfl, hL3, hn3, hc3, hm3, hb3⟩
      have HI3 := Lib.hid (HI2.out.below hb3)
      have HS3 := Lib.hid (HS2.out.below hb3)
      have HN3 := Lib.hid (heap_below hb3 ql HN2.out)
      have HO3 := Lib.hid (only_belowT HO2.out hb3)
      have HT3 := Lib.hid (HT2.out.below hb3)
      have HL1 := Lib.hid (L1.start hL3 HT3.out hn1 (by omega) (show d ≤ max m d by omega) (by omega) HO3.out)
      rw [← hn3, Tm.sumN_tys, Tm.maxD_tys] at HL1
      have j3 : (n3 : Int) ≤ 9223372036854775807 := by unfold maxLen at hm3; omega
      clear hL3 hb3 hc3 hm3 q0 q1 q2 q3 q4 q5 q6 q7 q8 q9 q10 ql hn3
      have hsz3 := heap_lt HN3.out
      generalize hM1 : max (max m d) (d + Tm.tyD h) = M1 at *
      generalize hN1 : n + 1 + Tm.tyN h = N1 at *
      generalize hm0 : max m d = m0 at *
      have HM0 := Lib.hid hm0
      clear hm0
      have HM1 := Lib.hid hM1
      have HN1 := Lib.hid hN1
      clear hM1 hN1
      go_wp2_with fail
      go_loopw [16] (fun v wr => ∃ (i : Nat) (rest : Fo) (n' m' : Nat), v = .int .i64 i ∧ L1 w wr A3 t N1 M1 d n3 i rest n' m' ∧ Tm.Is wr h kids p ∧ TShapes wr ∧ wr.heap[w.heap.size]? = some (.cells #[.int .i8 h.kind, .string h.name, .string h.arg, .int .i64 h.num, .int .i8 h.tk, .slice p.TA p.tn p.tc, .int .i8 h.uk, .slice p.UA p.un p.uc, .int .i64 h.label, .int .i64 h.pos, .slice p.A p.n p.c] 28 (0, 0))) (fun v _ => n3 - (intOf v).toNat)
      case atStart => exact ⟨0, _, _, _, rfl, HL1.out, HI3.out, HS3.out, HN3.out⟩
      case round =>
        obtain ⟨i, rest, n', m', rfl, hR, hIr, hSr, hNr⟩ := hrel
        have HIr := Lib.hid hIr
        have HSr := Lib.hid hSr
        have HNr := Lib.hid hNr
        clear hIr hSr hNr
        cases rest with
        | nil =>
          have hi : i = n3 := by have := hR.i_eq; simpa [Ty.len] using this
          subst hi
          have e1 := hR.cnt
          have e2 := hR.mx
          have e3 := hR.dm
          have e4 := hR.n_le
          have e5 := hR.m_le
          have e6 := hR.lo
          simp only [Tm.sumN, Tm.maxD] at e1 e2
          have hnt : n' + Tm.nodes kids = n + Tm.nd h kids := by have := HND.out; have := HN1.out; omega
          have hmt : max m' (d + Tm.dep kids) = max m (d + max (Tm.tyD h) (Tm.dep kids)) := by have := HM1.out; have := HM0.out; omega
          have HNT := Lib.hid hnt
          have HMT := Lib.hid hmt
          have hst2 : L2 w wr p.A t (n' + Tm.nodes kids) (max m' (d + Tm.dep kids)) d p.n (Tm.nodes kids) 0 kids n' m' :=
            ⟨by rw [HIr.out.fit.n_eq]; omega, HIr.out.lies, hR.tape, e4, rfl, rfl, e3, e5, e6, Nat.le_refl _, HSr.out, hR.only⟩
          have HST2 := Lib.hid hst2
          have j4 : (p.n : Int) ≤ 9223372036854775807 := by have h1 := HIr.out.fit.n_le; have h2 := HIr.out.fit.c_le; unfold maxLen at h2; omega
          obtain ⟨q0, q1, q2, q3, q4, q5, q6, q7, q8, q9, q10, ql⟩ := own11 HNr.out
          clear hR e1 e2 hnt hmt hst2 HIr HSr HNr HL1 HI3 HS3 HN3 HO3 HT3 HI2 HS2 HN2 HO2 HT2
          go_wp2_with fail
          obtain ⟨wo, rfl⟩ : ∃ wo : World, wo = wr := ⟨_, rfl⟩
          go_loopw [32] (fun v wq => ∃ (i : Nat) (rest : Tm) (n2 m2 : Nat), v = .int .i64 i ∧ L2 w wq p.A t (n' + Tm.nodes kids) (max m' (d + Tm.dep kids)) d p.n (Tm.nodes kids) i rest n2 m2) (fun v _ => p.n - (intOf v).toNat)
          case atStart => exact ⟨0, kids, n', m', rfl, HST2.out⟩
          case round =>
            obtain ⟨i, rest, n2, m2, rfl, hQ⟩ := hrel
            clear q0 q1 q2 q3 q4 q5 q6 q7 q8 q9 q10 ql
            cases rest with
            | nil =>
              have hi : i = p.n := by have := hQ.i_eq; simpa [Tm.len] using this
              have e1 := hQ.cnt
              have e2 := hQ.mx
              have e7 := hQ.n_le
              have e8 := hQ.dm
              simp only [Tm.nodes, Tm.dep] at e1 e2
              have hfin : TLayPost w t n m d h kids (.returned (.tuple #[])) wr := by
                refine .inl ⟨by have := HNT.out; omega, rfl, ?_, hQ.only⟩
                rw [← HNT.out, ← HMT.out, ← e1, ← e2, show max m2 (d + 0) = m2 by omega]; exact hQ.tape
              have HF := Lib.hid hfin
              clear hQ e1 e2 hfin
              subst hi
              go_wp2_with fail
              go_end0
              exact HF.out
            | node h' kids' r =>
              have h1 := hQ.i_eq
              have h2 := hQ.lies
              have h3 := hQ.tape
              have h4 := hQ.n_le
              have h6 := hQ.m_le
              have h8 := hQ.lo
              have h7 := hQ.sub
              have h9 := hQ.cnt
              simp only [Tm.len, Tm.nodes] at h1 h7 h9
              have hgo := hQ.only
              have hsh := hQ.shapes
              obtain ⟨bb, oo, p', hpA, hcs, hfit', hl4, hl5⟩ := h2
              have hst := fun hfit w2 hT hk => L2.step (w2 := w2) hQ hfit (.cells #[.int .i8 h'.kind, .string h'.name, .string h'.arg, .int .i64 h'.num, .int .i8 h'.tk, .slice p'.TA p'.tn p'.tc, .int .i8 h'.uk, .slice p'.UA p'.un p'.uc, .int .i64 h'.label, .int .i64 h'.pos, .slice p'.A p'.n p'.c] 28) hT hk (hsh.alloc _)
              have hcall := IH.out h' kids' p' (wr.alloc (.cells #[.int .i8 h'.kind, .string h'.name, .string h'.arg, .int .i64 h'.num, .int .i8 h'.tk, .slice p'.TA p'.tn p'.tc, .int .i8 h'.uk, .slice p'.UA p'.un p'.uc, .int .i64 h'.label, .int .i64 h'.pos, .slice p'.A p'.n p'.c] 28)) t n2 m2 (d + 1) (by omega) (Tm.Is.alloc ⟨hfit', hl4⟩ _) (hsh.alloc _) (h3.alloc _) h4 (by omega) h6
              rw [show ((d + 1 : Nat) : Int) = (d : Int) + 1 by omega] at hcall
              have c0 := hcs 0 _ rfl
              have c1 := hcs 1 _ rfl
              have c2 := hcs 2 _ rfl
              have c3 := hcs 3 _ rfl
              have c4 := hcs 4 _ rfl
              have c5 := hcs 5 _ rfl
              have c6 := hcs 6 _ rfl
              have c7 := hcs 7 _ rfl
              have c8 := hcs 8 _ rfl
              have c9 := hcs 9 _ rfl
              have c10 := hcs 10 _ rfl
              rw [Nat.add_zero] at c0
              have j5 : (i : Int) < p.n := by omega
              have HST3 := Lib.hid hst
              have HCK := Lib.hid hcall
              have HCN := Lib.hid h9
              have HGO := Lib.hid (only_alloc hgo (.cells #[.int .i8 h'.kind, .string h'.name, .string h'.arg, .int .i64 h'.num, .int .i8 h'.tk, .slice p'.TA p'.tn p'.tc, .int .i8 h'.uk, .slice p'.UA p'.un p'.uc, .int .i64 h'.label, .int .i64 h'.pos, .slice p'.A p'.n p'.c] 28))
              have HPA := Lib.hid hpA
              clear hst hcall hQ hgo hsh hcs hfit' hl4 hl5 h3 h9 h6
              generalize hPA : p.A = PA at *
              obtain rfl : PA = some ⟨bb, oo, none⟩ := HPA.out
              clear hPA HPA
              go_wp2_with fail
              refine HCK.out.mono ?_
              rintro e w2 (⟨hfit, rfl, hT2, hg2⟩ | ⟨hbig, rfl, hg2⟩)
              · have hR2 := HST3.out hfit w2 (by
                  have e : max m2 (d + Tm.dp h' kids') = max m2 (d + 1 + max (Tm.tyD h') (Tm.dep kids')) := by unfold Tm.dp; omega
                  rw [e]; exact hT2) hg2
                have HR2 := Lib.hid hR2
                clear hR2 hT2 hg2
                go_wp2_with fail
                go_roundw
                case rel => exact ⟨i + 1, r, _, _, by go_num, HR2.out⟩
                case measure => simp [intOf]; omega
              · exact ⟨rfl, .inr ⟨by have := HNT.out; have := HCN.out; have e : Tm.nd h' kids' = 1 + Tm.tyN h' + Tm.nodes kids' := rfl; omega, rfl, only_trans HGO.out hg2⟩⟩
        | node x y k' kids' r =>
          have h1 := hR.i_eq
          have h2 := hR.lies
          have h3 := hR.tape
          have h4 := hR.n_le
          have h5 := hR.dm
          have h6 := hR.m_le
          have h7 := hR.cnt
          simp only [Ty.len, Tm.sumN] at h1 h7
          obtain ⟨bb, oo, B, c', rfl, ⟨hk1, hk2⟩, c1, c2, hl1, hl2, hl3, hl4⟩ := h2
          have j1 : (i : Int) < n3 := by omega
          have hIk : Ty.Is wr k' kids' B (Ty.len kids') c' := ⟨hl3, rfl, hl1, hl2, hk1, hk2⟩
          have HR := Lib.hid hR
          have HL4 := Lib.hid hl4
          have hIt : wr.heap.size ≠ t := by have := heap_lt h3; omega
          have hTa := h3.alloc (.cells #[.int .i8 k', .slice B (Ty.len kids') c'] 25)
          have hIa := hIk.alloc (.cells #[.int .i8 k', .slice B (Ty.len kids') c'] 25)
          clear hR hl3 hl4 hl1 hl2 h3 h5 h6 hIk
          go_wp2_with fail
          obtain ⟨b0, b1, _, _, hIl⟩ := own2 (heap_new wr (.cells #[.int .i8 k', .slice B (Ty.len kids') c'] 25))
          have hOnly := Lib.hid (only_refl (wr.alloc (.cells #[.int .i8 k', .slice B (Ty.len kids') c'] 25)) t)
          have hST := Lib.hid (fun hfit hd w2 hT hk => HR.out.step hfit hd (.cells #[.int .i8 k', .slice B (Ty.len kids') c'] 25) (w2 := w2) hT hk)
          have HIa := Lib.hid (HIr.out.alloc (.cells #[.int .i8 k', .slice B (Ty.len kids') c'] 25))
          have HSa := Lib.hid (HSr.out.alloc (.cells #[.int .i8 k', .slice B (Ty.len kids') c'] 25))
          have HNa := Lib.hid (heap_old HNr.out (.cells #[.int .i8 k', .slice B (Ty.len kids') c'] 25))
          have HOa := Lib.hid (only_alloc HR.out.only (.cells #[.int .i8 k', .slice B (Ty.len kids') c'] 25))
          generalize wr.alloc (.cells #[.int .i8 k', .slice B (Ty.len kids') c'] 25) = wa at *
          generalize wr.heap.size = I at *
          have hnl := Tm.nod_le kids'
          have hdl := Tm.dpt_le kids'
          have CN := Lib.hid (fun (W : World) (hb : Below wa.heap.size wa W) => nodes_any k' kids' B (Ty.len kids') c' W (hIa.below hb))
          have CD := Lib.hid (fun (W : World) (hb : Below wa.heap.size wa W) => depth_any k' kids' B (Ty.len kids') c' W (hIa.below hb))
          have D0 : Below wa.heap.size wa wa.drew := (Below.refl _ _).drew
          have g1 : (0 : Int) ≤ (Ty.dpt kids' : Nat) ∧ ((Ty.dpt kids' : Nat) : Int) ≤ 201 := by omega
          have HTa := Lib.hid hTa
          clear hIa hTa
          by_cases hfit : n' + Ty.nod kids' ≤ 8192
          · have hC : ∀ (W : World) (hb : Below wa.heap.size wa W), Calls Tryz.prog 78 #[.pointer (some ⟨t, 0, none⟩), .int .i64 (Ty.nod kids' : Nat), .int .i64 ((d : Int) + (Ty.dpt kids' : Nat))] W (TLayOk W t (n' + Ty.nod kids') (max m' (d + Ty.dpt kids'))) := fun W hb => by
              have := note_ok W t n' m' (Ty.nod kids') (d + Ty.dpt kids') (HTa.out.below hb) hfit (by omega) (by have := HR.out.m_le; omega)
              rwa [show ((d + Ty.dpt kids' : Nat) : Int) = (d : Int) + (Ty.dpt kids' : Nat) by omega] at this
            have HC := Lib.hid hC
            have hST2 := Lib.hid (hST.out hfit (by omega))
            clear hC hST hfit
            generalize Ty.nod kids' = N at *
            generalize Ty.dpt kids' = D at *
            have e1 : IntKind.i64.wrap ((d : Int) + (D : Int)) = (d : Int) + D := IntWalk.i64_in _ (by omega)
            go_region_held3 (fun w' => w'.cell? ⟨I, 0, none⟩ = some (.int .i8 k') ∧ w'.cell? ⟨I, 1, none⟩ = some (.slice B (Ty.len kids') c'))
              (first | exact keepH ⟨b0, b1⟩ D2 | exact keepH ⟨b0, b1⟩ D1 | exact keepH ⟨b0, b1⟩ D0 | exact keepG (keepH ⟨b0, b1⟩ D2) hg3 hIt | go_keep)
              (first
                | (go_at_call 79; (with_reducible refine (CN.out _ D0).mono ?_); rintro e u1 ⟨rfl, hb⟩; have D1 := D0.trans (hb.mono D0.size); clear hb)
                | (go_at_call 80; (with_reducible refine (CD.out _ D1).mono ?_); rintro e u2 ⟨rfl, hb⟩; have D2 := D1.trans (hb.mono D1.size); clear hb)
                | (go_at_call 78; (with_reducible refine (HC.out _ D2).mono ?_); rintro e u3 ⟨rfl, hT3, hg3⟩))
            have hT2 := HTa.out.below D2
            have hkept := Tm.Kept.grown hg3 (ttape_no hT2)
            have hk3 := only_trans (only_belowT hOnly.out D2) hg3
            have HR3 := Lib.hid (hST2.out u3 hT3 hk3)
            have HI3' := Lib.hid ((HIa.out.below D2).kept hkept)
            have HS3' := Lib.hid ((HSa.out.below D2).grown hg3 (ttape_ne hT2 (HSa.out.below D2)))
            have HN3' := Lib.hid (heap_grown hg3 hne (heap_below D2 (heap_lt HNa.out) HNa.out))
            clear hT2 hkept hk3 hT3 hg3 D0 D1 D2 b0 b1
            go_wp2_with fail
            go_roundw
            case rel => exact ⟨i + 1, r, _, _, by go_num, HR3.out, HI3'.out, HS3'.out, HN3'.out⟩
            case measure => simp [intOf]; omega
          · have hC : ∀ (W : World) (hb : Below wa.heap.size wa W), Calls Tryz.prog 78 #[.pointer (some ⟨t, 0, none⟩), .int .i64 (Ty.nod kids' : Nat), .int .i64 ((d : Int) + (Ty.dpt kids' : Nat))] W (TLayBig W t) := fun W hb =>
              note_big W t n' m' (Ty.nod kids') _ (HTa.out.below hb) (by omega) h4 hnl
            have HC := Lib.hid hC
            have hbig : 8192 < n + Tm.nd h kids := by have := HND.out; have := HN1.out; omega
            clear hC hST hfit
            generalize Ty.nod kids' = N at *
            generalize Ty.dpt kids' = D at *
            have e1 : IntKind.i64.wrap ((d : Int) + (D : Int)) = (d : Int) + D := IntWalk.i64_in _ (by omega)
            go_region_with (first
                | (go_at_call 79; (with_reducible refine (CN.out _ D0).mono ?_); rintro e u1 ⟨rfl, hb⟩; have D1 := D0.trans (hb.mono D0.size); obtain ⟨b2, b3⟩ := keepH ⟨b0, b1⟩ D1; clear hb)
                | (go_at_call 80; (with_reducible refine (CD.out _ D1).mono ?_); rintro e u2 ⟨rfl, hb⟩; have D2 := D1.trans (hb.mono D1.size); clear hb)
                | (go_at_call 78; (with_reducible refine (HC.out _ D2).mono ?_); rintro e u3 ⟨rfl, hg3⟩; refine panic_end (P := Tryz.prog) (w := u3) ?_))
            all_goals exact ⟨rfl, .inr ⟨hbig, rfl, only_trans (only_belowT HOa.out D2) hg3⟩⟩
    · have hnote := note_big _ t n m 1 d HT.out (by omega) hn (by omega)
      have HC := Lib.hid hnote
      have hbig : 8192 < n + Tm.nd h kids := by have := HND.out; omega
      clear hnote
      go_enter Tryz.func52, Tryz.ntmps52
      go_wp2_with fail
      refine HC.out.mono ?_
      rintro e w2 ⟨rfl, hg2⟩
      exact ⟨rfl, .inr ⟨hbig, rfl, only_trans HO.out hg2⟩⟩
end Go.Proofs.YtknhoagicdfikaaGreatDoor
