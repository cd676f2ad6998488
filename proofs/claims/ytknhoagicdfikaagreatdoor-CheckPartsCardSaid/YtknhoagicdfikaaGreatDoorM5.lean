/-
  types.measure: how many, how deep. types.measure, its closure; Nodes and Depth. types.all: a list of types, each held against a function. The reference's count, Nodes, deep, Depth.
-/
import Derived.Test.YtknhoagicdfikaaGreatDoorM1
import Derived.Test.YtknhoagicdfikaaGreatDoorM2
import Derived.Defers
import Derived.Recover
import Derived.Deep.LoopGhost
import Derived.BigQuiet
import Derived.Deep.QuietTactic
import Derived.WalkSmall
import Derived.RegionTactic
import Derived.BigRegion
namespace Go.Proofs.YtknhoagicdfikaaGreatDoor
open Go.RowKit

theorem only_alloc {a w : World} {row : Option Nat} (h : a.grownBy w row) (o : Obj) : a.grownBy (w.alloc o) row :=
  ⟨h.os, h.tape, h.output, Nat.le_trans h.size (by simp), fun i hi hne => (Below.heap_alloc w o i (Nat.lt_of_lt_of_le hi h.size)).trans (h.block i hi hne)⟩
theorem only_setCell {a w : World} {g : Nat} (h : a.grownBy w (some g)) {p : Addr} (hp : p.block = g ∨ a.heap.size ≤ p.block) (u : Value) : a.grownBy (w.setCell p u) (some g) :=
  ⟨h.os, h.tape, h.output, by simpa [World.setCell] using h.size, fun i hi hne => (Below.heap_setCell w p u i (by
    rintro rfl
    rcases hp with hp | hp
    · exact hne (by rw [hp])
    · omega)).trans (h.block i hi hne)⟩
theorem only_trans {a b c : World} {g : Nat} (h : a.grownBy b (some g)) (k : b.grownBy c (some g)) : a.grownBy c (some g) :=
  ⟨k.os.trans h.os, k.tape.trans h.tape, k.output.trans h.output, Nat.le_trans h.size k.size, fun i hi hne => (k.block i (Nat.lt_of_lt_of_le hi h.size) hne).trans (h.block i hi hne)⟩
theorem only_refl (a : World) (g : Nat) : a.grownBy a (some g) := ⟨rfl, rfl, rfl, Nat.le_refl _, fun _ _ _ => rfl⟩

/-- the tape's block -/
def Tape (w : World) (t n m : Nat) : Prop := w.heap[t]? = some (.cells #[.int .i64 n, .int .i64 m] 106 (0, 0))
/-- what lay leaves: the count, and all else as it was -/
def LayOk (w : World) (t N M : Nat) (e : Ending) (w' : World) : Prop := e = .returned (.tuple #[]) ∧ Tape w' t N M ∧ w.grownBy w' (some t)

theorem tape_no {w : World} {t n m : Nat} (h : Tape w t n m) : ∀ o v, w.cell? ⟨t, o, none⟩ = some v → (∃ k : Int, v = .int .i8 k) ∨ (∃ B n c, v = .slice B n c) → False := by
  intro o v hv hh
  unfold Tape at h
  simp only [World.cell?, h] at hv
  have : v = .int .i64 n ∨ v = .int .i64 m := by
    match o with
    | 0 => left; simpa using hv.symm
    | 1 => right; simpa using hv.symm
    | (q + 2) => simp at hv
  rcases this with rfl | rfl <;> rcases hh with ⟨k, h⟩ | ⟨B, n, c, h⟩ <;> cases h

theorem tape_alloc {w : World} {t n m : Nat} (h : Tape w t n m) (o : Obj) : Tape (w.alloc o) t n m := heap_old h o

/-- a round's state -/
structure LayRel (w wr : World) (A : Option Addr) (t N M d len : Nat) (nk : Nat) (i : Nat) (rest : Fo) (n' m' : Nat) : Prop where
  i_eq : i + Ty.len rest = len
  lies : Ty.Lies wr rest A i
  tape : Tape wr t n' m'
  cnt : n' + Ty.nodes rest = N
  mx : max m' (d + Ty.dep rest) = M
  lo : d ≤ n'
  m_le : m' ≤ 10000
  dm : d ≤ m'
  sub : Ty.nodes rest ≤ nk
  only : w.grownBy wr (some t)

theorem LayRel.step {w wr w2 : World} {A : Option Addr} {t N M d len nk i : Nat} {n' m' : Nat} {a b : Nat} {k : Int} {kids r : Fo} (h : LayRel w wr A t N M d len nk i (.node a b k kids r) n' m') (hN : n' + 1 + Ty.nodes kids ≤ 8192)
    (o : Obj) (hT : Tape w2 t (n' + 1 + Ty.nodes kids) (max m' (d + 1 + Ty.dep kids))) (hg : (wr.alloc o).grownBy w2 (some t)) (hA : Ty.Lies wr r A (i + 1)) :
    LayRel w w2 A t N M d len nk (i + 1) r (n' + 1 + Ty.nodes kids) (max m' (d + 1 + Ty.dep kids)) := by
  obtain ⟨h1, h2, h3, h4, h5, h6, h7, h10, h8, h9⟩ := h
  have hdn := Ty.dep_le_nodes kids
  simp only [Ty.len, Ty.nodes, Ty.dep] at h1 h4 h5 h8
  refine ⟨by omega, ?_, hT, by omega, ?_, by omega, by omega, by omega, by omega, only_trans h9 (only_trans (only_alloc (only_refl _ _) _) hg)⟩
  · exact Ty.Lies.grown (hA.alloc o) hg (tape_no (tape_alloc h3 o))
  · omega

theorem tape_set {w : World} {t n m : Nat} (h : Tape w t n m) (n' m' : Nat) : Tape ((w.setCell ⟨t, 0, none⟩ (.int .i64 n')).setCell ⟨t, 1, none⟩ (.int .i64 m')) t n' m' := by
  unfold Tape at h ⊢
  simp [World.setCell, Array.getElem?_modify, h]

theorem only_set2 (w : World) (t : Nat) (u v : Value) : w.grownBy ((w.setCell ⟨t, 0, none⟩ u).setCell ⟨t, 1, none⟩ v) (some t) := by
  refine only_setCell ?_ (.inl rfl) _
  refine only_setCell ?_ (.inl rfl) _
  exact only_refl _ _

theorem LayRel.start {w : World} {k : Int} {kids : Fo} {A : Option Addr} {len c t n m d M1 : Nat} (hIs : Ty.Is w k kids A len c) (hT : Tape w t n m) (hn : n + 1 ≤ 8192) (hd : d ≤ n + 1) (hm : m ≤ 10000) (hM1 : M1 = max m d) (o : Obj) :
    LayRel w (((w.setCell ⟨t, 0, none⟩ (.int .i64 (n + 1 : Nat))).setCell ⟨t, 1, none⟩ (.int .i64 M1)).alloc o) A t (n + 1 + Ty.nodes kids) (max m (d + Ty.dep kids)) d len (Ty.nodes kids) 0 kids (n + 1) M1 := by
  have hg : w.grownBy ((w.setCell ⟨t, 0, none⟩ (.int .i64 (n + 1 : Nat))).setCell ⟨t, 1, none⟩ (.int .i64 M1)) (some t) := only_set2 w t _ _
  have e1 : 0 + Ty.len kids = len := by rw [hIs.n_eq]; omega
  have e2 := Ty.Lies.grown hIs.lies hg (tape_no hT)
  have e3 : max M1 (d + Ty.dep kids) = max m (d + Ty.dep kids) := by omega
  have e4 : d ≤ n + 1 := hd
  have e5 : M1 ≤ 10000 := by omega
  have e6 := tape_set hT (n + 1) M1
  generalize (w.setCell ⟨t, 0, none⟩ (.int .i64 (n + 1 : Nat))).setCell ⟨t, 1, none⟩ (.int .i64 M1) = w2 at *
  exact ⟨e1, e2.alloc o, tape_alloc e6 o, rfl, e3, e4, e5, by omega, Nat.le_refl _, only_alloc hg o⟩

set_option maxHeartbeats 1000000 in
set_option maxRecDepth 100000 in
theorem lay_ok (K : Nat) : ∀ (k : Int) (kids : Fo) (A : Option Addr) (len c : Nat) (w : World) (t n m d : Nat), Ty.nodes kids < K → Ty.Is w k kids A len c → Tape w t n m → n + 1 + Ty.nodes kids ≤ 8192 → d ≤ n + 1 → m ≤ 10000 →
    Calls Tryz.prog 61 #[.pointer (some ⟨t, 0, none⟩), .agg #[.int .i8 k, .slice A len c], .int .i64 d] w (LayOk w t (n + 1 + Ty.nodes kids) (max m (d + Ty.dep kids))) := by
  induction K with
  | zero => intro _ _ _ _ _ _ _ _ _ _ h; omega
  | succ K ih =>
    intro k kids A len c w t n m d hK hIs hT hn hd hm
    have IH := Lib.hid ih
    clear ih
    obtain ⟨t0, t1, f0, f1, htl⟩ := own2 hT
    have i1 : (n : Int) < 8192 := by omega
    have i2 : (d : Int) ≤ 8193 := by omega
    have i3 : (m : Int) ≤ 10000 := by omega
    have i4 : decide ((8192 : Int) < (n : Int) + 1) = false := by simp; omega
    have i5 : (len : Int) ≤ 9223372036854775807 := by have := hIs.n_le; have := hIs.c_le; unfold maxLen at this; omega
    obtain ⟨M1, hM1, hM2⟩ : ∃ M1 : Nat, M1 = max m d ∧ ((M1 : Int) = if (d : Int) ≤ m then (m : Int) else d) := ⟨max m d, rfl, by split <;> omega⟩
    have st := fun o => LayRel.start (M1 := M1) hIs hT (by omega) hd hm hM1 o
    have ST := Lib.hid st
    have HM1 := Lib.hid hM1
    have HI := Lib.hid hIs
    clear st hM1 hIs hT
    by_cases hmd : (d : Int) ≤ m
    all_goals
      first | rw [if_pos hmd] at hM2 | rw [if_neg hmd] at hM2
      have HM2 := Lib.hid hM2
      clear hM2
      go_enter Tryz.func61, Tryz.ntmps61
      go_wp2_with fail
      go_loopw [34] (fun v wr => ∃ (i : Nat) (rest : Fo) (n' m' : Nat), v = .int .i64 i ∧ LayRel w wr A t (n + 1 + Ty.nodes kids) (max m (d + Ty.dep kids)) d len (Ty.nodes kids) i rest n' m') (fun v _ => len - (intOf v).toNat)
      case atStart =>
        have h := ST.out (.cells #[.int .i8 k, .slice A len c] 25)
        rw [HM2.out] at h
        exact ⟨0, kids, n + 1, M1, rfl, h⟩
      case round =>
        obtain ⟨i, rest, n', m', rfl, hR⟩ := hrel
        cases rest with
        | nil =>
          have hi : i = len := by have := hR.i_eq; simpa [Ty.len] using this
          have e1 := hR.cnt
          have e2 := hR.mx
          have e3 := hR.dm
          have e4 := hR.tape
          have e5 := hR.only
          simp only [Ty.nodes, Ty.dep] at e1 e2
          have hfin : LayOk w t (n + 1 + Ty.nodes kids) (max m (d + Ty.dep kids)) (.returned (.tuple #[])) wr := by
            refine ⟨rfl, ?_, e5⟩
            rw [← e1, ← e2, show max m' (d + 0) = m' by omega]; exact e4
          have HF := Lib.hid hfin
          clear hR e1 e2 e3 e4 e5 hfin
          subst hi
          go_wp2_with fail
          go_end0
          exact HF.out
        | node a b k' kids' r =>
          have hst := fun o w2 hT hg => LayRel.step (w2 := w2) hR (by have := hR.cnt; simp only [Ty.nodes] at this; omega) o hT hg
          have h1 := hR.i_eq
          have h2 := hR.lies
          have h3 := hR.tape
          have h4 := hR.cnt
          have h5 := hR.lo
          have h6 := hR.m_le
          have h7 := hR.sub
          simp only [Ty.len, Ty.nodes] at h1 h4 h7
          obtain ⟨bb, oo, B, c', rfl, ⟨hk1, hk2⟩, c1, c2, hl1, hl2, hl3, hl4⟩ := h2
          have hcall := IH.out k' kids' B (Ty.len kids') c' (wr.alloc (.cells #[.int .i8 k', .slice B (Ty.len kids') c'] 25)) t n' m' (d + 1) (by omega) ⟨hl3.alloc _, rfl, hl1, hl2, hk1, hk2⟩ (tape_alloc h3 _) (by omega) (by omega) h6
          rw [show ((d + 1 : Nat) : Int) = (d : Int) + 1 by omega] at hcall
          have HS := Lib.hid hst
          have HL := Lib.hid hl4
          have HC := Lib.hid hcall
          have j1 : (i : Int) < len := by omega
          clear hst h3 hl3 hl4 hcall hR
          go_wp2_with fail
          refine HC.out.mono ?_
          rintro e w2 ⟨rfl, hT2, hg2⟩
          have hR2 := Lib.hid (HS.out _ _ hT2 hg2 HL.out)
          clear hT2 hg2
          go_wp2_with fail
          go_roundw
          case rel => exact ⟨i + 1, r, _, _, by go_num, hR2.out⟩
          case measure => simp [intOf]; omega
/-- what lay leaves of a type that is too great -/
def LayBig (w : World) (t : Nat) (e : Ending) (w' : World) : Prop := e = .panicked [{ v := .iface 104 (.agg #[]), recovered := false }] ∧ w.grownBy w' (some t)

set_option maxHeartbeats 1000000 in
set_option maxRecDepth 100000 in
theorem lay_over (k : Int) (A : Option Addr) (len c : Nat) (d : Int) (w : World) (t : Nat) {m : Nat} (hT : Tape w t 8192 m) : Calls Tryz.prog 61 #[.pointer (some ⟨t, 0, none⟩), .agg #[.int .i8 k, .slice A len c], .int .i64 d] w (LayBig w t) := by
  obtain ⟨t0, t1, f0, f1, htl⟩ := own2 hT
  go_enter Tryz.func61, Tryz.ntmps61
  go_wp2_with fail
  refine ⟨rfl, rfl, ?_⟩
  exact only_alloc (only_setCell (only_refl _ _) (.inl rfl) _) _

set_option maxHeartbeats 1000000 in
set_option maxRecDepth 100000 in
theorem lay_big (K : Nat) : ∀ (k : Int) (kids : Fo) (A : Option Addr) (len c : Nat) (w : World) (t n m d : Nat), Ty.nodes kids < K → Ty.Is w k kids A len c → Tape w t n m → 8192 < n + 1 + Ty.nodes kids → n + 1 ≤ 8192 → d ≤ n + 1 → m ≤ 10000 →
    Calls Tryz.prog 61 #[.pointer (some ⟨t, 0, none⟩), .agg #[.int .i8 k, .slice A len c], .int .i64 d] w (LayBig w t) := by
  induction K with
  | zero => intro _ _ _ _ _ _ _ _ _ _ h; omega
  | succ K ih =>
    intro k kids A len c w t n m d hK hIs hT hbig hn hd hm
    have IH := Lib.hid ih
    clear ih
    obtain ⟨t0, t1, f0, f1, htl⟩ := own2 hT
    have i1 : (n : Int) < 8192 := by omega
    have i2 : (d : Int) ≤ 8193 := by omega
    have i3 : (m : Int) ≤ 10000 := by omega
    have i4 : decide ((8192 : Int) < (n : Int) + 1) = false := by simp; omega
    have i5 : (len : Int) ≤ 9223372036854775807 := by have := hIs.n_le; have := hIs.c_le; unfold maxLen at this; omega
    obtain ⟨M1, hM1, hM2⟩ : ∃ M1 : Nat, M1 = max m d ∧ ((M1 : Int) = if (d : Int) ≤ m then (m : Int) else d) := ⟨max m d, rfl, by split <;> omega⟩
    have st := fun o => LayRel.start (M1 := M1) hIs hT (by omega) hd hm hM1 o
    have ST := Lib.hid st
    have HM1 := Lib.hid hM1
    have HI := Lib.hid hIs
    clear st hM1 hIs hT
    by_cases hmd : (d : Int) ≤ m
    all_goals
      first | rw [if_pos hmd] at hM2 | rw [if_neg hmd] at hM2
      have HM2 := Lib.hid hM2
      clear hM2
      go_enter Tryz.func61, Tryz.ntmps61
      go_wp2_with fail
      go_loopw [34] (fun v wr => ∃ (i : Nat) (rest : Fo) (n' m' : Nat), v = .int .i64 i ∧ n' ≤ 8192 ∧ LayRel w wr A t (n + 1 + Ty.nodes kids) (max m (d + Ty.dep kids)) d len (Ty.nodes kids) i rest n' m') (fun v _ => len - (intOf v).toNat)
      case atStart =>
        have h := ST.out (.cells #[.int .i8 k, .slice A len c] 25)
        rw [HM2.out] at h
        exact ⟨0, kids, n + 1, M1, rfl, hn, h⟩
      case round =>
        obtain ⟨i, rest, n', m', rfl, hn', hR⟩ := hrel
        cases rest with
        | nil =>
          have e1 := hR.cnt
          simp only [Ty.nodes] at e1
          omega
        | node a b k' kids' r =>
          have h1 := hR.i_eq
          have h2 := hR.lies
          have h3 := hR.tape
          have h4 := hR.cnt
          have h5 := hR.lo
          have h6 := hR.m_le
          have h7 := hR.sub
          have hgo := hR.only
          have j1 : (i : Int) < len := by simp only [Ty.len] at h1; omega
          by_cases hfit : n' + 1 + Ty.nodes kids' ≤ 8192
          · have hst := fun o w2 hT hg => LayRel.step (w2 := w2) hR hfit o hT hg
            simp only [Ty.len, Ty.nodes] at h1 h4 h7
            obtain ⟨bb, oo, B, c', rfl, ⟨hk1, hk2⟩, c1, c2, hl1, hl2, hl3, hl4⟩ := h2
            have hcall := lay_ok K k' kids' B (Ty.len kids') c' (wr.alloc (.cells #[.int .i8 k', .slice B (Ty.len kids') c'] 25)) t n' m' (d + 1) (by omega) ⟨hl3.alloc _, rfl, hl1, hl2, hk1, hk2⟩ (tape_alloc h3 _) (by omega) (by omega) h6
            rw [show ((d + 1 : Nat) : Int) = (d : Int) + 1 by omega] at hcall
            have HS := Lib.hid hst
            have HL := Lib.hid hl4
            have HC := Lib.hid hcall
            clear hst h3 hl3 hl4 hcall hR hgo
            go_wp2_with fail
            refine HC.out.mono ?_
            rintro e w2 ⟨rfl, hT2, hg2⟩
            have hR2 := Lib.hid (HS.out _ _ hT2 hg2 HL.out)
            clear hT2 hg2
            go_wp2_with fail
            go_roundw
            case rel => exact ⟨i + 1, r, _, _, by go_num, hfit, hR2.out⟩
            case measure => simp [intOf]; omega
          · simp only [Ty.len, Ty.nodes] at h1 h4 h7
            obtain ⟨bb, oo, B, c', rfl, ⟨hk1, hk2⟩, c1, c2, hl1, hl2, hl3, hl4⟩ := h2
            have hcall : Calls Tryz.prog 61 #[.pointer (some ⟨t, 0, none⟩), .agg #[.int .i8 k', .slice B (Ty.len kids') c'], .int .i64 ((d : Int) + 1)] (wr.alloc (.cells #[.int .i8 k', .slice B (Ty.len kids') c'] 25)) (LayBig (wr.alloc (.cells #[.int .i8 k', .slice B (Ty.len kids') c'] 25)) t) := by
              by_cases hq : n' + 1 ≤ 8192
              · have := IH.out k' kids' B (Ty.len kids') c' (wr.alloc (.cells #[.int .i8 k', .slice B (Ty.len kids') c'] 25)) t n' m' (d + 1) (by omega) ⟨hl3.alloc _, rfl, hl1, hl2, hk1, hk2⟩ (tape_alloc h3 _) (by omega) hq (by omega) h6
                rwa [show ((d + 1 : Nat) : Int) = (d : Int) + 1 by omega] at this
              · obtain rfl : n' = 8192 := by omega
                exact lay_over _ _ _ _ _ _ _ (tape_alloc h3 _)
            have HC := Lib.hid hcall
            clear h3 hl3 hl4 hcall hR
            go_wp2_with fail
            refine HC.out.mono ?_
            rintro e w2 ⟨rfl, hg2⟩
            refine ⟨rfl, rfl, ?_⟩
            exact only_trans hgo (only_trans (only_alloc (only_refl _ _) _) hg2)
end Go.Proofs.YtknhoagicdfikaaGreatDoor
namespace Go.Proofs.YtknhoagicdfikaaGreatDoor
open Go.RowKit

theorem eqlGreat (w : World) : (binOp .eql 20 (.iface 104 (.agg #[])) (.iface 104 (.agg #[]))).run Tryz.prog w = .ok (.bool true) w := by kernel_rfl
theorem eqlNone (w : World) : (binOp .eql 20 .nilIface (.iface 104 (.agg #[]))).run Tryz.prog w = .ok (.bool false) w := by kernel_rfl
theorem neqNone (w : World) : (binOp .neq 20 .nilIface .nilIface).run Tryz.prog w = .ok (.bool false) w := by kernel_rfl

set_option maxRecDepth 100000 in
theorem catch_great (p q : Addr) (x y : Value) (w : World) (hp : w.cell? p = some x) (hq : w.cell? q = some y) (fp : w.frozen? p = false) (fq : w.frozen? q = false) (hne : p ≠ q) :
    CallsD Tryz.prog 60 #[.pointer (some p), .pointer (some q)] (.panicking [{ v := .iface 104 (.agg #[]), recovered := false }]) w fun e u' w' =>
      e = .returned (.tuple #[]) ∧ u' = .panicking [{ v := .iface 104 (.agg #[]), recovered := true }] ∧ w' = (w.setCell p (.int .i64 8193)).setCell q (.int .i64 201) := by
  have e1 := eqlGreat
  have hq' : (w.setCell p (.int .i64 8193)).cell? q = some y := by rw [World.cell?_setCell_other w p q _ hne]; exact hq
  refine callsD_of_wpS Tryz.func60 rfl fun c₀ cs hu => ?_
  apply wpS_seq
  apply wpS_region
  simp [wpOpsS, go_sem, recoverD, hu, Tryz.ntmps60, Exit.thenS]
  refine wpS_of_wp ?_
  change Code.wp _ _ _ { tmps := #[.pointer (some p), .pointer (some q), .iface 104 (.agg #[]), .iface 104 (.agg #[]), undef, undef, undef, undef, undef, undef, undef], defers := [] } w
  clear hu
  go_wp2_with fail
  exact ⟨rfl, _, rfl, .tuple #[], by simp [results, Tryz.results60], rfl, rfl, rfl⟩

set_option maxRecDepth 100000 in
theorem catch_idle (p q : Addr) (w : World) :
    CallsD Tryz.prog 60 #[.pointer (some p), .pointer (some q)] .returning w fun e u' w' => e = .returned (.tuple #[]) ∧ u' = .returning ∧ w' = w := by
  have e1 := eqlNone
  have e2 := neqNone
  refine callsD_of_wpS Tryz.func60 rfl fun c₀ cs hu => ?_
  apply wpS_seq
  apply wpS_region
  simp [wpOpsS, go_sem, recoverD, hu, Tryz.ntmps60, Exit.thenS]
  refine wpS_of_wp ?_
  change Code.wp _ _ _ { tmps := #[.pointer (some p), .pointer (some q), .nilIface, .nilIface, undef, undef, undef, undef, undef, undef, undef], defers := [] } w
  go_wp2_with fail
  exact ⟨rfl, .returning, by cases c₀; simp_all, .tuple #[], by simp [results, Tryz.results60], rfl, rfl, rfl⟩

theorem heap_grown {b g : Nat} {w w1 : World} {x : Obj} (hg : w.grownBy w1 (some g)) (hne : b ≠ g) (h : w.heap[b]? = some x) : w1.heap[b]? = some x := by
  rw [hg.block b (heap_lt h) (fun e => hne (by injection e))]; exact h

theorem two_cells (w : World) (p q : Nat) (u v : Value) {x y : Value} (hne : p ≠ q) (hp : w.cell? ⟨p, 0, none⟩ = some x) (hq : w.cell? ⟨q, 0, none⟩ = some y) :
    ((w.setCell ⟨p, 0, none⟩ u).setCell ⟨q, 0, none⟩ v).cell? ⟨p, 0, none⟩ = some u ∧ ((w.setCell ⟨p, 0, none⟩ u).setCell ⟨q, 0, none⟩ v).cell? ⟨q, 0, none⟩ = some v := by
  constructor
  · rw [World.cell?_setCell_other _ ⟨q, 0, none⟩ ⟨p, 0, none⟩ v (fun e => hne (by injection e with e; exact e.symm))]
    exact World.cell?_setCell_same _ _ _ hp
  · refine World.cell?_setCell_same _ _ _ (u := y) ?_
    rw [World.cell?_setCell_other _ ⟨p, 0, none⟩ ⟨q, 0, none⟩ u (fun e => hne (by injection e))]
    exact hq

theorem two_cells_drew (w : World) (p q : Nat) (u v : Value) {x y : Value} (hne : p ≠ q) (hp : w.cell? ⟨p, 0, none⟩ = some x) (hq : w.cell? ⟨q, 0, none⟩ = some y) :
    ((w.setCell ⟨p, 0, none⟩ u).setCell ⟨q, 0, none⟩ v).drew.cell? ⟨p, 0, none⟩ = some u ∧ ((w.setCell ⟨p, 0, none⟩ u).setCell ⟨q, 0, none⟩ v).drew.cell? ⟨q, 0, none⟩ = some v :=
  two_cells w p q u v hne hp hq

set_option maxHeartbeats 1000000 in
set_option maxRecDepth 100000 in
theorem measure_ok (k : Int) (kids : Fo) (A : Option Addr) (len c : Nat) (w : World) (hIs : Ty.Is w k kids A len c) (hn : Ty.nodes kids + 1 ≤ 8192) :
    Calls Tryz.prog 31 #[.agg #[.int .i8 k, .slice A len c]] w fun e w' => e = .returned (.tuple #[.int .i64 (Ty.nod kids), .int .i64 (Ty.dpt kids)]) ∧ Below w.heap.size w w' := by
  have hmf : ∀ (fn : Fn) (first cap : Array Value) (w : World), (Instr.makeFunc fn first cap).run Tryz.prog w = .ok (.func fn first cap) w := fun _ _ _ _ => rfl
  have hcall : ∀ (W : World) (_ : Ty.Is W k kids A len c) (t : Nat) (_ : Tape W t 0 0), Calls Tryz.prog 61 #[.pointer (some ⟨t, 0, none⟩), .agg #[.int .i8 k, .slice A len c], .int .i64 1] W (LayOk W t (Ty.nodes kids + 1) (Ty.dep kids + 1)) := by
    intro W h t hT
    have := lay_ok (Ty.nodes kids + 1) k kids A len c W t 0 0 1 (by omega) h hT (by omega) (by omega) (by omega)
    rw [show 0 + 1 + Ty.nodes kids = Ty.nodes kids + 1 by omega, show max 0 (1 + Ty.dep kids) = Ty.dep kids + 1 by omega] at this
    exact this
  have e1 : Ty.nod kids = Ty.nodes kids + 1 := by unfold Ty.nod; omega
  have e2 : Ty.dpt kids = min (Ty.dep kids + 1) 201 := by unfold Ty.dpt; rw [if_neg (by omega)]
  rw [e1, e2]
  generalize Ty.nodes kids + 1 = N at *
  generalize Ty.dep kids + 1 = D at *
  obtain ⟨M, hM⟩ : ∃ M : Nat, M = min D 201 := ⟨_, rfl⟩
  rw [← hM]
  have HM := Lib.hid hM
  have HC := Lib.hid hcall
  have HI := Lib.hid hIs
  clear hcall hIs e1 e2 hM
  by_cases hD : (D : Int) ≤ 201
  all_goals
    have hD2 : (M : Int) = if (D : Int) ≤ 201 then (D : Int) else 201 := by rw [HM.out]; split <;> omega
    first | rw [if_pos hD] at hD2 | rw [if_neg hD] at hD2
    have HD := Lib.hid hD2
    clear hD2
    go_enter_defers Tryz.func31, Tryz.ntmps31
    go_wp2_with fail
    refine (HC.out _ ((((HI.out.alloc _).alloc _).alloc _).alloc _) _ ?_).mono ?_
    · have := heap_new (((w.alloc (Obj.cells #[Value.int IntKind.i8 k, Value.slice A len c] 25)).alloc (Obj.cells #[Value.int IntKind.i64 0] 3)).alloc (Obj.cells #[Value.int IntKind.i64 0] 3)) (Obj.cells #[Value.int IntKind.i64 0, Value.int IntKind.i64 0] 106)
      simpa [Tape] using this
    rintro e w5 ⟨rfl, hT, hg⟩
    have hb5 : Below w.heap.size w w5 := ((((((Below.refl w.heap.size w).alloc (Nat.le_refl _) _).alloc (by simp) _).alloc (by simp <;> omega) _).alloc (by simp <;> omega) _)).grown hg (by simp <;> omega) (fun k hk => by injection hk with hk; omega)
    have r0 := heap_grown (b := w.heap.size + 1) hg (by omega) (heap_old (heap_old (by have := heap_new (w.alloc (Obj.cells #[Value.int IntKind.i8 k, Value.slice A len c] 25)) (Obj.cells #[Value.int IntKind.i64 0] 3); simpa using this) _) _)
    have r1 := heap_grown (b := w.heap.size + 1 + 1) hg (by omega) (heap_old (by have := heap_new ((w.alloc (Obj.cells #[Value.int IntKind.i8 k, Value.slice A len c] 25)).alloc (Obj.cells #[Value.int IntKind.i64 0] 3)) (Obj.cells #[Value.int IntKind.i64 0] 3); simpa using this) _)
    obtain ⟨t0, t1, f0, f1, htl⟩ := own2 hT
    obtain ⟨p0, p1, p2⟩ := own1 r0
    obtain ⟨q0, q1, q2⟩ := own1 r1
    clear hT hg r0 r1
    go_wp2_with fail
    go_region
    go_wp2_with fail
    have hB6 := ((hb5.setCell (show w.heap.size ≤ (⟨w.heap.size + 1, 0, none⟩ : Addr).block by simp) (Value.int IntKind.i64 N)).setCell (show w.heap.size ≤ (⟨w.heap.size + 1 + 1, 0, none⟩ : Addr).block by simp <;> omega) (Value.int IntKind.i64 M)).drew
    obtain ⟨z0, z1⟩ := two_cells_drew w5 (w.heap.size + 1) (w.heap.size + 1 + 1) (.int .i64 N) (.int .i64 M) (by omega) p0 q0
    rw [HD.out] at hB6 z0 z1
    refine leaves_cons (f := 60) (args := #[.pointer (some ⟨w.heap.size + 1, 0, none⟩), .pointer (some ⟨w.heap.size + 1 + 1, 0, none⟩)]) (by simp) (by simp [go_sem]) ?_
    refine (catch_idle _ _ _).mono ?_
    rintro e u' w6 ⟨rfl, rfl, rfl⟩
    rw [HD.out]
    generalize (World.setCell _ _ _).drew = w6 at hB6 z0 z1 ⊢
    exact ⟨.tuple #[.int .i64 N, _], by simp [results, Tryz.results31, go_sem, z0, z1], rfl, hB6⟩

set_option maxHeartbeats 1000000 in
set_option maxRecDepth 100000 in
theorem measure_big (k : Int) (kids : Fo) (A : Option Addr) (len c : Nat) (w : World) (hIs : Ty.Is w k kids A len c) (hn : 8192 < Ty.nodes kids + 1) :
    Calls Tryz.prog 31 #[.agg #[.int .i8 k, .slice A len c]] w fun e w' => e = .returned (.tuple #[.int .i64 (Ty.nod kids), .int .i64 (Ty.dpt kids)]) ∧ Below w.heap.size w w' := by
  have hmf : ∀ (fn : Fn) (first cap : Array Value) (w : World), (Instr.makeFunc fn first cap).run Tryz.prog w = .ok (.func fn first cap) w := fun _ _ _ _ => rfl
  have hcall : ∀ (W : World) (_ : Ty.Is W k kids A len c) (t : Nat) (_ : Tape W t 0 0), Calls Tryz.prog 61 #[.pointer (some ⟨t, 0, none⟩), .agg #[.int .i8 k, .slice A len c], .int .i64 1] W (LayBig W t) :=
    fun W h t hT => lay_big (Ty.nodes kids + 1) k kids A len c W t 0 0 1 (by omega) h hT (by omega) (by omega) (by omega) (by omega)
  have e1 : ((Ty.nod kids : Nat) : Int) = 8193 := by unfold Ty.nod; omega
  have e2 : ((Ty.dpt kids : Nat) : Int) = 201 := by unfold Ty.dpt; rw [if_pos hn]; rfl
  rw [e1, e2]
  have HC := Lib.hid hcall
  have HI := Lib.hid hIs
  clear hcall hIs e1 e2
  go_enter_defers Tryz.func31, Tryz.ntmps31
  go_wp2_with fail
  refine (HC.out _ ((((HI.out.alloc _).alloc _).alloc _).alloc _) _ ?_).mono ?_
  · have := heap_new (((w.alloc (Obj.cells #[Value.int IntKind.i8 k, Value.slice A len c] 25)).alloc (Obj.cells #[Value.int IntKind.i64 0] 3)).alloc (Obj.cells #[Value.int IntKind.i64 0] 3)) (Obj.cells #[Value.int IntKind.i64 0, Value.int IntKind.i64 0] 106)
    simpa [Tape] using this
  rintro e w5 ⟨rfl, hg⟩
  have hb5 : Below w.heap.size w w5 := ((((((Below.refl w.heap.size w).alloc (Nat.le_refl _) _).alloc (by simp) _).alloc (by simp <;> omega) _).alloc (by simp <;> omega) _)).grown hg (by simp <;> omega) (fun k hk => by injection hk with hk; omega)
  have r0 := heap_grown (b := w.heap.size + 1) hg (by omega) (heap_old (heap_old (by have := heap_new (w.alloc (Obj.cells #[Value.int IntKind.i8 k, Value.slice A len c] 25)) (Obj.cells #[Value.int IntKind.i64 0] 3); simpa using this) _) _)
  have r1 := heap_grown (b := w.heap.size + 1 + 1) hg (by omega) (heap_old (by have := heap_new ((w.alloc (Obj.cells #[Value.int IntKind.i8 k, Value.slice A len c] 25)).alloc (Obj.cells #[Value.int IntKind.i64 0] 3)) (Obj.cells #[Value.int IntKind.i64 0] 3); simpa using this) _)
  obtain ⟨p0, p1, p2⟩ := own1 r0
  obtain ⟨q0, q1, q2⟩ := own1 r1
  clear hg r0 r1
  have hB6 := ((hb5.setCell (show w.heap.size ≤ (⟨w.heap.size + 1, 0, none⟩ : Addr).block by simp) (Value.int IntKind.i64 8193)).setCell (show w.heap.size ≤ (⟨w.heap.size + 1 + 1, 0, none⟩ : Addr).block by simp <;> omega) (Value.int IntKind.i64 201))
  obtain ⟨z0, z1⟩ := two_cells w5 (w.heap.size + 1) (w.heap.size + 1 + 1) (.int .i64 8193) (.int .i64 201) (by omega) p0 q0
  refine leaves_cons (f := 60) (args := #[.pointer (some ⟨w.heap.size + 1, 0, none⟩), .pointer (some ⟨w.heap.size + 1 + 1, 0, none⟩)]) (by simp) (by simp [go_sem]) ?_
  refine (catch_great _ _ _ _ _ p0 q0 p1 q1 (by simp)).mono ?_
  rintro e u' w6 ⟨rfl, rfl, rfl⟩
  have z0' := z0
  have z1' := z1
  generalize (World.setCell _ _ _) = w6 at hB6 z0' z1' ⊢
  exact ⟨.tuple #[.int .i64 8193, .int .i64 201], by simp [results, Tryz.results31, go_sem, z0', z1'], rfl, hB6⟩

theorem measure_any (k : Int) (kids : Fo) (A : Option Addr) (len c : Nat) (w : World) (hIs : Ty.Is w k kids A len c) :
    Calls Tryz.prog 31 #[.agg #[.int .i8 k, .slice A len c]] w fun e w' => e = .returned (.tuple #[.int .i64 (Ty.nod kids), .int .i64 (Ty.dpt kids)]) ∧ Below w.heap.size w w' := by
  rcases Nat.lt_or_ge 8192 (Ty.nodes kids + 1) with h | h
  · exact measure_big k kids A len c w hIs h
  · exact measure_ok k kids A len c w hIs h
end Go.Proofs.YtknhoagicdfikaaGreatDoor
namespace Go.Proofs.YtknhoagicdfikaaGreatDoor
open Go.RowKit


namespace Ty
def allF (p : Int → Fo → Bool) : Fo → Bool
  | .nil => true
  | .node _ _ k kids r => p k kids && allF p r
end Ty

/-- a loop's state over a list of types -/
structure Over (w wr : World) (A : Option Addr) (n nk : Nat) (i : Nat) (rest : Fo) : Prop where
  i_eq : i + Ty.len rest = n
  lies : Ty.Lies wr rest A i
  sub : Ty.nodes rest ≤ nk
  below : Below w.heap.size w wr
theorem Over.step {w wr w2 : World} {A : Option Addr} {n nk i a b : Nat} {k : Int} {kids r : Fo} (h : Over w wr A n nk i (.node a b k kids r)) (hb : Below wr.heap.size wr w2) (hA : Ty.Lies wr r A (i + 1)) : Over w w2 A n nk (i + 1) r := by
  obtain ⟨h1, h2, h3, h4⟩ := h
  simp only [Ty.len, Ty.nodes] at h1 h3
  exact ⟨by omega, hA.below hb, by omega, h4.trans (hb.mono h4.size)⟩
theorem Over.start {w : World} {A : Option Addr} {kids : Fo} {n : Nat} (h : Ty.Lies w kids A 0) (hn : n = Ty.len kids) : Over w w A n (Ty.nodes kids) 0 kids := ⟨by omega, h, Nat.le_refl _, Below.refl _ _⟩

set_option maxHeartbeats 1000000 in
set_option maxRecDepth 100000 in
theorem all_any (f : FuncId) (p : Int → Fo → Bool) (kids : Fo) (A : Option Addr) (n c : Nat) (w : World) (hL : Ty.Lies w kids A 0) (hn : n = Ty.len kids) (hnc : n ≤ c) (hc : c ≤ maxLen)
    (hcf : ∀ (args : Array Value) (W : World), (callFunc f args).run Tryz.prog W = .ok (.enter f args) W)
    (hf : ∀ (k' : Int) (kids' : Fo) (A' : Option Addr) (n' c' : Nat) (W : World), Ty.nodes kids' < Ty.nodes kids → Ty.Is W k' kids' A' n' c' → Below w.heap.size w W → Calls Tryz.prog f #[.agg #[.int .i8 k', .slice A' n' c']] W fun e w' => e = .returned (.bool (p k' kids')) ∧ Below W.heap.size W w') :
    Calls Tryz.prog 37 #[.slice A n c, .func (Fn.func f) #[] #[]] w fun e w' => e = .returned (.bool (Ty.allF p kids)) ∧ Below w.heap.size w w' := by
  have hst := Over.start hL hn
  have HF := Lib.hid hf
  have HS := Lib.hid hst
  have i5 : (n : Int) ≤ 9223372036854775807 := by unfold maxLen at hc; omega
  clear hst hn hf hL
  obtain ⟨R, hR⟩ : ∃ R, Ty.allF p kids = R := ⟨_, rfl⟩
  rw [hR]
  have HR := Lib.hid hR
  clear hR
  go_enter Tryz.func37, Tryz.ntmps37
  go_wp2_with fail
  go_loopw [9] (fun v wr => ∃ (i : Nat) (rest : Fo), v = .int .i64 i ∧ Over w wr A n (Ty.nodes kids) i rest ∧ Ty.allF p rest = R) (fun v _ => n - (intOf v).toNat)
  case atStart => exact ⟨0, kids, rfl, HS.out, HR.out⟩
  case round =>
    obtain ⟨i, rest, rfl, hO, hR⟩ := hrel
    cases rest with
    | nil =>
      have hi : i = n := by have := hO.i_eq; simpa [Ty.len] using this
      have hB := hO.below
      clear hO
      simp only [Ty.allF] at hR
      subst hi
      subst hR
      go_wp2_with fail
      go_ret
      exact ⟨rfl, hB⟩
    | node a b k' kids' r =>
      have hst := fun w2 hb => Over.step (w2 := w2) hO hb
      have h1 := hO.i_eq
      have h2 := hO.lies
      have h3 := hO.sub
      have h4 := hO.below
      simp only [Ty.len, Ty.nodes, Ty.allF] at h1 h3 hR
      obtain ⟨bb, oo, B, c', rfl, ⟨hk1, hk2⟩, c1, c2, hl1, hl2, hl3, hl4⟩ := h2
      have hcall := HF.out k' kids' B (Ty.len kids') c' (wr.alloc (.cells #[.int .i8 k', .slice B (Ty.len kids') c'] 25)) (by omega) ⟨hl3.alloc _, rfl, hl1, hl2, hk1, hk2⟩ (h4.alloc h4.size _)
      have HS := Lib.hid hst
      have HL := Lib.hid hl4
      have HC := Lib.hid hcall
      have HRR := Lib.hid hR
      have j1 : (i : Int) < n := by omega
      clear hst hl3 hl4 hcall hO hR
      cases hp : p k' kids'
      · have hp0 : R = false := by rw [← HRR.out, hp]; rfl
        rw [hp] at HC
        subst hp0
        clear hp
        go_wp2_with fail
        refine HC.out.mono ?_
        rintro e w2 ⟨rfl, hb⟩
        go_wp2_with fail
        go_ret
        exact ⟨rfl, (h4.alloc h4.size _).trans (hb.mono (by have := h4.size; simp; omega))⟩
      · have hp0 := HRR.out
        rw [hp, Bool.true_and] at hp0
        have HP := Lib.hid hp0
        rw [hp] at HC
        clear hp hp0
        go_wp2_with fail
        refine HC.out.mono ?_
        rintro e w2 ⟨rfl, hb⟩
        have hbb := Lib.hid (HS.out w2 (((Below.refl _ _).alloc (Nat.le_refl _) _).trans (hb.mono (by simp))) HL.out)
        clear hb
        go_wp2_with fail
        go_roundw
        case rel => exact ⟨i + 1, r, by go_num, hbb.out, HP.out⟩
        case measure => simp [intOf]; omega
end Go.Proofs.YtknhoagicdfikaaGreatDoor
namespace Go.Proofs.YtknhoagicdfikaaGreatDoor
open Go.RowKit

/-- a round's box: the type's own cells are as they were -/
theorem Over.box {w1 wr : World} {A : Option Addr} {n nk i b : Nat} {rest : Fo} {v0 v1 : Value} (h : Over w1 wr A n nk i rest) (h0 : w1.cell? ⟨b, 0, none⟩ = some v0) (h1 : w1.cell? ⟨b, 1, none⟩ = some v1) :
    wr.cell? ⟨b, 0, none⟩ = some v0 ∧ wr.cell? ⟨b, 1, none⟩ = some v1 :=
  ⟨by rw [(bcell h.below).1 _ _ (Ty.cell_lt h0)]; exact h0, by rw [(bcell h.below).1 _ _ (Ty.cell_lt h1)]; exact h1⟩

end Go.Proofs.YtknhoagicdfikaaGreatDoor
