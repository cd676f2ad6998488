/-
  types.measure: how many, how deep.
-/
import Derived.Test.YtfkbdpehdabepaaGreatDoorM1
import Derived.Test.YtfkbdpehdabepaaGreatDoorMem
import Derived.Defers
import Derived.Recover
import Derived.Deep.LoopGhost
import Derived.BigQuiet
import Derived.Deep.QuietTactic
import Derived.WalkSmall
namespace Go.Proofs.YtfkbdpehdabepaaGreatDoor
open Go.RowKit

theorem only_alloc {a w : World} {row : Option Nat} (h : a.grownBy w row) (o : Obj) : a.grownBy (w.alloc o) row :=
  ⟨h.os, h.tape, h.output, Nat.le_trans h.size (by simp), fun i hi hne => (Below.heap_alloc w o i (Nat.lt_of_lt_of_le hi h.size)).trans (h.block i hi hne)⟩
theorem only_setCell {a w : World} {g : Nat} (h : a.grownBy w (some g)) {p : Addr} (hp : p.block = g ∨ a.heap.size ≤ p.block) (u : Value) : a.grownBy (w.setCell p u) (some g) :=
  ⟨h.os, h.tape, h.output, by simpa [World.setCell] using h.size, fun i hi hne => (Below.heap_setCell w p u i (by
    rintro rfl
    rcases hp with hp | hp
    · exact hne (by rw [hp])
    · omega)).trans (h.block i hi hne)⟩
theorem only_trans {a b c : World} {g : Nat} (h : a.grownBy b (some g)) (k : b.grownBy c (some g)) : a.grownBy c (some g) :=
  ⟨k.os.trans h.os, k.tape.trans h.tape, k.output.trans h.output, Nat.le_trans h.size k.size, fun i hi hne => (k.block i (Nat.lt_of_lt_of_le hi h.size) hne).trans (h.block i hi hne)⟩
theorem only_refl (a : World) (g : Nat) : a.grownBy a (some g) := ⟨rfl, rfl, rfl, Nat.le_refl _, fun _ _ _ => rfl⟩

/-- the tape's block -/
def Tape (w : World) (t n m : Nat) : Prop := w.heap[t]? = some (.cells #[.int .i64 n, .int .i64 m] 99 (0, 0))
/-- what lay leaves: the count, and all else as it was -/
def LayOk (w : World) (t N M : Nat) (e : Ending) (w' : World) : Prop := e = .returned (.tuple #[]) ∧ Tape w' t N M ∧ w.grownBy w' (some t)

theorem tape_no {w : World} {t n m : Nat} (h : Tape w t n m) : ∀ o v, w.cell? ⟨t, o, none⟩ = some v → (∃ k : Int, v = .int .i8 k) ∨ (∃ B n c, v = .slice B n c) → False := by
  intro o v hv hh
  unfold Tape at h
  simp only [World.cell?, h] at hv
  have : v = .int .i64 n ∨ v = .int .i64 m := by
    match o with
    | 0 => left; simpa using hv.symm
    | 1 => right; simpa using hv.symm
    | (q + 2) => simp at hv
  rcases this with rfl | rfl <;> rcases hh with ⟨k, h⟩ | ⟨B, n, c, h⟩ <;> cases h

theorem tape_alloc {w : World} {t n m : Nat} (h : Tape w t n m) (o : Obj) : Tape (w.alloc o) t n m := heap_old h o

/-- a round's state -/
structure LayRel (w wr : World) (A : Option Addr) (t N M d len : Nat) (nk : Nat) (i : Nat) (rest : Fo) (n' m' : Nat) : Prop where
  i_eq : i + Ty.len rest = len
  lies : Ty.Lies wr rest A i
  tape : Tape wr t n' m'
  cnt : n' + Ty.nodes rest = N
  mx : max m' (d + Ty.dep rest) = M
  lo : d ≤ n'
  m_le : m' ≤ 10000
  dm : d ≤ m'
  sub : Ty.nodes rest ≤ nk
  only : w.grownBy wr (some t)

theorem LayRel.step {w wr w2 : World} {A : Option Addr} {t N M d len nk i : Nat} {n' m' : Nat} {a b : Nat} {k : Int} {kids r : Fo} (h : LayRel w wr A t N M d len nk i (.node a b k kids r) n' m') (hN : n' + 1 + Ty.nodes kids ≤ 8192)
    (o : Obj) (hT : Tape w2 t (n' + 1 + Ty.nodes kids) (max m' (d + 1 + Ty.dep kids))) (hg : (wr.alloc o).grownBy w2 (some t)) (hA : Ty.Lies wr r A (i + 1)) :
    LayRel w w2 A t N M d len nk (i + 1) r (n' + 1 + Ty.nodes kids) (max m' (d + 1 + Ty.dep kids)) := by
  obtain ⟨h1, h2, h3, h4, h5, h6, h7, h10, h8, h9⟩ := h
  have hdn := Ty.dep_le_nodes kids
  simp only [Ty.len, Ty.nodes, Ty.dep] at h1 h4 h5 h8
  refine ⟨by omega, ?_, hT, by omega, ?_, by omega, by omega, by omega, by omega, only_trans h9 (only_trans (only_alloc (only_refl _ _) _) hg)⟩
  · exact Ty.Lies.grown (hA.alloc o) hg (tape_no (tape_alloc h3 o))
  · omega

theorem tape_set {w : World} {t n m : Nat} (h : Tape w t n m) (n' m' : Nat) : Tape ((w.setCell ⟨t, 0, none⟩ (.int .i64 n')).setCell ⟨t, 1, none⟩ (.int .i64 m')) t n' m' := by
  unfold Tape at h ⊢
  simp [World.setCell, Array.getElem?_modify, h]

theorem only_set2 (w : World) (t : Nat) (u v : Value) : w.grownBy ((w.setCell ⟨t, 0, none⟩ u).setCell ⟨t, 1, none⟩ v) (some t) := by
  refine only_setCell ?_ (.inl rfl) _
  refine only_setCell ?_ (.inl rfl) _
  exact only_refl _ _

theorem LayRel.start {w : World} {k : Int} {kids : Fo} {A : Option Addr} {len c t n m d M1 : Nat} (hIs : Ty.Is w k kids A len c) (hT : Tape w t n m) (hn : n + 1 ≤ 8192) (hd : d ≤ n + 1) (hm : m ≤ 10000) (hM1 : M1 = max m d) (o : Obj) :
    LayRel w (((w.setCell ⟨t, 0, none⟩ (.int .i64 (n + 1 : Nat))).setCell ⟨t, 1, none⟩ (.int .i64 M1)).alloc o) A t (n + 1 + Ty.nodes kids) (max m (d + Ty.dep kids)) d len (Ty.nodes kids) 0 kids (n + 1) M1 := by
  have hg : w.grownBy ((w.setCell ⟨t, 0, none⟩ (.int .i64 (n + 1 : Nat))).setCell ⟨t, 1, none⟩ (.int .i64 M1)) (some t) := only_set2 w t _ _
  have e1 : 0 + Ty.len kids = len := by rw [hIs.n_eq]; omega
  have e2 := Ty.Lies.grown hIs.lies hg (tape_no hT)
  have e3 : max M1 (d + Ty.dep kids) = max m (d + Ty.dep kids) := by omega
  have e4 : d ≤ n + 1 := hd
  have e5 : M1 ≤ 10000 := by omega
  have e6 := tape_set hT (n + 1) M1
  generalize (w.setCell ⟨t, 0, none⟩ (.int .i64 (n + 1 : Nat))).setCell ⟨t, 1, none⟩ (.int .i64 M1) = w2 at *
  exact ⟨e1, e2.alloc o, tape_alloc e6 o, rfl, e3, e4, e5, by omega, Nat.le_refl _, only_alloc hg o⟩

set_option maxHeartbeats 1000000 in
set_option maxRecDepth 100000 in
theorem lay_ok (K : Nat) : ∀ (k : Int) (kids : Fo) (A : Option Addr) (len c : Nat) (w : World) (t n m d : Nat), Ty.nodes kids < K → Ty.Is w k kids A len c → Tape w t n m → n + 1 + Ty.nodes kids ≤ 8192 → d ≤ n + 1 → m ≤ 10000 →
    Calls Tryz.prog 112 #[.pointer (some ⟨t, 0, none⟩), .agg #[.int .i8 k, .slice A len c], .int .i64 d] w (LayOk w t (n + 1 + Ty.nodes kids) (max m (d + Ty.dep kids))) := by
  induction K with
  | zero => intro _ _ _ _ _ _ _ _ _ _ h; omega
  | succ K ih =>
    intro k kids A len c w t n m d hK hIs hT hn hd hm
    have IH := Lib.hid ih
    clear ih
    obtain ⟨t0, t1, f0, f1, htl⟩ := own2 hT
    have i1 : (n : Int) < 8192 := by omega
    have i2 : (d : Int) ≤ 8193 := by omega
    have i3 : (m : Int) ≤ 10000 := by omega
    have i4 : decide ((8192 : Int) < (n : Int) + 1) = false := by simp; omega
    have i5 : (len : Int) ≤ 9223372036854775807 := by have := hIs.n_le; have := hIs.c_le; unfold maxLen at this; omega
    obtain ⟨M1, hM1, hM2⟩ : ∃ M1 : Nat, M1 = max m d ∧ ((M1 : Int) = if (d : Int) ≤ m then (m : Int) else d) := ⟨max m d, rfl, by split <;> omega⟩
    have st := fun o => LayRel.start (M1 := M1) hIs hT (by omega) hd hm hM1 o
    have ST := Lib.hid st
    have HM1 := Lib.hid hM1
    have HI := Lib.hid hIs
    clear st hM1 hIs hT
    by_cases hmd : (d : Int) ≤ m
    all_goals
      first | rw [if_pos hmd] at hM2 | rw [if_neg hmd] at hM2
      have HM2 := Lib.hid hM2
      clear hM2
      go_enter Tryz.func112, Tryz.ntmps112
      go_wp2_with fail
      go_loopw [34] (fun v wr => ∃ (i : Nat) (rest : Fo) (n' m' : Nat), v = .int .i64 i ∧ LayRel w wr A t (n + 1 + Ty.nodes kids) (max m (d + Ty.dep kids)) d len (Ty.nodes kids) i rest n' m') (fun v _ => len - (intOf v).toNat)
      case atStart =>
        have h := ST.out (.cells #[.int .i8 k, .slice A len c] 25)
        rw [HM2.out] at h
        exact ⟨0, kids, n + 1, M1, rfl, h⟩
      case round =>
        obtain ⟨i, rest, n', m', rfl, hR⟩ := hrel
        cases rest with
        | nil =>
          have hi : i = len := by have := hR.i_eq; simpa [Ty.len] using this
          have e1 := hR.cnt
          have e2 := hR.mx
          have e3 := hR.dm
          have e4 := hR.tape
          have e5 := hR.only
          simp only [Ty.nodes, Ty.dep] at e1 e2
          have hfin : LayOk w t (n + 1 + Ty.nodes kids) (max m (d + Ty.dep kids)) (.returned (.tuple #[])) wr := by
            refine ⟨rfl, ?_, e5⟩
            rw [← e1, ← e2, show max m' (d + 0) = m' by omega]; exact e4
          have HF := Lib.hid hfin
          clear hR e1 e2 e3 e4 e5 hfin
          subst hi
          go_wp2_with fail
          go_end0
          exact HF.out
        | node a b k' kids' r =>
          have hst := fun o w2 hT hg => LayRel.step (w2 := w2) hR (by have := hR.cnt; simp only [Ty.nodes] at this; omega) o hT hg
          have h1 := hR.i_eq
          have h2 := hR.lies
          have h3 := hR.tape
          have h4 := hR.cnt
          have h5 := hR.lo
          have h6 := hR.m_le
          have h7 := hR.sub
          simp only [Ty.len, Ty.nodes] at h1 h4 h7
          obtain ⟨bb, oo, B, c', rfl, ⟨hk1, hk2⟩, c1, c2, hl1, hl2, hl3, hl4⟩ := h2
          have hcall := IH.out k' kids' B (Ty.len kids') c' (wr.alloc (.cells #[.int .i8 k', .slice B (Ty.len kids') c'] 25)) t n' m' (d + 1) (by omega) ⟨hl3.alloc _, rfl, hl1, hl2, hk1, hk2⟩ (tape_alloc h3 _) (by omega) (by omega) h6
          rw [show ((d + 1 : Nat) : Int) = (d : Int) + 1 by omega] at hcall
          have HS := Lib.hid hst
          have HL := Lib.hid hl4
          have HC := Lib.hid hcall
          have j1 : (i : Int) < len := by omega
          clear hst h3 hl3 hl4 hcall hR
          go_wp2_with fail
          refine HC.out.mono ?_
          rintro e w2 ⟨rfl, hT2, hg2⟩
          have hR2 := Lib.hid (HS.out _ _ hT2 hg2 HL.out)
          clear hT2 hg2
          go_wp2_with fail
          go_roundw
          case rel => exact ⟨i + 1, r, _, _, by go_num, hR2.out⟩
          case measure => simp [intOf]; omega
/-- what lay leaves of a type that is too great -/
def LayBig (w : World) (t : Nat) (e : Ending) (w' : World) : Prop := e = .panicked [{ v := .iface 97 (.agg #[]), recovered := false }] ∧ w.grownBy w' (some t)

set_option maxHeartbeats 1000000 in
set_option maxRecDepth 100000 in
theorem lay_over (k : Int) (A : Option Addr) (len c : Nat) (d : Int) (w : World) (t : Nat) {m : Nat} (hT : Tape w t 8192 m) : Calls Tryz.prog 112 #[.pointer (some ⟨t, 0, none⟩), .agg #[.int .i8 k, .slice A len c], .int .i64 d] w (LayBig w t) := by
  obtain ⟨t0, t1, f0, f1, htl⟩ := own2 hT
  go_enter Tryz.func112, Tryz.ntmps112
  go_wp2_with fail
  refine ⟨rfl, rfl, ?_⟩
  exact only_alloc (only_setCell (only_refl _ _) (.inl rfl) _) _

set_option maxHeartbeats 1000000 in
set_option maxRecDepth 100000 in
theorem lay_big (K : Nat) : ∀ (k : Int) (kids : Fo) (A : Option Addr) (len c : Nat) (w : World) (t n m d : Nat), Ty.nodes kids < K → Ty.Is w k kids A len c → Tape w t n m → 8192 < n + 1 + Ty.nodes kids → n + 1 ≤ 8192 → d ≤ n + 1 → m ≤ 10000 →
    Calls Tryz.prog 112 #[.pointer (some ⟨t, 0, none⟩), .agg #[.int .i8 k, .slice A len c], .int .i64 d] w (LayBig w t) := by
  induction K with
  | zero => intro _ _ _ _ _ _ _ _ _ _ h; omega
  | succ K ih =>
    intro k kids A len c w t n m d hK hIs hT hbig hn hd hm
    have IH := Lib.hid ih
    clear ih
    obtain ⟨t0, t1, f0, f1, htl⟩ := own2 hT
    have i1 : (n : Int) < 8192 := by omega
    have i2 : (d : Int) ≤ 8193 := by omega
    have i3 : (m : Int) ≤ 10000 := by omega
    have i4 : decide ((8192 : Int) < (n : Int) + 1) = false := by simp; omega
    have i5 : (len : Int) ≤ 9223372036854775807 := by have := hIs.n_le; have := hIs.c_le; unfold maxLen at this; omega
    obtain ⟨M1, hM1, hM2⟩ : ∃ M1 : Nat, M1 = max m d ∧ ((M1 : Int) = if (d : Int) ≤ m then (m : Int) else d) := ⟨max m d, rfl, by split <;> omega⟩
    have st := fun o => LayRel.start (M1 := M1) hIs hT (by omega) hd hm hM1 o
    have ST := Lib.hid st
    have HM1 := Lib.hid hM1
    have HI := Lib.hid hIs
    clear st hM1 hIs hT
    by_cases hmd : (d : Int) ≤ m
    all_goals
      first | rw [if_pos hmd] at hM2 | rw [if_neg hmd] at hM2
      have HM2 := Lib.hid hM2
      clear hM2
      go_enter Tryz.func112, Tryz.ntmps112
      go_wp2_with fail
      go_loopw [34] (fun v wr => ∃ (i : Nat) (rest : Fo) (n' m' : Nat), v = .int .i64 i ∧ n' ≤ 8192 ∧ LayRel w wr A t (n + 1 + Ty.nodes kids) (max m (d + Ty.dep kids)) d len (Ty.nodes kids) i rest n' m') (fun v _ => len - (intOf v).toNat)
      case atStart =>
        have h := ST.out (.cells #[.int .i8 k, .slice A len c] 25)
        rw [HM2.out] at h
        exact ⟨0, kids, n + 1, M1, rfl, hn, h⟩
      case round =>
        obtain ⟨i, rest, n', m', rfl, hn', hR⟩ := hrel
        cases rest with
        | nil =>
          have e1 := hR.cnt
          simp only [Ty.nodes] at e1
          omega
        | node a b k' kids' r =>
          have h1 := hR.i_eq
          have h2 := hR.lies
          have h3 := hR.tape
          have h4 := hR.cnt
          have h5 := hR.lo
          have h6 := hR.m_le
          have h7 := hR.sub
          have hgo := hR.only
          have j1 : (i : Int) < len := by simp only [Ty.len] at h1; omega
          by_cases hfit : n' + 1 + Ty.nodes kids' ≤ 8192
          · have hst := fun o w2 hT hg => LayRel.step (w2 := w2) hR hfit o hT hg
            simp only [Ty.len, Ty.nodes] at h1 h4 h7
            obtain ⟨bb, oo, B, c', rfl, ⟨hk1, hk2⟩, c1, c2, hl1, hl2, hl3, hl4⟩ := h2
            have hcall := lay_ok K k' kids' B (Ty.len kids') c' (wr.alloc (.cells #[.int .i8 k', .slice B (Ty.len kids') c'] 25)) t n' m' (d + 1) (by omega) ⟨hl3.alloc _, rfl, hl1, hl2, hk1, hk2⟩ (tape_alloc h3 _) (by omega) (by omega) h6
            rw [show ((d + 1 : Nat) : Int) = (d : Int) + 1 by omega] at hcall
            have HS := Lib.hid hst
            have HL := Lib.hid hl4
            have HC := Lib.hid hcall
            clear hst h3 hl3 hl4 hcall hR hgo
            go_wp2_with fail
            refine HC.out.mono ?_
            rintro e w2 ⟨rfl, hT2, hg2⟩
            have hR2 := Lib.hid (HS.out _ _ hT2 hg2 HL.out)
            clear hT2 hg2
            go_wp2_with fail
            go_roundw
            case rel => exact ⟨i + 1, r, _, _, by go_num, hfit, hR2.out⟩
            case measure => simp [intOf]; omega
          · simp only [Ty.len, Ty.nodes] at h1 h4 h7
            obtain ⟨bb, oo, B, c', rfl, ⟨hk1, hk2⟩, c1, c2, hl1, hl2, hl3, hl4⟩ := h2
            have hcall : Calls Tryz.prog 112 #[.pointer (some ⟨t, 0, none⟩), .agg #[.int .i8 k', .slice B (Ty.len kids') c'], .int .i64 ((d : Int) + 1)] (wr.alloc (.cells #[.int .i8 k', .slice B (Ty.len kids') c'] 25)) (LayBig (wr.alloc (.cells #[.int .i8 k', .slice B (Ty.len kids') c'] 25)) t) := by
              by_cases hq : n' + 1 ≤ 8192
              · have := IH.out k' kids' B (Ty.len kids') c' (wr.alloc (.cells #[.int .i8 k', .slice B (Ty.len kids') c'] 25)) t n' m' (d + 1) (by omega) ⟨hl3.alloc _, rfl, hl1, hl2, hk1, hk2⟩ (tape_alloc h3 _) (by omega) hq (by omega) h6
                rwa [show ((d + 1 : Nat) : Int) = (d : Int) + 1 by omega] at this
              · obtain rfl : n' = 8192 := by omega
                exact lay_over _ _ _ _ _ _ _ (tape_alloc h3 _)
            have HC := Lib.hid hcall
            clear h3 hl3 hl4 hcall hR
            go_wp2_with fail
            refine HC.out.mono ?_
            rintro e w2 ⟨rfl, hg2⟩
            refine ⟨rfl, rfl, ?_⟩
            exact only_trans hgo (only_trans (only_alloc (only_refl _ _) _) hg2)
end Go.Proofs.YtfkbdpehdabepaaGreatDoor
