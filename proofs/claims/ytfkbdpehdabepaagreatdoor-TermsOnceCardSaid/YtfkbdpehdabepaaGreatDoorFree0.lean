/-
  The free names of a term, as a list: the reference's own way; what a set and a count of names say of it; a row that is sorted by exchanges.
-/
import Derived.Test.YtfkbdpehdabepaaGreatDoorTm
import Derived.Sort.KeysCollected
import Derived.Sort.Walk0
import Derived.Maps.OwnSet
namespace Go.Proofs.YtfkbdpehdabepaaGreatDoor
open Go.RowKit Go.Maps

namespace Tm
abbrev Nm := List UInt8
def nm (s : ByteArray) : Nm := s.data.toList
/-- the names that a term binds in its kid of that number -/
def binds (h : Hd) (i : Nat) : List Nm :=
  if h.kind = 4 ∨ h.kind = 7 ∧ i = 1 ∨ h.kind = 14 ∧ i = 1 then [nm h.name] else if h.kind = 14 ∧ i = 2 then [nm h.arg] else if h.kind = 5 then [nm h.name, nm h.arg] else []
def vr (x : Nm) (bd l : List Nm) : List Nm := if x ∈ bd ∨ x ∈ l then l else l ++ [x]
/-- the names that are free in the kids of h from the i-th on -/
def frG : Tm → Hd → Nat → List Nm → List Nm → List Nm
  | .nil, _, _, _, l => l
  | .node g kk r, h, i, bd, l => frG r h (i + 1) bd (if g.kind = 0 then vr (nm g.name) (bd ++ binds h i) l else frG kk g 0 (bd ++ binds h i) l)
def frT (h : Hd) (kids : Tm) (bd l : List Nm) : List Nm := if h.kind = 0 then vr (nm h.name) bd l else frG kids h 0 bd l
theorem frG_node (g : Hd) (kk r : Tm) (h : Hd) (i : Nat) (bd l : List Nm) : frG (.node g kk r) h i bd l = frG r h (i + 1) bd (frT g kk (bd ++ binds h i) l) := rfl
theorem binds_len (h : Hd) (i : Nat) : (binds h i).length ≤ 2 := by unfold binds; split <;> (try split) <;> (try split) <;> simp
theorem vr_nodup (x : Nm) (bd l : List Nm) (h : l.Nodup) : (vr x bd l).Nodup := by
  unfold vr; split
  · exact h
  · rename_i hx
    refine List.nodup_append.2 ⟨h, by simp, fun a ha b hb e => ?_⟩
    simp at hb; subst hb; subst e; exact hx (.inr ha)
theorem frG_nodup : ∀ (f : Tm) (h : Hd) (i : Nat) (bd l : List Nm), l.Nodup → (frG f h i bd l).Nodup
  | .nil, _, _, _, _, hl => hl
  | .node g kk r, h, i, bd, l, hl => by
    simp only [frG]
    refine frG_nodup r h (i + 1) bd _ ?_
    split
    · exact vr_nodup _ _ _ hl
    · exact frG_nodup kk g 0 _ l hl
theorem frT_nodup (h : Hd) (kids : Tm) (bd l : List Nm) (hl : l.Nodup) : (frT h kids bd l).Nodup := by
  unfold frT; split
  · exact vr_nodup _ _ _ hl
  · exact frG_nodup _ _ _ _ _ hl
theorem vr_len (x : Nm) (bd l : List Nm) : (vr x bd l).length ≤ l.length + 1 := by unfold vr; split <;> simp
theorem frG_len : ∀ (f : Tm) (h : Hd) (i : Nat) (bd l : List Nm), (frG f h i bd l).length ≤ l.length + nodes f
  | .nil, _, _, _, _ => by simp [frG, nodes]
  | .node g kk r, h, i, bd, l => by
    simp only [frG, nodes]
    refine Nat.le_trans (frG_len r h (i + 1) bd _) ?_
    split
    · have := vr_len (nm g.name) (bd ++ binds h i) l; omega
    · have := frG_len kk g 0 (bd ++ binds h i) l; omega
theorem frT_len (h : Hd) (kids : Tm) (bd l : List Nm) : (frT h kids bd l).length ≤ l.length + (nodes kids + 1) := by
  unfold frT; split
  · have := vr_len (nm h.name) bd l; omega
  · have := frG_len kids h 0 bd l; omega
end Tm

/-! ### a map that counts, a map that is a set -/
section
variable {H : Type}
/-- the map's numbers are how often each name stands on the list -/
def Counts (D : DataW H) (l : List (List UInt8)) : Prop := IsMap D ∧ ∀ x, D.atKey (.string x) (.lit (.int .i64 0)) = .lit (.int .i64 (l.count x : Nat))
/-- the map's keys are what stands on the list -/
def SetOf (D : DataW H) (l : List (List UInt8)) : Prop := IsMap D ∧ ∀ x, (has D (.string x) = true ↔ x ∈ l)
theorem isKey (x : List UInt8) : WideAt.IsKeyLit (.string x) := by simp [WideAt.IsKeyLit]
theorem counts_empty : Counts (.map [] : DataW H) [] := ⟨isMap_empty, fun x => by simp [DataW.atKey]⟩
theorem setOf_empty : SetOf (.map [] : DataW H) [] := ⟨isMap_empty, fun x => by simp [has]⟩
theorem str_ne {x y : List UInt8} (h : x ≠ y) : (Lit.string x) ≠ .string y := fun e => h (by injection e)
theorem Counts.put {D : DataW H} {l : List (List UInt8)} (h : Counts D l) (y : List UInt8) {c : Int} (hc : D.atKey (.string y) (.lit (.int .i64 0)) = .lit (.int .i64 c)) : Counts (D.put (.string y) (.lit (.int .i64 (c + 1)))) (l ++ [y]) := by
  refine ⟨h.1.put _ _, fun x => ?_⟩
  by_cases e : x = y
  · subst e
    rw [atKey_put_same h.1 (isKey x)]
    have := h.2 x
    rw [hc] at this
    simp only [DataW.lit.injEq, Lit.int.injEq, true_and] at this
    rw [this]; simp
  · rw [atKey_put_other (str_ne e), h.2 x, List.count_append, List.count_singleton]
    have : (y == x) = false := by simp; exact fun h => e h.symm
    simp [this]
/-- one is taken away: the number is written, or the key struck -/
theorem Counts.less {D : DataW H} {l : List (List UInt8)} (y : List UInt8) {c : Int} (h : Counts D (l ++ [y])) (hc : D.atKey (.string y) (.lit (.int .i64 0)) = .lit (.int .i64 c)) :
    Counts (D.put (.string y) (.lit (.int .i64 (c - 1)))) l ∧ (c - 1 = 0 → Counts ((D.put (.string y) (.lit (.int .i64 (c - 1)))).del (.string y)) l) ∧ 1 ≤ c ∧ c ≤ (l.length : Int) + 1 := by
  have hy := h.2 y
  rw [hc] at hy
  simp only [DataW.lit.injEq, Lit.int.injEq, true_and] at hy
  have hcc : c = (l.count y : Nat) + 1 := by rw [hy]; simp
  have hle := List.count_le_length (a := y) (l := l)
  have hp : Counts (D.put (.string y) (.lit (.int .i64 (c - 1)))) l := by
    refine ⟨h.1.put _ _, fun x => ?_⟩
    by_cases e : x = y
    · subst e
      rw [atKey_put_same h.1 (isKey x), hcc]
      congr 2; omega
    · rw [atKey_put_other (str_ne e), h.2 x, List.count_append, List.count_singleton]
      have : (y == x) = false := by simp; exact fun h => e h.symm
      simp [this]
  refine ⟨hp, fun h0 => ⟨hp.1.del _, fun x => ?_⟩, by omega, by omega⟩
  by_cases e : x = y
  · subst e
    rw [atKey_del_same, show l.count x = 0 by omega]; rfl
  · rw [atKey_del_other (str_ne e)]; exact hp.2 x
theorem Counts.zero {D : DataW H} {l : List (List UInt8)} (h : Counts D l) (y : List UInt8) {c : Int} (hc : D.atKey (.string y) (.lit (.int .i64 0)) = .lit (.int .i64 c)) : (c = 0 ↔ y ∉ l) ∧ 0 ≤ c ∧ c ≤ l.length := by
  have hy := h.2 y
  rw [hc] at hy
  simp only [DataW.lit.injEq, Lit.int.injEq, true_and] at hy
  have hle := List.count_le_length (a := y) (l := l)
  refine ⟨?_, by omega, by omega⟩
  rw [← List.count_eq_zero (l := l)]; omega
theorem SetOf.put {D : DataW H} {l : List (List UInt8)} (h : SetOf D l) (y : List UInt8) (d : DataW H) {bd : List (List UInt8)} (hy : y ∉ bd) : SetOf (D.put (.string y) d) (Tm.vr y bd l) := by
  refine ⟨h.1.put _ _, fun x => ?_⟩
  have hm : x ∈ Tm.vr y bd l ↔ x ∈ l ∨ x = y := by
    unfold Tm.vr; split
    · rename_i hc
      have hl : y ∈ l := hc.resolve_left hy
      exact ⟨.inl, fun h => h.elim id (fun e => e ▸ hl)⟩
    · simp
  rw [hm]
  by_cases e : x = y
  · subst e; simp [has_put_same h.1 (isKey x)]
  · rw [has_put_other (str_ne e), h.2 x]; simp [e]
/-- what a map's keys are, sorted -/
theorem SetOf.perm {P : Program} {k : TypeId} {R : Value → Option (DataW H × List MemPlace)} {w : World} {b n : Nat} {D : DataW H} {l ss : List (List UInt8)} (h : SetOf D l) (hn : l.Nodup) (hown : w.ownsMap P k R b n D) (K : Keyed P k) (hk : P.underlying k = some .string) (hs : ss.Perm (strKeys D)) : ss.Perm l := by
  obtain ⟨es, hD, hpw, _⟩ := hown.entries K
  obtain ⟨es', hD', hko⟩ := hown.keysOf
  obtain rfl : es = es' := by rw [hD] at hD'; simpa using hD'
  subst hD
  exact hs.trans (perm_strKeys hpw (fun p hp => by obtain ⟨v, hv⟩ := hko p hp; obtain ⟨x, _, hx, _⟩ := Maps.keyOf_str hk hv; exact ⟨x, hx⟩) hn (fun x => (h.2 x).symm)).symm
end

/-! ### a row that is sorted by exchanges -/
end Go.Proofs.YtfkbdpehdabepaaGreatDoor
