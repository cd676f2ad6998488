/-
  terms.tape: note; what lay goes by.
-/
import Derived.Test.YtfkbdpehdabepaaGreatDoorTysOf
import Derived.Test.YtfkbdpehdabepaaGreatDoorM5
import Derived.Deep.RegionHeld3
import Derived.Deep.DrawnRows
import Derived.Deep.RegionWith
namespace Go.Proofs.YtfkbdpehdabepaaGreatDoor
open Go.RowKit

/-- the tape's block -/
def TTape (w : World) (t n m : Nat) : Prop := w.heap[t]? = some (.cells #[.int .i64 n, .int .i64 m] 74 (0, 0))
def TLayOk (w : World) (t N M : Nat) (e : Ending) (w' : World) : Prop := e = .returned (.tuple #[]) ∧ TTape w' t N M ∧ w.grownBy w' (some t)
def TLayBig (w : World) (t : Nat) (e : Ending) (w' : World) : Prop := e = .panicked [{ v := .iface 75 (.agg #[]), recovered := false }] ∧ w.grownBy w' (some t)

theorem TTape.alloc {w : World} {t n m : Nat} (h : TTape w t n m) (o : Obj) : TTape (w.alloc o) t n m := heap_old h o
theorem TTape.below {w w' : World} {t n m : Nat} (h : TTape w t n m) (hb : Below w.heap.size w w') : TTape w' t n m := heap_below hb (heap_lt h) h
theorem ttape_set {w : World} {t n m : Nat} (h : TTape w t n m) (n' m' : Nat) : TTape ((w.setCell ⟨t, 0, none⟩ (.int .i64 n')).setCell ⟨t, 1, none⟩ (.int .i64 m')) t n' m' := by
  unfold TTape at h ⊢
  simp [World.setCell, Array.getElem?_modify, h]
theorem ttape_no {w : World} {t n m : Nat} (h : TTape w t n m) : ∀ o (k : Int), w.cell? ⟨t, o, none⟩ = some (.int .i8 k) → False := by
  intro o k hv
  unfold TTape at h
  simp only [World.cell?, h] at hv
  match o with
  | 0 => simp at hv
  | 1 => simp at hv
  | (q + 2) => simp at hv
theorem ttape_ne {w : World} {t n m : Nat} (h : TTape w t n m) (hS : TShapes w) : t ≠ 0 := by
  rintro rfl
  have := hS.row 0 (by omega) (by omega) 0 _ rfl
  unfold TTape at h
  simp only [World.cell?] at this
  rw [show (0 : Int).toNat * 7 + 0 = 0 from rfl, h] at this
  simp at this
theorem only_belowT {a w w' : World} {g : Nat} (h : a.grownBy w (some g)) (hb : Below w.heap.size w w') : a.grownBy w' (some g) :=
  ⟨hb.os.trans h.os, hb.tape.trans h.tape, hb.output.trans h.output, Nat.le_trans h.size hb.size, fun i hi hne => (hb.block i (Nat.lt_of_lt_of_le hi h.size)).trans (h.block i hi hne)⟩

namespace Tm
def sumN : Fo → Nat
  | .nil => 0
  | .node _ _ _ kids r => Ty.nod kids + sumN r
def maxD : Fo → Nat
  | .nil => 0
  | .node _ _ _ kids r => max (Ty.dpt kids) (maxD r)
theorem sumN_tys (h : Hd) : sumN (tys h) = tyN h := by
  unfold tys tyN
  cases ht : hasType h.kind
  · have hu : hasTo h.kind = false := by
      cases hq : hasTo h.kind
      · rfl
      · rw [hasTo_type hq] at ht; cases ht
    simp [hu, sumN]
  · cases hu : hasTo h.kind <;> simp [sumN]
theorem maxD_tys (h : Hd) : maxD (tys h) = tyD h := by
  unfold tys tyD
  cases ht : hasType h.kind
  · have hu : hasTo h.kind = false := by
      cases hq : hasTo h.kind
      · rfl
      · rw [hasTo_type hq] at ht; cases ht
    simp [hu, maxD]
  · cases hu : hasTo h.kind <;> simp [maxD]
theorem nod_le (kids : Fo) : Ty.nod kids ≤ 8193 := by unfold Ty.nod; omega
theorem dpt_le (kids : Fo) : Ty.dpt kids ≤ 201 := by unfold Ty.dpt; split <;> omega
end Tm

set_option maxHeartbeats 1000000 in
set_option maxRecDepth 100000 in
theorem note_ok (w : World) (t n m a d : Nat) (hT : TTape w t n m) (h1 : n + a ≤ 8192) (h2 : d ≤ 10000) (h3 : m ≤ 10000) :
    Calls Tryz.prog 123 #[.pointer (some ⟨t, 0, none⟩), .int .i64 a, .int .i64 d] w (TLayOk w t (n + a) (max m d)) := by
  obtain ⟨t0, t1, f0, f1, htl⟩ := own2 hT
  have i1 : (n : Int) + a ≤ 8192 := by omega
  have i2 : (d : Int) ≤ 10000 := by omega
  have i3 : (m : Int) ≤ 10000 := by omega
  have i4 : decide ((8192 : Int) < (n : Int) + a) = false := by simp; omega
  have hset := Lib.hid (ttape_set hT (n + a) (max m d))
  rw [show ((max m d : Nat) : Int) = max (m : Int) (d : Int) by omega, show ((n + a : Nat) : Int) = (n : Int) + a by omega] at hset
  clear hT
  go_enter Tryz.func123, Tryz.ntmps123
  go_wp2_with fail
  go_end0
  exact ⟨rfl, hset.out, only_set2 w t _ _⟩

set_option maxHeartbeats 1000000 in
set_option maxRecDepth 100000 in
theorem note_big (w : World) (t n m a : Nat) (d : Int) (hT : TTape w t n m) (h1 : 8192 < n + a) (h2 : n ≤ 8192) (h3 : a ≤ 8193) :
    Calls Tryz.prog 123 #[.pointer (some ⟨t, 0, none⟩), .int .i64 a, .int .i64 d] w (TLayBig w t) := by
  obtain ⟨t0, t1, f0, f1, htl⟩ := own2 hT
  have i1 : (n : Int) + a ≤ 16385 := by omega
  have i4 : decide ((8192 : Int) < (n : Int) + a) = true := by simp; omega
  clear hT
  go_enter Tryz.func123, Tryz.ntmps123
  go_wp2_with fail
  refine ⟨rfl, rfl, ?_⟩
  exact only_setCell (only_refl _ _) (.inl rfl) _
end Go.Proofs.YtfkbdpehdabepaaGreatDoor
