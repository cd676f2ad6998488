/-
  The law's SpoilType, of a ground.
-/
import Derived.Test.YtccobmjakmjekaaDoorWakes
namespace Go.Proofs.YtccobmjakmjekaaDoor
open Go.RowKit

set_option maxHeartbeats 1000000 in
set_option maxRecDepth 100000 in
theorem spoil_none (k : Int) (c : Nat) (w : World) :
    Calls Tryd.prog 21 #[.agg #[.int .i8 k, .slice none 0 c]] w fun e w' => e = .returned (.tuple #[]) ∧ Below w.heap.size w w' := by
  have hB0 := (Below.refl w.heap.size w).alloc (Nat.le_refl _) (.cells #[.int .i8 k, .slice none 0 c] 25)
  obtain ⟨b0, b1, _, _, hbl⟩ := own2 (heap_new w (.cells #[.int .i8 k, .slice none 0 c] 25))
  go_enter Tryd.func21, Tryd.ntmps21
  go_wp2_with fail
  generalize w.alloc (.cells #[.int .i8 k, .slice none 0 c] 25) = w1 at *
  go_loopw [2] (fun v2 wr => v2 = .int .i64 0 ∧ wr = w1) (fun _ _ => 0)
  case atStart => exact ⟨rfl, rfl⟩
  case round =>
    obtain ⟨rfl, rfl⟩ := hrel
    go_wp2_with fail
    go_end0
    exact ⟨rfl, hB0⟩

theorem heap_set_lo {w : World} {g : Nat} {v0 v1 v2 v3 : Value} {t : TypeId} (h : w.heap[g]? = some (.cells #[v0, v1, v2, v3] t (0, 0))) (u v : Value) : ((w.setCell ⟨g, 0, none⟩ u).setCell ⟨g, 1, none⟩ v).heap[g]? = some (.cells #[u, v, v2, v3] t (0, 0)) := by
  simp [World.setCell, Array.getElem?_modify, h]
theorem heap_set_hi {w : World} {g : Nat} {v0 v1 v2 v3 : Value} {t : TypeId} (h : w.heap[g]? = some (.cells #[v0, v1, v2, v3] t (0, 0))) (u v : Value) : ((w.setCell ⟨g, 2, none⟩ u).setCell ⟨g, 3, none⟩ v).heap[g]? = some (.cells #[v0, v1, u, v] t (0, 0)) := by
  simp [World.setCell, Array.getElem?_modify, h]

set_option maxHeartbeats 2000000 in
set_option maxRecDepth 100000 in
theorem spoil_two (k : Int) (g c n0 : Nat) (a0 a1 : Int) (w : World) (hg : w.heap[g]? = some (.cells #[.int .i8 a0, .slice none 0 0, .int .i8 a1, .slice none 0 0] 25 (0, 0))) (h0 : n0 ≤ g) :
    Calls Tryd.prog 21 #[.agg #[.int .i8 k, .slice (some ⟨g, 0, none⟩) 2 c]] w fun e w' => e = .returned (.tuple #[]) ∧ Below n0 w w' := by
  have hgl := heap_lt hg
  have hB0 := (Below.refl n0 w).alloc (by omega) (.cells #[.int .i8 k, .slice (some ⟨g, 0, none⟩) 2 c] 25)
  have hX0 := heap_new w (.cells #[.int .i8 k, .slice (some ⟨g, 0, none⟩) 2 c] 25)
  have hG0 := heap_old hg (.cells #[.int .i8 k, .slice (some ⟨g, 0, none⟩) 2 c] 25)
  have HB0 := Lib.hid hB0
  have HX0 := Lib.hid hX0
  have HG0 := Lib.hid hG0
  clear hX0 hG0 hB0
  go_enter Tryd.func21, Tryd.ntmps21
  go_wp2_with fail
  generalize w.alloc (.cells #[.int .i8 k, .slice (some ⟨g, 0, none⟩) 2 c] 25) = w1 at *
  go_loopw [2] (fun v2 wr => ∃ (i : Nat) (a0 a1 : Int), v2 = .int .i64 i ∧ i ≤ 2 ∧ wr.heap[w.heap.size]? = some (.cells #[.int .i8 k, .slice (some ⟨g, 0, none⟩) 2 c] 25 (0, 0)) ∧
    wr.heap[g]? = some (.cells #[.int .i8 a0, .slice none 0 0, .int .i8 a1, .slice none 0 0] 25 (0, 0)) ∧ Below n0 w wr) (fun v _ => 2 - (intOf v).toNat)
  case atStart => exact ⟨0, a0, a1, rfl, by omega, HX0.out, HG0.out, HB0.out⟩
  case round =>
    obtain ⟨i, a0, a1, rfl, hi, hx, hgg, hb0⟩ := hrel
    have HX := Lib.hid hx
    have HG := Lib.hid hgg
    have HB := Lib.hid hb0
    obtain ⟨b0, b1, _, _, hbl⟩ := own2 hx
    obtain ⟨c0, c1, c2, c3, _, _, _, _, _⟩ := own4 hgg
    clear hx hgg hb0
    have hi3 : i = 0 ∨ i = 1 ∨ i = 2 := by omega
    clear hi
    rcases hi3 with rfl | rfl | rfl
    · go_wp2_with fail
      refine (spoil_none a0 0 _).mono ?_
      rintro e w2 ⟨rfl, hb⟩
      have hG2 := heap_below hb (heap_lt HG.out) HG.out
      have hX2 := heap_below hb (heap_lt HX.out) HX.out
      have HB2 := Lib.hid (HB.out.trans (hb.mono (by omega)))
      obtain ⟨b0, b1, _, _, hbl⟩ := own2 hX2
      obtain ⟨c0, c1, c2, c3, f0, f1, f2, f3, _⟩ := own4 hG2
      have HG2 := Lib.hid hG2
      have HX2 := Lib.hid hX2
      clear hG2 hX2 hb
      go_wp2_with fail
      go_roundw
      case rel => exact ⟨1, 77, a1, rfl, by omega, heap_far HX2.out (by omega) _ _, heap_set_lo HG2.out _ _, (HB2.out.setCell h0 _).setCell h0 _⟩
      case measure => simp [intOf]
    · go_wp2_with fail
      refine (spoil_none a1 0 _).mono ?_
      rintro e w2 ⟨rfl, hb⟩
      have hG2 := heap_below hb (heap_lt HG.out) HG.out
      have hX2 := heap_below hb (heap_lt HX.out) HX.out
      have HB2 := Lib.hid (HB.out.trans (hb.mono (by omega)))
      obtain ⟨b0, b1, _, _, hbl⟩ := own2 hX2
      obtain ⟨c0, c1, c2, c3, f0, f1, f2, f3, _⟩ := own4 hG2
      have HG2 := Lib.hid hG2
      have HX2 := Lib.hid hX2
      clear hG2 hX2 hb
      go_wp2_with fail
      go_roundw
      case rel => exact ⟨2, a0, 77, rfl, by omega, by rw [Below.heap_setCell _ _ _ _ (show w.heap.size ≠ g by omega), Below.heap_setCell _ _ _ _ (show w.heap.size ≠ g by omega)]; exact HX2.out, heap_set_hi HG2.out _ _, (HB2.out.setCell h0 _).setCell h0 _⟩
      case measure => simp [intOf]
    · go_wp2_with fail
      go_end0
      exact ⟨rfl, HB.out⟩
end Go.Proofs.YtccobmjakmjekaaDoor
