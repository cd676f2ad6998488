/-
  The law's Fault: what an error of types.Read tells.
-/
import Derived.Test.YtocehfklacjgbaaGreatDoorErrAs
import Derived.Test.YtocehfklacjgbaaGreatDoorM12
import Derived.RegionTactic
import Derived.StillTailTactics
import Derived.BigRegion
namespace Go.Proofs.YtocehfklacjgbaaGreatDoor
open Go.RowKit Rd

/-- what errors.As leaves: the target's own cell alone has turned of what was there -/
theorem tas_weak (e t : Addr) (old : Value) (w : World) (hg : w.cell? ⟨0, 0, none⟩ = some (.iface 182 (.agg #[.pointer (some ⟨9, 32, none⟩)]))) (ht0 : w.cell? t = some old) (hf0 : w.frozen? t = false) :
    Calls Tryz.prog 37 #[.iface 65 (.pointer (some e)), .iface 90 (.pointer (some t))] w fun ev w' => ev = .returned (.bool true) ∧ w'.cell? t = some (.pointer (some e)) ∧ (∀ k, k ≠ t.block → k < w.heap.size → w'.heap[k]? = w.heap[k]?) ∧ (∀ B, B ≤ t.block → B ≤ w.heap.size → Below B w w') ∧ w.heap.size ≤ w'.heap.size := by
  have htl : t.block < w.heap.size := by
    rcases Nat.lt_or_ge t.block w.heap.size with h | h
    · exact h
    · simp [World.cell?, Array.getElem?_eq_none h] at ht0
  refine (as_hit e t old w hg ht0 hf0).mono fun ev w' h => ?_
  obtain ⟨rfl, rfl⟩ := h
  refine ⟨rfl, ?_, ?_, ?_, ?_⟩
  · refine World.cell?_setCell_same _ _ _ (u := old) ?_
    rw [World.cell?_alloc_lt _ _ t (by simp <;> omega), World.cell?_alloc_lt _ _ t (by simp <;> omega), World.cell?_alloc_lt _ _ t (by simp <;> omega), World.cell?_alloc_lt _ _ t htl]; exact ht0
  · intro k hk hk2
    rw [Below.heap_setCell _ _ _ k hk, Below.heap_alloc _ _ k (by simp <;> omega), Below.heap_alloc _ _ k (by simp <;> omega), Below.heap_alloc _ _ k (by simp <;> omega), Below.heap_alloc _ _ k hk2]
  · intro B hB hB2
    exact ((((((Below.refl B w).alloc hB2 _).alloc (by simp <;> omega) _).alloc (by simp <;> omega) _).alloc (by simp <;> omega) _).setCell hB _)
  · simp <;> omega

set_option maxHeartbeats 4000000 in
set_option maxRecDepth 100000 in
theorem tfault_own (N : Nat) (c a : Int) (t : ByteArray) (w : World) (hN : w.heap[N]? = some (.cells #[.int .i64 c, .int .i64 a, .string t] 84 (0, 0))) (hc : (c != 0) = true)
    (hg : w.cell? ⟨0, 0, none⟩ = some (.iface 182 (.agg #[.pointer (some ⟨9, 32, none⟩)]))) :
    Calls Tryz.prog 18 #[.iface 65 (.pointer (some ⟨N, 0, none⟩))] w fun e w' => e = .returned (.tuple #[.agg #[.int .i64 c, .int .i64 a, .string t], .bool true]) ∧ Below w.heap.size w w' := by
  have hNl := heap_lt hN
  have HN := Lib.hid hN
  have hlt : 0 < w.heap.size := Ty.cell_lt hg
  clear hN
  go_enter Tryz.func18, Tryz.ntmps18
  go_wp2_with fail
  refine (tas_weak ⟨N, 0, none⟩ _ (.pointer none) _ ?h1 ?h2 ?h3).mono ?_
  case h1 => rw [World.cell?_alloc_lt _ _ ⟨0, 0, none⟩ (by simp <;> omega), World.cell?_alloc_lt _ _ ⟨0, 0, none⟩ hlt]; exact hg
  case h2 => simp
  case h3 => simp
  rintro e w1 ⟨rfl, hp, hk, hB, hz⟩
  have hB1 := ((Below.refl w.heap.size w).alloc (Nat.le_refl _) _).alloc (by simp) _ |>.trans (hB w.heap.size (by simp) (by simp <;> omega))
  have hN1 := hk N (by show N ≠ w.heap.size + 1; omega) (by simp <;> omega)
  rw [heap_old (heap_old HN.out _) _] at hN1
  have hR1 := hk w.heap.size (by show w.heap.size ≠ w.heap.size + 1; omega) (by simp <;> omega)
  rw [heap_old (heap_new w _) _] at hR1
  obtain ⟨n0, n1, n2, _, _, _, _⟩ := own3' hN1
  obtain ⟨r0, r1, r2, s0, s1, s2, _⟩ := own3' hR1
  have HB1 := Lib.hid hB1
  clear hk hB hz hN1 hR1 hg hlt hB1
  go_wp2_with fail
  go_region
  go_wp2_with fail
  refine bodyPost_ret (v := .tuple #[.agg #[.int .i64 c, .int .i64 a, .string t], .bool true]) (by simp [results, Tryz.results18, go_sem, *]) rfl ⟨rfl, ?_⟩
  have h1 := HB1.out.setCell (p := ⟨w.heap.size, 0, none⟩) (Nat.le_refl _) (.int .i64 c)
  have h2 := h1.setCell (p := ⟨w.heap.size, 1, none⟩) (Nat.le_refl _) (.int .i64 a)
  have h3 := h2.setCell (p := ⟨w.heap.size, 2, none⟩) (Nat.le_refl _) (.string t)
  exact h3.drew
end Go.Proofs.YtocehfklacjgbaaGreatDoor
