/-
  The law's Fault and Told: a fault of api's is that fault.
-/
import Derived.Test.YtknhoagicdfikaaGreatDoorM26
import Derived.Test.YtknhoagicdfikaaGreatDoorRune
import Derived.StillTailTactics
import Derived.BigRegion
namespace Go.Proofs.YtknhoagicdfikaaGreatDoor
open Go.RowKit

set_option maxHeartbeats 1000000 in
set_option maxRecDepth 100000 in
theorem fault_nil (w : World) :
    Calls Tryz.prog 11 #[.nilIface] w fun e w' => e = .returned (.tuple #[.agg #[.int .i64 0, .int .i64 0, .string ⟨#[]⟩], .bool true]) ∧ Below w.heap.size w w' := by
  go_enter Tryz.func11, Tryz.ntmps11
  go_wp2_with fail
  refine bodyPost_ret (v := .tuple #[.agg #[.int .i64 0, .int .i64 0, .string ⟨#[]⟩], .bool true]) (by simp [results, Tryz.results11, go_sem]) rfl ⟨rfl, ?_⟩
  exact (((Below.refl _ _).alloc (Nat.le_refl _) _))

/-- what errors.As leaves: the target's own cell alone has turned of what was there -/
theorem as_weak (e t : Addr) (old : Value) (w : World) (hg : w.cell? ⟨0, 0, none⟩ = some (.iface 112 (.agg #[.pointer (some ⟨9, 30, none⟩)]))) (ht0 : w.cell? t = some old) (hf0 : w.frozen? t = false) :
    Calls Tryz.prog 19 #[.iface 52 (.pointer (some e)), .iface 54 (.pointer (some t))] w fun ev w' => ev = .returned (.bool true) ∧ w'.cell? t = some (.pointer (some e)) ∧ (∀ k, k ≠ t.block → k < w.heap.size → w'.heap[k]? = w.heap[k]?) ∧ (∀ B, B ≤ t.block → B ≤ w.heap.size → Below B w w') ∧ w.heap.size ≤ w'.heap.size := by
  have htl : t.block < w.heap.size := by
    rcases Nat.lt_or_ge t.block w.heap.size with h | h
    · exact h
    · simp [World.cell?, Array.getElem?_eq_none h] at ht0
  refine (as_hit e t old w hg ht0 hf0).mono fun ev w' h => ?_
  obtain ⟨rfl, rfl⟩ := h
  refine ⟨rfl, ?_, ?_, ?_, ?_⟩
  · refine World.cell?_setCell_same _ _ _ (u := old) ?_
    rw [World.cell?_alloc_lt _ _ t (by simp <;> omega), World.cell?_alloc_lt _ _ t (by simp <;> omega), World.cell?_alloc_lt _ _ t (by simp <;> omega), World.cell?_alloc_lt _ _ t htl]; exact ht0
  · intro k hk hk2
    rw [Below.heap_setCell _ _ _ k hk, Below.heap_alloc _ _ k (by simp <;> omega), Below.heap_alloc _ _ k (by simp <;> omega), Below.heap_alloc _ _ k (by simp <;> omega), Below.heap_alloc _ _ k hk2]
  · intro B hB hB2
    exact ((((((Below.refl B w).alloc hB2 _).alloc (by simp <;> omega) _).alloc (by simp <;> omega) _).alloc (by simp <;> omega) _).setCell hB _)
  · simp <;> omega

theorem own3 {w : World} {b : Nat} {v0 v1 v2 : Value} {t : TypeId} (h : w.heap[b]? = some (.cells #[v0, v1, v2] t (0, 0))) :
    w.cell? ⟨b, 0, none⟩ = some v0 ∧ w.cell? ⟨b, 1, none⟩ = some v1 ∧ w.cell? ⟨b, 2, none⟩ = some v2 ∧
    w.frozen? ⟨b, 0, none⟩ = false ∧ w.frozen? ⟨b, 1, none⟩ = false ∧ w.frozen? ⟨b, 2, none⟩ = false ∧ b < w.heap.size := by
  refine ⟨?_, ?_, ?_, ?_, ?_, ?_, heap_lt h⟩ <;> simp [World.cell?, World.frozen?, h]

set_option maxHeartbeats 1000000 in
set_option maxRecDepth 100000 in
theorem fault_own (N : Nat) (c a : Int) (t : ByteArray) (w : World) (hN : w.heap[N]? = some (.cells #[.int .i64 c, .int .i64 a, .string t] 56 (0, 0)))
    (hg : w.cell? ⟨0, 0, none⟩ = some (.iface 112 (.agg #[.pointer (some ⟨9, 30, none⟩)]))) :
    Calls Tryz.prog 11 #[.iface 52 (.pointer (some ⟨N, 0, none⟩))] w fun e w' => e = .returned (.tuple #[.agg #[.int .i64 c, .int .i64 a, .string t], .bool true]) ∧ Below w.heap.size w w' := by
  have hNl := heap_lt hN
  have HN := Lib.hid hN
  have hlt : 0 < w.heap.size := by
    rcases Nat.lt_or_ge 0 w.heap.size with h | h
    · exact h
    · simp [World.cell?, Array.getElem?_eq_none h] at hg
  clear hN
  go_enter Tryz.func11, Tryz.ntmps11
  go_wp2_with fail
  refine (as_weak ⟨N, 0, none⟩ _ (.pointer none) _ ?h1 ?h2 ?h3).mono ?_
  case h1 => rw [World.cell?_alloc_lt _ _ ⟨0, 0, none⟩ (by simp <;> omega), World.cell?_alloc_lt _ _ ⟨0, 0, none⟩ hlt]; exact hg
  case h2 => simp
  case h3 => simp
  rintro e w1 ⟨rfl, hp, hk, hB, hz⟩
  have hB1 := ((Below.refl w.heap.size w).alloc (Nat.le_refl _) _).alloc (by simp) _ |>.trans (hB w.heap.size (by simp) (by simp <;> omega))
  have hN1 := hk N (by show N ≠ w.heap.size + 1; omega) (by simp <;> omega)
  rw [heap_old (heap_old HN.out _) _] at hN1
  have hR1 := hk w.heap.size (by show w.heap.size ≠ w.heap.size + 1; omega) (by simp <;> omega)
  rw [heap_old (heap_new w _) _] at hR1
  have hz1 : w.heap.size + 1 < w1.heap.size := by simp at hz; omega
  obtain ⟨n0, n1, n2, _, _, _, _⟩ := own3 hN1
  obtain ⟨r0, r1, r2, s0, s1, s2, _⟩ := own3 hR1
  clear hk hB hz hN1 hR1 hg hlt
  have hIs := is_own N c
  go_wp2_with fail
  go_still_tail 20, (by kernel_rfl)
  still_call ((is_own N c w1.drew n0).mono fun _ _ h => ⟨h.1, h.2.symm⟩)
  refine wpStill_nil ?_
  change wpList _ _ _ _ _ w1.drew
  replace r0 : w1.drew.cell? ⟨w.heap.size, 0, none⟩ = _ := r0
  replace r1 : w1.drew.cell? ⟨w.heap.size, 1, none⟩ = _ := r1
  replace r2 : w1.drew.cell? ⟨w.heap.size, 2, none⟩ = _ := r2
  replace s0 : w1.drew.frozen? ⟨w.heap.size, 0, none⟩ = _ := s0
  replace s1 : w1.drew.frozen? ⟨w.heap.size, 1, none⟩ = _ := s1
  replace s2 : w1.drew.frozen? ⟨w.heap.size, 2, none⟩ = _ := s2
  replace hB1 := hB1.drew
  clear n0 n1 n2 hp hz1 hIs
  generalize w1.drew = w2 at *
  go_wp2_with fail
  refine bodyPost_ret (v := .tuple #[.agg #[.int .i64 c, .int .i64 a, .string t], .bool true]) (by simp [results, Tryz.results11, go_sem, *]) rfl ⟨rfl, ?_⟩
  exact (((hB1.setCell (Nat.le_refl _) _).setCell (Nat.le_refl _) _).setCell (Nat.le_refl _) _)

end Go.Proofs.YtknhoagicdfikaaGreatDoor
