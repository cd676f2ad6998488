/-
  P1.1: some texts, told by hand. The law's walk.
-/
import Derived.Test.YtjngdhbaobbaeaaDoorLawAhead
import Derived.Test.YtjngdhbaobbaeaaDoorTold
namespace Go.Proofs.YtjngdhbaobbaeaaDoor
open Go.RowKit

theorem tk_known : Sc.tk ⟨#[97, 45, 62, 98, 32, 35, 32, 99]⟩ 0 = ([(1, ⟨#[97]⟩, 0, 0), (4, ⟨#[45, 62]⟩, 0, 1), (1, ⟨#[98]⟩, 0, 3)], none) := by decide +kernel
theorem tk_known0 : (Sc.tk ⟨#[48, 48, 55]⟩ 0).2 = some (10, 0, ⟨#[48, 48, 55]⟩) := by decide +kernel
theorem tk_known1 : (Sc.tk ⟨#[49, 97]⟩ 0).2 = some (10, 0, ⟨#[49]⟩) := by decide +kernel
theorem tk_known2 : (Sc.tk ⟨#[97, 33, 98]⟩ 0).2 = some (10, 1, ⟨#[33]⟩) := by decide +kernel
theorem tk_known3 : (Sc.tk ⟨#[57, 50, 50, 51, 51, 55, 50, 48, 51, 54, 56, 53, 52, 55, 55, 53, 56, 48, 56]⟩ 0).2 = some (3, 0, ⟨#[57, 50, 50, 51, 51, 55, 50, 48, 51, 54, 56, 53, 52, 55, 55, 53, 56, 48, 56]⟩) := by decide +kernel

theorem cell_at {w : World} {b : Nat} {cs : Array Value} {t : TypeId} (h : w.heap[b]? = some (.cells cs t (0, 0))) (i : Nat) (v : Value) (hv : cs[i]? = some v) : w.cell? ⟨b, i, none⟩ = some v := by
  simp [World.cell?, h, hv]

/-- a text with a fault, by its own numbers -/
theorem all_fault (s : ByteArray) (hs : s.size ≤ 65536) (c : Int) (a : Nat) (t : ByteArray) (h : (Sc.tk s 0).2 = some (c, a, t)) (w : World) (tp : TypeId) (p : Value) (hvar : w.var? Tryd.prog "strconv.ErrRange" = some #[.iface tp p]) :
    Calls Tryd.prog 8 #[.string s] w fun e w' => ∃ N, e = .returned (.tuple #[.slice none 0 0, .iface 42 (.pointer (some ⟨N, 0, none⟩))]) ∧ w'.heap[N]? = some (.cells #[.int .i64 c, .int .i64 a, .string t] 44) ∧ Below w.heap.size w w' := by
  refine (all_loop s hs w tp p hvar).mono fun e w' h1 => ?_
  rcases h1 with ⟨v, h2, _⟩ | ⟨f, N, h2, rfl, _, h3, hb⟩
  · rw [h] at h2; cases h2
  · rw [h] at h2
    injection h2 with h2
    subst h2
    exact ⟨N, rfl, h3, hb⟩

theorem handle_at {w w1 : World} {v : Value} (hg : w.cell? ⟨0, 0, none⟩ = some v) (hb : Below w.heap.size w w1) : w1.cell? ⟨0, 0, none⟩ = some v := by
  have hlt : 0 < w.heap.size := by
    rcases Nat.lt_or_ge 0 w.heap.size with h | h
    · exact h
    · simp [World.cell?, Array.getElem?_eq_none h] at hg
  rw [hb.cell (p := ⟨0, 0, none⟩) hlt]; exact hg


def knownCells : Array Value := #[.string ⟨#[48, 48, 55]⟩, .int .i64 10, .int .i64 0, .string ⟨#[48, 48, 55]⟩, .string ⟨#[49, 97]⟩, .int .i64 10, .int .i64 0, .string ⟨#[49]⟩, .string ⟨#[97, 33, 98]⟩, .int .i64 10, .int .i64 1, .string ⟨#[33]⟩, .string ⟨#[57, 50, 50, 51, 51, 55, 50, 48, 51, 54, 56, 53, 52, 55, 55, 53, 56, 48, 56]⟩, .int .i64 3, .int .i64 0, .string ⟨#[57, 50, 50, 51, 51, 55, 50, 48, 51, 54, 56, 53, 52, 55, 55, 53, 56, 48, 56]⟩]

set_option maxHeartbeats 4000000 in
set_option maxRecDepth 100000 in
theorem law_ScanKnown (w : World) (tp : TypeId) (p : Value) (hvar : w.var? Tryd.prog "strconv.ErrRange" = some #[.iface tp p])
    (hg : w.cell? ⟨0, 0, none⟩ = some (.iface 88 (.agg #[.pointer (some ⟨7, 24, none⟩)]))) :
    Calls Tryd.prog 5 #[] w fun e w' => e = .returned (.bool true) ∧ Below w.heap.size w w' := by
  have HV := Lib.hid hvar
  have HG := Lib.hid hg
  clear hvar hg
  go_enter Tryd.func5, Tryd.ntmps5
  go_wp2_with fail
  refine (all_words _ (by decide) (by rw [tk_known]) w tp p HV.out).mono ?_
  rintro e w1 ⟨g, cap, rfl, ho, _, _, hb1⟩
  rw [tk_known] at ho ⊢
  have ca : ∀ j, j < 16 → w1.cell? ⟨g, j, none⟩ = _ := fun j hj => ho.cellAt j (by simpa using hj)
  have x4 := ca 4 (by decide)
  have x5 := ca 5 (by decide)
  have x6 := ca 6 (by decide)
  have x7 := ca 7 (by decide)
  have x9 := ca 9 (by decide)
  have x12 := ca 12 (by decide)
  have x13 := ca 13 (by decide)
  have x14 := ca 14 (by decide)
  have x15 := ca 15 (by decide)
  simp [Sc.flat] at x4 x5 x6 x7 x9 x12 x13 x14 x15
  have hlen : ([(1, ⟨#[97]⟩, 0, 0), (4, ⟨#[45, 62]⟩, 0, 1), (1, ⟨#[98]⟩, 0, 3)] : List Sc.Wd).length + 1 = 4 := rfl
  simp only [hlen]
  clear ca ho hlen
  go_wp2_with fail
  refine wp_loop_rounds 5 ?_
  have hB0 := heap_new w1 (.cells #[.string ⟨#[48, 48, 55]⟩, .int .i64 10, .int .i64 0, .string ⟨#[48, 48, 55]⟩, .string ⟨#[49, 97]⟩, .int .i64 10, .int .i64 0, .string ⟨#[49]⟩, .string ⟨#[97, 33, 98]⟩, .int .i64 10, .int .i64 1, .string ⟨#[33]⟩, .string ⟨#[57, 50, 50, 51, 51, 55, 50, 48, 51, 54, 56, 53, 52, 55, 55, 53, 56, 48, 56]⟩, .int .i64 3, .int .i64 0, .string ⟨#[57, 50, 50, 51, 51, 55, 50, 48, 51, 54, 56, 53, 52, 55, 55, 53, 56, 48, 56]⟩] 38)
  have hbw0 := hb1.alloc hb1.size (.cells #[.string ⟨#[48, 48, 55]⟩, .int .i64 10, .int .i64 0, .string ⟨#[48, 48, 55]⟩, .string ⟨#[49, 97]⟩, .int .i64 10, .int .i64 0, .string ⟨#[49]⟩, .string ⟨#[97, 33, 98]⟩, .int .i64 10, .int .i64 1, .string ⟨#[33]⟩, .string ⟨#[57, 50, 50, 51, 51, 55, 50, 48, 51, 54, 56, 53, 52, 55, 55, 53, 56, 48, 56]⟩, .int .i64 3, .int .i64 0, .string ⟨#[57, 50, 50, 51, 51, 55, 50, 48, 51, 54, 56, 53, 52, 55, 55, 53, 56, 48, 56]⟩] 38)
  generalize w1.heap.size = B at *
  generalize w1.alloc (.cells #[.string ⟨#[48, 48, 55]⟩, .int .i64 10, .int .i64 0, .string ⟨#[48, 48, 55]⟩, .string ⟨#[49, 97]⟩, .int .i64 10, .int .i64 0, .string ⟨#[49]⟩, .string ⟨#[97, 33, 98]⟩, .int .i64 10, .int .i64 1, .string ⟨#[33]⟩, .string ⟨#[57, 50, 50, 51, 51, 55, 50, 48, 51, 54, 56, 53, 52, 55, 55, 53, 56, 48, 56]⟩, .int .i64 3, .int .i64 0, .string ⟨#[57, 50, 50, 51, 51, 55, 50, 48, 51, 54, 56, 53, 52, 55, 55, 53, 56, 48, 56]⟩] 38) = W0 at *
  clear x4 x5 x6 x7 x9 x12 x13 x14 x15
  -- text 0
  obtain ⟨y0, y1, y2, y3⟩ : W0.cell? ⟨B, 0, none⟩ = some (.string ⟨#[48, 48, 55]⟩) ∧ W0.cell? ⟨B, 1, none⟩ = some (.int .i64 10) ∧ W0.cell? ⟨B, 2, none⟩ = some (.int .i64 0) ∧ W0.cell? ⟨B, 3, none⟩ = some (.string ⟨#[48, 48, 55]⟩) :=
    ⟨cell_at hB0 _ _ rfl, cell_at hB0 _ _ rfl, cell_at hB0 _ _ rfl, cell_at hB0 _ _ rfl⟩
  have HB0 := Lib.hid hB0
  clear hB0
  rw [rounds_succ]
  go_wp2_with fail
  refine (all_fault ⟨#[48, 48, 55]⟩ (by decide) 10 0 ⟨#[48, 48, 55]⟩ tk_known0 _ tp p (var_at (hbw0.alloc hbw0.size _) HV.out)).mono ?_
  rintro e V0 ⟨N0, rfl, hN0, hv0⟩
  obtain ⟨q0, q1, q2, q3, f0, f1, f2, f3, hz⟩ := own4 (heap_below hv0 (by simp) (heap_new W0 _))
  have hC0 := Lib.hid (heap_below hv0 (by simp; have := heap_lt HB0.out; omega) (heap_old HB0.out _))
  have hbv0 := (hbw0.alloc hbw0.size _).trans (hv0.mono (by simp; have := hbw0.size; omega))
  clear hv0 y0 y1 y2 y3
  have hT0 := told_own N0 10 0 ⟨#[48, 48, 55]⟩ rfl V0 hN0 (handle_at HG.out hbv0)
  clear hN0
  go_wp2_with fail
  refine hT0.mono ?_
  rintro e W1 ⟨rfl, hu0⟩
  have hB1 := heap_below hu0 (heap_lt hC0.out) hC0.out
  have hbw1 := hbv0.trans (hu0.mono hbv0.size)
  have HBX0 := Lib.hid hB1
  clear hT0 hC0 hu0 hB1 q0 q1 q2 q3 f0 f1 f2 f3 hz
  go_wp2_with fail
  have hB1 := HBX0.out
  clear HBX0
  -- text 1
  obtain ⟨y0, y1, y2, y3⟩ : W1.cell? ⟨B, 4, none⟩ = some (.string ⟨#[49, 97]⟩) ∧ W1.cell? ⟨B, 5, none⟩ = some (.int .i64 10) ∧ W1.cell? ⟨B, 6, none⟩ = some (.int .i64 0) ∧ W1.cell? ⟨B, 7, none⟩ = some (.string ⟨#[49]⟩) :=
    ⟨cell_at hB1 _ _ rfl, cell_at hB1 _ _ rfl, cell_at hB1 _ _ rfl, cell_at hB1 _ _ rfl⟩
  have HB1 := Lib.hid hB1
  clear hB1
  rw [rounds_succ]
  go_wp2_with fail
  refine (all_fault ⟨#[49, 97]⟩ (by decide) 10 0 ⟨#[49]⟩ tk_known1 _ tp p (var_at (hbw1.alloc hbw1.size _) HV.out)).mono ?_
  rintro e V1 ⟨N1, rfl, hN1, hv1⟩
  obtain ⟨q0, q1, q2, q3, f0, f1, f2, f3, hz⟩ := own4 (heap_below hv1 (by simp) (heap_new W1 _))
  have hC1 := Lib.hid (heap_below hv1 (by simp; have := heap_lt HB1.out; omega) (heap_old HB1.out _))
  have hbv1 := (hbw1.alloc hbw1.size _).trans (hv1.mono (by simp; have := hbw1.size; omega))
  clear hv1 y0 y1 y2 y3
  have hT1 := told_own N1 10 0 ⟨#[49]⟩ rfl V1 hN1 (handle_at HG.out hbv1)
  clear hN1
  go_wp2_with fail
  refine hT1.mono ?_
  rintro e W2 ⟨rfl, hu1⟩
  have hB2 := heap_below hu1 (heap_lt hC1.out) hC1.out
  have hbw2 := hbv1.trans (hu1.mono hbv1.size)
  have HBX1 := Lib.hid hB2
  clear hT1 hC1 hu1 hB2 q0 q1 q2 q3 f0 f1 f2 f3 hz
  go_wp2_with fail
  have hB2 := HBX1.out
  clear HBX1
  -- text 2
  obtain ⟨y0, y1, y2, y3⟩ : W2.cell? ⟨B, 8, none⟩ = some (.string ⟨#[97, 33, 98]⟩) ∧ W2.cell? ⟨B, 9, none⟩ = some (.int .i64 10) ∧ W2.cell? ⟨B, 10, none⟩ = some (.int .i64 1) ∧ W2.cell? ⟨B, 11, none⟩ = some (.string ⟨#[33]⟩) :=
    ⟨cell_at hB2 _ _ rfl, cell_at hB2 _ _ rfl, cell_at hB2 _ _ rfl, cell_at hB2 _ _ rfl⟩
  have HB2 := Lib.hid hB2
  clear hB2
  rw [rounds_succ]
  go_wp2_with fail
  refine (all_fault ⟨#[97, 33, 98]⟩ (by decide) 10 1 ⟨#[33]⟩ tk_known2 _ tp p (var_at (hbw2.alloc hbw2.size _) HV.out)).mono ?_
  rintro e V2 ⟨N2, rfl, hN2, hv2⟩
  obtain ⟨q0, q1, q2, q3, f0, f1, f2, f3, hz⟩ := own4 (heap_below hv2 (by simp) (heap_new W2 _))
  have hC2 := Lib.hid (heap_below hv2 (by simp; have := heap_lt HB2.out; omega) (heap_old HB2.out _))
  have hbv2 := (hbw2.alloc hbw2.size _).trans (hv2.mono (by simp; have := hbw2.size; omega))
  clear hv2 y0 y1 y2 y3
  have hT2 := told_own N2 10 1 ⟨#[33]⟩ rfl V2 hN2 (handle_at HG.out hbv2)
  clear hN2
  go_wp2_with fail
  refine hT2.mono ?_
  rintro e W3 ⟨rfl, hu2⟩
  have hB3 := heap_below hu2 (heap_lt hC2.out) hC2.out
  have hbw3 := hbv2.trans (hu2.mono hbv2.size)
  have HBX2 := Lib.hid hB3
  clear hT2 hC2 hu2 hB3 q0 q1 q2 q3 f0 f1 f2 f3 hz
  go_wp2_with fail
  have hB3 := HBX2.out
  clear HBX2
  -- text 3
  obtain ⟨y0, y1, y2, y3⟩ : W3.cell? ⟨B, 12, none⟩ = some (.string ⟨#[57, 50, 50, 51, 51, 55, 50, 48, 51, 54, 56, 53, 52, 55, 55, 53, 56, 48, 56]⟩) ∧ W3.cell? ⟨B, 13, none⟩ = some (.int .i64 3) ∧ W3.cell? ⟨B, 14, none⟩ = some (.int .i64 0) ∧ W3.cell? ⟨B, 15, none⟩ = some (.string ⟨#[57, 50, 50, 51, 51, 55, 50, 48, 51, 54, 56, 53, 52, 55, 55, 53, 56, 48, 56]⟩) :=
    ⟨cell_at hB3 _ _ rfl, cell_at hB3 _ _ rfl, cell_at hB3 _ _ rfl, cell_at hB3 _ _ rfl⟩
  have HB3 := Lib.hid hB3
  clear hB3
  rw [rounds_succ]
  go_wp2_with fail
  refine (all_fault ⟨#[57, 50, 50, 51, 51, 55, 50, 48, 51, 54, 56, 53, 52, 55, 55, 53, 56, 48, 56]⟩ (by decide) 3 0 ⟨#[57, 50, 50, 51, 51, 55, 50, 48, 51, 54, 56, 53, 52, 55, 55, 53, 56, 48, 56]⟩ tk_known3 _ tp p (var_at (hbw3.alloc hbw3.size _) HV.out)).mono ?_
  rintro e V3 ⟨N3, rfl, hN3, hv3⟩
  obtain ⟨q0, q1, q2, q3, f0, f1, f2, f3, hz⟩ := own4 (heap_below hv3 (by simp) (heap_new W3 _))
  have hC3 := Lib.hid (heap_below hv3 (by simp; have := heap_lt HB3.out; omega) (heap_old HB3.out _))
  have hbv3 := (hbw3.alloc hbw3.size _).trans (hv3.mono (by simp; have := hbw3.size; omega))
  clear hv3 y0 y1 y2 y3
  have hT3 := told_own N3 3 0 ⟨#[57, 50, 50, 51, 51, 55, 50, 48, 51, 54, 56, 53, 52, 55, 55, 53, 56, 48, 56]⟩ rfl V3 hN3 (handle_at HG.out hbv3)
  clear hN3
  go_wp2_with fail
  refine hT3.mono ?_
  rintro e W4 ⟨rfl, hu3⟩
  have hB4 := heap_below hu3 (heap_lt hC3.out) hC3.out
  have hbw4 := hbv3.trans (hu3.mono hbv3.size)
  have HBX3 := Lib.hid hB4
  clear hT3 hC3 hu3 hB4 q0 q1 q2 q3 f0 f1 f2 f3 hz
  go_wp2_with fail
  have hB4 := HBX3.out
  clear HBX3
  rw [rounds_succ]
  go_wp2_with fail
  go_ret
  exact ⟨rfl, hbw4⟩
end Go.Proofs.YtjngdhbaobbaeaaDoor
