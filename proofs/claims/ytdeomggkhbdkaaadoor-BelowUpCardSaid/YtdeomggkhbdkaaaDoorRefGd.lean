/-
  The reference's Ground (where types.Text is not in reach).
-/
import Derived.Test.YtdeomggkhbdkaaaDoorRefFn
import Derived.Deep.RegionHeld3
import Derived.Deep.RegionWith
import Derived.Deep.DeepCutAuto
namespace Go.Proofs.YtdeomggkhbdkaaaDoor
open Go.RowKit

theorem heap_fr2 {w : World} {g k : Nat} {x : Obj} (h : w.heap[k]? = some x) (hk : k ≠ g) (u v : Value) : ((w.setCell ⟨g, 0, none⟩ u).setCell ⟨g, 1, none⟩ v).heap[k]? = some x := by
  rw [Below.heap_setCell _ _ _ k hk, Below.heap_setCell _ _ _ k hk]; exact h
set_option maxHeartbeats 2000000 in
set_option maxRecDepth 100000 in
theorem ref_ground (k : Int) (kids : Fo) (A : Option Addr) (n c : Nat) (w : World) (hIs : Ty.Is w k kids A n c) :
    Calls Tryd.prog 49 #[.agg #[.int .i8 k, .slice A n c]] w (GroundPost w k kids) := by
  have hB0 : Below w.heap.size w ((w.alloc (.cells #[.int .i8 k, .slice A n c] 25)).alloc (.cells #[.int .i8 0, .slice none 0 0] 25)) := ((Below.refl w.heap.size w).alloc (Nat.le_refl _) _).alloc (by simp) _
  have hR0 := heap_old (heap_new w (.cells #[.int .i8 k, .slice A n c] 25)) (.cells #[.int .i8 0, .slice none 0 0] 25)
  have hR1 : ((w.alloc (.cells #[.int .i8 k, .slice A n c] 25)).alloc (.cells #[.int .i8 0, .slice none 0 0] 25)).heap[w.heap.size + 1]? = some (.cells #[.int .i8 0, .slice none 0 0] 25) := by
    have := heap_new (w.alloc (.cells #[.int .i8 k, .slice A n c] 25)) (.cells #[.int .i8 0, .slice none 0 0] 25)
    simpa using this
  have HM := Lib.hid (fun (W : World) (hb : Below w.heap.size w W) => ref_check k kids A n c W (hIs.below hb))
  have R0 := Lib.hid hR0
  have R1 := Lib.hid hR1
  have hneq := hIs.n_eq
  clear hIs hR0 hR1
  by_cases h0 : Ty.chk k kids = 0
  · have hok := (Ty.chk_ok h0).1
    have hk := Ty.okT_range hok
    have hnk : Ty.okK k n = true := by unfold Ty.okT at hok; rw [Bool.and_eq_true] at hok; rw [hneq]; exact hok.1
    have e1 : Ty.gK k kids = k := by unfold Ty.gK; rw [if_pos h0]
    have e2 : Ty.gOk k kids = (k != 0) := by unfold Ty.gOk; rw [h0]; rfl
    have e3 : Ty.gKids k kids = if 3 ≤ k then Ty.two 0 .nil 0 .nil else .nil := by unfold Ty.gKids; simp [h0]
    rw [h0] at HM
    unfold GroundPost
    rw [e1, e2, e3]
    clear h0 e1 e2 e3 hok hneq
    rcases hk with rfl | rfl | rfl | rfl | rfl | rfl
    all_goals
      simp [Ty.okK] at hnk
      subst hnk
      go_enter Tryd.func49, Tryd.ntmps49
      go_wp2_with fail
      refine (HM.out _ hB0).mono ?_
      rintro e w3 ⟨rfl, hb⟩
      have hB1 := hB0.trans (hb.mono hB0.size)
      have hR1 := heap_below hb (heap_lt R1.out) R1.out
      obtain ⟨b0, b1, _, _, hb0⟩ := own2 (heap_below hb (heap_lt R0.out) R0.out)
      obtain ⟨d0, d1, f0, f1, hd0⟩ := own2 hR1
      have HR1 := Lib.hid hR1
      clear hb hR1
      go_wp2_with fail
    · refine bodyPost_ret (v := .tuple #[.agg #[.int .i8 0, .slice none 0 0], .bool false]) (by simp [results, Tryd.results49, go_sem, *]) rfl ⟨none, 0, 0, rfl, Ty.is_nil _ 0 (by omega) (by omega), .inl rfl, ?_⟩
      exact (hB1.setCell (by simp) _).setCell (by simp) _
    · refine bodyPost_ret (v := .tuple #[.agg #[.int .i8 1, .slice none 0 0], .bool true]) (by simp [results, Tryd.results49, go_sem, *]) rfl ⟨none, 0, 0, rfl, Ty.is_nil _ 1 (by omega) (by omega), .inl rfl, ?_⟩
      exact (hB1.setCell (by simp) _).setCell (by simp) _
    · refine bodyPost_ret (v := .tuple #[.agg #[.int .i8 2, .slice none 0 0], .bool true]) (by simp [results, Tryd.results49, go_sem, *]) rfl ⟨none, 0, 0, rfl, Ty.is_nil _ 2 (by omega) (by omega), .inl rfl, ?_⟩
      exact (hB1.setCell (by simp) _).setCell (by simp) _
    · refine (of_raw 3 0 none 0 0 0 none 0 0 _).mono ?_
      rintro e w4 ⟨N, rfl, hN, hc, hb⟩
      have hB2 := hB1.trans (hb.mono hB1.size)
      obtain ⟨d0, d1, f0, f1, hd0⟩ := own2 (heap_below hb (heap_lt HR1.out) HR1.out)
      have HC := Lib.hid hc
      have hne : N ≠ w.heap.size + 1 := by (try simp at hN); omega
      have hge : w.heap.size ≤ N := by (try simp at hN); omega
      clear hc hb b0 b1
      go_wp2_with fail
      refine bodyPost_ret (v := .tuple #[.agg #[.int .i8 3, .slice (some ⟨N, 0, none⟩) 2 2], .bool true]) (by simp [results, Tryd.results49, go_sem, *]) rfl ⟨_, 2, 2, rfl, ⟨Ty.lies_two (heap_fr2 HC.out hne _ _) (Ty.is_nil _ 0 (by omega) (by omega)) (Ty.is_nil _ 0 (by omega) (by omega)), rfl, Nat.le_refl _, by unfold maxLen; omega, by omega, by omega⟩, .inr ⟨_, rfl, hge, rfl, heap_fr2 HC.out hne _ _⟩, ?_⟩
      exact (hB2.setCell (by simp) _).setCell (by simp) _
    · refine (of_raw 4 0 none 0 0 0 none 0 0 _).mono ?_
      rintro e w4 ⟨N, rfl, hN, hc, hb⟩
      have hB2 := hB1.trans (hb.mono hB1.size)
      obtain ⟨d0, d1, f0, f1, hd0⟩ := own2 (heap_below hb (heap_lt HR1.out) HR1.out)
      have HC := Lib.hid hc
      have hne : N ≠ w.heap.size + 1 := by (try simp at hN); omega
      have hge : w.heap.size ≤ N := by (try simp at hN); omega
      clear hc hb b0 b1
      go_wp2_with fail
      refine bodyPost_ret (v := .tuple #[.agg #[.int .i8 4, .slice (some ⟨N, 0, none⟩) 2 2], .bool true]) (by simp [results, Tryd.results49, go_sem, *]) rfl ⟨_, 2, 2, rfl, ⟨Ty.lies_two (heap_fr2 HC.out hne _ _) (Ty.is_nil _ 0 (by omega) (by omega)) (Ty.is_nil _ 0 (by omega) (by omega)), rfl, Nat.le_refl _, by unfold maxLen; omega, by omega, by omega⟩, .inr ⟨_, rfl, hge, rfl, heap_fr2 HC.out hne _ _⟩, ?_⟩
      exact (hB2.setCell (by simp) _).setCell (by simp) _
    · refine (of_raw 5 0 none 0 0 0 none 0 0 _).mono ?_
      rintro e w4 ⟨N, rfl, hN, hc, hb⟩
      have hB2 := hB1.trans (hb.mono hB1.size)
      obtain ⟨d0, d1, f0, f1, hd0⟩ := own2 (heap_below hb (heap_lt HR1.out) HR1.out)
      have HC := Lib.hid hc
      have hne : N ≠ w.heap.size + 1 := by (try simp at hN); omega
      have hge : w.heap.size ≤ N := by (try simp at hN); omega
      clear hc hb b0 b1
      go_wp2_with fail
      refine bodyPost_ret (v := .tuple #[.agg #[.int .i8 5, .slice (some ⟨N, 0, none⟩) 2 2], .bool true]) (by simp [results, Tryd.results49, go_sem, *]) rfl ⟨_, 2, 2, rfl, ⟨Ty.lies_two (heap_fr2 HC.out hne _ _) (Ty.is_nil _ 0 (by omega) (by omega)) (Ty.is_nil _ 0 (by omega) (by omega)), rfl, Nat.le_refl _, by unfold maxLen; omega, by omega, by omega⟩, .inr ⟨_, rfl, hge, rfl, heap_fr2 HC.out hne _ _⟩, ?_⟩
      exact (hB2.setCell (by simp) _).setCell (by simp) _
  · have e1 : Ty.gK k kids = 0 := by unfold Ty.gK; rw [if_neg h0]
    have e2 : Ty.gOk k kids = false := by unfold Ty.gOk; simp [h0]
    have e3 : Ty.gKids k kids = .nil := by unfold Ty.gKids; rw [if_neg (fun h => h0 h.1)]
    unfold GroundPost
    rw [e1, e2, e3]
    have hc : (((Ty.chk k kids : Nat) : Int) != 0) = true := by simp; omega
    generalize Ty.chk k kids = C at *
    clear h0 e1 e2 e3 hneq
    go_enter Tryd.func49, Tryd.ntmps49
    go_wp2_with fail
    refine (HM.out _ hB0).mono ?_
    rintro e w3 ⟨rfl, hb⟩
    have hB1 := hB0.trans (hb.mono hB0.size)
    obtain ⟨b0, b1, _, _, hb0⟩ := own2 (heap_below hb (heap_lt R0.out) R0.out)
    obtain ⟨d0, d1, f0, f1, hd0⟩ := own2 (heap_below hb (heap_lt R1.out) R1.out)
    clear hb
    go_wp2_with fail
    refine bodyPost_ret (v := .tuple #[.agg #[.int .i8 0, .slice none 0 0], .bool false]) (by simp [results, Tryd.results49, go_sem, *]) rfl ⟨none, 0, 0, rfl, Ty.is_nil _ 0 (by omega) (by omega), .inl rfl, ?_⟩
    exact (hB1.setCell (by simp) _).setCell (by simp) _
end Go.Proofs.YtdeomggkhbdkaaaDoor
