/-
  P1.1: any text: its words, or its fault, as the document's own answer has them. The law's walk.
-/
import Derived.Test.YtjngdhbaobbaeaaDoorRefAll
import Derived.Test.YtjngdhbaobbaeaaDoorLawParted
import Derived.Test.YtjngdhbaobbaeaaDoorLawKnown
namespace Go.Proofs.YtjngdhbaobbaeaaDoor
open Go.RowKit

theorem Sc.toks_fault (s : ByteArray) : ∀ (f k : Nat) (x : Sc.Flt), (Sc.toks s f k).2 = some x → x.1 ≠ 0 := by
  intro f
  induction f with
  | zero => intro k x h; cases h
  | succ f ih =>
    intro k x h
    unfold Sc.toks at h
    by_cases h1 : s.size ≤ k
    · rw [if_pos h1] at h; cases h
    · rw [if_neg h1] at h
      by_cases hb : Sc.blan (Sc.byteAt s k) = true
      · rw [if_pos hb] at h; exact ih _ _ h
      · rw [if_neg hb] at h
        by_cases h35 : Sc.byteAt s k = 35
        · rw [if_pos h35] at h; exact ih _ _ h
        · rw [if_neg h35] at h
          by_cases he : Sc.fE (Sc.rest s k) ≠ 0
          · rw [if_pos he] at h
            injection h with h
            subst h
            exact he
          · rw [if_neg he] at h; exact ih _ _ h

set_option maxHeartbeats 400000 in
set_option maxRecDepth 100000 in
theorem words_nil (w : World) :
    Calls Tryd.prog 11 #[.slice none 0 0, .slice none 0 0] w fun e w' => e = .returned (.bool true) ∧ Below w.heap.size w w' := by
  go_enter Tryd.func11, Tryd.ntmps11
  go_wp2_with fail
  refine wp_loop_rounds 1 ?_
  rw [rounds_succ]
  go_wp2_with fail
  go_ret
  exact ⟨rfl, Below.refl _ _⟩

set_option maxHeartbeats 1000000 in
set_option maxRecDepth 100000 in
/-- both tell the same fault -/
theorem law_ScanAll_fault (s : ByteArray) (c : Int) (a : Nat) (t : ByteArray) (hc : (c == 0) = false) (w : World) (tp : TypeId) (p : Value) (hvar : w.var? Tryd.prog "strconv.ErrRange" = some #[.iface tp p])
    (hg : w.cell? ⟨0, 0, none⟩ = some (.iface 88 (.agg #[.pointer (some ⟨7, 24, none⟩)])))
    (h1 : ∀ w : World, w.var? Tryd.prog "strconv.ErrRange" = some #[.iface tp p] → Calls Tryd.prog 8 #[.string s] w fun e w' => ∃ N, e = .returned (.tuple #[.slice none 0 0, .iface 42 (.pointer (some ⟨N, 0, none⟩))]) ∧ w'.heap[N]? = some (.cells #[.int .i64 c, .int .i64 a, .string t] 44) ∧ Below w.heap.size w w')
    (h2 : ∀ w : World, Calls Tryd.prog 9 #[.string s] w fun e w' => e = .returned (.tuple #[.slice none 0 0, .agg #[.int .i64 c, .int .i64 a, .string t]]) ∧ Below w.heap.size w w') :
    Calls Tryd.prog 3 #[.string s] w fun e w' => e = .returned (.bool true) ∧ Below w.heap.size w w' := by
  have HV := Lib.hid hvar
  have HG := Lib.hid hg
  clear hvar hg
  go_enter Tryd.func3, Tryd.ntmps3
  go_wp2_with fail
  refine (h1 _ HV.out).mono ?_
  rintro e w1 ⟨N, rfl, hN, hb1⟩
  have HN := Lib.hid hN
  clear hN
  go_wp2_with fail
  refine (h2 _).mono ?_
  rintro e w2 ⟨rfl, hb2⟩
  have hB2 := hb1.trans (hb2.mono hb1.size)
  have HN2 := heap_below hb2 (heap_lt HN.out) HN.out
  have hT := told_own N c a t hc (w2.alloc (.cells #[.int .i64 c, .int .i64 a, .string t] 29)) (heap_old HN2 _) (handle_at HG.out (hB2.alloc hB2.size _))
  clear HN2
  go_wp2_with fail
  refine hT.mono ?_
  rintro e w3 ⟨rfl, hb3⟩
  have hB3 := (hB2.alloc hB2.size _).trans (hb3.mono (by have := hB2.size; simp; omega))
  clear hT hb3
  go_wp2_with fail
  refine (words_nil _).mono ?_
  rintro e w4 ⟨rfl, hb4⟩
  go_wp2_with fail
  go_ret
  exact ⟨rfl, hB3.trans (hb4.mono hB3.size)⟩

set_option maxHeartbeats 1000000 in
set_option maxRecDepth 100000 in
/-- both tell the same words -/
theorem law_ScanAll_words (s : ByteArray) (l : List Sc.Wd) (n : Nat) (hn : n = l.length) (hl : n ≤ 65537) (w : World) (tp : TypeId) (p : Value) (hvar : w.var? Tryd.prog "strconv.ErrRange" = some #[.iface tp p])
    (h1 : ∀ w : World, w.var? Tryd.prog "strconv.ErrRange" = some #[.iface tp p] → Calls Tryd.prog 8 #[.string s] w fun e w' => ∃ g cap, e = .returned (.tuple #[.slice (some ⟨g, 0, none⟩) n cap, .nilIface]) ∧ g < w'.heap.size ∧ Sc.HasWords w' g l n ∧ Below w.heap.size w w')
    (h2 : ∀ w : World, Calls Tryd.prog 9 #[.string s] w fun e w' => ∃ g cap, e = .returned (.tuple #[.slice (some ⟨g, 0, none⟩) n cap, .agg #[.int .i64 0, .int .i64 0, .string ⟨#[]⟩]]) ∧ g < w'.heap.size ∧ Sc.HasWords w' g l n ∧ Below w.heap.size w w') :
    Calls Tryd.prog 3 #[.string s] w fun e w' => e = .returned (.bool true) ∧ Below w.heap.size w w' := by
  have HV := Lib.hid hvar
  have HN := Lib.hid hn
  clear hvar hn
  go_enter Tryd.func3, Tryd.ntmps3
  go_wp2_with fail
  refine (h1 _ HV.out).mono ?_
  rintro e w1 ⟨g1, c1, rfl, hg1, hw1, hb1⟩
  have H1 := Lib.hid hw1
  clear hw1
  go_wp2_with fail
  refine (h2 _).mono ?_
  rintro e w2 ⟨g2, c2, rfl, hg2, hw2, hb2⟩
  have hB2 := hb1.trans (hb2.mono hb1.size)
  have hg1' : g1 < w2.heap.size := Nat.lt_of_lt_of_le hg1 hb2.size
  have H1' := Lib.hid (H1.out.keep hg1 hb2)
  have H2 := Lib.hid hw2
  clear hw2 H1
  go_wp2_with fail
  refine (told_nil _).mono ?_
  rintro e w3 ⟨rfl, hb3⟩
  have hb23 : Below w2.heap.size w2 w3 := ((Below.refl _ _).alloc (Nat.le_refl _) _).trans (hb3.mono (by simp))
  have hB3 := hB2.trans (hb23.mono hB2.size)
  have hws := words_same l n g1 g2 c1 c2 w3 (by rw [HN.out]; exact Nat.le_refl _) hl (H1'.out.keep hg1' hb23) (H2.out.keep hg2 hb23)
  clear hb3
  go_wp2_with fail
  refine hws.mono ?_
  rintro e w4 ⟨rfl, m, rfl⟩
  go_wp2_with fail
  go_ret
  exact ⟨rfl, below_drwr hB3 _⟩

theorem law_ScanAll (s : ByteArray) (_hz : s.size ≤ 281474976710656) (w : World) (tp : TypeId) (p : Value) (hvar : w.var? Tryd.prog "strconv.ErrRange" = some #[.iface tp p])
    (hg : w.cell? ⟨0, 0, none⟩ = some (.iface 88 (.agg #[.pointer (some ⟨7, 24, none⟩)]))) :
    Calls Tryd.prog 3 #[.string s] w fun e w' => e = .returned (.bool true) ∧ Below w.heap.size w w' := by
  by_cases hs : s.size ≤ 65536
  · cases hf : (Sc.tk s 0).2 with
    | none =>
      have len2 := Sc.toks_len s (s.size + 1) 0
      have e : (Sc.tk s 0).1.length + 1 = ((Sc.tk s 0).1 ++ [((0 : Int), (⟨#[]⟩ : ByteArray), (0 : Int), s.size)]).length := by simp
      refine law_ScanAll_words s ((Sc.tk s 0).1 ++ [(0, ⟨#[]⟩, 0, s.size)]) _ e (by unfold Sc.tk; omega) w tp p hvar (fun w hv => ?_) (fun w => ?_)
      · refine (all_words s hs hf w tp p hv).mono fun e' w' h => ?_
        obtain ⟨g, cap, h1, ho, _, _, hb⟩ := h
        refine ⟨g, cap, h1, (ho.lt g rfl).2, ?_, hb⟩
        rw [e]
        rw [e] at ho
        exact Sc.hasWords_of (X := []) (by rw [List.append_nil]; exact ho) (Nat.le_refl _)
      · refine (ref_All s hs w).mono fun e' w' h => ?_
        rcases h with ⟨v, _, h1, ho, hb⟩ | ⟨f, h1, _⟩
        · obtain ⟨g, cap, rfl, _, _⟩ := row_slice ho (by omega)
          refine ⟨g, cap, h1, (ho.lt g rfl).2, ?_, hb⟩
          rw [e]
          rw [e] at ho
          exact Sc.hasWords_of (X := []) (by rw [List.append_nil]; exact ho) (Nat.le_refl _)
        · rw [hf] at h1; cases h1
    | some f =>
      obtain ⟨c, a, t⟩ := f
      have hc := Sc.toks_fault s (s.size + 1) 0 _ hf
      refine law_ScanAll_fault s c a t (by rw [beq_eq_false_iff_ne]; exact hc) w tp p hvar hg (fun w hv => all_fault s hs c a t hf w tp p hv) (fun w => ?_)
      refine (ref_All s hs w).mono fun e' w' h => ?_
      rcases h with ⟨v, h1, _⟩ | ⟨f, h1, h2, hb⟩
      · rw [hf] at h1; cases h1
      · rw [hf] at h1
        injection h1 with h1
        subst h1
        exact ⟨h2, hb⟩
  · refine law_ScanAll_fault s 3 0 ⟨#[]⟩ rfl w tp p hvar hg (fun w hv => ?_) (fun w => ref_All_long s (by omega) w)
    refine (all_long s (by omega) w).mono fun e' w' h => ?_
    obtain ⟨N, h1, _, h2, hb⟩ := h
    exact ⟨N, h1, h2, hb⟩
end Go.Proofs.YtjngdhbaobbaeaaDoor
