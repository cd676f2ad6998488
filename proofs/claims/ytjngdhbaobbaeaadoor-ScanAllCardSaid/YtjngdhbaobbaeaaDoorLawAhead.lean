/-
  P1.4: what stands behind a blank changes nothing of the words ahead of it. The law's walk.
-/
import Derived.Test.YtjngdhbaobbaeaaDoorAhead
import Derived.Test.YtjngdhbaobbaeaaDoorWords
namespace Go.Proofs.YtjngdhbaobbaeaaDoor
open Go.RowKit

theorem Sc.flat_get (l : List Sc.Wd) (X : List Value) : ∀ (k : Nat) (x : Sc.Wd), l[k]? = some x → (Sc.flat l ++ X)[k * 4]? = some (.int .i8 x.1) ∧ (Sc.flat l ++ X)[k * 4 + 1]? = some (.string x.2.1) ∧ (Sc.flat l ++ X)[k * 4 + 2]? = some (.int .i64 x.2.2.1) ∧ (Sc.flat l ++ X)[k * 4 + 3]? = some (.int .i64 x.2.2.2) := by
  induction l with
  | nil => intro k x h; simp at h
  | cons a l ih =>
    intro k x h
    have e : Sc.flat (a :: l) ++ X = [.int .i8 a.1, .string a.2.1, .int .i64 a.2.2.1, .int .i64 a.2.2.2] ++ (Sc.flat l ++ X) := by
      unfold Sc.flat; rw [List.flatMap_cons, List.append_assoc]
    rw [e]
    cases k with
    | zero => simp at h; subst h; simp
    | succ k =>
      have := ih k x (by simpa using h)
      rw [show (k + 1) * 4 = k * 4 + 4 by omega]
      simpa using this

theorem Sc.hasWords_of {w : World} {base : Nat} {e : TypeId} {g m cap : Nat} {l : List Sc.Wd} {X : List Value} (h : w.ownsRow base e 4 (.slice (some ⟨g, 0, none⟩) m cap) m (Sc.flat l ++ X)) (hm : l.length ≤ m) : Sc.HasWords w g l l.length := by
  intro k x hk hx
  obtain ⟨a0, a1, a2, a3⟩ := Sc.flat_get l X k x hx
  exact ⟨by rw [h.cellAt _ (by omega), a0], by rw [h.cellAt _ (by omega), a1], by rw [h.cellAt _ (by omega), a2], by rw [h.cellAt _ (by omega), a3]⟩

theorem row_slice {w : World} {base : Nat} {e : TypeId} {v : Value} {m : Nat} {xs : List Value} (h : w.ownsRow base e 4 v m xs) (hm : 0 < m) : ∃ g cap, v = .slice (some ⟨g, 0, none⟩) m cap ∧ m ≤ cap ∧ cap ≤ maxLen := by
  obtain ⟨_, h⟩ := h
  rcases h with ⟨_, h0⟩ | ⟨g, cap, cur, hv, _, _, h1, h2, _⟩
  · omega
  · exact ⟨g, cap, hv, h1, h2⟩

/-- whatever scan.All is handed: two results, nothing else turned -/
theorem all_some (s : ByteArray) (w : World) (tp : TypeId) (p : Value) (hvar : w.var? Tryd.prog "strconv.ErrRange" = some #[.iface tp p]) :
    Calls Tryd.prog 8 #[.string s] w fun e w' => ∃ v er, e = .returned (.tuple #[v, er]) ∧ Below w.heap.size w w' := by
  by_cases hs : s.size ≤ 65536
  · refine (all_loop s hs w tp p hvar).mono fun e w' h => ?_
    rcases h with ⟨v, _, rfl, _, hb⟩ | ⟨f, N, _, rfl, _, _, hb⟩
    · exact ⟨_, _, rfl, hb⟩
    · exact ⟨_, _, rfl, hb⟩
  · refine (all_long s (by omega) w).mono fun e w' h => ?_
    obtain ⟨N, rfl, _, _, hb⟩ := h
    exact ⟨_, _, rfl, hb⟩

/-- .. of a text that is too long, or has a fault: no words, and an error -/
theorem all_fails (s : ByteArray) (h : s.size ≤ 65536 → (Sc.tk s 0).2 ≠ none) (w : World) (tp : TypeId) (p : Value) (hvar : w.var? Tryd.prog "strconv.ErrRange" = some #[.iface tp p]) :
    Calls Tryd.prog 8 #[.string s] w fun e w' => ∃ N, e = .returned (.tuple #[.slice none 0 0, .iface 42 (.pointer (some ⟨N, 0, none⟩))]) ∧ Below w.heap.size w w' := by
  by_cases hs : s.size ≤ 65536
  · refine (all_loop s hs w tp p hvar).mono fun e w' h1 => ?_
    rcases h1 with ⟨v, h2, _⟩ | ⟨f, N, _, rfl, _, _, hb⟩
    · exact absurd h2 (h hs)
    · exact ⟨_, rfl, hb⟩
  · refine (all_long s (by omega) w).mono fun e w' h1 => ?_
    obtain ⟨N, rfl, _, _, hb⟩ := h1
    exact ⟨_, rfl, hb⟩

/-- .. of a text without a fault: its words -/
theorem all_words (s : ByteArray) (hs : s.size ≤ 65536) (h : (Sc.tk s 0).2 = none) (w : World) (tp : TypeId) (p : Value) (hvar : w.var? Tryd.prog "strconv.ErrRange" = some #[.iface tp p]) :
    Calls Tryd.prog 8 #[.string s] w fun e w' => ∃ g cap, e = .returned (.tuple #[.slice (some ⟨g, 0, none⟩) ((Sc.tk s 0).1.length + 1) cap, .nilIface]) ∧ w'.ownsRow (w.heap.size + 1) 37 4 (.slice (some ⟨g, 0, none⟩) ((Sc.tk s 0).1.length + 1) cap) ((Sc.tk s 0).1.length + 1) (Sc.flat ((Sc.tk s 0).1 ++ [(0, ⟨#[]⟩, 0, s.size)])) ∧ (Sc.tk s 0).1.length + 1 ≤ cap ∧ cap ≤ maxLen ∧ Below w.heap.size w w' := by
  refine (all_loop s hs w tp p hvar).mono fun e w' h1 => ?_
  rcases h1 with ⟨v, _, rfl, ho, hb⟩ | ⟨f, N, h2, _⟩
  · obtain ⟨g, cap, rfl, h3, h4⟩ := row_slice ho (by omega)
    exact ⟨g, cap, rfl, ho, h3, h4, hb⟩
  · rw [h] at h2; cases h2

set_option maxHeartbeats 400000 in
set_option maxRecDepth 100000 in
theorem law_ScanAhead_fails (a b : ByteArray) (ha : a.size ≤ 281474976710656) (hb : b.size ≤ 281474976710656) (h : ((a ++ (⟨#[32]⟩ : ByteArray)) ++ b).size ≤ 65536 → (Sc.tk ((a ++ (⟨#[32]⟩ : ByteArray)) ++ b) 0).2 ≠ none) (w : World) (tp : TypeId) (p : Value) (hvar : w.var? Tryd.prog "strconv.ErrRange" = some #[.iface tp p]) :
    Calls Tryd.prog 7 #[.string a, .string b] w fun e w' => e = .returned (.bool true) ∧ Below w.heap.size w w' := by
  have HV := Lib.hid hvar
  have h1 := all_some (a ++ ⟨#[32]⟩) w tp p hvar
  have h2 := all_fails _ h
  clear hvar h
  go_enter Tryd.func7, Tryd.ntmps7
  go_wp2_with fail
  refine h1.mono ?_
  rintro e w1 ⟨v, er, rfl, hb1⟩
  go_wp2_with fail
  refine (h2 _ tp p (var_at hb1 HV.out)).mono ?_
  rintro e w2 ⟨N, rfl, hb2⟩
  go_wp2_with fail
  go_ret
  exact ⟨rfl, hb1.trans (hb2.mono hb1.size)⟩

theorem len_sub (m : Nat) (h : 1 ≤ m) (h2 : m ≤ 65537) : IntKind.i64.wrap ((m : Int) - 1) = (m : Int) - 1 := IntWalk.i64_in _ (by omega)

set_option maxHeartbeats 1000000 in
set_option maxRecDepth 100000 in
theorem law_ScanAhead_takes (a b : ByteArray) (ha : a.size ≤ 65536) (hb : b.size ≤ 65536) (w : World) (tp : TypeId) (p : Value) (hvar : w.var? Tryd.prog "strconv.ErrRange" = some #[.iface tp p])
    (l1 _l2 X1 X2 : List Sc.Wd) (n m1 m2 : Nat) (hn : n = l1.length) (hm1 : m1 = n + 1) (hm2 : m1 ≤ m2) (hmm : m2 ≤ 65537)
    (h1 : ∀ w : World, w.var? Tryd.prog "strconv.ErrRange" = some #[.iface tp p] → Calls Tryd.prog 8 #[.string (a ++ (⟨#[32]⟩ : ByteArray))] w fun e w' => ∃ g cap, e = .returned (.tuple #[.slice (some ⟨g, 0, none⟩) m1 cap, .nilIface]) ∧ w'.ownsRow (w.heap.size + 1) 37 4 (.slice (some ⟨g, 0, none⟩) m1 cap) m1 (Sc.flat (l1 ++ X1)) ∧ m1 ≤ cap ∧ cap ≤ maxLen ∧ Below w.heap.size w w')
    (h2 : ∀ w : World, w.var? Tryd.prog "strconv.ErrRange" = some #[.iface tp p] → Calls Tryd.prog 8 #[.string ((a ++ (⟨#[32]⟩ : ByteArray)) ++ b)] w fun e w' => ∃ g cap, e = .returned (.tuple #[.slice (some ⟨g, 0, none⟩) m2 cap, .nilIface]) ∧ w'.ownsRow (w.heap.size + 1) 37 4 (.slice (some ⟨g, 0, none⟩) m2 cap) m2 (Sc.flat (l1 ++ X2)) ∧ m2 ≤ cap ∧ cap ≤ maxLen ∧ Below w.heap.size w w') :
    Calls Tryd.prog 7 #[.string a, .string b] w fun e w' => e = .returned (.bool true) ∧ Below w.heap.size w w' := by
  have HV := Lib.hid hvar
  have HN := Lib.hid hn
  have HM := Lib.hid hm1
  have hw1 := len_sub m1 (by omega) (by omega)
  have k1 : (0 : Int) ≤ (m1 : Int) - 1 := by omega
  have k2 : ((m1 : Int) - 1).toNat = n := by omega
  have k3 : (m1 : Int) ≤ m2 := by omega
  have k4 : 0 < m1 := by omega
  clear hvar hn hm1
  go_enter Tryd.func7, Tryd.ntmps7
  go_wp2_with fail
  refine (h1 _ HV.out).mono ?_
  rintro e w1 ⟨g1, c1, rfl, ho1, d1, d2, hb1⟩
  go_wp2_with fail
  refine (h2 _ (var_at hb1 HV.out)).mono ?_
  rintro e w2 ⟨g2, c2, rfl, ho2, d3, d4, hb2⟩
  have W1 : Sc.HasWords w2 g1 l1 l1.length := Sc.hasWords_of (X := Sc.flat X1) (by have := ownsRow_below ho1 hb2; unfold Sc.flat at this ⊢; rwa [List.flatMap_append] at this) (by have := HN.out; have := HM.out; omega)
  have W2 : Sc.HasWords w2 g2 l1 l1.length := Sc.hasWords_of (X := Sc.flat X2) (by have := ho2; unfold Sc.flat at this ⊢; rwa [List.flatMap_append] at this) (by have := HN.out; have := HM.out; omega)
  rw [← HN.out] at W1 W2
  have hws := fun (q1 q2 : Nat) (wx : World) (z1 : Sc.HasWords wx g1 l1 n) (z2 : Sc.HasWords wx g2 l1 n) => words_same l1 n g1 g2 q1 q2 wx (by rw [HN.out]; exact Nat.le_refl _) (by have := HM.out; omega) z1 z2
  clear ho1 ho2
  go_wp2_with fail
  go_quiet ((go_at_call 11; exact Calls.quiet_of (hws _ _ _ W1 W2)))
  go_wp2_with fail
  go_ret
  exact ⟨rfl, below_drwr (hb1.trans (hb2.mono hb1.size)) _⟩

theorem Sc.toks_len (s : ByteArray) : ∀ (f k : Nat), (Sc.toks s f k).1.length ≤ s.size - k := by
  intro f
  induction f with
  | zero => intro k; exact Nat.zero_le _
  | succ f ih =>
    intro k
    unfold Sc.toks
    by_cases h : s.size ≤ k
    · rw [if_pos h]; exact Nat.zero_le _
    · rw [if_neg h]
      by_cases hb : Sc.blan (Sc.byteAt s k) = true
      · rw [if_pos hb]; have := ih (k + 1); omega
      · rw [if_neg hb]
        by_cases h35 : Sc.byteAt s k = 35
        · rw [if_pos h35]; have := ih (k + Sc.skipN s k); omega
        · rw [if_neg h35]
          by_cases he : Sc.fE (Sc.rest s k) ≠ 0
          · rw [if_pos he]; exact Nat.zero_le _
          · rw [if_neg he]
            have h1 := ih (k + Sc.fN (Sc.rest s k))
            have h2 := Sc.fN_pos (Sc.rest s k) (by rw [Sc.rest_size]; omega)
            simp only [List.length_cons]
            omega

theorem law_ScanAhead (a b : ByteArray) (ha : a.size ≤ 281474976710656) (hb : b.size ≤ 281474976710656) (w : World) (tp : TypeId) (p : Value) (hvar : w.var? Tryd.prog "strconv.ErrRange" = some #[.iface tp p]) :
    Calls Tryd.prog 7 #[.string a, .string b] w fun e w' => e = .returned (.bool true) ∧ Below w.heap.size w w' := by
  by_cases hf : ((a ++ (⟨#[32]⟩ : ByteArray)) ++ b).size ≤ 65536 ∧ (Sc.tk ((a ++ (⟨#[32]⟩ : ByteArray)) ++ b) 0).2 = none
  · obtain ⟨h1, h2⟩ := hf
    have hs1 : (a ++ (⟨#[32]⟩ : ByteArray)).size ≤ 65536 := by
      rw [ByteArray.size_append] at h1; omega
    have e1 : (a ++ (⟨#[32]⟩ : ByteArray)).data.toList = a.data.toList ++ [32] := by simp
    have e2 : ((a ++ (⟨#[32]⟩ : ByteArray)) ++ b).data.toList = a.data.toList ++ 32 :: b.data.toList := by simp
    obtain ⟨g1, r, g2⟩ := Sc.ahead _ _ _ _ e1 e2 (a.data.toList.length + 1) 0 rfl h2
    have len2 := Sc.toks_len ((a ++ (⟨#[32]⟩ : ByteArray)) ++ b) (((a ++ (⟨#[32]⟩ : ByteArray)) ++ b).size + 1) 0
    have len2' : (Sc.tk ((a ++ (⟨#[32]⟩ : ByteArray)) ++ b) 0).1.length ≤ 65536 := by unfold Sc.tk; omega
    have hh1 := all_words _ hs1 g1
    have hh2 := all_words _ h1 h2
    rw [g2] at hh2 len2'
    rw [List.length_append] at len2'
    refine law_ScanAhead_takes a b ?_ ?_ w tp p hvar (Sc.tk (a ++ (⟨#[32]⟩ : ByteArray)) 0).1 [] [(0, ⟨#[]⟩, 0, (a ++ (⟨#[32]⟩ : ByteArray)).size)] (r ++ [(0, ⟨#[]⟩, 0, ((a ++ (⟨#[32]⟩ : ByteArray)) ++ b).size)]) _ _ ((Sc.tk (a ++ (⟨#[32]⟩ : ByteArray)) 0).1.length + r.length + 1) rfl rfl (by omega) (by omega) (fun w hv => hh1 w tp p hv) fun w hv => ?_
    · rw [ByteArray.size_append] at hs1; omega
    · rw [ByteArray.size_append] at h1; omega
    · have := hh2 w tp p hv
      rw [List.length_append, List.append_assoc] at this
      exact this
  · exact law_ScanAhead_fails a b ha hb (fun h1 h2 => hf ⟨h1, h2⟩) w tp p hvar
end Go.Proofs.YtjngdhbaobbaeaaDoor
