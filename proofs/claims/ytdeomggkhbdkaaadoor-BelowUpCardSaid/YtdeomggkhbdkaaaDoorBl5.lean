/-
  Below, Pos, Neg of any two types: plain facts, for the laws.
-/
import Derived.Test.YtdeomggkhbdkaaaDoorBlQ3
namespace Go.Proofs.YtdeomggkhbdkaaaDoor
namespace Ty
theorem bel_iff {m : Nat} {k : Int} {kids : Fo} {k' : Int} {kids' : Fo} : belowT m k kids k' kids' = true ↔ chk k kids = 0 ∧ chk k' kids' = 0 ∧ relT m k kids k' kids' = true := by
  unfold belowT
  simp [Bool.and_eq_true, and_assoc]
theorem bel_off {m : Nat} {k : Int} {kids : Fo} {k' : Int} {kids' : Fo} (h : chk k kids ≠ 0 ∨ chk k' kids' ≠ 0) : belowT m k kids k' kids' = false := by
  unfold belowT
  rcases h with h | h <;> simp [h]
theorem bel_on {m : Nat} {k : Int} {kids : Fo} {k' : Int} {kids' : Fo} (h : chk k kids = 0) (h' : chk k' kids' = 0) : belowT m k kids k' kids' = relT m k kids k' kids' := by
  unfold belowT
  rw [h, h']; rfl
theorem bel_both (k : Int) (kids : Fo) (k' : Int) (kids' : Fo) : belowT 0 k kids k' kids' = (belowT 1 k kids k' kids' && belowT 2 k kids k' kids') := by
  by_cases h : chk k kids = 0
  · by_cases h' : chk k' kids' = 0
    · rw [bel_on h h', bel_on h h', bel_on h h']
      exact rel_both _ k kids k' kids' (Nat.lt_succ_self _) (chk_ok h).1 (chk_ok h').1
    · rw [bel_off (.inr h'), bel_off (.inr h')]; rfl
  · rw [bel_off (.inl h), bel_off (.inl h)]; rfl
theorem bel_less (k : Int) (kids : Fo) (k' : Int) (kids' : Fo) : lessT k' kids' k kids = (belowT 1 k kids k' kids' && belowT 2 k' kids' k kids) := by
  by_cases h : chk k kids = 0
  · by_cases h' : chk k' kids' = 0
    · rw [bel_on h h', bel_on h' h, ← rel_less _ k kids k' kids' (Nat.lt_succ_self _) (chk_ok h).1 (chk_ok h').1]
      unfold lessT
      rw [h, h']; rfl
    · rw [bel_off (.inr h')]
      unfold lessT
      simp [h']
  · rw [bel_off (.inl h)]
    unfold lessT
    simp [h]
theorem bel_self (m : Nat) (k : Int) (kids : Fo) : belowT m k kids k kids = (chk k kids == 0) := by
  by_cases h : chk k kids = 0
  · rw [bel_on h h, rel_self _ m k kids (Nat.lt_succ_self _) (chk_ok h).1, h]; rfl
  · rw [bel_off (.inl h)]; simp [h]
theorem bel_trans {k : Int} {kids : Fo} {k' : Int} {kids' : Fo} {k'' : Int} {kids'' : Fo} (h : belowT 0 k kids k' kids' = true) (h' : belowT 0 k' kids' k'' kids'' = true) : belowT 0 k kids k'' kids'' = true := by
  obtain ⟨h1, h2, h3⟩ := bel_iff.1 h
  obtain ⟨-, h5, h6⟩ := bel_iff.1 h'
  exact bel_iff.2 ⟨h1, h5, rel_trans _ k kids k' kids' k'' kids'' (Nat.lt_succ_self _) (chk_ok h1).1 (chk_ok h2).1 (chk_ok h5).1 h3 h6⟩
theorem bel_anti {k : Int} {kids : Fo} {k' : Int} {kids' : Fo} (h : belowT 0 k kids k' kids' = true) : belowT 0 k' kids' k kids = sameT k kids k' kids' := by
  obtain ⟨h1, h2, h3⟩ := bel_iff.1 h
  rw [bel_on h2 h1, rel_anti _ k kids k' kids' (Nat.lt_succ_self _) (chk_ok h1).1 (chk_ok h2).1 h3]
  unfold sameT
  rw [h1, h2]; rfl
theorem bel_known (m : Nat) {k : Int} {kids : Fo} {k' : Int} {kids' : Fo} (h : knownT k kids = true) (h' : knownT k' kids' = true) : belowT m k kids k' kids' = sameT k kids k' kids' := by
  unfold knownT at h h'
  rw [Bool.and_eq_true] at h h'
  have h1 : chk k kids = 0 := by simpa using h.1
  have h2 : chk k' kids' = 0 := by simpa using h'.1
  rw [bel_on h1 h2, rel_known _ m k kids k' kids' (Nat.lt_succ_self _) (chk_ok h1).1 (chk_ok h2).1 h.2 h'.2]
  unfold sameT
  rw [h1, h2]; rfl
theorem chk_pair {k1 k2 : Int} {f1 f2 : Fo} (h : chk 3 (two k1 f1 k2 f2) = 0) : chk 4 (two k1 f1 k2 f2) = 0 := by
  obtain ⟨h1, h2, h3⟩ := chk_ok h
  refine chk_of ?_ (by omega) (by omega)
  unfold okT at h1 ⊢
  rw [Bool.and_eq_true] at h1 ⊢
  exact ⟨rfl, h1.2⟩
theorem bel_pair {m : Nat} {a b c d : Int} {fa fb fc fd : Fo} (h : chk 3 (two a fa b fb) = 0) (h' : chk 3 (two c fc d fd) = 0) :
    belowT m 4 (two a fa b fb) 4 (two c fc d fd) = (belowT m a fa c fc && belowT m b fb d fd) := by
  obtain ⟨ha, hb⟩ := chk_kids h
  obtain ⟨hc, hd⟩ := chk_kids h'
  rw [bel_on (chk_pair h) (chk_pair h'), bel_on ha hc, bel_on hb hd]
  unfold two
  rw [rel_two _ (by decide)]
  rfl
theorem bel_fun {m : Nat} {a b c d : Int} {fa fb fc fd : Fo} (h : chk 3 (two a fa b fb) = 0) (h' : chk 3 (two c fc d fd) = 0) :
    belowT m 3 (two a fa b fb) 3 (two c fc d fd) = (belowT (sw m) c fc a fa && belowT m b fb d fd) := by
  obtain ⟨ha, hb⟩ := chk_kids h
  obtain ⟨hc, hd⟩ := chk_kids h'
  rw [bel_on h h', bel_on hc ha, bel_on hb hd]
  unfold two
  rw [rel_two _ (by decide)]
  rfl
end Ty
end Go.Proofs.YtdeomggkhbdkaaaDoor
