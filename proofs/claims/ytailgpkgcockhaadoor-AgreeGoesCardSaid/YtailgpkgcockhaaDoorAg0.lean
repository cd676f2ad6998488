/-
  Types that agree: what the word says of forests.
-/
import Derived.Test.YtailgpkgcockhaaDoorRefFn
namespace Go.Proofs.YtailgpkgcockhaaDoor
namespace Ty
/-- lists of types that agree one by one -/
def agF : Fo → Fo → Bool
  | .nil, _ => true
  | .node _ _ _ _ _, .nil => true
  | .node _ _ k kids r, .node _ _ k' kids' r' => ((k == 0) || (k' == 0) || ((k == k') && agF kids kids')) && agF r r'
def agT (k : Int) (kids : Fo) (k' : Int) (kids' : Fo) : Bool := (k == 0) || (k' == 0) || ((k == k') && agF kids kids')
def agreeT (k : Int) (kids : Fo) (k' : Int) (kids' : Fo) : Bool := (chk k kids == 0) && (chk k' kids' == 0) && agT k kids k' kids'
theorem agF_symm : ∀ f g : Fo, agF f g = agF g f
  | .nil, .nil => rfl
  | .nil, .node _ _ _ _ _ => rfl
  | .node _ _ _ _ _, .nil => rfl
  | .node _ _ k kids r, .node _ _ k' kids' r' => by
    simp only [agF]
    rw [agF_symm kids kids', agF_symm r r', show (k == k') = (k' == k) by rw [Bool.eq_iff_iff]; simp only [beq_iff_eq]; exact eq_comm, Bool.or_comm (k == 0)]
theorem agT_symm (k : Int) (kids : Fo) (k' : Int) (kids' : Fo) : agT k' kids' k kids = agT k kids k' kids' := by
  unfold agT
  rw [agF_symm kids' kids, show (k' == k) = (k == k') by rw [Bool.eq_iff_iff]; simp only [beq_iff_eq]; exact eq_comm, Bool.or_comm (k' == 0)]
theorem agree_symm (k : Int) (kids : Fo) (k' : Int) (kids' : Fo) : agreeT k' kids' k kids = agreeT k kids k' kids' := by
  unfold agreeT
  rw [agT_symm, Bool.and_comm (chk k' kids' == 0)]
theorem agF_refl : ∀ f : Fo, agF f f = true
  | .nil => rfl
  | .node _ _ k kids r => by simp [agF, agF_refl kids, agF_refl r]
theorem agree_self (k : Int) (kids : Fo) : agreeT k kids k kids = (chk k kids == 0) := by
  unfold agreeT agT
  rw [agF_refl]
  simp
theorem agree_open (k : Int) (kids : Fo) : agreeT k kids 0 .nil = (chk k kids == 0) := by
  unfold agreeT agT
  simp [show chk 0 .nil = 0 from rfl]
/-- known lists, each of which is right, agree just if they are the same -/
theorem agF_known : ∀ f g : Fo, okF f = true → okF g = true → knF f = true → knF g = true → len f = len g → agF f g = eqF f g
  | .nil, .nil, _, _, _, _, _ => rfl
  | .nil, .node _ _ _ _ _, _, _, _, _, h => by simp only [len] at h; omega
  | .node _ _ _ _ _, .nil, _, _, _, _, h => by simp only [len] at h; omega
  | .node _ _ k kids r, .node _ _ k' kids' r', h1, h2, h3, h4, h5 => by
    simp only [okF, knF, Bool.and_eq_true, len] at h1 h2 h3 h4 h5
    have hk : (k == 0) = false := by have := h3.1.1; simpa using this
    have hk' : (k' == 0) = false := by have := h4.1.1; simpa using this
    simp only [agF, eqF]
    rw [hk, hk', agF_known r r' h1.2 h2.2 h3.2 h4.2 (by omega), Bool.false_or, Bool.false_or]
    by_cases e : k = k'
    · subst e
      rw [agF_known kids kids' h1.1.2 h2.1.2 h3.1.2 h4.1.2 (okK_same h1.1.1 h2.1.1)]
    · rw [show (k == k') = false by simpa using e]
      rfl
theorem agree_known (k : Int) (kids : Fo) (k' : Int) (kids' : Fo) (h1 : knownT k kids = true) (h2 : knownT k' kids' = true) : agreeT k kids k' kids' = sameT k kids k' kids' := by
  unfold knownT at h1 h2
  rw [Bool.and_eq_true] at h1 h2
  have a1 : chk k kids = 0 := by simpa using h1.1
  have a2 : chk k' kids' = 0 := by simpa using h2.1
  have b1 := (chk_ok a1).1
  have b2 := (chk_ok a2).1
  have c1 := h1.2
  have c2 := h2.2
  unfold okT at b1 b2
  unfold knT at c1 c2
  rw [Bool.and_eq_true] at b1 b2 c1 c2
  unfold agreeT sameT
  congr 1
  unfold agT eqT
  rw [show (k == 0) = false by have := c1.1; simpa using this, show (k' == 0) = false by have := c2.1; simpa using this, Bool.false_or, Bool.false_or]
  by_cases e : k = k'
  · subst e
    rw [agF_known kids kids' b1.2 b2.2 c1.2 c2.2 (okK_same b1.1 b2.1)]
  · rw [show (k == k') = false by simpa using e]
    rfl
theorem agT_zero_left (kids : Fo) (k' : Int) (kids' : Fo) : agT 0 kids k' kids' = true := rfl
theorem agT_zero_right (k : Int) (kids kids' : Fo) : agT k kids 0 kids' = true := by unfold agT; simp
theorem agT_ne {k k' : Int} (kids kids' : Fo) (h1 : k ≠ 0) (h2 : k' ≠ 0) (h : k ≠ k') : agT k kids k' kids' = false := by unfold agT; simp [h1, h2, h]
theorem agT_eq {k : Int} (kids kids' : Fo) (h1 : k ≠ 0) : agT k kids k kids' = agF kids kids' := by unfold agT; simp [h1]
/-- a right type's kids: none, or two -/
theorem two_of {k : Int} {kids : Fo} (h : okT k kids = true) (h3 : 3 ≤ k) : ∃ a b k1 f1 c d k2 f2, kids = .node a b k1 f1 (.node c d k2 f2 .nil) ∧ okT k1 f1 = true ∧ okT k2 f2 = true := by
  unfold okT okK at h
  rw [if_neg (by omega), Bool.and_eq_true] at h
  split at h
  · have hl : len kids = 2 := by simpa using h.1
    match kids, hl, h.2 with
    | .node a b k1 f1 (.node c d k2 f2 .nil), _, ho =>
      simp only [okF, Bool.and_eq_true] at ho
      exact ⟨a, b, k1, f1, c, d, k2, f2, rfl, by unfold okT; rw [Bool.and_eq_true]; exact ⟨ho.1.1, ho.1.2⟩, by unfold okT; rw [Bool.and_eq_true]; exact ⟨ho.2.1.1, ho.2.1.2⟩⟩
    | .nil, hl, _ => simp [len] at hl
    | .node _ _ _ _ .nil, hl, _ => simp [len] at hl
    | .node _ _ _ _ (.node _ _ _ _ (.node _ _ _ _ _)), hl, _ => simp [len] at hl
  · simp at h
theorem none_of {k : Int} {kids : Fo} (h : okT k kids = true) (h3 : k ≤ 2) : kids = .nil := by
  have h2 := h
  unfold okT okK at h
  have hr := okT_range h2
  rw [if_pos (by omega), Bool.and_eq_true] at h
  cases kids with
  | nil => rfl
  | node _ _ _ _ _ => simp [len] at h
end Ty
end Go.Proofs.YtailgpkgcockhaaDoor
