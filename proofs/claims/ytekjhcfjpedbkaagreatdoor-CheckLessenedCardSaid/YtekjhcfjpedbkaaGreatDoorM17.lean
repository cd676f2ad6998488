/-
  Layer 9: what the rules tell of a term that is less precise is less precise. Layer 9: the rules tell of a term that is less precise a type that is less precise. order.lessTerm. order.Terms.
-/
import Derived.Test.YtekjhcfjpedbkaaGreatDoorM14
import Derived.Test.YtekjhcfjpedbkaaGreatDoorM16
import Derived.Test.YtekjhcfjpedbkaaGreatDoorLow
import Derived.Deep.RegionHeld3
import Derived.Deep.DeepCutAuto
namespace Go.Proofs.YtekjhcfjpedbkaaGreatDoor
namespace Ty
theorem okK_len {k : Int} {n m : Nat} (h : okK k n = true) (h' : okK k m = true) : n = m := by
  unfold okK at h h'
  split at h
  · rename_i e; rw [if_pos e] at h'; simp at h h'; omega
  · rename_i e
    rw [if_neg e] at h'
    split at h
    · rename_i e2; rw [if_pos e2] at h'; simp at h h'; omega
    · cases h
/-- what is less precise has no more nodes, and is no deeper -/
theorem leF_size : ∀ f g : Fo, okF f = true → okF g = true → len f = len g → leF f g = true → nodes f ≤ nodes g ∧ dep f ≤ dep g
  | .nil, _, _, _, _, _ => ⟨Nat.zero_le _, Nat.zero_le _⟩
  | .node _ _ _ _ _, .nil, _, _, h, _ => by simp only [len] at h; omega
  | .node _ _ k kids r, .node _ _ k' kids' r', h1, h2, h3, h4 => by
    simp only [okF, Bool.and_eq_true, len] at h1 h2 h3
    simp only [leF, Bool.and_eq_true, Bool.or_eq_true, beq_iff_eq] at h4
    obtain ⟨a, b⟩ := leF_size r r' h1.2 h2.2 (by omega) h4.2
    simp only [nodes, dep]
    rcases h4.1 with e | ⟨e, hk⟩
    · subst e
      obtain rfl := kids_zero h1.1.1
      simp only [nodes, dep]
      omega
    · subst e
      obtain ⟨c, d⟩ := leF_size kids kids' h1.1.2 h2.1.2 (okK_len h1.1.1 h2.1.1) hk
      omega
theorem leT_size {k : Int} {kids : Fo} {k' : Int} {kids' : Fo} (h : okT k kids = true) (h' : okT k' kids' = true) (hl : leT k kids k' kids' = true) : nodes kids ≤ nodes kids' ∧ dep kids ≤ dep kids' := by
  unfold okT at h h'
  rw [Bool.and_eq_true] at h h'
  unfold leT at hl
  simp only [Bool.or_eq_true, Bool.and_eq_true, beq_iff_eq] at hl
  rcases hl with e | ⟨e, hk⟩
  · subst e
    obtain rfl := kids_zero h.1
    exact ⟨Nat.zero_le _, Nat.zero_le _⟩
  · subst e
    exact leF_size kids kids' h.2 h'.2 (okK_len h.1 h'.1) hk
theorem chk_of {k : Int} {kids : Fo} (h : okT k kids = true) (h1 : nodes kids + 1 ≤ 8192) (h2 : dep kids + 1 ≤ 200) : chk k kids = 0 := by
  unfold okT at h
  unfold chk
  rw [if_neg (by omega), if_neg (by omega), if_pos h]
theorem leT_chk {k : Int} {kids : Fo} {k' : Int} {kids' : Fo} (h : okT k kids = true) (h' : chk k' kids' = 0) (hl : leT k kids k' kids' = true) : chk k kids = 0 := by
  obtain ⟨a, b, c⟩ := chk_ok h'
  obtain ⟨d, e⟩ := leT_size h a hl
  exact chk_of h (by omega) (by omega)
/-- types that agree go on agreeing when they get less precise -/
theorem agF_le : ∀ f g f' g' : Fo, okF f = true → okF g = true → okF f' = true → okF g' = true → len f' = len f → len g' = len g → leF f' f = true → leF g' g = true → agF f g = true → agF f' g' = true
  | _, _, .nil, _, _, _, _, _, _, _, _, _, _ => rfl
  | _, _, .node _ _ _ _ _, .nil, _, _, _, _, _, _, _, _, _ => rfl
  | .nil, _, .node _ _ _ _ _, .node _ _ _ _ _, _, _, _, _, h, _, _, _, _ => by simp only [len] at h; omega
  | .node _ _ _ _ _, .nil, .node _ _ _ _ _, .node _ _ _ _ _, _, _, _, _, _, h, _, _, _ => by simp only [len] at h; omega
  | .node _ _ k kids r, .node _ _ m mids s, .node _ _ k' kids' r', .node _ _ m' mids' s', h1, h2, h3, h4, h5, h6, h7, h8, h9 => by
    simp only [okF, Bool.and_eq_true, len] at h1 h2 h3 h4 h5 h6
    simp only [leF, agF, Bool.and_eq_true, Bool.or_eq_true, beq_iff_eq] at h7 h8 h9 ⊢
    refine ⟨?_, agF_le r s r' s' h1.2 h2.2 h3.2 h4.2 (by omega) (by omega) h7.2 h8.2 h9.2⟩
    by_cases z1 : k' = 0
    · exact .inl (.inl z1)
    by_cases z2 : m' = 0
    · exact .inl (.inr z2)
    rcases h7.1 with e | ⟨e, a⟩
    · exact absurd e z1
    rcases h8.1 with e' | ⟨e', b⟩
    · exact absurd e' z2
    subst e e'
    rcases h9.1 with (q | q) | ⟨q, c⟩
    · exact absurd q z1
    · exact absurd q z2
    subst q
    exact .inr ⟨rfl, agF_le kids mids kids' mids' h1.1.2 h2.1.2 h3.1.2 h4.1.2 (okK_len h3.1.1 h1.1.1) (okK_len h4.1.1 h2.1.1) a b c⟩
/-- where two meet is a right type -/
theorem mF_ok : ∀ f g : Fo, okF f = true → okF g = true → len f = len g → agF f g = true → okF (mF f g) = true ∧ len (mF f g) = len f
  | .nil, _, _, _, _, _ => ⟨rfl, rfl⟩
  | .node _ _ _ _ _, .nil, _, _, h, _ => by simp only [len] at h; omega
  | .node _ _ k kids r, .node _ _ m mids s, h1, h2, h3, h4 => by
    simp only [okF, Bool.and_eq_true, len] at h1 h2 h3
    simp only [agF, Bool.and_eq_true, Bool.or_eq_true, beq_iff_eq] at h4
    obtain ⟨a, b⟩ := mF_ok r s h1.2 h2.2 (by omega) h4.2
    simp only [mF, okF, Bool.and_eq_true, len, b, and_true]
    refine ⟨?_, a⟩
    by_cases z1 : k = 0
    · rw [if_pos z1, if_pos z1]; exact h2.1
    by_cases z2 : m = 0
    · rw [if_neg z1, if_neg z1, if_pos z2]; exact h1.1
    rw [if_neg z1, if_neg z1, if_neg z2]
    rcases h4.1 with (q | q) | ⟨q, c⟩
    · exact absurd q z1
    · exact absurd q z2
    subst q
    obtain ⟨x, y⟩ := mF_ok kids mids h1.1.2 h2.1.2 (okK_len h1.1.1 h2.1.1) c
    exact ⟨by rw [y]; exact h1.1.1, x⟩
theorem mT_ok {k : Int} {kids : Fo} {m : Int} {mids : Fo} (h : okT k kids = true) (h' : okT m mids = true) (ha : agT k kids m mids = true) : okT (mK k m) (mT k kids m mids) = true := by
  unfold mK mT
  by_cases z1 : k = 0
  · rw [if_pos z1, if_pos z1]; exact h'
  by_cases z2 : m = 0
  · rw [if_neg z1, if_neg z1, if_pos z2]; exact h
  rw [if_neg z1, if_neg z1, if_neg z2]
  unfold agT at ha
  simp only [Bool.or_eq_true, Bool.and_eq_true, beq_iff_eq] at ha
  rcases ha with (q | q) | ⟨q, c⟩
  · exact absurd q z1
  · exact absurd q z2
  subst q
  unfold okT at h h' ⊢
  rw [Bool.and_eq_true] at h h' ⊢
  obtain ⟨x, y⟩ := mF_ok kids mids h.2 h'.2 (okK_len h.1 h'.1) c
  exact ⟨by rw [y]; exact h.1, x⟩
/-- each of two that agree is less precise than where they meet -/
theorem le_meet_left : ∀ f g f' : Fo, okF f = true → okF g = true → okF f' = true → len f = len g → len f' = len f → leF f' f = true → agF f g = true → leF f' (mF f g) = true
  | _, _, .nil, _, _, _, _, _, _, _ => rfl
  | .nil, _, .node _ _ _ _ _, _, _, _, _, h, _, _ => by simp only [len] at h; omega
  | .node _ _ _ _ _, .nil, .node _ _ _ _ _, _, _, _, h, _, _, _ => by simp only [len] at h; omega
  | .node _ _ k kids r, .node _ _ m mids s, .node _ _ k' kids' r', h1, h2, h3, h0, h5, h7, h9 => by
    simp only [okF, Bool.and_eq_true, len] at h1 h2 h3 h5 h0
    simp only [leF, agF, Bool.and_eq_true, Bool.or_eq_true, beq_iff_eq] at h7 h9
    simp only [mF, leF, Bool.and_eq_true, Bool.or_eq_true, beq_iff_eq]
    refine ⟨?_, le_meet_left r s r' h1.2 h2.2 h3.2 (by omega) (by omega) h7.2 h9.2⟩
    rcases h7.1 with e | ⟨e, a⟩
    · exact .inl e
    subst e
    by_cases z1 : k' = 0
    · exact .inl z1
    right
    rw [if_neg z1, if_neg z1]
    refine ⟨rfl, ?_⟩
    by_cases z2 : m = 0
    · rw [if_pos z2]; exact a
    rw [if_neg z2]
    rcases h9.1 with (q | q) | ⟨q, c⟩
    · exact absurd q z1
    · exact absurd q z2
    subst q
    exact le_meet_left kids mids kids' h1.1.2 h2.1.2 h3.1.2 (okK_len h1.1.1 h2.1.1) (okK_len h3.1.1 h1.1.1) a c
theorem le_meet_right : ∀ f g g' : Fo, okF f = true → okF g = true → okF g' = true → len f = len g → len g' = len g → leF g' g = true → agF f g = true → leF g' (mF f g) = true
  | _, _, .nil, _, _, _, _, _, _, _ => rfl
  | _, .nil, .node _ _ _ _ _, _, _, _, _, h, _, _ => by simp only [len] at h; omega
  | .nil, .node _ _ _ _ _, .node _ _ _ _ _, _, _, _, h, _, _, _ => by simp only [len] at h; omega
  | .node _ _ k kids r, .node _ _ m mids s, .node _ _ m' mids' s', h1, h2, h3, h0, h5, h7, h9 => by
    simp only [okF, Bool.and_eq_true, len] at h1 h2 h3 h5 h0
    simp only [leF, agF, Bool.and_eq_true, Bool.or_eq_true, beq_iff_eq] at h7 h9
    simp only [mF, leF, Bool.and_eq_true, Bool.or_eq_true, beq_iff_eq]
    refine ⟨?_, le_meet_right r s s' h1.2 h2.2 h3.2 (by omega) (by omega) h7.2 h9.2⟩
    rcases h7.1 with e | ⟨e, a⟩
    · exact .inl e
    subst e
    by_cases z1 : m' = 0
    · exact .inl z1
    right
    by_cases z2 : k = 0
    · rw [if_pos z2, if_pos z2]; exact ⟨rfl, a⟩
    rcases h9.1 with (q | q) | ⟨q, c⟩
    · exact absurd q z2
    · exact absurd q z1
    subst q
    rw [if_neg z1, if_neg z1, if_neg z1]
    exact ⟨rfl, le_meet_right kids mids mids' h1.1.2 h2.1.2 h3.1.2 (okK_len h1.1.1 h2.1.1) (okK_len h3.1.1 h2.1.1) a c⟩
/-- where two meet that are less precise is less precise -/
theorem mF_le : ∀ f g f' g' : Fo, okF f = true → okF g = true → okF f' = true → okF g' = true → len f = len g → len f' = len f → len g' = len g → leF f' f = true → leF g' g = true → agF f g = true → leF (mF f' g') (mF f g) = true
  | _, _, .nil, _, _, _, _, _, _, _, _, _, _, _ => rfl
  | .nil, _, .node _ _ _ _ _, _, _, _, _, _, _, h, _, _, _, _ => by simp only [len] at h; omega
  | .node _ _ _ _ _, .nil, .node _ _ _ _ _, _, _, _, _, _, h, _, _, _, _, _ => by simp only [len] at h; omega
  | .node _ _ _ _ _, .node _ _ _ _ _, .node _ _ _ _ _, .nil, _, _, _, _, _, _, h, _, _, _ => by simp only [len] at h; omega
  | .node _ _ k kids r, .node _ _ m mids s, .node _ _ k' kids' r', .node _ _ m' mids' s', h1, h2, h3, h4, h0, h5, h6, h7, h8, h9 => by
    simp only [okF, Bool.and_eq_true, len] at h1 h2 h3 h4 h5 h6 h0
    simp only [leF, agF, Bool.and_eq_true, Bool.or_eq_true, beq_iff_eq] at h7 h8 h9
    simp only [mF, leF, Bool.and_eq_true]
    refine ⟨?_, mF_le r s r' s' h1.2 h2.2 h3.2 h4.2 (by omega) (by omega) (by omega) h7.2 h8.2 h9.2⟩
    simp only [Bool.or_eq_true, Bool.and_eq_true, beq_iff_eq]
    by_cases z1 : k' = 0
    · by_cases z2 : m' = 0
      · exact .inl (by rw [if_pos z1]; exact z2)
      rw [if_pos z1, if_pos z1]
      rcases h8.1 with e' | ⟨e', b⟩
      · exact absurd e' z2
      subst e'
      right
      by_cases y1 : k = 0
      · rw [if_pos y1, if_pos y1]; exact ⟨rfl, b⟩
      rcases h9.1 with (q | q) | ⟨q, c⟩
      · exact absurd q y1
      · exact absurd q z2
      subst q
      rw [if_neg y1, if_neg y1, if_neg z2]
      refine ⟨rfl, ?_⟩
      exact le_meet_right kids mids mids' h1.1.2 h2.1.2 h4.1.2 (okK_len h1.1.1 h2.1.1) (okK_len h4.1.1 h2.1.1) b c
    · rcases h7.1 with e | ⟨e, a⟩
      · exact absurd e z1
      subst e
      right
      rw [if_neg z1, if_neg z1, if_neg z1, if_neg z1]
      refine ⟨rfl, ?_⟩
      by_cases z2 : m' = 0
      · rw [if_pos z2]
        by_cases y2 : m = 0
        · rw [if_pos y2]; exact a
        rw [if_neg y2]
        rcases h9.1 with (q | q) | ⟨q, c⟩
        · exact absurd q z1
        · exact absurd q y2
        subst q
        exact le_meet_left kids mids kids' h1.1.2 h2.1.2 h3.1.2 (okK_len h1.1.1 h2.1.1) (okK_len h3.1.1 h1.1.1) a c
      · rcases h8.1 with e' | ⟨e', b⟩
        · exact absurd e' z2
        subst e'
        rw [if_neg z2, if_neg z2]
        rcases h9.1 with (q | q) | ⟨q, c⟩
        · exact absurd q z1
        · exact absurd q z2
        subst q
        exact mF_le kids mids kids' mids' h1.1.2 h2.1.2 h3.1.2 h4.1.2 (okK_len h1.1.1 h2.1.1) (okK_len h3.1.1 h1.1.1) (okK_len h4.1.1 h2.1.1) a b c
end Ty
namespace Ck
def le2 (a b : T2) : Prop := chk a = 0 ∧ chk b = 0 ∧ Ty.leT a.1 a.2 b.1 b.2 = true
theorem le2.refl {a : T2} (h : chk a = 0) : le2 a a := ⟨h, h, by unfold Ty.leT; simp [Ty.leF_refl]⟩
theorem ag_le {a b a' b' : T2} (h1 : le2 a' a) (h2 : le2 b' b) (h : ag a b = true) : ag a' b' = true := by
  obtain ⟨x, y, z⟩ := h1
  obtain ⟨x', y', z'⟩ := h2
  unfold ag Ty.agreeT at h ⊢
  unfold chk at x y x' y'
  rw [x, x']
  simp only [Bool.and_eq_true, beq_iff_eq] at h
  have q := Ty.agF_le (.node 0 0 a.1 a.2 .nil) (.node 0 0 b.1 b.2 .nil) (.node 0 0 a'.1 a'.2 .nil) (.node 0 0 b'.1 b'.2 .nil)
    (by simpa [Ty.okF, Ty.okT] using (Ty.chk_ok y).1) (by simpa [Ty.okF, Ty.okT] using (Ty.chk_ok y').1) (by simpa [Ty.okF, Ty.okT] using (Ty.chk_ok x).1) (by simpa [Ty.okF, Ty.okT] using (Ty.chk_ok x').1) rfl rfl
    (by simpa [Ty.leF, Ty.leT] using z) (by simpa [Ty.leF, Ty.leT] using z') (by simpa [Ty.agF, Ty.agT] using h.2)
  simpa [Ty.agF, Ty.agT] using q
theorem chk_kids {k : Int} {a b c d : Nat} {k1 k2 : Int} {f1 f2 : Fo} (h : Ty.chk k (.node a b k1 f1 (.node c d k2 f2 .nil)) = 0) : Ty.chk k1 f1 = 0 ∧ Ty.chk k2 f2 = 0 := by
  obtain ⟨x, y, z⟩ := Ty.chk_ok h
  unfold Ty.okT at x
  simp only [Ty.okF, Ty.nodes, Ty.dep, Bool.and_eq_true] at x y z
  exact ⟨Ty.chk_of (by unfold Ty.okT; rw [x.2.1.1, x.2.1.2]; rfl) (by omega) (by omega), Ty.chk_of (by unfold Ty.okT; rw [x.2.2.1.1, x.2.2.1.2]; rfl) (by omega) (by omega)⟩
theorem as_parts {k : Int} {a : T2} (h : asO k a = true) : (3 ≤ k ∧ k ≤ 5) ∧ chk a = 0 ∧ ((a = (0, .nil) ∧ asl k a = (0, .nil) ∧ asr k a = (0, .nil)) ∨ ∃ p q x y p' q' x' y', a = (k, .node p q x y (.node p' q' x' y' .nil)) ∧ asl k a = (x, y) ∧ asr k a = (x', y') ∧ Ty.chk x y = 0 ∧ Ty.chk x' y' = 0) := by
  obtain ⟨u, v⟩ := a
  have h0 := h
  unfold asO Ty.asOk at h
  simp only [Bool.and_eq_true, Bool.or_eq_true, beq_iff_eq, decide_eq_true_eq] at h
  obtain ⟨⟨hc, hk⟩, hu⟩ := h
  refine ⟨hk, hc, ?_⟩
  have hok := (Ty.chk_ok hc).1
  rcases hu with hu | hu
  · subst hu
    obtain ⟨p, q, x, y, p', q', x', y', rfl, -, -⟩ := Ty.two_of hok hk.1
    obtain ⟨-, e1, e2⟩ := Ty.as_yes hk.1 hk.2 hc
    obtain ⟨c1, c2⟩ := chk_kids hc
    exact .inr ⟨p, q, x, y, p', q', x', y', rfl, e1, e2, c1, c2⟩
  · subst hu
    unfold Ty.okT at hok
    rw [Bool.and_eq_true] at hok
    obtain rfl := Ty.kids_zero hok.1
    obtain ⟨-, e1, e2⟩ := Ty.as_open hk.1 hk.2
    exact .inl ⟨rfl, e1, e2⟩
theorem as_chk {k : Int} {a : T2} (h : asO k a = true) : chk (asl k a) = 0 ∧ chk (asr k a) = 0 := by
  obtain ⟨-, -, h⟩ := as_parts h
  rcases h with ⟨-, e1, e2⟩ | ⟨p, q, x, y, p', q', x', y', -, e1, e2, c1, c2⟩
  · rw [e1, e2]; exact ⟨rfl, rfl⟩
  · rw [e1, e2]; exact ⟨c1, c2⟩
theorem le2_zero {a : T2} (h : chk a = 0) : le2 (0, .nil) a := ⟨rfl, h, rfl⟩
theorem le2_open {a b : T2} (h : le2 a b) (hz : a.1 = 0) : a = (0, .nil) := by
  obtain ⟨u, v⟩ := a
  have e : u = 0 := hz
  subst e
  have hok := (Ty.chk_ok h.1).1
  unfold Ty.okT at hok
  rw [Bool.and_eq_true] at hok
  obtain rfl := Ty.kids_zero hok.1
  rfl
theorem as_le {k : Int} {a a' : T2} (h1 : le2 a' a) (h : asO k a = true) : asO k a' = true ∧ le2 (asl k a') (asl k a) ∧ le2 (asr k a') (asr k a) := by
  obtain ⟨hk, hc, hs⟩ := as_parts h
  obtain ⟨c1, c2⟩ := as_chk h
  by_cases hz : a'.1 = 0
  · obtain rfl := le2_open h1 hz
    obtain ⟨e0, e1, e2⟩ := Ty.as_open hk.1 hk.2
    refine ⟨e0, ?_, ?_⟩
    · rw [show asl k (0, .nil) = (0, .nil) from e1]; exact le2_zero c1
    · rw [show asr k (0, .nil) = (0, .nil) from e2]; exact le2_zero c2
  · obtain ⟨u, v⟩ := a'
    obtain ⟨x0, y0, z0⟩ := h1
    unfold Ty.leT at z0
    simp only [Bool.or_eq_true, Bool.and_eq_true, beq_iff_eq] at z0
    rcases z0 with z0 | ⟨z0, zk⟩
    · exact absurd z0 hz
    rcases hs with ⟨rfl, -, -⟩ | ⟨p, q, x, y, p', q', x', y', rfl, e1, e2, c3, c4⟩
    · exact absurd z0 hz
    have z0 : u = k := z0
    subst z0
    obtain ⟨p2, q2, x2, y2, p2', q2', x2', y2', rfl, -, -⟩ := Ty.two_of (Ty.chk_ok x0).1 hk.1
    obtain ⟨f0, f1, f2⟩ := Ty.as_yes hk.1 hk.2 x0
    obtain ⟨d1, d2⟩ := chk_kids x0
    refine ⟨f0, ?_, ?_⟩
    · rw [e1, show asl u (u, _) = _ from f1]
      refine ⟨d1, c3, ?_⟩
      simp only [Ty.leF, Bool.and_eq_true] at zk
      exact zk.1
    · rw [e2, show asr u (u, _) = _ from f2]
      refine ⟨d2, c4, ?_⟩
      simp only [Ty.leF, Bool.and_eq_true] at zk
      exact zk.2.1
theorem ag_parts {a b : T2} (h : ag a b = true) : chk a = 0 ∧ chk b = 0 ∧ Ty.agT a.1 a.2 b.1 b.2 = true := by
  unfold ag Ty.agreeT at h
  simp only [Bool.and_eq_true, beq_iff_eq] at h
  exact ⟨h.1.1, h.1.2, h.2⟩
theorem mt_le {a b a' b' : T2} (h1 : le2 a' a) (h2 : le2 b' b) (h : ag a b = true) (hc : chk (mt a b) = 0) : le2 (mt a' b') (mt a b) := by
  have h' := ag_le h1 h2 h
  obtain ⟨x, y, z⟩ := h1
  obtain ⟨x', y', z'⟩ := h2
  obtain ⟨-, -, g⟩ := ag_parts h
  obtain ⟨-, -, g'⟩ := ag_parts h'
  have o := (Ty.chk_ok x).1
  have o2 := (Ty.chk_ok x').1
  have o3 := (Ty.chk_ok y).1
  have o4 := (Ty.chk_ok y').1
  have q := Ty.mF_le (.node 0 0 a.1 a.2 .nil) (.node 0 0 b.1 b.2 .nil) (.node 0 0 a'.1 a'.2 .nil) (.node 0 0 b'.1 b'.2 .nil)
    (by simpa [Ty.okF, Ty.okT] using o3) (by simpa [Ty.okF, Ty.okT] using o4) (by simpa [Ty.okF, Ty.okT] using o) (by simpa [Ty.okF, Ty.okT] using o2) rfl rfl rfl
    (by simpa [Ty.leF, Ty.leT] using z) (by simpa [Ty.leF, Ty.leT] using z') (by simpa [Ty.agF, Ty.agT] using g)
  have q' : Ty.leT (mt a' b').1 (mt a' b').2 (mt a b).1 (mt a b).2 = true := by
    simp only [Ty.mF, Ty.leF, Bool.and_true] at q
    exact q
  exact ⟨Ty.leT_chk (Ty.mT_ok o o2 g') hc q', hc, q'⟩
theorem mk2_ok {k : Int} {a b : T2} (hk : 3 ≤ k ∧ k ≤ 5) (h1 : chk a = 0) (h2 : chk b = 0) : Ty.okT (mk2 k a b).1 (mk2 k a b).2 = true := by
  have o := (Ty.chk_ok h1).1
  have o2 := (Ty.chk_ok h2).1
  unfold Ty.okT at o o2 ⊢
  rw [Bool.and_eq_true] at o o2
  simp only [mk2, Ty.okF, Ty.len, Bool.and_eq_true]
  refine ⟨?_, o, o2, trivial⟩
  unfold Ty.okK
  rw [if_neg (by omega), if_pos hk]
  rfl
theorem mk2_le {k : Int} {a b a' b' : T2} (hk : 3 ≤ k ∧ k ≤ 5) (h1 : le2 a' a) (h2 : le2 b' b) (hc : chk (mk2 k a b) = 0) : le2 (mk2 k a' b') (mk2 k a b) := by
  have q : Ty.leT (mk2 k a' b').1 (mk2 k a' b').2 (mk2 k a b).1 (mk2 k a b).2 = true := by
    unfold Ty.leT mk2
    simp only [Ty.leF, Bool.or_eq_true, Bool.and_eq_true, beq_iff_eq, and_true]
    right
    have z := h1.2.2
    have z' := h2.2.2
    unfold Ty.leT at z z'
    simp only [Bool.or_eq_true, Bool.and_eq_true, beq_iff_eq] at z z'
    exact ⟨trivial, z, z'⟩
  exact ⟨Ty.leT_chk (mk2_ok hk h1.1 h2.1) hc q, hc, q⟩
/-- what is around is less precise -/
def eLe : Env → Env → Prop
  | [], [] => True
  | b' :: l', b :: l => (b'.1.toList = b.1.toList ∧ le2 b'.2 b.2) ∧ eLe l' l
  | _, _ => False
theorem eLe.snoc : ∀ {l' l : Env} {x' x : ByteArray} {a' a : T2}, eLe l' l → x'.toList = x.toList → le2 a' a → eLe (l' ++ [(x', a')]) (l ++ [(x, a)])
  | [], [], _, _, _, _, _, h1, h2 => ⟨⟨h1, h2⟩, trivial⟩
  | _ :: _, _ :: _, _, _, _, _, h, h1, h2 => ⟨h.1, eLe.snoc h.2 h1 h2⟩
  | [], _ :: _, _, _, _, _, h, _, _ => h.elim
  | _ :: _, [], _, _, _, _, h, _, _ => h.elim
theorem fnd_le : ∀ {l' l : Env} {x' x : ByteArray}, eLe l' l → x'.toList = x.toList → (fnd l x = none → fnd l' x' = none) ∧ ∀ a, fnd l x = some a → ∃ a', fnd l' x' = some a' ∧ le2 a' a
  | [], [], _, _, _, _ => ⟨fun _ => rfl, fun _ h => by cases h⟩
  | b' :: l', b :: l, x', x, h, hx => by
    obtain ⟨i1, i2⟩ := fnd_le h.2 hx
    unfold fnd
    cases e : fnd l x with
    | some a =>
      obtain ⟨a', e', g⟩ := i2 a e
      rw [e']
      exact ⟨fun h => (by cases h), fun c hc => ⟨a', rfl, by injection hc with hc; subst hc; exact g⟩⟩
    | none =>
      rw [i1 e]
      simp only [h.1.1, hx]
      by_cases q : (b.1.toList == x.toList) = true
      · rw [if_pos q, if_pos q]
        exact ⟨fun h => (by cases h), fun c hc => ⟨_, rfl, by injection hc with hc; subst hc; exact h.1.2⟩⟩
      · rw [if_neg q, if_neg q]
        exact ⟨fun _ => rfl, fun c hc => by cases hc⟩
  | [], _ :: _, _, _, h, _ => h.elim
  | _ :: _, [], _, _, h, _ => h.elim
theorem lift_of {h : Hd} {a : T2} (hc : chk a = 0) : lift h (.ok a) = .ok a := by simp [lift, hc]
theorem bnd_ok {r : R} {f : T2 → R} {a : T2} (e : bnd r f = .ok a) : ∃ b, r = .ok b ∧ f b = .ok a := by
  cases r with
  | ok b => exact ⟨b, rfl, e⟩
  | bad _ _ _ => cases e
theorem if_ok {c : Prop} [Decidable c] {r : R} {h : Hd} {E : Int} {a : T2} (e : (if c then r else fault h E) = .ok a) : c ∧ r = .ok a := by
  by_cases hc : c
  · rw [if_pos hc] at e; exact ⟨hc, e⟩
  · rw [if_neg hc] at e; cases e
theorem meet_le {h h' : Hd} {a b a' b' c : T2} (h1 : le2 a' a) (h2 : le2 b' b) (e : meet h a b = .ok c) (hc : chk c = 0) : ∃ c', meet h' a' b' = .ok c' ∧ le2 c' c := by
  unfold meet at e ⊢
  obtain ⟨g, e⟩ := if_ok e
  injection e with e
  subst e
  exact ⟨_, by rw [if_pos (ag_le h1 h2 g)], mt_le h1 h2 g hc⟩
/-- a term's own types -/
theorem tt_chk {h : Hd} {n : Nat} (ho : Tm.headOk h n = true) (hk : Tm.hasType h.kind = true) : chk (TT h) = 0 := by
  have := Tm.headOk_tys ho
  unfold Tm.tysOk at this
  rw [hk] at this
  simp only [Bool.not_true, Bool.false_or, Bool.and_eq_true, beq_iff_eq] at this
  exact this.1
theorem uu_chk {h : Hd} {n : Nat} (ho : Tm.headOk h n = true) (hk : Tm.hasTo h.kind = true) : chk (UU h) = 0 := by
  have := Tm.headOk_tys ho
  unfold Tm.tysOk at this
  rw [hk] at this
  simp only [Bool.not_true, Bool.false_or, Bool.and_eq_true, beq_iff_eq] at this
  exact this.2
structure HdLe (h' h : Hd) : Prop where
  kind : h'.kind = h.kind
  name : Tm.hasName h.kind = true → h'.name.toList = h.name.toList
  arg : Tm.hasArg h.kind = true → h'.arg.toList = h.arg.toList
  tt : Tm.hasType h.kind = true → le2 (TT h') (TT h)
  uu : Tm.hasTo h.kind = true → le2 (UU h') (UU h)
theorem HdLe.of {h' h : Hd} {n m : Nat} (e : Tm.reH h' h = true) (h1 : Tm.headOk h' n = true) (h2 : Tm.headOk h m = true) : HdLe h' h := by
  unfold Tm.reH at e
  simp only [Bool.and_eq_true, beq_iff_eq] at e
  obtain ⟨ek, en, ea, -, et, eu⟩ := e
  rw [ek] at en ea et eu
  refine ⟨ek, fun q => ?_, fun q => ?_, fun q => ?_, fun q => ?_⟩
  · rw [q] at en; simpa using en
  · rw [q] at ea; simpa using ea
  · rw [q] at et
    exact ⟨tt_chk h1 (by rw [ek]; exact q), tt_chk h2 q, by rw [Bool.not_true, Bool.false_or] at et; exact et⟩
  · rw [q] at eu
    exact ⟨uu_chk h1 (by rw [ek]; exact q), uu_chk h2 q, by rw [Bool.not_true, Bool.false_or] at eu; exact eu⟩
end Ck
end Go.Proofs.YtekjhcfjpedbkaaGreatDoor
namespace Go.Proofs.YtekjhcfjpedbkaaGreatDoor
open Go.RowKit
attribute [local go_sem ↓] Go.wp_at_zero Go.wp_at_succ
set_option maxHeartbeats 8000000 in
set_option maxRecDepth 100000 in
theorem lessTerm_any (K : Nat) : ∀ (h : Hd) (kids : Tm) (p : Pl) (h' : Hd) (kids' : Tm) (p' : Pl) (w : World), Tm.nodes kids < K → Tm.Is w h kids p → Tm.Is w h' kids' p' → Tm.tyT h kids = true → Tm.tyT h' kids' = true →
    Calls Tryz.prog 36 #[.agg #[.int .i8 h.kind, .string h.name, .string h.arg, .int .i64 h.num, .int .i8 h.tk, .slice p.TA p.tn p.tc, .int .i8 h.uk, .slice p.UA p.un p.uc, .int .i64 h.label, .int .i64 h.pos, .slice p.A p.n p.c], .agg #[.int .i8 h'.kind, .string h'.name, .string h'.arg, .int .i64 h'.num, .int .i8 h'.tk, .slice p'.TA p'.tn p'.tc, .int .i8 h'.uk, .slice p'.UA p'.un p'.uc, .int .i64 h'.label, .int .i64 h'.pos, .slice p'.A p'.n p'.c]] w fun e w' => e = .returned (.bool (Tm.leT h kids h' kids')) ∧ Below w.heap.size w w' := by
  induction K with
  | zero => intro _ _ _ _ _ _ _ hK; omega
  | succ K ih =>
    intro h kids p h' kids' p' w hK hIs hIs' ht ht'
    have hB0 : Below w.heap.size w ((w.alloc (.cells #[.int .i8 h.kind, .string h.name, .string h.arg, .int .i64 h.num, .int .i8 h.tk, .slice p.TA p.tn p.tc, .int .i8 h.uk, .slice p.UA p.un p.uc, .int .i64 h.label, .int .i64 h.pos, .slice p.A p.n p.c] 28)).alloc (.cells #[.int .i8 h'.kind, .string h'.name, .string h'.arg, .int .i64 h'.num, .int .i8 h'.tk, .slice p'.TA p'.tn p'.tc, .int .i8 h'.uk, .slice p'.UA p'.un p'.uc, .int .i64 h'.label, .int .i64 h'.pos, .slice p'.A p'.n p'.c] 28)) := ((Below.refl _ _).alloc (Nat.le_refl _) _).alloc (by simp) _
    obtain ⟨r0, r1, r2⟩ := two_new w (.cells #[.int .i8 h.kind, .string h.name, .string h.arg, .int .i64 h.num, .int .i8 h.tk, .slice p.TA p.tn p.tc, .int .i8 h.uk, .slice p.UA p.un p.uc, .int .i64 h.label, .int .i64 h.pos, .slice p.A p.n p.c] 28) (.cells #[.int .i8 h'.kind, .string h'.name, .string h'.arg, .int .i64 h'.num, .int .i8 h'.tk, .slice p'.TA p'.tn p'.tc, .int .i8 h'.uk, .slice p'.UA p'.un p'.uc, .int .i64 h'.label, .int .i64 h'.pos, .slice p'.A p'.n p'.c] 28)
    have IH := Lib.hid ih
    have HA := Lib.hid (hIs.below hB0)
    have HA' := Lib.hid (hIs'.below hB0)
    unfold Tm.tyT at ht ht'
    simp only [Bool.and_eq_true] at ht ht'
    have HT := Lib.hid ht
    have HT' := Lib.hid ht'
    clear ih hIs hIs' ht ht'
    obtain ⟨b0, hk0⟩ : ∃ b, (h.kind == h'.kind) = b := ⟨_, rfl⟩
    obtain ⟨b1, hk1⟩ : ∃ b, (h.kind != 17) = b := ⟨_, rfl⟩
    obtain ⟨b2, hk2⟩ : ∃ b, (h.name.toList == h'.name.toList) = b := ⟨_, rfl⟩
    obtain ⟨b3, hk3⟩ : ∃ b, (h.arg.toList == h'.arg.toList) = b := ⟨_, rfl⟩
    obtain ⟨b4, hk4⟩ : ∃ b, (h.num == h'.num) = b := ⟨_, rfl⟩
    obtain ⟨b5, hk5⟩ : ∃ b, Ty.leT h.tk h.tkids h'.tk h'.tkids = b := ⟨_, rfl⟩
    obtain ⟨b6, hk6⟩ : ∃ b, Ty.leT h.uk h.ukids h'.uk h'.ukids = b := ⟨_, rfl⟩
    obtain ⟨b7, hk7⟩ : ∃ b, Tm.leF kids kids' = b := ⟨_, rfl⟩
    have hR : Tm.leT h kids h' kids' = ((b0 && (b1 && (b2 && (b3 && (b4 && (b5 && b6)))))) && b7) := by
      rw [← hk0, ← hk1, ← hk2, ← hk3, ← hk4, ← hk5, ← hk6, ← hk7]; rfl
    rw [hR]
    clear hR
    generalize hw1 : (w.alloc (.cells #[.int .i8 h.kind, .string h.name, .string h.arg, .int .i64 h.num, .int .i8 h.tk, .slice p.TA p.tn p.tc, .int .i8 h.uk, .slice p.UA p.un p.uc, .int .i64 h.label, .int .i64 h.pos, .slice p.A p.n p.c] 28)).alloc (.cells #[.int .i8 h'.kind, .string h'.name, .string h'.arg, .int .i64 h'.num, .int .i8 h'.tk, .slice p'.TA p'.tn p'.tc, .int .i8 h'.uk, .slice p'.UA p'.un p'.uc, .int .i64 h'.label, .int .i64 h'.pos, .slice p'.A p'.n p'.c] 28) = w1 at *
    have HW := Lib.hid hw1
    have HBC := Lib.hid hB0
    have HX := Lib.hid r0
    have HY := Lib.hid r1
    clear r0 r1 r2 hB0 hw1
    have C1 := Lib.hid (fun (W : World) (hb : Below w1.heap.size w1 W) => less_any (Ty.nodes h.tkids + 1) h.tk h.tkids p.TA p.tn p.tc h'.tk h'.tkids p'.TA p'.tn p'.tc W (Nat.lt_succ_self _) (HA.out.below hb).fit.ty (HA'.out.below hb).fit.ty HT.out.1.1 HT'.out.1.1)
    have C2 := Lib.hid (fun (W : World) (hb : Below w1.heap.size w1 W) => less_any (Ty.nodes h.ukids + 1) h.uk h.ukids p.UA p.un p.uc h'.uk h'.ukids p'.UA p'.un p'.uc W (Nat.lt_succ_self _) (HA.out.below hb).fit.to (HA'.out.below hb).fit.to HT.out.1.2 HT'.out.1.2)
    have C3 := Lib.hid (fun (W : World) (hb : Below w1.heap.size w1 W) => lt_equal_any 36 kids kids' p.A p'.A p.n p.c p'.n p'.c W (HA.out.below hb).lies HA.out.fit.n_eq HA.out.fit.n_le HA.out.fit.c_le (HA'.out.below hb).lies HA'.out.fit.n_eq HA'.out.fit.n_le HA'.out.fit.c_le HT.out.2 HT'.out.2
      (fun args W => by simp [go_sem]) (fun h1 kd p1 h2 kd' p2 W' h3 h4 h5 h6 h7 h8 => IH.out h1 kd p1 h2 kd' p2 W' (by omega) h4 h5 h6 h7))
    rw [hk5] at C1
    rw [hk6] at C2
    rw [hk7] at C3
    clear IH HA HA' HT HT' hk5 hk6 hk7
    have D0 : Below w1.heap.size w1 w1 := Below.refl _ _
    cases b0
    · obtain ⟨q0, q1, q2, q3, q4, q5, q6, q7, q8, q9, q10, ql⟩ := own11 (heap_below D0 (heap_lt HX.out) HX.out)
      obtain ⟨y0, y1, y2, y3, y4, y5, y6, y7, y8, y9, y10, yl⟩ := own11 (heap_below D0 (heap_lt HY.out) HY.out)
      go_enter Tryz.func36, Tryz.ntmps36
      go_wp2_with fail
      rw [HW.out]
      go_wp2_with fail
      go_ret
      exact ⟨rfl, HBC.out.trans (D0.mono HBC.out.size)⟩
    cases b1
    · obtain ⟨q0, q1, q2, q3, q4, q5, q6, q7, q8, q9, q10, ql⟩ := own11 (heap_below D0 (heap_lt HX.out) HX.out)
      obtain ⟨y0, y1, y2, y3, y4, y5, y6, y7, y8, y9, y10, yl⟩ := own11 (heap_below D0 (heap_lt HY.out) HY.out)
      go_enter Tryz.func36, Tryz.ntmps36
      go_wp2_with fail
      rw [HW.out]
      go_wp2_with fail
      go_ret
      exact ⟨rfl, HBC.out.trans (D0.mono HBC.out.size)⟩
    cases b2
    · obtain ⟨q0, q1, q2, q3, q4, q5, q6, q7, q8, q9, q10, ql⟩ := own11 (heap_below D0 (heap_lt HX.out) HX.out)
      obtain ⟨y0, y1, y2, y3, y4, y5, y6, y7, y8, y9, y10, yl⟩ := own11 (heap_below D0 (heap_lt HY.out) HY.out)
      go_enter Tryz.func36, Tryz.ntmps36
      go_wp2_with fail
      rw [HW.out]
      go_wp2_with fail
      go_ret
      exact ⟨rfl, HBC.out.trans (D0.mono HBC.out.size)⟩
    cases b3
    · obtain ⟨q0, q1, q2, q3, q4, q5, q6, q7, q8, q9, q10, ql⟩ := own11 (heap_below D0 (heap_lt HX.out) HX.out)
      obtain ⟨y0, y1, y2, y3, y4, y5, y6, y7, y8, y9, y10, yl⟩ := own11 (heap_below D0 (heap_lt HY.out) HY.out)
      go_enter Tryz.func36, Tryz.ntmps36
      go_wp2_with fail
      rw [HW.out]
      go_wp2_with fail
      go_ret
      exact ⟨rfl, HBC.out.trans (D0.mono HBC.out.size)⟩
    cases b4
    · obtain ⟨q0, q1, q2, q3, q4, q5, q6, q7, q8, q9, q10, ql⟩ := own11 (heap_below D0 (heap_lt HX.out) HX.out)
      obtain ⟨y0, y1, y2, y3, y4, y5, y6, y7, y8, y9, y10, yl⟩ := own11 (heap_below D0 (heap_lt HY.out) HY.out)
      go_enter Tryz.func36, Tryz.ntmps36
      go_wp2_with fail
      rw [HW.out]
      go_wp2_with fail
      go_ret
      exact ⟨rfl, HBC.out.trans (D0.mono HBC.out.size)⟩
    cases b5
    · obtain ⟨q0, q1, q2, q3, q4, q5, q6, q7, q8, q9, q10, ql⟩ := own11 (heap_below D0 (heap_lt HX.out) HX.out)
      obtain ⟨y0, y1, y2, y3, y4, y5, y6, y7, y8, y9, y10, yl⟩ := own11 (heap_below D0 (heap_lt HY.out) HY.out)
      go_enter Tryz.func36, Tryz.ntmps36
      go_wp2_with fail
      rw [HW.out]
      go_wp2_with fail
      refine (C1.out _ D0).mono ?_
      rintro e u1 ⟨rfl, hb⟩
      have D1 := D0.trans (hb.mono D0.size)
      clear hb q0 q1 q2 q3 q4 q5 q6 q7 q8 q9 q10 ql y0 y1 y2 y3 y4 y5 y6 y7 y8 y9 y10 yl
      obtain ⟨q0, q1, q2, q3, q4, q5, q6, q7, q8, q9, q10, ql⟩ := own11 (heap_below D1 (heap_lt HX.out) HX.out)
      obtain ⟨y0, y1, y2, y3, y4, y5, y6, y7, y8, y9, y10, yl⟩ := own11 (heap_below D1 (heap_lt HY.out) HY.out)
      go_wp2_with fail
      go_ret
      exact ⟨rfl, HBC.out.trans (D1.mono HBC.out.size)⟩
    cases b6
    · obtain ⟨q0, q1, q2, q3, q4, q5, q6, q7, q8, q9, q10, ql⟩ := own11 (heap_below D0 (heap_lt HX.out) HX.out)
      obtain ⟨y0, y1, y2, y3, y4, y5, y6, y7, y8, y9, y10, yl⟩ := own11 (heap_below D0 (heap_lt HY.out) HY.out)
      go_enter Tryz.func36, Tryz.ntmps36
      go_wp2_with fail
      rw [HW.out]
      go_wp2_with fail
      refine (C1.out _ D0).mono ?_
      rintro e u1 ⟨rfl, hb⟩
      have D1 := D0.trans (hb.mono D0.size)
      clear hb q0 q1 q2 q3 q4 q5 q6 q7 q8 q9 q10 ql y0 y1 y2 y3 y4 y5 y6 y7 y8 y9 y10 yl
      obtain ⟨q0, q1, q2, q3, q4, q5, q6, q7, q8, q9, q10, ql⟩ := own11 (heap_below D1 (heap_lt HX.out) HX.out)
      obtain ⟨y0, y1, y2, y3, y4, y5, y6, y7, y8, y9, y10, yl⟩ := own11 (heap_below D1 (heap_lt HY.out) HY.out)
      go_wp2_with fail
      refine (C2.out _ D1).mono ?_
      rintro e u2 ⟨rfl, hb⟩
      have D2 := D1.trans (hb.mono D1.size)
      clear hb q0 q1 q2 q3 q4 q5 q6 q7 q8 q9 q10 ql y0 y1 y2 y3 y4 y5 y6 y7 y8 y9 y10 yl
      obtain ⟨q0, q1, q2, q3, q4, q5, q6, q7, q8, q9, q10, ql⟩ := own11 (heap_below D2 (heap_lt HX.out) HX.out)
      obtain ⟨y0, y1, y2, y3, y4, y5, y6, y7, y8, y9, y10, yl⟩ := own11 (heap_below D2 (heap_lt HY.out) HY.out)
      go_wp2_with fail
      go_ret
      exact ⟨rfl, HBC.out.trans (D2.mono HBC.out.size)⟩
    obtain ⟨q0, q1, q2, q3, q4, q5, q6, q7, q8, q9, q10, ql⟩ := own11 (heap_below D0 (heap_lt HX.out) HX.out)
    obtain ⟨y0, y1, y2, y3, y4, y5, y6, y7, y8, y9, y10, yl⟩ := own11 (heap_below D0 (heap_lt HY.out) HY.out)
    go_enter Tryz.func36, Tryz.ntmps36
    go_wp2_with fail
    rw [HW.out]
    go_wp2_with fail
    refine (C1.out _ D0).mono ?_
    rintro e u1 ⟨rfl, hb⟩
    have D1 := D0.trans (hb.mono D0.size)
    clear hb q0 q1 q2 q3 q4 q5 q6 q7 q8 q9 q10 ql y0 y1 y2 y3 y4 y5 y6 y7 y8 y9 y10 yl
    obtain ⟨q0, q1, q2, q3, q4, q5, q6, q7, q8, q9, q10, ql⟩ := own11 (heap_below D1 (heap_lt HX.out) HX.out)
    obtain ⟨y0, y1, y2, y3, y4, y5, y6, y7, y8, y9, y10, yl⟩ := own11 (heap_below D1 (heap_lt HY.out) HY.out)
    go_wp2_with fail
    refine (C2.out _ D1).mono ?_
    rintro e u2 ⟨rfl, hb⟩
    have D2 := D1.trans (hb.mono D1.size)
    clear hb q0 q1 q2 q3 q4 q5 q6 q7 q8 q9 q10 ql y0 y1 y2 y3 y4 y5 y6 y7 y8 y9 y10 yl
    obtain ⟨q0, q1, q2, q3, q4, q5, q6, q7, q8, q9, q10, ql⟩ := own11 (heap_below D2 (heap_lt HX.out) HX.out)
    obtain ⟨y0, y1, y2, y3, y4, y5, y6, y7, y8, y9, y10, yl⟩ := own11 (heap_below D2 (heap_lt HY.out) HY.out)
    go_wp2_with fail
    refine (C3.out _ D2).mono ?_
    rintro e u3 ⟨rfl, hb⟩
    have D3 := D2.trans (hb.mono D2.size)
    clear hb q0 q1 q2 q3 q4 q5 q6 q7 q8 q9 q10 ql y0 y1 y2 y3 y4 y5 y6 y7 y8 y9 y10 yl
    obtain ⟨q0, q1, q2, q3, q4, q5, q6, q7, q8, q9, q10, ql⟩ := own11 (heap_below D3 (heap_lt HX.out) HX.out)
    obtain ⟨y0, y1, y2, y3, y4, y5, y6, y7, y8, y9, y10, yl⟩ := own11 (heap_below D3 (heap_lt HY.out) HY.out)
    go_wp2_with fail
    go_ret
    exact ⟨rfl, HBC.out.trans (D3.mono HBC.out.size)⟩
theorem Tm.bare_tell (h : Hd) (kids : Tm) (h' : Hd) (kids' : Tm) (h0 : Tm.chk h kids = 0) (h1 : Tm.chk h' kids' = 0) : Tm.tellT h kids h' kids' = Tm.leT (Tm.cnt h) (Tm.bF kids) (Tm.cnt h') (Tm.bF kids') := by
  unfold Tm.tellT
  rw [h0, h1, Tm.leT_bare]
  rfl
set_option maxHeartbeats 8000000 in
set_option maxRecDepth 100000 in
theorem oTerms_any (h : Hd) (kids : Tm) (p : Pl) (h' : Hd) (kids' : Tm) (p' : Pl) (w : World) (hIs : Tm.Is w h kids p) (hIs' : Tm.Is w h' kids' p') (hG : TGlob w) :
    Calls Tryz.prog 16 #[.agg #[.int .i8 h.kind, .string h.name, .string h.arg, .int .i64 h.num, .int .i8 h.tk, .slice p.TA p.tn p.tc, .int .i8 h.uk, .slice p.UA p.un p.uc, .int .i64 h.label, .int .i64 h.pos, .slice p.A p.n p.c], .agg #[.int .i8 h'.kind, .string h'.name, .string h'.arg, .int .i64 h'.num, .int .i8 h'.tk, .slice p'.TA p'.tn p'.tc, .int .i8 h'.uk, .slice p'.UA p'.un p'.uc, .int .i64 h'.label, .int .i64 h'.pos, .slice p'.A p'.n p'.c]] w fun e w' => e = .returned (.bool (Tm.tellT h kids h' kids')) ∧ Below w.heap.size w w' := by
  obtain ⟨r0, r1, _⟩ := two_new w (.cells #[.int .i8 h.kind, .string h.name, .string h.arg, .int .i64 h.num, .int .i8 h.tk, .slice p.TA p.tn p.tc, .int .i8 h.uk, .slice p.UA p.un p.uc, .int .i64 h.label, .int .i64 h.pos, .slice p.A p.n p.c] 28) (.cells #[.int .i8 h'.kind, .string h'.name, .string h'.arg, .int .i64 h'.num, .int .i8 h'.tk, .slice p'.TA p'.tn p'.tc, .int .i8 h'.uk, .slice p'.UA p'.un p'.uc, .int .i64 h'.label, .int .i64 h'.pos, .slice p'.A p'.n p'.c] 28)
  have hB0 : Below w.heap.size w ((w.alloc (.cells #[.int .i8 h.kind, .string h.name, .string h.arg, .int .i64 h.num, .int .i8 h.tk, .slice p.TA p.tn p.tc, .int .i8 h.uk, .slice p.UA p.un p.uc, .int .i64 h.label, .int .i64 h.pos, .slice p.A p.n p.c] 28)).alloc (.cells #[.int .i8 h'.kind, .string h'.name, .string h'.arg, .int .i64 h'.num, .int .i8 h'.tk, .slice p'.TA p'.tn p'.tc, .int .i8 h'.uk, .slice p'.UA p'.un p'.uc, .int .i64 h'.label, .int .i64 h'.pos, .slice p'.A p'.n p'.c] 28)) := ((Below.refl _ _).alloc (Nat.le_refl _) _).alloc (by simp) _
  generalize hw1 : (w.alloc (.cells #[.int .i8 h.kind, .string h.name, .string h.arg, .int .i64 h.num, .int .i8 h.tk, .slice p.TA p.tn p.tc, .int .i8 h.uk, .slice p.UA p.un p.uc, .int .i64 h.label, .int .i64 h.pos, .slice p.A p.n p.c] 28)).alloc (.cells #[.int .i8 h'.kind, .string h'.name, .string h'.arg, .int .i64 h'.num, .int .i8 h'.tk, .slice p'.TA p'.tn p'.tc, .int .i8 h'.uk, .slice p'.UA p'.un p'.uc, .int .i64 h'.label, .int .i64 h'.pos, .slice p'.A p'.n p'.c] 28) = w1 at *
  have HW := Lib.hid hw1
  have HBC := Lib.hid hB0
  have HX := Lib.hid r0
  have HY := Lib.hid r1
  clear r0 r1 hw1
  have D : Below w1.heap.size w1 w1.drew := (Below.refl _ _).drew
  have CA := Lib.hid (fun (W : World) (hb : Below w1.heap.size w1 W) => tcheck_any h kids p W ((hIs.below hB0).below hb) ((hG.below hB0).below hb))
  have CB := Lib.hid (fun (W : World) (hb : Below w1.heap.size w1 W) => tcheck_any h' kids' p' W ((hIs'.below hB0).below hb) ((hG.below hB0).below hb))
  have CX := Lib.hid (fun (W : World) (hb : Below w1.heap.size w1 W) => tbare_any h kids p W ((hIs.below hB0).below hb) ((hG.below hB0).below hb))
  have CY := Lib.hid (fun (W : World) (hb : Below w1.heap.size w1 W) => tbare_any h' kids' p' W ((hIs'.below hB0).below hb) ((hG.below hB0).below hb))
  have HXE := Lib.hid (RowEl.of_heap HX.out)
  have HYE := Lib.hid (RowEl.of_heap HY.out)
  obtain ⟨q0, q1, q2, q3, q4, q5, q6, q7, q8, q9, q10, ql⟩ := own11 HX.out
  obtain ⟨y0, y1, y2, y3, y4, y5, y6, y7, y8, y9, y10, yl⟩ := own11 HY.out
  clear hIs hIs' hB0 hG HX HY
  by_cases h0 : Tm.chk h kids = 0
  · by_cases h1 : Tm.chk h' kids' = 0
    · rw [Tm.bare_tell h kids h' kids' h0 h1]
      have t1 := Tm.tyT_bare h0
      have t2 := Tm.tyT_bare h1
      have CL := Lib.hid (fun (q q' : Pl) (W : World) h3 h4 => lessTerm_any (Tm.nodes (Tm.bF kids) + 1) (Tm.cnt h) (Tm.bF kids) q (Tm.cnt h') (Tm.bF kids') q' W (Nat.lt_succ_self _) h3 h4 t1 t2)
      unfold BareP Tm.bH Tm.bK at CX CY
      simp only [if_pos h0] at CX
      simp only [if_pos h1] at CY
      rw [h0] at CA
      rw [h1] at CB
      generalize Tm.leT (Tm.cnt h) (Tm.bF kids) (Tm.cnt h') (Tm.bF kids') = RE at *
      generalize Tm.cnt h = a at *
      generalize Tm.cnt h' = b at *
      generalize Tm.bF kids = ka at *
      generalize Tm.bF kids' = kb at *
      clear h0 h1 t1 t2
      go_enter Tryz.func16, Tryz.ntmps16
      go_upto_region 1 with fail
      rw [HW.out]
      go_region_held3 (fun w' => (w'.cell? ⟨w.heap.size, 0, none⟩ = some (.int .i8 h.kind) ∧ w'.cell? ⟨w.heap.size, 1, none⟩ = some (.string h.name) ∧ w'.cell? ⟨w.heap.size, 2, none⟩ = some (.string h.arg) ∧ w'.cell? ⟨w.heap.size, 3, none⟩ = some (.int .i64 h.num) ∧ w'.cell? ⟨w.heap.size, 4, none⟩ = some (.int .i8 h.tk) ∧ w'.cell? ⟨w.heap.size, 5, none⟩ = some (.slice p.TA p.tn p.tc) ∧ w'.cell? ⟨w.heap.size, 6, none⟩ = some (.int .i8 h.uk) ∧ w'.cell? ⟨w.heap.size, 7, none⟩ = some (.slice p.UA p.un p.uc) ∧ w'.cell? ⟨w.heap.size, 8, none⟩ = some (.int .i64 h.label) ∧ w'.cell? ⟨w.heap.size, 9, none⟩ = some (.int .i64 h.pos) ∧ w'.cell? ⟨w.heap.size, 10, none⟩ = some (.slice p.A p.n p.c)) ∧ w'.cell? ⟨w.heap.size + 1, 0, none⟩ = some (.int .i8 h'.kind) ∧ w'.cell? ⟨w.heap.size + 1, 1, none⟩ = some (.string h'.name) ∧ w'.cell? ⟨w.heap.size + 1, 2, none⟩ = some (.string h'.arg) ∧ w'.cell? ⟨w.heap.size + 1, 3, none⟩ = some (.int .i64 h'.num) ∧ w'.cell? ⟨w.heap.size + 1, 4, none⟩ = some (.int .i8 h'.tk) ∧ w'.cell? ⟨w.heap.size + 1, 5, none⟩ = some (.slice p'.TA p'.tn p'.tc) ∧ w'.cell? ⟨w.heap.size + 1, 6, none⟩ = some (.int .i8 h'.uk) ∧ w'.cell? ⟨w.heap.size + 1, 7, none⟩ = some (.slice p'.UA p'.un p'.uc) ∧ w'.cell? ⟨w.heap.size + 1, 8, none⟩ = some (.int .i64 h'.label) ∧ w'.cell? ⟨w.heap.size + 1, 9, none⟩ = some (.int .i64 h'.pos) ∧ w'.cell? ⟨w.heap.size + 1, 10, none⟩ = some (.slice p'.A p'.n p'.c))
        (exact ⟨HXE.out.below D, HYE.out.below D⟩)
        (first
          | (go_at_call 28; (with_reducible refine (CA.out _ D).mono ?_); rintro e u ⟨rfl, hb⟩; have D := D.trans (hb.mono D.size); clear hb)
          | (go_at_call 28; (with_reducible refine (CB.out _ D).mono ?_); rintro e u ⟨rfl, hb⟩; have D := D.trans (hb.mono D.size); clear hb)
          | (go_at_call 37; (with_reducible refine (CX.out _ D).mono ?_); rintro e uX ⟨pX, rfl, iX, hb⟩; have D := D.trans (hb.mono D.size); (first | have iY := iY.below hb | skip); (first | have HIY := Lib.hid iY | skip); have HIX := Lib.hid iX; clear hb)
          | (go_at_call 37; (with_reducible refine (CY.out _ D).mono ?_); rintro e uY ⟨pY, rfl, iY, hb⟩; have D := D.trans (hb.mono D.size); (first | have iX := iX.below hb | skip); (first | have HIX := Lib.hid iX | skip); have HIY := Lib.hid iY; clear hb)
          | (go_at_call 36; (with_reducible refine (CL.out _ _ _ HIX.out HIY.out).mono ?_); rintro e u ⟨rfl, hb⟩; have D := D.trans (hb.mono D.size); clear hb))
      all_goals
        go_wp2_with fail
        go_ret
        exact ⟨rfl, HBC.out.trans (D.mono HBC.out.size)⟩
    · have hc : (((Tm.chk h' kids' : Nat) : Int) == 0) = false := by simp; omega
      rw [show Tm.tellT h kids h' kids' = false by unfold Tm.tellT; rw [hc]; simp]
      rw [h0] at CA
      generalize Tm.chk h' kids' = C at *
      clear CX CY h0 h1
      go_enter Tryz.func16, Tryz.ntmps16
      go_upto_region 1 with fail
      rw [HW.out]
      have Q0 := later_cell q0
      have Q1 := later_cell q1
      have Q2 := later_cell q2
      have Q3 := later_cell q3
      have Q4 := later_cell q4
      have Q5 := later_cell q5
      have Q6 := later_cell q6
      have Q7 := later_cell q7
      have Q8 := later_cell q8
      have Q9 := later_cell q9
      have Q10 := later_cell q10
      have Y0 := later_cell y0
      have Y1 := later_cell y1
      have Y2 := later_cell y2
      have Y3 := later_cell y3
      have Y4 := later_cell y4
      have Y5 := later_cell y5
      have Y6 := later_cell y6
      have Y7 := later_cell y7
      have Y8 := later_cell y8
      have Y9 := later_cell y9
      have Y10 := later_cell y10
      clear D q0 q1 q2 q3 q4 q5 q6 q7 q8 q9 q10 y0 y1 y2 y3 y4 y5 y6 y7 y8 y9 y10 ql yl
      refine wp_region_low (by kernel_rfl) (by kernel_rfl) ?_
      repeat
        first
          | go_big_quiet_skip
          | (go_big_quiet_want
             go_big_quiet_op
             first
               | go_big_quiet_on
               | (refine ⟨_, fun _ => rfl, ?_⟩
                  go_big_quiet_on)
               | (apply Exists.intro
                  refine ⟨fun h => ?_, ?_⟩
                  · first
                      | (go_at_call 28; with_reducible exact call_low h (CA.out h.u h.low))
                      | (go_at_call 28; with_reducible exact call_low h (CB.out h.u h.low))
                  go_big_quiet_on))
      refine wpQuiet_nil ?_
      rintro w9 ⟨⟨_, E9⟩, rfl⟩
      go_wp2_with fail
      go_ret
      exact ⟨rfl, HBC.out.trans (E9.mono HBC.out.size)⟩
  · have hc : (((Tm.chk h kids : Nat) : Int) == 0) = false := by simp; omega
    rw [show Tm.tellT h kids h' kids' = false by unfold Tm.tellT; rw [hc]; rfl]
    generalize Tm.chk h kids = C at *
    clear CX CY CB h0
    go_enter Tryz.func16, Tryz.ntmps16
    go_upto_region 1 with fail
    rw [HW.out]
    have Q0 := later_cell q0
    have Q1 := later_cell q1
    have Q2 := later_cell q2
    have Q3 := later_cell q3
    have Q4 := later_cell q4
    have Q5 := later_cell q5
    have Q6 := later_cell q6
    have Q7 := later_cell q7
    have Q8 := later_cell q8
    have Q9 := later_cell q9
    have Q10 := later_cell q10
    have Y0 := later_cell y0
    have Y1 := later_cell y1
    have Y2 := later_cell y2
    have Y3 := later_cell y3
    have Y4 := later_cell y4
    have Y5 := later_cell y5
    have Y6 := later_cell y6
    have Y7 := later_cell y7
    have Y8 := later_cell y8
    have Y9 := later_cell y9
    have Y10 := later_cell y10
    clear D q0 q1 q2 q3 q4 q5 q6 q7 q8 q9 q10 y0 y1 y2 y3 y4 y5 y6 y7 y8 y9 y10 ql yl
    refine wp_region_low (by kernel_rfl) (by kernel_rfl) ?_
    repeat
      first
        | go_big_quiet_skip
        | (go_big_quiet_want
           go_big_quiet_op
           first
             | go_big_quiet_on
             | (refine ⟨_, fun _ => rfl, ?_⟩
                go_big_quiet_on)
             | (apply Exists.intro
                refine ⟨fun h => ?_, ?_⟩
                · first
                    | (go_at_call 28; with_reducible exact call_low h (CA.out h.u h.low))
                go_big_quiet_on))
    refine wpQuiet_nil ?_
    rintro w9 ⟨⟨_, E9⟩, rfl⟩
    go_wp2_with fail
    go_ret
    exact ⟨rfl, HBC.out.trans (E9.mono HBC.out.size)⟩
end Go.Proofs.YtekjhcfjpedbkaaGreatDoor
