/-
  Types that are less and more precise, and where two meet: what the words say of forests.
-/
import Derived.Test.YtfkbdpehdabepaaDoorAg0
namespace Go.Proofs.YtfkbdpehdabepaaDoor
namespace Ty
/-- lists of types, each of the first at most as precise as the second's in its place -/
def leF : Fo → Fo → Bool
  | .nil, _ => true
  | .node _ _ _ _ _, .nil => true
  | .node _ _ k kids r, .node _ _ k' kids' r' => ((k == 0) || ((k == k') && leF kids kids')) && leF r r'
def leT (k : Int) (kids : Fo) (k' : Int) (kids' : Fo) : Bool := (k == 0) || ((k == k') && leF kids kids')
def lessT (k : Int) (kids : Fo) (k' : Int) (kids' : Fo) : Bool := (chk k kids == 0) && (chk k' kids' == 0) && leT k kids k' kids'
theorem leT_zero (kids : Fo) (k' : Int) (kids' : Fo) : leT 0 kids k' kids' = true := rfl
theorem leT_ne {k k' : Int} (kids kids' : Fo) (h1 : k ≠ 0) (h : k ≠ k') : leT k kids k' kids' = false := by unfold leT; simp [h1, h]
theorem leT_eq {k : Int} (kids kids' : Fo) (h1 : k ≠ 0) : leT k kids k kids' = leF kids kids' := by unfold leT; simp [h1]
theorem leF_refl : ∀ f : Fo, leF f f = true
  | .nil => rfl
  | .node _ _ k kids r => by simp [leF, leF_refl kids, leF_refl r]
theorem less_self (k : Int) (kids : Fo) : lessT k kids k kids = (chk k kids == 0) := by
  unfold lessT leT
  rw [leF_refl]
  simp
theorem less_zero (k : Int) (kids : Fo) : lessT 0 .nil k kids = (chk k kids == 0) := by
  unfold lessT leT
  simp [show chk 0 .nil = 0 from rfl]
theorem kids_zero {kids : Fo} (h : okK 0 (len kids) = true) : kids = .nil := by
  cases kids with
  | nil => rfl
  | node _ _ _ _ _ => simp [okK, len] at h
/-- both ways: the same -/
theorem leF_both : ∀ f g : Fo, okF f = true → okF g = true → len f = len g → leF f g = true → leF g f = eqF f g
  | .nil, .nil, _, _, _, _ => rfl
  | .nil, .node _ _ _ _ _, _, _, h, _ => by simp only [len] at h; omega
  | .node _ _ _ _ _, .nil, _, _, h, _ => by simp only [len] at h; omega
  | .node _ _ k kids r, .node _ _ k' kids' r', h1, h2, h3, h4 => by
    simp only [okF, Bool.and_eq_true, len] at h1 h2 h3
    simp only [leF, Bool.and_eq_true] at h4
    simp only [leF, eqF]
    rw [leF_both r r' h1.2 h2.2 (by omega) h4.2]
    by_cases e : k = k'
    · subst e
      by_cases hz : k = 0
      · subst hz
        obtain rfl := kids_zero h1.1.1
        obtain rfl := kids_zero h2.1.1
        rfl
      · have h5 : leF kids kids' = true := by simpa [hz] using h4.1
        rw [leF_both kids kids' h1.1.2 h2.1.2 (okK_same h1.1.1 h2.1.1) h5]
        rw [show (k == 0) = false by simpa using hz]
        simp
    · have hz : k = 0 := by simpa [e] using h4.1
      subst hz
      rw [show (k' == 0) = false by simpa using fun h => e h.symm, show ((0 : Int) == k') = false by simpa using e]
      rfl
theorem leF_trans : ∀ f g h : Fo, okF f = true → okF g = true → okF h = true → len f = len g → len g = len h → leF f g = true → leF g h = true → leF f h = true
  | .nil, _, _, _, _, _, _, _, _, _ => rfl
  | .node _ _ _ _ _, .nil, _, _, _, _, h, _, _, _ => by simp only [len] at h; omega
  | .node _ _ _ _ _, .node _ _ _ _ _, .nil, _, _, _, _, h, _, _ => by simp only [len] at h; omega
  | .node _ _ k kids r, .node _ _ k' kids' r', .node _ _ k'' kids'' r'', h1, h2, h3, h4, h5, h6, h7 => by
    simp only [okF, Bool.and_eq_true, len] at h1 h2 h3 h4 h5
    simp only [leF, Bool.and_eq_true, Bool.or_eq_true, beq_iff_eq] at h6 h7 ⊢
    refine ⟨?_, leF_trans r r' r'' h1.2 h2.2 h3.2 (by omega) (by omega) h6.2 h7.2⟩
    rcases h6.1 with hz | ⟨rfl, hk⟩
    · exact .inl hz
    · rcases h7.1 with hz | ⟨rfl, hk'⟩
      · exact .inl hz
      · exact .inr ⟨rfl, leF_trans kids kids' kids'' h1.1.2 h2.1.2 h3.1.2 (okK_same h1.1.1 h2.1.1) (okK_same h2.1.1 h3.1.1) hk hk'⟩
theorem lessT_iff {k : Int} {kids : Fo} {k' : Int} {kids' : Fo} : lessT k kids k' kids' = true ↔ chk k kids = 0 ∧ chk k' kids' = 0 ∧ leT k kids k' kids' = true := by
  unfold lessT
  simp [Bool.and_eq_true, and_assoc]
theorem ok_parts {k : Int} {kids : Fo} (h : chk k kids = 0) : okK k (len kids) = true ∧ okF kids = true := by
  have := (chk_ok h).1
  unfold okT at this
  rw [Bool.and_eq_true] at this
  exact this
theorem less_both {k : Int} {kids : Fo} {k' : Int} {kids' : Fo} (h : lessT k kids k' kids' = true) : lessT k' kids' k kids = sameT k kids k' kids' := by
  obtain ⟨h1, h2, h3⟩ := lessT_iff.1 h
  have o1 := ok_parts h1
  have o2 := ok_parts h2
  unfold lessT sameT eqT
  rw [h1, h2]
  simp only [beq_self_eq_true, Bool.true_and]
  have q := leF_both (.node 0 0 k kids .nil) (.node 0 0 k' kids' .nil) (by simp [okF, o1.1, o1.2]) (by simp [okF, o2.1, o2.2]) rfl (by unfold leT at h3; simpa [leF] using h3)
  simp only [leF, eqF, Bool.and_true] at q
  unfold leT
  exact q
theorem less_trans {k : Int} {kids : Fo} {k' : Int} {kids' : Fo} {k'' : Int} {kids'' : Fo} (h : lessT k kids k' kids' = true) (h' : lessT k' kids' k'' kids'' = true) : lessT k kids k'' kids'' = true := by
  obtain ⟨h1, h2, h3⟩ := lessT_iff.1 h
  obtain ⟨h4, h5, h6⟩ := lessT_iff.1 h'
  have o1 := ok_parts h1
  have o2 := ok_parts h2
  have o3 := ok_parts h5
  refine lessT_iff.2 ⟨h1, h5, ?_⟩
  have q := leF_trans (.node 0 0 k kids .nil) (.node 0 0 k' kids' .nil) (.node 0 0 k'' kids'' .nil) (by simp [okF, o1.1, o1.2]) (by simp [okF, o2.1, o2.2]) (by simp [okF, o3.1, o3.2]) rfl rfl (by unfold leT at h3; simpa [leF] using h3) (by unfold leT at h6; simpa [leF] using h6)
  simp only [leF, Bool.and_true] at q
  unfold leT
  exact q
/-- where two meet -/
def mF : Fo → Fo → Fo
  | .nil, _ => .nil
  | .node a b k kids r, .nil => .node a b k kids r
  | .node a b k kids r, .node _ _ k' kids' r' => .node a b (if k = 0 then k' else k) (if k = 0 then kids' else if k' = 0 then kids else mF kids kids') (mF r r')
def mK (k k' : Int) : Int := if k = 0 then k' else k
def mT (k : Int) (kids : Fo) (k' : Int) (kids' : Fo) : Fo := if k = 0 then kids' else if k' = 0 then kids else mF kids kids'
theorem mT_zero (kids : Fo) (k' : Int) (kids' : Fo) : mT 0 kids k' kids' = kids' := rfl
theorem mT_zero' {k : Int} (kids kids' : Fo) (h : k ≠ 0) : mT k kids 0 kids' = kids := by unfold mT; simp [h]
theorem mT_two {k k' : Int} (kids kids' : Fo) (h : k ≠ 0) (h' : k' ≠ 0) : mT k kids k' kids' = mF kids kids' := by unfold mT; simp [h, h']
theorem mK_ne {k : Int} (k' : Int) (h : k ≠ 0) : mK k k' = k := by unfold mK; simp [h]
end Ty
end Go.Proofs.YtfkbdpehdabepaaDoor
