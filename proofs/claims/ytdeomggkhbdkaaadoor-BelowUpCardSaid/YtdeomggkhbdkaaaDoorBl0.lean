/-
  Types below types: what the table says of forests.
-/
import Derived.Test.YtdeomggkhbdkaaaDoorAg0
import Derived.Test.YtdeomggkhbdkaaaDoorOr0
namespace Go.Proofs.YtdeomggkhbdkaaaDoor
namespace Ty
/-- is a type below ?: it is ?, or below its ground -/
def loT : Int → Fo → Bool
  | _, .nil => true
  | _, .node _ _ _ _ .nil => true
  | k, .node _ _ k1 f1 (.node _ _ k2 f2 _) => if k = 3 then (k1 == 0) && loT k2 f2 else loT k1 f1 && loT k2 f2
/-- the other way round: positively, negatively -/
def sw (m : Nat) : Nat := if m = 1 then 2 else if m = 2 then 1 else m
/-- what the table's row tells of two kinds: p, is the first below ?; q, what the parts tell -/
def hd (m : Nat) (k k' : Int) (p q : Bool) : Bool := if k' = 0 then (k == 0) || (m == 1) || p else if k = 0 then m == 2 else if k = k' then q else false
/-- 0: below; 1: positively; 2: negatively; the first number: how deep -/
def relN : Nat → Nat → Int → Fo → Int → Fo → Bool
  | 0, _, _, _, _, _ => true
  | N + 1, m, k, kids, k', kids' => hd m k k' (loT k kids) (match kids, kids' with
    | .node _ _ k1 f1 (.node _ _ k2 f2 _), .node _ _ k1' f1' (.node _ _ k2' f2' _) => (if k = 3 then relN N (sw m) k1' f1' k1 f1 else relN N m k1 f1 k1' f1') && relN N m k2 f2 k2' f2'
    | _, _ => true)
def relT (m : Nat) (k : Int) (kids : Fo) (k' : Int) (kids' : Fo) : Bool := relN (max (nodes kids) (nodes kids') + 1) m k kids k' kids'
def belowT (m : Nat) (k : Int) (kids : Fo) (k' : Int) (kids' : Fo) : Bool := (chk k kids == 0) && (chk k' kids' == 0) && relT m k kids k' kids'
theorem relN_eq : ∀ (N N' m : Nat) (k : Int) (kids : Fo) (k' : Int) (kids' : Fo), nodes kids < N → nodes kids' < N → nodes kids < N' → nodes kids' < N' → relN N m k kids k' kids' = relN N' m k kids k' kids'
  | 0, _, _, _, _, _, _, h, _, _, _ => by omega
  | _ + 1, 0, _, _, _, _, _, _, _, h, _ => by omega
  | N + 1, N' + 1, m, k, kids, k', kids', h1, h2, h3, h4 => by
    unfold relN
    congr 1
    split
    · simp only [nodes] at h1 h2 h3 h4
      congr 1
      · split
        · exact relN_eq N N' _ _ _ _ _ (by omega) (by omega) (by omega) (by omega)
        · exact relN_eq N N' _ _ _ _ _ (by omega) (by omega) (by omega) (by omega)
      · exact relN_eq N N' _ _ _ _ _ (by omega) (by omega) (by omega) (by omega)
    · rfl
theorem relN_relT {N m : Nat} {k : Int} {kids : Fo} {k' : Int} {kids' : Fo} (h : nodes kids < N) (h' : nodes kids' < N) : relN N m k kids k' kids' = relT m k kids k' kids' :=
  relN_eq _ _ _ _ _ _ _ h h' (by omega) (by omega)
theorem sw_sw (m : Nat) : sw (sw m) = m := by unfold sw; split <;> (try split) <;> (try split) <;> omega
theorem rel_hd (m : Nat) (k : Int) (kids : Fo) (k' : Int) (kids' : Fo) : ∃ q, relT m k kids k' kids' = hd m k k' (loT k kids) q := ⟨_, rfl⟩
theorem rel_zero (m : Nat) (kids kids' : Fo) : relT m 0 kids 0 kids' = true := by
  obtain ⟨q, e⟩ := rel_hd m 0 kids 0 kids'
  rw [e]; rfl
theorem rel_leave (m : Nat) {k : Int} (kids kids' : Fo) (h : k ≠ 0) : relT m k kids 0 kids' = ((m == 1) || loT k kids) := by
  obtain ⟨q, e⟩ := rel_hd m k kids 0 kids'
  rw [e]; unfold hd
  rw [if_pos rfl, show (k == 0) = false by simpa using h, Bool.false_or]
theorem rel_enter (m : Nat) {k' : Int} (kids kids' : Fo) (h : k' ≠ 0) : relT m 0 kids k' kids' = (m == 2) := by
  obtain ⟨q, e⟩ := rel_hd m 0 kids k' kids'
  rw [e]; unfold hd; simp [h]
theorem rel_ne (m : Nat) {k k' : Int} (kids kids' : Fo) (h : k ≠ 0) (h' : k' ≠ 0) (hk : k ≠ k') : relT m k kids k' kids' = false := by
  obtain ⟨q, e⟩ := rel_hd m k kids k' kids'
  rw [e]; unfold hd; simp [h, h', hk]
theorem rel_base (m : Nat) {k : Int} : relT m k .nil k .nil = true := by
  show hd m k k (loT k .nil) true = true
  unfold hd loT
  split
  · simp
  · simp_all
theorem rel_two (m : Nat) {k : Int} {a b c d a' b' c' d' : Nat} {k1 k2 k1' k2' : Int} {f1 f2 r f1' f2' r' : Fo} (h : k ≠ 0) :
    relT m k (.node a b k1 f1 (.node c d k2 f2 r)) k (.node a' b' k1' f1' (.node c' d' k2' f2' r')) = ((if k = 3 then relT (sw m) k1' f1' k1 f1 else relT m k1 f1 k1' f1') && relT m k2 f2 k2' f2') := by
  have e : relT m k (.node a b k1 f1 (.node c d k2 f2 r)) k (.node a' b' k1' f1' (.node c' d' k2' f2' r')) = hd m k k (loT k (.node a b k1 f1 (.node c d k2 f2 r))) ((if k = 3 then relN (max (nodes (.node a b k1 f1 (.node c d k2 f2 r))) (nodes (.node a' b' k1' f1' (.node c' d' k2' f2' r')))) (sw m) k1' f1' k1 f1 else relN (max (nodes (.node a b k1 f1 (.node c d k2 f2 r))) (nodes (.node a' b' k1' f1' (.node c' d' k2' f2' r')))) m k1 f1 k1' f1') && relN (max (nodes (.node a b k1 f1 (.node c d k2 f2 r))) (nodes (.node a' b' k1' f1' (.node c' d' k2' f2' r')))) m k2 f2 k2' f2') := rfl
  rw [e]
  simp only [nodes]
  rw [relN_relT (m := sw m) (by omega) (by omega), relN_relT (m := m) (kids := f1) (by omega) (by omega), relN_relT (m := m) (kids := f2) (by omega) (by omega)]
  unfold hd
  rw [if_neg h, if_neg h, if_pos rfl]
theorem lo_two {k : Int} {a b c d : Nat} {k1 k2 : Int} {f1 f2 r : Fo} : loT k (.node a b k1 f1 (.node c d k2 f2 r)) = (if k = 3 then (k1 == 0) && loT k2 f2 else loT k1 f1 && loT k2 f2) := rfl
theorem lo_nil (k : Int) : loT k .nil = true := rfl
/-- a right type and its ground -/
theorem rel_ground {m : Nat} {k : Int} {kids : Fo} (hm : m = 0 ∨ m = 2) (h : okT k kids = true) (h0 : k ≠ 0) : relT m k kids k (if 3 ≤ k then two 0 .nil 0 .nil else .nil) = loT k kids := by
  by_cases h3 : 3 ≤ k
  · rw [if_pos h3]
    obtain ⟨a, b, k1, f1, c, d, k2, f2, rfl, o1, o2⟩ := two_of h h3
    unfold two
    rw [rel_two m h0, lo_two]
    have e : ∀ (kk : Int) (ff : Fo), okT kk ff = true → relT m kk ff 0 .nil = loT kk ff := by
      intro kk ff oo
      by_cases hk : kk = 0
      · subst hk
        obtain rfl := none_of oo (by omega)
        rfl
      · rw [rel_leave m _ _ hk]
        rcases hm with rfl | rfl <;> simp
    rw [e k2 f2 o2, e k1 f1 o1]
    have e1 : relT (sw m) 0 .nil k1 f1 = (k1 == 0) := by
      by_cases hk : k1 = 0
      · subst hk
        rw [rel_zero]; rfl
      · rw [rel_enter _ _ _ hk]
        rcases hm with rfl | rfl <;> simp [sw, hk]
    rw [e1]
    split <;> rfl
  · rw [if_neg h3]
    obtain rfl := none_of h (by omega)
    rw [rel_base]; rfl
/-- two right types: both ?; ? on the left, on the right; unlike; two bases; two with parts -/
theorem cases_two {k k' : Int} {kids kids' : Fo} (h : okT k kids = true) (h' : okT k' kids' = true) :
    (k = 0 ∧ k' = 0 ∧ kids = .nil ∧ kids' = .nil) ∨ (k = 0 ∧ k' ≠ 0 ∧ kids = .nil) ∨ (k ≠ 0 ∧ k' = 0 ∧ kids' = .nil) ∨ (k ≠ 0 ∧ k' ≠ 0 ∧ k ≠ k') ∨ (k ≠ 0 ∧ k = k' ∧ kids = .nil ∧ kids' = .nil) ∨
    (k = k' ∧ 3 ≤ k ∧ ∃ a b k1 f1 c d k2 f2 a' b' k1' f1' c' d' k2' f2', kids = .node a b k1 f1 (.node c d k2 f2 .nil) ∧ kids' = .node a' b' k1' f1' (.node c' d' k2' f2' .nil) ∧ okT k1 f1 = true ∧ okT k2 f2 = true ∧ okT k1' f1' = true ∧ okT k2' f2' = true) := by
  by_cases h0 : k = 0
  · subst h0
    obtain rfl := none_of h (by omega)
    by_cases h1 : k' = 0
    · subst h1
      obtain rfl := none_of h' (by omega)
      exact .inl ⟨rfl, rfl, rfl, rfl⟩
    · exact .inr (.inl ⟨rfl, h1, rfl⟩)
  · by_cases h1 : k' = 0
    · subst h1
      obtain rfl := none_of h' (by omega)
      exact .inr (.inr (.inl ⟨h0, rfl, rfl⟩))
    · by_cases hk : k = k'
      · subst hk
        by_cases h3 : 3 ≤ k
        · obtain ⟨a, b, k1, f1, c, d, k2, f2, rfl, o1, o2⟩ := two_of h h3
          obtain ⟨a', b', k1', f1', c', d', k2', f2', rfl, o1', o2'⟩ := two_of h' h3
          exact .inr (.inr (.inr (.inr (.inr ⟨rfl, h3, a, b, k1, f1, c, d, k2, f2, a', b', k1', f1', c', d', k2', f2', rfl, rfl, o1, o2, o1', o2'⟩))))
        · obtain rfl := none_of h (by omega)
          obtain rfl := none_of h' (by omega)
          exact .inr (.inr (.inr (.inr (.inl ⟨h0, rfl, rfl, rfl⟩))))
      · exact .inr (.inr (.inr (.inl ⟨h0, h1, hk⟩)))
theorem sw_zero : sw 0 = 0 := rfl
theorem sw_one : sw 1 = 2 := rfl
theorem sw_two : sw 2 = 1 := rfl
/-- below is both -/
theorem rel_both (N : Nat) : ∀ (k : Int) (kids : Fo) (k' : Int) (kids' : Fo), nodes kids + nodes kids' < N → okT k kids = true → okT k' kids' = true → relT 0 k kids k' kids' = (relT 1 k kids k' kids' && relT 2 k kids k' kids') := by
  induction N with
  | zero => intro _ _ _ _ h; omega
  | succ N ih =>
    intro k kids k' kids' hN h h'
    rcases cases_two h h' with ⟨rfl, rfl, rfl, rfl⟩ | ⟨rfl, h1, rfl⟩ | ⟨h1, rfl, rfl⟩ | ⟨h1, h2, h3⟩ | ⟨h1, rfl, rfl, rfl⟩ | ⟨rfl, h3, a, b, k1, f1, c, d, k2, f2, a', b', k1', f1', c', d', k2', f2', rfl, rfl, o1, o2, o1', o2'⟩
    · rfl
    · rw [rel_enter _ _ _ h1, rel_enter _ _ _ h1, rel_enter _ _ _ h1]; rfl
    · rw [rel_leave _ _ _ h1, rel_leave _ _ _ h1, rel_leave _ _ _ h1]; simp
    · rw [rel_ne _ _ _ h1 h2 h3, rel_ne _ _ _ h1 h2 h3]; rfl
    · rw [rel_base, rel_base, rel_base]; rfl
    · simp only [nodes] at hN
      have h0 : k ≠ 0 := by omega
      rw [rel_two _ h0, rel_two _ h0, rel_two _ h0, sw_zero, sw_one, sw_two, ih k2 f2 k2' f2' (by omega) o2 o2']
      split
      · rw [ih k1' f1' k1 f1 (by omega) o1' o1]
        generalize relT 1 k1' f1' k1 f1 = P
        generalize relT 2 k1' f1' k1 f1 = Q
        generalize relT 1 k2 f2 k2' f2' = R
        generalize relT 2 k2 f2 k2' f2' = S
        revert P Q R S; decide
      · rw [ih k1 f1 k1' f1' (by omega) o1 o1']
        generalize relT 1 k1 f1 k1' f1' = P
        generalize relT 2 k1 f1 k1' f1' = Q
        generalize relT 1 k2 f2 k2' f2' = R
        generalize relT 2 k2 f2 k2' f2' = S
        revert P Q R S; decide
/-- more precise: positively below, negatively above -/
theorem rel_less (N : Nat) : ∀ (k : Int) (kids : Fo) (k' : Int) (kids' : Fo), nodes kids + nodes kids' < N → okT k kids = true → okT k' kids' = true → leT k' kids' k kids = (relT 1 k kids k' kids' && relT 2 k' kids' k kids) := by
  induction N with
  | zero => intro _ _ _ _ h; omega
  | succ N ih =>
    intro k kids k' kids' hN h h'
    rcases cases_two h h' with ⟨rfl, rfl, rfl, rfl⟩ | ⟨rfl, h1, rfl⟩ | ⟨h1, rfl, rfl⟩ | ⟨h1, h2, h3⟩ | ⟨h1, rfl, rfl, rfl⟩ | ⟨rfl, h3, a, b, k1, f1, c, d, k2, f2, a', b', k1', f1', c', d', k2', f2', rfl, rfl, o1, o2, o1', o2'⟩
    · rfl
    · rw [rel_enter _ _ _ h1, leT_ne _ _ h1 h1]; rfl
    · rw [rel_leave _ _ _ h1, rel_enter _ _ _ h1, leT_zero]; rfl
    · rw [rel_ne _ _ _ h1 h2 h3, leT_ne _ _ h2 (fun e => h3 e.symm)]; rfl
    · rw [rel_base, rel_base, leT_eq _ _ h1]; rfl
    · simp only [nodes] at hN
      have h0 : k ≠ 0 := by omega
      have e2 := ih k2 f2 k2' f2' (by omega) o2 o2'
      have e1 := ih k1 f1 k1' f1' (by omega) o1 o1'
      rw [rel_two _ h0, rel_two _ h0, sw_one, sw_two, leT_eq _ _ h0]
      show (((k1' == 0) || ((k1' == k1) && leF f1' f1)) && (((k2' == 0) || ((k2' == k2) && leF f2' f2)) && true)) = _
      rw [show ((k1' == 0) || ((k1' == k1) && leF f1' f1)) = leT k1' f1' k1 f1 from rfl, show ((k2' == 0) || ((k2' == k2) && leF f2' f2)) = leT k2' f2' k2 f2 from rfl, e1, e2]
      generalize relT 1 k2 f2 k2' f2' = R
      generalize relT 2 k2' f2' k2 f2 = S
      generalize relT 1 k1 f1 k1' f1' = P
      generalize relT 2 k1' f1' k1 f1 = Q
      split
      · revert P Q R S; decide
      · revert P Q R S; decide
theorem rel_self (N : Nat) : ∀ (m : Nat) (k : Int) (kids : Fo), nodes kids < N → okT k kids = true → relT m k kids k kids = true := by
  induction N with
  | zero => intro _ _ _ h; omega
  | succ N ih =>
    intro m k kids hN h
    by_cases h3 : 3 ≤ k
    · obtain ⟨a, b, k1, f1, c, d, k2, f2, rfl, o1, o2⟩ := two_of h h3
      simp only [nodes] at hN
      rw [rel_two _ (by omega), ih _ _ _ (by omega) o1, ih _ _ _ (by omega) o2, ih _ _ _ (by omega) o1]
      simp
    · obtain rfl := none_of h (by omega)
      exact rel_base m
theorem lo_rel {k : Int} {kids : Fo} (h : okT k kids = true) : relT 0 k kids 0 .nil = loT k kids := by
  by_cases h0 : k = 0
  · subst h0
    obtain rfl := none_of h (by omega)
    rfl
  · rw [rel_leave _ _ _ h0]; rfl
theorem rel_open {k : Int} {kids : Fo} (h : relT 0 0 .nil k kids = true) : k = 0 := by
  by_cases h0 : k = 0
  · exact h0
  · rw [rel_enter _ _ _ h0] at h; cases h
theorem rel_trans (N : Nat) : ∀ (k : Int) (kids : Fo) (k' : Int) (kids' : Fo) (k'' : Int) (kids'' : Fo), nodes kids + nodes kids' + nodes kids'' < N → okT k kids = true → okT k' kids' = true → okT k'' kids'' = true → relT 0 k kids k' kids' = true → relT 0 k' kids' k'' kids'' = true → relT 0 k kids k'' kids'' = true := by
  induction N with
  | zero => intro _ _ _ _ _ _ h; omega
  | succ N ih =>
    intro k kids k' kids' k'' kids'' hN h h' h'' hab hbc
    rcases cases_two h h' with ⟨rfl, rfl, rfl, rfl⟩ | ⟨rfl, h1, rfl⟩ | ⟨h1, rfl, rfl⟩ | ⟨h1, h2, h3⟩ | ⟨h1, rfl, rfl, rfl⟩ | ⟨rfl, h3, a, b, k1, f1, c, d, k2, f2, a', b', k1', f1', c', d', k2', f2', rfl, rfl, o1, o2, o1', o2'⟩
    · exact hbc
    · exact absurd (rel_open hab) h1
    · obtain rfl := rel_open hbc
      obtain rfl := none_of h'' (by omega)
      exact hab
    · rw [rel_ne _ _ _ h1 h2 h3] at hab; cases hab
    · exact hbc
    · have h0 : k ≠ 0 := by omega
      simp only [nodes] at hN
      rw [rel_two _ h0, sw_zero, Bool.and_eq_true] at hab
      rcases cases_two h' h'' with ⟨rfl, rfl, hn, rfl⟩ | ⟨rfl, g1, hn⟩ | ⟨g1, rfl, rfl⟩ | ⟨g1, g2, g3⟩ | ⟨g1, rfl, hn, rfl⟩ | ⟨rfl, g3, e, f, j1, x1, p, q, j2, x2, e', f', j1', x1', p', q', j2', x2', he, rfl, u1, u2, u1', u2'⟩
      · exact absurd rfl h0
      · exact absurd rfl h0
      · rw [lo_rel h', lo_two] at hbc
        rw [lo_rel h, lo_two]
        have q2 : loT k2' f2' = true := by split at hbc <;> (rw [Bool.and_eq_true] at hbc; exact hbc.2)
        have t2 : loT k2 f2 = true := by
          have := ih k2 f2 k2' f2' 0 .nil (by simp only [nodes]; omega) o2 o2' rfl hab.2 (by rw [lo_rel o2']; exact q2)
          rwa [lo_rel o2] at this
        by_cases hk : k = 3
        · rw [if_pos hk] at hab hbc ⊢
          rw [Bool.and_eq_true, beq_iff_eq] at hbc
          obtain ⟨rfl, -⟩ := hbc
          obtain rfl := none_of o1' (by omega)
          have z := rel_open hab.1
          rw [t2, z]; rfl
        · rw [if_neg hk] at hab hbc ⊢
          rw [Bool.and_eq_true] at hbc
          have t1 : loT k1 f1 = true := by
            have := ih k1 f1 k1' f1' 0 .nil (by simp only [nodes]; omega) o1 o1' rfl hab.1 (by rw [lo_rel o1']; exact hbc.1)
            rwa [lo_rel o1] at this
          rw [t1, t2]; rfl
      · rw [rel_ne _ _ _ g1 g2 g3] at hbc; cases hbc
      · exact absurd hn (by intro e; cases e)
      · injection he with e1 e2 e3 e4 e5
        injection e5 with e6 e7 e8 e9 e10
        subst e3 e4 e8 e9
        simp only [nodes] at hN
        rw [rel_two _ h0, sw_zero, Bool.and_eq_true] at hbc ⊢
        refine ⟨?_, ih k2 f2 k2' f2' j2' x2' (by omega) o2 o2' u2' hab.2 hbc.2⟩
        by_cases hk : k = 3
        · rw [if_pos hk] at *
          exact ih j1' x1' k1' f1' k1 f1 (by omega) u1' o1' o1 hbc.1 hab.1
        · rw [if_neg hk] at *
          exact ih k1 f1 k1' f1' j1' x1' (by omega) o1 o1' u1' hab.1 hbc.1
theorem eqT_parts {k : Int} {a b c d a' b' c' d' : Nat} {k1 k2 k1' k2' : Int} {f1 f2 f1' f2' : Fo} : eqT k (.node a b k1 f1 (.node c d k2 f2 .nil)) k (.node a' b' k1' f1' (.node c' d' k2' f2' .nil)) = (eqT k1 f1 k1' f1' && eqT k2 f2 k2' f2') := by
  unfold eqT
  simp [eqF, Bool.and_assoc]
theorem eqT_symm (k : Int) (kids : Fo) (k' : Int) (kids' : Fo) : eqT k kids k' kids' = eqT k' kids' k kids := by
  unfold eqT
  rw [eqF_symm kids kids', (by rw [Bool.eq_iff_iff]; simp only [beq_iff_eq]; exact eq_comm : (k == k') = (k' == k))]
theorem eqT_self (k : Int) (kids : Fo) : eqT k kids k kids = true := by
  unfold eqT
  rw [eqF_refl]; simp
theorem eqT_ne {k k' : Int} (kids kids' : Fo) (h : k ≠ k') : eqT k kids k' kids' = false := by
  unfold eqT
  simp [h]
theorem rel_anti (N : Nat) : ∀ (k : Int) (kids : Fo) (k' : Int) (kids' : Fo), nodes kids + nodes kids' < N → okT k kids = true → okT k' kids' = true → relT 0 k kids k' kids' = true → relT 0 k' kids' k kids = eqT k kids k' kids' := by
  induction N with
  | zero => intro _ _ _ _ h; omega
  | succ N ih =>
    intro k kids k' kids' hN h h' hab
    rcases cases_two h h' with ⟨rfl, rfl, rfl, rfl⟩ | ⟨rfl, h1, rfl⟩ | ⟨h1, rfl, rfl⟩ | ⟨h1, h2, h3⟩ | ⟨h1, rfl, rfl, rfl⟩ | ⟨rfl, h3, a, b, k1, f1, c, d, k2, f2, a', b', k1', f1', c', d', k2', f2', rfl, rfl, o1, o2, o1', o2'⟩
    · rfl
    · exact absurd (rel_open hab) h1
    · rw [rel_enter _ _ _ h1, eqT_ne _ _ h1]; rfl
    · rw [rel_ne _ _ _ h1 h2 h3] at hab; cases hab
    · rw [rel_base, eqT_self]
    · simp only [nodes] at hN
      have h0 : k ≠ 0 := by omega
      rw [rel_two _ h0, sw_zero, Bool.and_eq_true] at hab
      rw [rel_two _ h0, sw_zero, eqT_parts, ih k2 f2 k2' f2' (by omega) o2 o2' hab.2]
      congr 1
      by_cases hk : k = 3
      · rw [if_pos hk] at *
        rw [ih k1' f1' k1 f1 (by omega) o1' o1 hab.1, eqT_symm]
      · rw [if_neg hk] at *
        exact ih k1 f1 k1' f1' (by omega) o1 o1' hab.1
theorem knT_two {k : Int} {a b c d : Nat} {k1 k2 : Int} {f1 f2 : Fo} (h : knT k (.node a b k1 f1 (.node c d k2 f2 .nil)) = true) : knT k1 f1 = true ∧ knT k2 f2 = true := by
  unfold knT at *
  simp only [knF, Bool.and_eq_true] at *
  exact ⟨h.2.1, h.2.2.1⟩
theorem knT_ne {k : Int} {kids : Fo} (h : knT k kids = true) : k ≠ 0 := by
  unfold knT at h
  rw [Bool.and_eq_true] at h
  simpa using h.1
theorem rel_known (N : Nat) : ∀ (m : Nat) (k : Int) (kids : Fo) (k' : Int) (kids' : Fo), nodes kids + nodes kids' < N → okT k kids = true → okT k' kids' = true → knT k kids = true → knT k' kids' = true → relT m k kids k' kids' = eqT k kids k' kids' := by
  induction N with
  | zero => intro _ _ _ _ _ h; omega
  | succ N ih =>
    intro m k kids k' kids' hN h h' hk hk'
    rcases cases_two h h' with ⟨rfl, rfl, rfl, rfl⟩ | ⟨rfl, h1, rfl⟩ | ⟨h1, rfl, rfl⟩ | ⟨h1, h2, h3⟩ | ⟨h1, rfl, rfl, rfl⟩ | ⟨rfl, h3, a, b, k1, f1, c, d, k2, f2, a', b', k1', f1', c', d', k2', f2', rfl, rfl, o1, o2, o1', o2'⟩
    · exact absurd rfl (knT_ne hk)
    · exact absurd rfl (knT_ne hk)
    · exact absurd rfl (knT_ne hk')
    · rw [rel_ne _ _ _ h1 h2 h3, eqT_ne _ _ h3]
    · rw [rel_base, eqT_self]
    · simp only [nodes] at hN
      have h0 : k ≠ 0 := by omega
      obtain ⟨n1, n2⟩ := knT_two hk
      obtain ⟨n1', n2'⟩ := knT_two hk'
      rw [rel_two _ h0, eqT_parts, ih m k2 f2 k2' f2' (by omega) o2 o2' n2 n2', ih _ k1' f1' k1 f1 (by omega) o1' o1 n1' n1, ih _ k1 f1 k1' f1' (by omega) o1 o1' n1 n1', eqT_symm k1' f1' k1 f1]
      simp
end Ty
end Go.Proofs.YtdeomggkhbdkaaaDoor
