/-
  A writing of a type has at least so many brackets; the fewest are read as it.
-/
import Derived.Test.YtkpdddlonmkebaaDoorRd0
import Derived.Test.YtkpdddlonmkebaaDoorFormed
import Derived.Test.YtkpdddlonmkebaaDoorSame
namespace Go.Proofs.YtkpdddlonmkebaaDoor

namespace Rd
/-- how tightly the left part must bind -/
def lft (k : Int) : Nat := if k = 4 then 3 else 2
/-- how many brackets a type wants where so tight a one must stand -/
def mb (q : Nat) (k : Int) : Fo → Nat
  | .node _ _ a aa (.node _ _ b bb .nil) => (if binds k < q then 1 else 0) + mb (lft k) a aa + mb (rgt k) b bb
  | _ => 0
theorem mb_two (q : Nat) (k a : Int) (aa : Fo) (b : Int) (bb : Fo) : mb q k (two a aa b bb) = (if binds k < q then 1 else 0) + mb (lft k) a aa + mb (rgt k) b bb := rfl
theorem mb_mono {q p : Nat} (h : q ≤ p) (k : Int) (f : Fo) : mb q k f ≤ mb p k f := by
  unfold mb
  split
  · split <;> split <;> omega
  · exact Nat.le_refl _
theorem mb_one (q p : Nat) (k : Int) (f : Fo) : mb q k f ≤ mb p k f + 1 := by
  unfold mb
  split
  · split <;> split <;> omega
  · omega
/-- how many brackets are opened ahead of the j-th word -/
def pc (l : List W4) : Nat → Nat
  | 0 => 0
  | j + 1 => pc l j + if sees l j 4 [40] then 1 else 0
theorem pc_mono (l : List W4) {i j : Nat} (h : i ≤ j) : pc l i ≤ pc l j := by
  induction j with
  | zero => obtain rfl : i = 0 := by omega
            exact Nat.le_refl _
  | succ j ih =>
    by_cases e : i = j + 1
    · subst e; exact Nat.le_refl _
    · have := ih (by omega); simp only [pc]; omega
theorem rgt_le (k : Int) : rgt k ≤ 4 := by unfold rgt; split <;> (try split) <;> omega
theorem lft_le (k : Int) : lft k ≤ 4 := by unfold lft; split <;> omega

theorem R.wants {l : List W4} {t : Tg} {r : Rs} (h : R l t r) : match t, r with
    | .one i, .ok k kids j => pc l i + mb 4 k kids ≤ pc l j
    | .wh least i, .ok k kids j => least ≤ 4 → pc l i + mb least k kids ≤ pc l j
    | .lp least k0 kids0 j0, .ok k kids j => ∀ c0, mb least k0 kids0 ≤ c0 → (opK l j0 ≠ 0 → mb (lft (opK l j0)) k0 kids0 ≤ c0) → mb least k kids + pc l j0 ≤ c0 + pc l j
    | _, .bad _ => True := by
  induction h with
  | @word i k h _ => show pc l i + mb 4 k .nil ≤ pc l (i + 1); have := pc_mono l (show i ≤ i + 1 by omega); simpa [mb] using this
  | no _ _ => trivial
  | brBad _ _ _ => trivial
  | brNo _ _ _ _ => trivial
  | @br i j k kids hb h hc ih =>
    have h1 := ih (by omega)
    have h2 := mb_one 4 1 k kids
    have h3 := pc_mono l (show j ≤ j + 1 by omega)
    simp only [pc] at h1
    rw [if_pos hb] at h1
    show pc l i + mb 4 k kids ≤ pc l (j + 1)
    omega
  | whBad _ _ => trivial
  | @whGo least i j k kids r h g ih ihg =>
    cases r with
    | bad m => trivial
    | ok k' kids' j' =>
      intro hle
      have h1 : pc l i + mb 4 k kids ≤ pc l j := ih
      have h2 := ihg (pc l j - pc l i) (by have := mb_mono hle k kids; omega) (fun _ => by have := mb_mono (lft_le (opK l j)) k kids; omega)
      omega
  | stop _ => intro c0 h1 _; omega
  | opBad _ _ _ _ => trivial
  | @op least j j2 k k2 kids kids2 r h hb g f ihg ihf =>
    cases r with
    | bad m => trivial
    | ok k' kids' j' =>
      intro c0 h1 h2
      have h3 := h2 h
      have h4 := ihg (rgt_le _)
      have hp := pc_mono l (show j ≤ j + 1 by omega)
      have he := g.ends
      simp only at he
      have hm : ∀ q, q ≤ binds (opK l j) → mb q (opK l j) (two k kids k2 kids2) ≤ c0 + pc l j2 - pc l j := fun q hq => by
        rw [mb_two, if_neg (by omega)]; omega
      have h5 := ihf (c0 + pc l j2 - pc l j) (hm _ hb) (fun hne => hm _ (by
        rcases opK_cases l j with e | e | e | e <;> rcases opK_cases l j2 with e2 | e2 | e2 | e2 <;> rw [e] at he ⊢ <;> rw [e2] at he ⊢ <;> first | exact absurd e2 hne | exact absurd e h | skip
        all_goals (revert he; decide)))
      omega

/-- the words of a type where so tight a one must stand: kinds, texts -/
def wds (q : Nat) (k : Int) : Fo → List (Int × List UInt8)
  | .node _ _ a aa (.node _ _ b bb .nil) => if binds k < q then [(4, [40])] ++ (wds (lft k) a aa ++ [(4, if k = 3 then sArrow else if k = 4 then [42] else [43])] ++ wds (rgt k) b bb) ++ [(4, [41])]
      else wds (lft k) a aa ++ [(4, if k = 3 then sArrow else if k = 4 then [42] else [43])] ++ wds (rgt k) b bb
  | _ => if k = 0 then [(4, [63])] else if k = 1 then [(3, sInt)] else [(3, sBool)]
/-- from the i-th word on stand these -/
def Stand (l : List W4) (i : Nat) (ws : List (Int × List UInt8)) : Prop := ∀ j x, ws[j]? = some x → sees l (i + j) x.1 x.2 = true
theorem Stand.left {l : List W4} {i : Nat} {a b : List (Int × List UInt8)} (h : Stand l i (a ++ b)) : Stand l i a := fun j x hx => h j x (by rw [List.getElem?_append_left (List.getElem?_eq_some_iff.1 hx).1]; exact hx)
theorem Stand.right {l : List W4} {i : Nat} {a b : List (Int × List UInt8)} (h : Stand l i (a ++ b)) : Stand l (i + a.length) b := fun j x hx => by
  have := h (a.length + j) x (by rw [List.getElem?_append_right (by omega), show a.length + j - a.length = j by omega]; exact hx)
  rwa [show i + (a.length + j) = i + a.length + j by omega] at this
theorem sees_not {l : List W4} {i : Nat} {k k' : Int} {t t' : List UInt8} (h : sees l i k t = true) (hne : k ≠ k' ∨ t ≠ t') : sees l i k' t' = false := by
  unfold sees at h ⊢
  split at h
  · rename_i x hx
    simp only [Bool.and_eq_true, beq_iff_eq] at h
    rw [Bool.and_eq_false_iff]
    rcases hne with e | e
    · left; rw [beq_eq_false_iff_ne]; exact fun q => e (h.1.symm.trans q)
    · right; rw [beq_eq_false_iff_ne]; exact fun q => e (h.2.symm.trans q)
  · cases h
theorem opK_of {l : List W4} {i : Nat} {k : Int} (hk : k = 3 ∨ k = 4 ∨ k = 5) (h : sees l i 4 (if k = 3 then sArrow else if k = 4 then [42] else [43]) = true) : opK l i = k := by
  unfold opK
  rcases hk with rfl | rfl | rfl
  · rw [if_pos (by exact h)]
  · rw [if_neg (by rw [sees_not (t' := sArrow) (k' := 4) h (.inr (by decide))]; decide), if_pos (by exact h)]
  · rw [if_neg (by rw [sees_not (t' := sArrow) (k' := 4) h (.inr (by decide))]; decide), if_neg (by rw [sees_not (t' := [42]) (k' := 4) h (.inr (by decide))]; decide), if_pos (by exact h)]
theorem opK_not {l : List W4} {i : Nat} {k : Int} {t : List UInt8} (h : sees l i k t = true) (h1 : k ≠ 4 ∨ t ≠ sArrow) (h2 : k ≠ 4 ∨ t ≠ [42]) (h3 : k ≠ 4 ∨ t ≠ [43]) : opK l i = 0 := by
  unfold opK
  rw [if_neg (by rw [sees_not h h1]; decide), if_neg (by rw [sees_not h h2]; decide), if_neg (by rw [sees_not h h3]; decide)]

theorem okK_cases {k : Int} {n : Nat} (h : Ty.okK k n = true) : k < 3 ∨ k = 3 ∨ k = 4 ∨ k = 5 := by
  unfold Ty.okK at h
  split at h
  · left; omega
  · split at h
    · omega
    · cases h
theorem sees_at {l : List W4} {i j : Nat} {k : Int} {t : List UInt8} (h : sees l i k t = true) (e : i = j) : sees l j k t = true := e ▸ h
theorem R.lpAt {l : List W4} {q i j : Nat} {k : Int} {f : Fo} {r : Rs} (h : R l (.lp q k f i) r) (e : i = j) : R l (.lp q k f j) r := e ▸ h
theorem R.whAt {l : List W4} {q i i2 j j2 : Nat} {k : Int} {f : Fo} (h : R l (.wh q i) (.ok k f j)) (e : i = i2) (e2 : j = j2) : R l (.wh q i2) (.ok k f j2) := e ▸ e2 ▸ h
theorem eqF_ghost (x y z u : Nat) (a : Int) (aa : Fo) (b : Int) (bb g : Fo) : Ty.eqF (.node x y a aa (.node z u b bb .nil)) g = Ty.eqF (.node 0 0 a aa (.node 0 0 b bb .nil)) g := by
  cases g with
  | nil => rfl
  | node _ _ _ _ r => simp only [Ty.eqF]; cases r <;> rfl
/-- what the fewest brackets may be followed by -/
def Next (l : List W4) (q : Nat) (k : Int) (j : Nat) : Prop := k < 3 ∨ binds k < q ∨ opK l j = 0 ∨ binds (opK l j) < rgt k

theorem reads (l : List W4) : ∀ (K : Nat) (q : Nat) (k : Int) (f : Fo) (i : Nat), Ty.nodes f < K → Ty.okT k f = true → q ≤ 4 → Stand l i (wds q k f) → Next l q k (i + (wds q k f).length) →
    ∃ g, Ty.eqT k f k g = true ∧ ∀ least r, least ≤ q → R l (.lp least k g (i + (wds q k f).length)) r → R l (.wh least i) r
  | 0, _, _, _, _, h, _, _, _, _ => absurd h (by omega)
  | K + 1, q, k, f, i, hK, hok, hq, hs, hn => by
    unfold Ty.okT at hok
    rw [Bool.and_eq_true] at hok
    obtain ⟨hk, hf⟩ := hok
    unfold Ty.okK at hk
    by_cases h3 : 0 ≤ k ∧ k ≤ 2
    · rw [if_pos h3] at hk
      have : f = .nil := by
        cases f with
        | nil => rfl
        | node _ _ _ _ _ => simp [Ty.len] at hk
      subst this
      refine ⟨.nil, by unfold Ty.eqT; simp [Ty.eqF], fun least r _ hr => ?_⟩
      rcases (by omega : k = 0 ∨ k = 1 ∨ k = 2) with rfl | rfl | rfl
      · have h0 : sees l i 4 [63] = true := hs 0 _ rfl
        exact .whGo (.word (by unfold atK; rw [if_pos h0]) (sees_not h0 (.inr (by decide)))) hr
      · have h0 : sees l i 3 sInt = true := hs 0 _ rfl
        exact .whGo (.word (by unfold atK; rw [if_neg (by rw [sees_not (k' := 4) (t' := [63]) h0 (.inl (by decide))]; decide), if_pos h0]) (sees_not h0 (.inl (by decide)))) hr
      · have h0 : sees l i 3 sBool = true := hs 0 _ rfl
        exact .whGo (.word (by unfold atK; rw [if_neg (by rw [sees_not (k' := 4) (t' := [63]) h0 (.inl (by decide))]; decide), if_neg (by rw [sees_not (k' := 3) (t' := sInt) h0 (.inr (by decide))]; decide), if_pos h0]) (sees_not h0 (.inl (by decide)))) hr
    · rw [if_neg h3] at hk
      have h5 : 3 ≤ k ∧ k ≤ 5 := by
        by_cases h : 3 ≤ k ∧ k ≤ 5
        · exact h
        · rw [if_neg h] at hk; cases hk
      rw [if_pos h5] at hk
      have h345 : k = 3 ∨ k = 4 ∨ k = 5 := by omega
      match f, hk, hf, hK, hs, hn with
      | .nil, hk, _, _, _, _ => simp [Ty.len] at hk
      | .node _ _ _ _ .nil, hk, _, _, _, _ => simp [Ty.len] at hk
      | .node _ _ _ _ (.node _ _ _ _ (.node _ _ _ _ _)), hk, _, _, _, _ => simp [Ty.len] at hk
      | .node _ _ a aa (.node _ _ b bb .nil), _, hf, hK, hs, hn =>
      simp only [Ty.okF, Bool.and_eq_true] at hf
      simp only [Ty.nodes] at hK
      -- the words without brackets
      have inner : ∀ (i : Nat), Stand l i (wds (lft k) a aa ++ [(4, if k = 3 then sArrow else if k = 4 then [42] else [43])] ++ wds (rgt k) b bb) →
          (opK l (i + (wds (lft k) a aa ++ [(4, if k = 3 then sArrow else if k = 4 then [42] else [43])] ++ wds (rgt k) b bb).length) = 0 ∨ binds (opK l (i + (wds (lft k) a aa ++ [(4, if k = 3 then sArrow else if k = 4 then [42] else [43])] ++ wds (rgt k) b bb).length)) < rgt k) →
          ∃ g, Ty.eqT k (.node 0 0 a aa (.node 0 0 b bb .nil)) k g = true ∧ ∀ least r, least ≤ binds k → R l (.lp least k g (i + (wds (lft k) a aa ++ [(4, if k = 3 then sArrow else if k = 4 then [42] else [43])] ++ wds (rgt k) b bb).length)) r → R l (.wh least i) r := by
        intro i hs1 hn1
        have hop := opK_of h345 (by have := hs1.left.right 0 _ rfl; simpa using this)
        have hsr := hs1.right
        have hsl := hs1.left.left
        simp only [List.length_append, List.length_cons, List.length_nil] at hn1 hsr ⊢
        obtain ⟨g1, e1, r1⟩ := reads l K (lft k) a aa i (by omega) (by unfold Ty.okT; simp [hf.1.1, hf.1.2]) (lft_le k) hsl (by
          unfold Next
          rw [hop]
          have ha := okK_cases hf.1.1
          rcases ha with h | h | h | h
          · exact .inl h
          all_goals
            subst h
            rcases h345 with rfl | rfl | rfl <;> decide)
        have h2 := reads l K (rgt k) b bb (i + ((wds (lft k) a aa).length + 1)) (by omega) (by unfold Ty.okT; simp [hf.2.1.1, hf.2.1.2]) (rgt_le k) (by simpa using hsr) (by
          unfold Next
          have hb := okK_cases hf.2.1.1
          rw [show i + ((wds (lft k) a aa).length + 1) + (wds (rgt k) b bb).length = i + ((wds (lft k) a aa).length + (0 + 1) + (wds (rgt k) b bb).length) by omega]
          generalize opK l (i + ((wds (lft k) a aa).length + (0 + 1) + (wds (rgt k) b bb).length)) = o at hn1 ⊢
          rcases hb with h | h | h | h
          · exact .inl h
          all_goals
            subst h
            rcases hn1 with h0 | h0
            · exact .inr (.inr (.inl h0))
            · rcases h345 with rfl | rfl | rfl
              all_goals first
                | exact .inr (.inl (by decide))
                | exact .inr (.inr (.inr (Nat.lt_of_lt_of_le h0 (by decide)))))
        obtain ⟨g2, e2, r2⟩ := h2
        rw [show i + ((wds (lft k) a aa).length + 1) + (wds (rgt k) b bb).length = i + ((wds (lft k) a aa).length + (0 + 1) + (wds (rgt k) b bb).length) by omega] at r2
        refine ⟨two a g1 b g2, ?_, fun least r hle hr => ?_⟩
        · unfold Ty.eqT at e1 e2 ⊢
          unfold two
          simp only [Bool.and_eq_true] at e1 e2
          simp [Ty.eqF, e1.2, e2.2]
        · refine r1 least r (by rcases h345 with rfl | rfl | rfl <;> exact Nat.le_trans hle (by decide)) ?_
          have hw := r2 (rgt k) _ (Nat.le_refl _) (.stop hn1)
          refine .op (by rw [hop]; omega) (by rw [hop]; exact hle) (by rw [hop]; exact hw.whAt (by omega) rfl) ?_
          rw [hop]; exact hr
      by_cases hbq : binds k < q
      · have ew : wds q k (.node 0 0 a aa (.node 0 0 b bb .nil)) = [(4, [40])] ++ (wds (lft k) a aa ++ [(4, if k = 3 then sArrow else if k = 4 then [42] else [43])] ++ wds (rgt k) b bb) ++ [(4, [41])] := by
          show (if binds k < q then _ else _) = _
          rw [if_pos hbq]
        have ew2 : ∀ x y z u, wds q k (.node x y a aa (.node z u b bb .nil)) = wds q k (.node 0 0 a aa (.node 0 0 b bb .nil)) := fun _ _ _ _ => rfl
        rw [ew2] at hs hn ⊢
        rw [ew] at hs ⊢
        clear hn
        have ho := hs.left.left 0 _ rfl
        have hc := hs.right 0 _ rfl
        have hi := hs.left.right
        simp only [List.length_append, List.length_cons, List.length_nil] at hi hc ⊢
        obtain ⟨g, e, hr⟩ := inner (i + (0 + 1)) hi (.inl (opK_not (k := 4) (t := [41]) (sees_at hc (by simp only [List.length_append, List.length_cons, List.length_nil]; omega)) (.inr (by decide)) (.inr (by decide)) (.inr (by decide))))
        simp only [List.length_append, List.length_cons, List.length_nil] at hr
        refine ⟨g, by unfold Ty.eqT at e ⊢; rw [eqF_ghost]; exact e, fun least r _ hq => ?_⟩
        have hw := hr 1 _ (by rcases h345 with rfl | rfl | rfl <;> decide) (.stop (.inl (opK_not (k := 4) (t := [41]) (sees_at hc (by omega)) (.inr (by decide)) (.inr (by decide)) (.inr (by decide)))))
        exact .whGo (.br (sees_at ho (by omega)) (hw.whAt (by omega) rfl) (sees_at hc (by omega))) (hq.lpAt (by omega))
      · have ew : ∀ x y z u, wds q k (.node x y a aa (.node z u b bb .nil)) = wds (lft k) a aa ++ [(4, if k = 3 then sArrow else if k = 4 then [42] else [43])] ++ wds (rgt k) b bb := by
          intro x y z u
          show (if binds k < q then _ else _) = _
          rw [if_neg hbq]
        rw [ew] at hs hn ⊢
        obtain ⟨g, e, hr⟩ := inner i hs (by
          rcases hn with h | h | h | h
          · omega
          · exact absurd h hbq
          · exact .inl h
          · exact .inr h)
        exact ⟨g, by unfold Ty.eqT at e ⊢; rw [eqF_ghost]; exact e, fun least r hle hq => hr least r (by omega) hq⟩
end Rd
end Go.Proofs.YtkpdddlonmkebaaDoor
