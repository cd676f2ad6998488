/-
  Words read as a type: the grammar of chapter 2, by how tightly each word binds, as a relation; each reading has one answer.
-/
import Derived.Test.YtkpdddlonmkebaaDoorFo
namespace Go.Proofs.YtkpdddlonmkebaaDoor

namespace Rd
/-- a word -/
structure W4 where
  kind : Int
  text : ByteArray
  num : Int
  pos : Int
/-- is the i-th word of that kind, with that text? -/
def sees (l : List W4) (i : Nat) (k : Int) (t : List UInt8) : Bool := match l[i]? with
  | some x => x.kind == k && x.text.toList == t
  | none => false
def sArrow : List UInt8 := [45, 62]
def sInt : List UInt8 := [105, 110, 116]
def sBool : List UInt8 := [98, 111, 111, 108]
/-- the kind whose word stands between two parts -/
def opK (l : List W4) (i : Nat) : Int := if sees l i 4 sArrow then 3 else if sees l i 4 [42] then 4 else if sees l i 4 [43] then 5 else 0
/-- the kind of one word -/
def atK (l : List W4) (i : Nat) : Option Int := if sees l i 4 [63] then some 0 else if sees l i 3 sInt then some 1 else if sees l i 3 sBool then some 2 else none
def binds (k : Int) : Nat := if k = 3 then 1 else if k = 4 then 3 else if k = 5 then 2 else 0
/-- how tightly the right part must bind -/
def rgt (k : Int) : Nat := if k = 3 then 1 else if k = 4 then 4 else 3
def two (a : Int) (aa : Fo) (b : Int) (bb : Fo) : Fo := .node 0 0 a aa (.node 0 0 b bb .nil)

/-- what is read: one word or brackets; as much as binds so tightly; on from a part that is there -/
inductive Tg where
  | one (i : Nat)
  | wh (least : Nat) (i : Nat)
  | lp (least : Nat) (k : Int) (kids : Fo) (j : Nat)
/-- a type and the place behind it; or the word that can't stand there -/
inductive Rs where
  | ok (k : Int) (kids : Fo) (j : Nat)
  | bad (i : Nat)

inductive R (l : List W4) : Tg → Rs → Prop where
  | word {i : Nat} {k : Int} (h : atK l i = some k) (hb : sees l i 4 [40] = false) : R l (.one i) (.ok k .nil (i + 1))
  | no {i : Nat} (h : atK l i = none) (hb : sees l i 4 [40] = false) : R l (.one i) (.bad i)
  | brBad {i m : Nat} (hb : sees l i 4 [40] = true) (h : R l (.wh 1 (i + 1)) (.bad m)) : R l (.one i) (.bad m)
  | brNo {i j : Nat} {k : Int} {kids : Fo} (hb : sees l i 4 [40] = true) (h : R l (.wh 1 (i + 1)) (.ok k kids j)) (hc : sees l j 4 [41] = false) : R l (.one i) (.bad j)
  | br {i j : Nat} {k : Int} {kids : Fo} (hb : sees l i 4 [40] = true) (h : R l (.wh 1 (i + 1)) (.ok k kids j)) (hc : sees l j 4 [41] = true) : R l (.one i) (.ok k kids (j + 1))
  | whBad {least i m : Nat} (h : R l (.one i) (.bad m)) : R l (.wh least i) (.bad m)
  | whGo {least i j : Nat} {k : Int} {kids : Fo} {r : Rs} (h : R l (.one i) (.ok k kids j)) (g : R l (.lp least k kids j) r) : R l (.wh least i) r
  | stop {least j : Nat} {k : Int} {kids : Fo} (h : opK l j = 0 ∨ binds (opK l j) < least) : R l (.lp least k kids j) (.ok k kids j)
  | opBad {least j m : Nat} {k : Int} {kids : Fo} (h : opK l j ≠ 0) (hb : least ≤ binds (opK l j)) (g : R l (.wh (rgt (opK l j)) (j + 1)) (.bad m)) : R l (.lp least k kids j) (.bad m)
  | op {least j j2 : Nat} {k k2 : Int} {kids kids2 : Fo} {r : Rs} (h : opK l j ≠ 0) (hb : least ≤ binds (opK l j)) (g : R l (.wh (rgt (opK l j)) (j + 1)) (.ok k2 kids2 j2)) (f : R l (.lp least (opK l j) (two k kids k2 kids2) j2) r) : R l (.lp least k kids j) r

theorem R.det {l : List W4} {t : Tg} {r r' : Rs} (h : R l t r) (h' : R l t r') : r = r' := by
  induction h generalizing r' with
  | word h hb =>
    cases h' with
    | word h2 _ => rw [h] at h2; injection h2 with e; rw [e]
    | no h2 _ => rw [h] at h2; cases h2
    | brBad hb2 _ => rw [hb] at hb2; cases hb2
    | brNo hb2 _ _ => rw [hb] at hb2; cases hb2
    | br hb2 _ _ => rw [hb] at hb2; cases hb2
  | no h hb =>
    cases h' with
    | word h2 _ => rw [h] at h2; cases h2
    | no h2 _ => rfl
    | brBad hb2 _ => rw [hb] at hb2; cases hb2
    | brNo hb2 _ _ => rw [hb] at hb2; cases hb2
    | br hb2 _ _ => rw [hb] at hb2; cases hb2
  | brBad hb h ih =>
    cases h' with
    | word _ hb2 => rw [hb] at hb2; cases hb2
    | no _ hb2 => rw [hb] at hb2; cases hb2
    | brBad _ h2 => exact ih h2
    | brNo _ h2 _ => cases ih h2
    | br _ h2 _ => cases ih h2
  | brNo hb h hc ih =>
    cases h' with
    | word _ hb2 => rw [hb] at hb2; cases hb2
    | no _ hb2 => rw [hb] at hb2; cases hb2
    | brBad _ h2 => cases ih h2
    | brNo _ h2 _ => injection ih h2 with _ _ e; rw [e]
    | br _ h2 hc2 => injection ih h2 with _ _ e; subst e; rw [hc] at hc2; cases hc2
  | br hb h hc ih =>
    cases h' with
    | word _ hb2 => rw [hb] at hb2; cases hb2
    | no _ hb2 => rw [hb] at hb2; cases hb2
    | brBad _ h2 => cases ih h2
    | brNo _ h2 hc2 => injection ih h2 with _ _ e; subst e; rw [hc] at hc2; cases hc2
    | br _ h2 _ => injection ih h2 with e1 e2 e3; rw [e1, e2, e3]
  | whBad h ih =>
    cases h' with
    | whBad h2 => exact ih h2
    | whGo h2 _ => cases ih h2
  | whGo h g ih ihg =>
    cases h' with
    | whBad h2 => cases ih h2
    | whGo h2 g2 => injection ih h2 with e1 e2 e3; subst e1; subst e2; subst e3; exact ihg g2
  | stop h =>
    cases h' with
    | stop _ => rfl
    | opBad h2 hb2 _ => rcases h with h | h
                        · exact absurd h h2
                        · omega
    | op h2 hb2 _ _ => rcases h with h | h
                       · exact absurd h h2
                       · omega
  | opBad h hb g ih =>
    cases h' with
    | stop h2 => rcases h2 with h2 | h2
                 · exact absurd h2 h
                 · omega
    | opBad _ _ g2 => exact ih g2
    | op _ _ g2 _ => cases ih g2
  | op h hb g f ihg ihf =>
    cases h' with
    | stop h2 => rcases h2 with h2 | h2
                 · exact absurd h2 h
                 · omega
    | opBad _ _ g2 => cases ihg g2
    | op _ _ g2 f2 => injection ihg g2 with e1 e2 e3; subst e1; subst e2; subst e3; exact ihf f2

theorem sees_lt {l : List W4} {i : Nat} {k : Int} {t : List UInt8} (h : sees l i k t = true) : i < l.length := by
  unfold sees at h
  split at h
  · rename_i x hx; exact (List.getElem?_eq_some_iff.1 hx).1
  · cases h
theorem atK_lt {l : List W4} {i : Nat} {k : Int} (h : atK l i = some k) : i < l.length := by
  unfold atK at h
  split at h
  · exact sees_lt ‹_›
  · split at h
    · exact sees_lt ‹_›
    · split at h
      · exact sees_lt ‹_›
      · cases h
theorem opK_lt {l : List W4} {i : Nat} (h : opK l i ≠ 0) : i < l.length := by
  unfold opK at h
  split at h
  · exact sees_lt ‹_›
  · split at h
    · exact sees_lt ‹_›
    · split at h
      · exact sees_lt ‹_›
      · exact absurd rfl h
theorem opK_cases (l : List W4) (i : Nat) : opK l i = 0 ∨ opK l i = 3 ∨ opK l i = 4 ∨ opK l i = 5 := by
  unfold opK; split
  · simp
  · split
    · simp
    · split <;> simp
/-- where a reading begins -/
def Tg.start : Tg → Nat
  | .one i => i
  | .wh _ i => i
  | .lp _ _ _ j => j
/-- a reading goes on, and stays among the words -/
theorem R.goes {l : List W4} {t : Tg} {r : Rs} (h : R l t r) : t.start ≤ l.length → match r with
    | .ok _ _ j => (t.start + (match t with | .lp .. => 0 | _ => 1) ≤ j) ∧ j ≤ l.length
    | .bad m => t.start ≤ m ∧ m ≤ l.length := by
  induction h with
  | word h _ => intro _; have := atK_lt h; simp only [Tg.start]; omega
  | no h _ => intro hl; simp only [Tg.start] at *; omega
  | brBad hb _ ih => intro _; have := sees_lt hb; simp only [Tg.start] at *; have := ih (by omega); omega
  | brNo hb _ _ ih => intro _; have := sees_lt hb; simp only [Tg.start] at *; have := ih (by omega); omega
  | br hb _ hc ih => intro _; have := sees_lt hb; have := sees_lt hc; simp only [Tg.start] at *; have := ih (by omega); omega
  | whBad _ ih => intro hl; simp only [Tg.start] at *; exact ih hl
  | @whGo least i j k kids r h g ih ihg =>
    intro hl
    have h1 := ih hl
    simp only [Tg.start] at *
    have h2 := ihg (by omega)
    cases r with
    | ok a b c => simp only at h2 ⊢; omega
    | bad m => simp only at h2 ⊢; omega
  | stop _ => intro hl; simp only [Tg.start] at *; omega
  | opBad h _ _ ih => intro _; have := opK_lt h; simp only [Tg.start] at *; have := ih (by omega); omega
  | @op least j j2 k k2 kids kids2 r h _ _ _ ih ihf =>
    intro _
    have := opK_lt h
    simp only [Tg.start] at *
    have h1 := ih (by omega)
    have h2 := ihf (by omega)
    cases r with
    | ok a b c => simp only at h2 ⊢; omega
    | bad m => simp only at h2 ⊢; omega

/-! ### the same by lines of the grammar: what is stronger comes first -/
/-- a reading's next word joins nothing so tight -/
theorem R.ends {l : List W4} {t : Tg} {r : Rs} (h : R l t r) : match t, r with
    | .wh least _, .ok _ _ j => opK l j = 0 ∨ binds (opK l j) < least
    | .lp least _ _ _, .ok _ _ j => opK l j = 0 ∨ binds (opK l j) < least
    | _, _ => True := by
  induction h with
  | word _ _ => trivial
  | no _ _ => trivial
  | brBad _ _ _ => trivial
  | brNo _ _ _ _ => trivial
  | br _ _ _ _ => trivial
  | whBad _ _ => trivial
  | @whGo least i j k kids r h g ih ihg => cases r <;> exact ihg
  | stop h => exact h
  | opBad _ _ _ _ => trivial
  | @op least j j2 k k2 kids kids2 r h hb g f ihg ihf => cases r <;> exact ihf
/-- what goes on tightly goes on loosely, too -/
theorem R.then {l : List W4} {t : Tg} {q : Rs} (h : R l t q) : ∀ {least lo j j2 : Nat} {k k2 : Int} {kids kids2 : Fo} {r : Rs}, t = .lp least k kids j → q = .ok k2 kids2 j2 → lo ≤ least → R l (.lp lo k2 kids2 j2) r → R l (.lp lo k kids j) r := by
  induction h with
  | word _ _ => intro _ _ _ _ _ _ _ _ _ e; cases e
  | no _ _ => intro _ _ _ _ _ _ _ _ _ e; cases e
  | brBad _ _ _ => intro _ _ _ _ _ _ _ _ _ e; cases e
  | brNo _ _ _ _ => intro _ _ _ _ _ _ _ _ _ e; cases e
  | br _ _ _ _ => intro _ _ _ _ _ _ _ _ _ e; cases e
  | whBad _ _ => intro _ _ _ _ _ _ _ _ _ e; cases e
  | whGo _ _ _ _ => intro _ _ _ _ _ _ _ _ _ e; cases e
  | stop h => intro _ _ _ _ _ _ _ _ _ e1 e2 _ hr; cases e1; cases e2; exact hr
  | opBad _ _ _ _ => intro _ _ _ _ _ _ _ _ _ _ e2; cases e2
  | op h hb g f ihg ihf =>
    intro _ _ _ _ _ _ _ _ _ e1 e2 hlo hr
    cases e1
    exact .op h (by omega) g (ihf rfl e2 hlo hr)
theorem R.thenBad {l : List W4} {t : Tg} {q : Rs} (h : R l t q) : ∀ {least lo j m : Nat} {k : Int} {kids : Fo}, t = .lp least k kids j → q = .bad m → lo ≤ least → R l (.lp lo k kids j) (.bad m) := by
  induction h with
  | word _ _ => intro _ _ _ _ _ _ e; cases e
  | no _ _ => intro _ _ _ _ _ _ e; cases e
  | brBad _ _ _ => intro _ _ _ _ _ _ e; cases e
  | brNo _ _ _ _ => intro _ _ _ _ _ _ e; cases e
  | br _ _ _ _ => intro _ _ _ _ _ _ e; cases e
  | whBad _ _ => intro _ _ _ _ _ _ e; cases e
  | whGo _ _ _ _ => intro _ _ _ _ _ _ e; cases e
  | stop h => intro _ _ _ _ _ _ _ e2; cases e2
  | opBad h hb g _ => intro _ _ _ _ _ _ e1 e2 hlo; cases e1; cases e2; exact .opBad h (by omega) g
  | op h hb g f ihg ihf => intro _ _ _ _ _ _ e1 e2 hlo; cases e1; exact .op h (by omega) g (ihf rfl e2 hlo)
/-- a tight reading, and on from it loosely -/
theorem R.join {l : List W4} {least lo i j : Nat} {k : Int} {kids : Fo} {r : Rs} (h : R l (.wh least i) (.ok k kids j)) (hlo : lo ≤ least) (g : R l (.lp lo k kids j) r) : R l (.wh lo i) r := by
  cases h with
  | whGo h1 h2 => exact .whGo h1 (h2.then rfl rfl hlo g)
theorem R.joinBad {l : List W4} {least lo i m : Nat} (h : R l (.wh least i) (.bad m)) (hlo : lo ≤ least) : R l (.wh lo i) (.bad m) := by
  cases h with
  | whBad h => exact .whBad h
  | whGo h1 h2 => exact .whGo h1 (h2.thenBad rfl rfl hlo)
theorem R.four {l : List W4} {i : Nat} {r : Rs} (h : R l (.one i) r) : R l (.wh 4 i) r := by
  cases r with
  | bad m => exact .whBad h
  | ok k kids j =>
    refine .whGo h (.stop ?_)
    rcases opK_cases l j with e | e | e | e <;> rw [e] <;> decide
/-- each reading has an answer -/
theorem R.total_lt (l : List W4) : ∀ n, (∀ i, l.length - i < n → ∃ r, R l (.one i) r) ∧ (∀ least i, l.length - i < n → ∃ r, R l (.wh least i) r) ∧ (∀ least k kids j, l.length - j < n → ∃ r, R l (.lp least k kids j) r)
  | 0 => ⟨fun _ h => absurd h (by omega), fun _ _ h => absurd h (by omega), fun _ _ _ _ h => absurd h (by omega)⟩
  | n + 1 => by
    obtain ⟨_, hw, hp⟩ := R.total_lt l n
    have one : ∀ i, l.length - i < n + 1 → ∃ r, R l (.one i) r := by
      intro i hi
      cases hb : sees l i 4 [40] with
      | false =>
        cases ha : atK l i with
        | none => exact ⟨_, .no ha hb⟩
        | some k => exact ⟨_, .word ha hb⟩
      | true =>
        have hlt := sees_lt hb
        obtain ⟨r, hr⟩ := hw 1 (i + 1) (by omega)
        cases r with
        | bad m => exact ⟨_, .brBad hb hr⟩
        | ok k kids j =>
          cases hc : sees l j 4 [41] with
          | false => exact ⟨_, .brNo hb hr hc⟩
          | true => exact ⟨_, .br hb hr hc⟩
    refine ⟨one, ?_, ?_⟩
    · intro least i hi
      obtain ⟨r, hr⟩ := one i hi
      cases r with
      | bad m => exact ⟨_, .whBad hr⟩
      | ok k kids j =>
        have hlt : i < l.length := by
          cases hr with
          | word h _ => exact atK_lt h
          | br hb _ _ => exact sees_lt hb
        have hg := hr.goes (by simp only [Tg.start]; omega)
        simp only [Tg.start] at hg
        obtain ⟨r, hq⟩ := hp least k kids j (by omega)
        exact ⟨r, .whGo hr hq⟩
    · intro least k kids j hj
      by_cases h0 : opK l j = 0
      · exact ⟨_, .stop (.inl h0)⟩
      · by_cases hb : binds (opK l j) < least
        · exact ⟨_, .stop (.inr hb)⟩
        · have hlt := opK_lt h0
          obtain ⟨r, hr⟩ := hw (rgt (opK l j)) (j + 1) (by omega)
          cases r with
          | bad m => exact ⟨_, .opBad h0 (by omega) hr⟩
          | ok k2 kids2 j2 =>
            have hg := hr.goes (by simp only [Tg.start]; omega)
            simp only [Tg.start] at hg
            obtain ⟨r, hq⟩ := hp least (opK l j) (two k kids k2 kids2) j2 (by omega)
            exact ⟨r, .op h0 (by omega) hr hq⟩
theorem R.one_total (l : List W4) (i : Nat) : ∃ r, R l (.one i) r := (R.total_lt l _).1 i (Nat.lt_succ_self _)
theorem R.wh_total (l : List W4) (least i : Nat) : ∃ r, R l (.wh least i) r := (R.total_lt l _).2.1 least i (Nat.lt_succ_self _)
theorem R.lp_total (l : List W4) (least : Nat) (k : Int) (kids : Fo) (j : Nat) : ∃ r, R l (.lp least k kids j) r := (R.total_lt l _).2.2 least k kids j (Nat.lt_succ_self _)
end Rd
end Go.Proofs.YtkpdddlonmkebaaDoor
