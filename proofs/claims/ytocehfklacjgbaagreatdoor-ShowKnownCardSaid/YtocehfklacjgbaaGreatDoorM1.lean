/-
  Types as forests: how many, how deep, what they are; how they lie in memory. What a type is written like. Words read as a type: the grammar of chapter 2, by how tightly each word binds, as a relation; each reading has one answer. An argument that is a type: its kind, its kids, as they lie in memory.
-/
import Derived.Test.YtocehfklacjgbaaGreatDoorChecked
import Derived.WalkKit
import Derived.ChangeSame
import Derived.Deep.Trees
import Derived.Deep.Slices
import Derived.Below
import Derived.Lib.Hide
namespace Go.Proofs.YtocehfklacjgbaaGreatDoor
open Go.RowKit Go.ChangeShapes Go.WideShapes

/-- a list of types: 'node _ _ k kids rest': the first is of kind k and has the kids -/
abbrev Fo := Go.Deep.BT Int
namespace Ty
def len : Fo → Nat
  | .nil => 0
  | .node _ _ _ _ r => len r + 1
def nodes : Fo → Nat
  | .nil => 0
  | .node _ _ _ kids r => nodes kids + 1 + nodes r
def dep : Fo → Nat
  | .nil => 0
  | .node _ _ _ kids r => max (dep kids + 1) (dep r)
/-- has a kind its kids? -/
def okK (k : Int) (n : Nat) : Bool := if 0 ≤ k ∧ k ≤ 2 then n == 0 else if 3 ≤ k ∧ k ≤ 5 then n == 2 else false
def okF : Fo → Bool
  | .nil => true
  | .node _ _ k kids r => okK k (len kids) && okF kids && okF r
/-- the same, one by one -/
def eqF : Fo → Fo → Bool
  | .nil, .nil => true
  | .nil, .node _ _ _ _ _ => false
  | .node _ _ _ _ _, .nil => false
  | .node _ _ k kids r, .node _ _ k' kids' r' => (k == k') && eqF kids kids' && eqF r r'
/-- what Check tells of a type -/
def chk (k : Int) (kids : Fo) : Nat := if 8192 < nodes kids + 1 then 32 else if 200 < dep kids + 1 then 31 else if okK k (len kids) && okF kids then 0 else 20
def nod (kids : Fo) : Nat := min (nodes kids + 1) 8193
def dpt (kids : Fo) : Nat := if 8192 < nodes kids + 1 then 201 else min (dep kids + 1) 201

theorem dep_le_nodes : ∀ f : Fo, dep f ≤ nodes f
  | .nil => Nat.le_refl _
  | .node _ _ _ kids r => by have := dep_le_nodes kids; have := dep_le_nodes r; simp only [dep, nodes]; omega
theorem eqF_len : ∀ f g : Fo, eqF f g = true → len f = len g
  | .nil, .nil, _ => rfl
  | .nil, .node _ _ _ _ _, h => by simp [eqF] at h
  | .node _ _ _ _ _, .nil, h => by simp [eqF] at h
  | .node _ _ k kids r, .node _ _ k' kids' r', h => by
    simp only [eqF, Bool.and_eq_true] at h
    simp only [len]; rw [eqF_len r r' h.2]

/-- the types of a list lie in memory from the i-th place of a slice on -/
def Lies (w : World) : Fo → Option Addr → Nat → Prop
  | .nil, _, _ => True
  | .node _ _ k kids r, A, i => ∃ b o B c, A = some ⟨b, o, none⟩ ∧ (-128 ≤ k ∧ k ≤ 127) ∧ w.cell? ⟨b, o + i * 2, none⟩ = some (.int .i8 k) ∧ w.cell? ⟨b, o + i * 2 + 1, none⟩ = some (.slice B (len kids) c) ∧
      len kids ≤ c ∧ c ≤ maxLen ∧ Lies w kids B 0 ∧ Lies w r A (i + 1)
/-- a type's value: its kind, its kids -/
structure Is (w : World) (k : Int) (kids : Fo) (A : Option Addr) (n c : Nat) : Prop where
  lies : Lies w kids A 0
  n_eq : n = len kids
  n_le : n ≤ c
  c_le : c ≤ maxLen
  lo : -128 ≤ k
  hi : k ≤ 127

theorem Lies.lt {w : World} {f : Fo} {b o : Nat} {i : Nat} (h : Lies w f (some ⟨b, o, none⟩) i) (hf : 0 < len f) : b < w.heap.size := by
  cases f with
  | nil => cases hf
  | node _ _ k kids r =>
    obtain ⟨b', o', B, c, hA, _, h1, _⟩ := h
    injection hA with hA; injection hA with e1 e2; subst e1
    rcases Nat.lt_or_ge b w.heap.size with h2 | h2
    · exact h2
    · simp [World.cell?, Array.getElem?_eq_none h2] at h1

theorem cell_lt {w : World} {b o : Nat} {v : Value} (h1 : w.cell? ⟨b, o, none⟩ = some v) : b < w.heap.size := by
  rcases Nat.lt_or_ge b w.heap.size with h2 | h2
  · exact h2
  · simp [World.cell?, Array.getElem?_eq_none h2] at h1

/-- what keeps all blocks below n but one keeps what lies elsewhere -/
theorem Lies.keep {w w' : World} (hk : ∀ (b o : Nat) (v : Value), w.cell? ⟨b, o, none⟩ = some v → (∃ k : Int, v = .int .i8 k) ∨ (∃ B n c, v = .slice B n c) → w'.cell? ⟨b, o, none⟩ = some v) :
    ∀ (f : Fo) (A : Option Addr) (i : Nat), Lies w f A i → Lies w' f A i
  | .nil, _, _, _ => trivial
  | .node _ _ _ kids r, A, i, h => by
    obtain ⟨b, o, B, c, hA, hkk, h1, h2, h3, h4, h5, h6⟩ := h
    exact ⟨b, o, B, c, hA, hkk, hk b _ _ h1 (.inl ⟨_, rfl⟩), hk b _ _ h2 (.inr ⟨_, _, _, rfl⟩), h3, h4, Lies.keep hk kids B 0 h5, Lies.keep hk r A (i + 1) h6⟩
theorem Lies.below {w w' : World} {f : Fo} {A : Option Addr} {i : Nat} (h : Lies w f A i) (hb : Below w.heap.size w w') : Lies w' f A i :=
  Lies.keep (fun b o v h1 _ => by rw [hb.cell (p := ⟨b, o, none⟩) (cell_lt h1)]; exact h1) f A i h
theorem Is.below {w w' : World} {k : Int} {kids : Fo} {A : Option Addr} {n c : Nat} (h : Is w k kids A n c) (hb : Below w.heap.size w w') : Is w' k kids A n c :=
  ⟨h.lies.below hb, h.n_eq, h.n_le, h.c_le, h.lo, h.hi⟩
theorem Is.alloc {w : World} {k : Int} {kids : Fo} {A : Option Addr} {n c : Nat} (h : Is w k kids A n c) (o : Obj) : Is (w.alloc o) k kids A n c :=
  h.below ((Below.refl _ _).alloc (Nat.le_refl _) _)
theorem Lies.alloc {w : World} {f : Fo} {A : Option Addr} {i : Nat} (h : Lies w f A i) (o : Obj) : Lies (w.alloc o) f A i :=
  h.below ((Below.refl _ _).alloc (Nat.le_refl _) _)
/-- one block alone may have turned, and nothing of what lies is in it (its cells are numbers of another kind) -/
theorem Lies.grown {w w' : World} {f : Fo} {A : Option Addr} {i g : Nat} (h : Lies w f A i) (hg : w.grownBy w' (some g)) (hno : ∀ o v, w.cell? ⟨g, o, none⟩ = some v → (∃ k : Int, v = .int .i8 k) ∨ (∃ B n c, v = .slice B n c) → False) : Lies w' f A i :=
  Lies.keep (fun b o v h1 h2 => by
    by_cases hb : b = g
    · subst hb; exact (hno o v h1 h2).elim
    · rw [World.cell?_of_block (hg.block b (cell_lt h1) (fun e => hb (by injection e)))]; exact h1) f A i h
theorem Is.grown {w w' : World} {k : Int} {kids : Fo} {A : Option Addr} {n c g : Nat} (h : Is w k kids A n c) (hg : w.grownBy w' (some g)) (hno : ∀ o v, w.cell? ⟨g, o, none⟩ = some v → (∃ k : Int, v = .int .i8 k) ∨ (∃ B n c, v = .slice B n c) → False) : Is w' k kids A n c :=
  ⟨h.lies.grown hg hno, h.n_eq, h.n_le, h.c_le, h.lo, h.hi⟩

end Ty
end Go.Proofs.YtocehfklacjgbaaGreatDoor
namespace Go.Proofs.YtocehfklacjgbaaGreatDoor
namespace Ty
def word (k : Int) : List UInt8 := if k = 0 then [63] else if k = 1 then [105, 110, 116] else if k = 2 then [98, 111, 111, 108] else if k = 3 then [45, 62] else if k = 4 then [42] else [43]
def binds (k : Int) : Int := if k = 3 then 1 else if k = 5 then 2 else if k = 4 then 3 else 4
def need (p : Int) (first : Bool) : Int := if p = 3 then (if first then 2 else 1) else (if first then binds p else binds p + 1)
def txtOne (k : Int) (inner : List UInt8) (least : Int) : List UInt8 := if k ≤ 2 then word k else if binds k < least then 40 :: (inner ++ [41]) else inner
def txtIn : Fo → Int → Bool → List UInt8
  | .nil, _, _ => []
  | .node _ _ k kids r, p, first => txtOne k (txtIn kids k true) (need p first) ++ (if first then 32 :: (word p ++ (32 :: txtIn r p false)) else [])
def txt (k : Int) (kids : Fo) (least : Int) : List UInt8 := txtOne k (txtIn kids k true) least
theorem word_len (k : Int) : (word k).length ≤ 4 := by
  unfold word; repeat' split
  all_goals simp
theorem txtOne_len (k : Int) (inner : List UInt8) (least : Int) : (txtOne k inner least).length ≤ inner.length + 4 := by
  unfold txtOne
  have := word_len k
  split
  · omega
  · split
    · simp
    · omega
theorem txtIn_len : ∀ (f : Fo) (p : Int) (first : Bool), (txtIn f p first).length ≤ 10 * nodes f
  | .nil, _, _ => by simp [txtIn]
  | .node _ _ k kids r, p, first => by
    have h1 := txtOne_len k (txtIn kids k true) (need p first)
    have h2 := txtIn_len kids k true
    have h3 := txtIn_len r p false
    have h4 := word_len p
    simp only [txtIn, nodes, List.length_append]
    split
    · simp only [List.length_cons, List.length_append]; omega
    · simp only [List.length_nil]; omega
theorem txt_len (k : Int) (kids : Fo) (least : Int) : (txt k kids least).length ≤ 10 * (nodes kids + 1) := by
  have h1 := txtOne_len k (txtIn kids k true) least
  have h2 := txtIn_len kids k true
  unfold txt; omega
theorem txt_two (k : Int) (a b a' b' : Nat) (k1 : Int) (kids1 : Fo) (k2 : Int) (kids2 : Fo) : txtIn (.node a b k1 kids1 (.node a' b' k2 kids2 .nil)) k true = txt k1 kids1 (need k true) ++ (32 :: (word k ++ (32 :: txt k2 kids2 (need k false)))) := by
  simp [txtIn, txt]
end Ty
end Go.Proofs.YtocehfklacjgbaaGreatDoor
namespace Go.Proofs.YtocehfklacjgbaaGreatDoor

namespace Rd
/-- a word -/
structure W4 where
  kind : Int
  text : ByteArray
  num : Int
  pos : Int
/-- is the i-th word of that kind, with that text? -/
def sees (l : List W4) (i : Nat) (k : Int) (t : List UInt8) : Bool := match l[i]? with
  | some x => x.kind == k && x.text.toList == t
  | none => false
def sArrow : List UInt8 := [45, 62]
def sInt : List UInt8 := [105, 110, 116]
def sBool : List UInt8 := [98, 111, 111, 108]
/-- the kind whose word stands between two parts -/
def opK (l : List W4) (i : Nat) : Int := if sees l i 4 sArrow then 3 else if sees l i 4 [42] then 4 else if sees l i 4 [43] then 5 else 0
/-- the kind of one word -/
def atK (l : List W4) (i : Nat) : Option Int := if sees l i 4 [63] then some 0 else if sees l i 3 sInt then some 1 else if sees l i 3 sBool then some 2 else none
def binds (k : Int) : Nat := if k = 3 then 1 else if k = 4 then 3 else if k = 5 then 2 else 0
/-- how tightly the right part must bind -/
def rgt (k : Int) : Nat := if k = 3 then 1 else if k = 4 then 4 else 3
def two (a : Int) (aa : Fo) (b : Int) (bb : Fo) : Fo := .node 0 0 a aa (.node 0 0 b bb .nil)

/-- what is read: one word or brackets; as much as binds so tightly; on from a part that is there -/
inductive Tg where
  | one (i : Nat)
  | wh (least : Nat) (i : Nat)
  | lp (least : Nat) (k : Int) (kids : Fo) (j : Nat)
/-- a type and the place behind it; or the word that can't stand there -/
inductive Rs where
  | ok (k : Int) (kids : Fo) (j : Nat)
  | bad (i : Nat)

inductive R (l : List W4) : Tg → Rs → Prop where
  | word {i : Nat} {k : Int} (h : atK l i = some k) (hb : sees l i 4 [40] = false) : R l (.one i) (.ok k .nil (i + 1))
  | no {i : Nat} (h : atK l i = none) (hb : sees l i 4 [40] = false) : R l (.one i) (.bad i)
  | brBad {i m : Nat} (hb : sees l i 4 [40] = true) (h : R l (.wh 1 (i + 1)) (.bad m)) : R l (.one i) (.bad m)
  | brNo {i j : Nat} {k : Int} {kids : Fo} (hb : sees l i 4 [40] = true) (h : R l (.wh 1 (i + 1)) (.ok k kids j)) (hc : sees l j 4 [41] = false) : R l (.one i) (.bad j)
  | br {i j : Nat} {k : Int} {kids : Fo} (hb : sees l i 4 [40] = true) (h : R l (.wh 1 (i + 1)) (.ok k kids j)) (hc : sees l j 4 [41] = true) : R l (.one i) (.ok k kids (j + 1))
  | whBad {least i m : Nat} (h : R l (.one i) (.bad m)) : R l (.wh least i) (.bad m)
  | whGo {least i j : Nat} {k : Int} {kids : Fo} {r : Rs} (h : R l (.one i) (.ok k kids j)) (g : R l (.lp least k kids j) r) : R l (.wh least i) r
  | stop {least j : Nat} {k : Int} {kids : Fo} (h : opK l j = 0 ∨ binds (opK l j) < least) : R l (.lp least k kids j) (.ok k kids j)
  | opBad {least j m : Nat} {k : Int} {kids : Fo} (h : opK l j ≠ 0) (hb : least ≤ binds (opK l j)) (g : R l (.wh (rgt (opK l j)) (j + 1)) (.bad m)) : R l (.lp least k kids j) (.bad m)
  | op {least j j2 : Nat} {k k2 : Int} {kids kids2 : Fo} {r : Rs} (h : opK l j ≠ 0) (hb : least ≤ binds (opK l j)) (g : R l (.wh (rgt (opK l j)) (j + 1)) (.ok k2 kids2 j2)) (f : R l (.lp least (opK l j) (two k kids k2 kids2) j2) r) : R l (.lp least k kids j) r

theorem R.det {l : List W4} {t : Tg} {r r' : Rs} (h : R l t r) (h' : R l t r') : r = r' := by
  induction h generalizing r' with
  | word h hb =>
    cases h' with
    | word h2 _ => rw [h] at h2; injection h2 with e; rw [e]
    | no h2 _ => rw [h] at h2; cases h2
    | brBad hb2 _ => rw [hb] at hb2; cases hb2
    | brNo hb2 _ _ => rw [hb] at hb2; cases hb2
    | br hb2 _ _ => rw [hb] at hb2; cases hb2
  | no h hb =>
    cases h' with
    | word h2 _ => rw [h] at h2; cases h2
    | no h2 _ => rfl
    | brBad hb2 _ => rw [hb] at hb2; cases hb2
    | brNo hb2 _ _ => rw [hb] at hb2; cases hb2
    | br hb2 _ _ => rw [hb] at hb2; cases hb2
  | brBad hb h ih =>
    cases h' with
    | word _ hb2 => rw [hb] at hb2; cases hb2
    | no _ hb2 => rw [hb] at hb2; cases hb2
    | brBad _ h2 => exact ih h2
    | brNo _ h2 _ => cases ih h2
    | br _ h2 _ => cases ih h2
  | brNo hb h hc ih =>
    cases h' with
    | word _ hb2 => rw [hb] at hb2; cases hb2
    | no _ hb2 => rw [hb] at hb2; cases hb2
    | brBad _ h2 => cases ih h2
    | brNo _ h2 _ => injection ih h2 with _ _ e; rw [e]
    | br _ h2 hc2 => injection ih h2 with _ _ e; subst e; rw [hc] at hc2; cases hc2
  | br hb h hc ih =>
    cases h' with
    | word _ hb2 => rw [hb] at hb2; cases hb2
    | no _ hb2 => rw [hb] at hb2; cases hb2
    | brBad _ h2 => cases ih h2
    | brNo _ h2 hc2 => injection ih h2 with _ _ e; subst e; rw [hc] at hc2; cases hc2
    | br _ h2 _ => injection ih h2 with e1 e2 e3; rw [e1, e2, e3]
  | whBad h ih =>
    cases h' with
    | whBad h2 => exact ih h2
    | whGo h2 _ => cases ih h2
  | whGo h g ih ihg =>
    cases h' with
    | whBad h2 => cases ih h2
    | whGo h2 g2 => injection ih h2 with e1 e2 e3; subst e1; subst e2; subst e3; exact ihg g2
  | stop h =>
    cases h' with
    | stop _ => rfl
    | opBad h2 hb2 _ => rcases h with h | h
                        · exact absurd h h2
                        · omega
    | op h2 hb2 _ _ => rcases h with h | h
                       · exact absurd h h2
                       · omega
  | opBad h hb g ih =>
    cases h' with
    | stop h2 => rcases h2 with h2 | h2
                 · exact absurd h2 h
                 · omega
    | opBad _ _ g2 => exact ih g2
    | op _ _ g2 _ => cases ih g2
  | op h hb g f ihg ihf =>
    cases h' with
    | stop h2 => rcases h2 with h2 | h2
                 · exact absurd h2 h
                 · omega
    | opBad _ _ g2 => cases ihg g2
    | op _ _ g2 f2 => injection ihg g2 with e1 e2 e3; subst e1; subst e2; subst e3; exact ihf f2

theorem sees_lt {l : List W4} {i : Nat} {k : Int} {t : List UInt8} (h : sees l i k t = true) : i < l.length := by
  unfold sees at h
  split at h
  · rename_i x hx; exact (List.getElem?_eq_some_iff.1 hx).1
  · cases h
theorem atK_lt {l : List W4} {i : Nat} {k : Int} (h : atK l i = some k) : i < l.length := by
  unfold atK at h
  split at h
  · exact sees_lt ‹_›
  · split at h
    · exact sees_lt ‹_›
    · split at h
      · exact sees_lt ‹_›
      · cases h
theorem opK_lt {l : List W4} {i : Nat} (h : opK l i ≠ 0) : i < l.length := by
  unfold opK at h
  split at h
  · exact sees_lt ‹_›
  · split at h
    · exact sees_lt ‹_›
    · split at h
      · exact sees_lt ‹_›
      · exact absurd rfl h
theorem opK_cases (l : List W4) (i : Nat) : opK l i = 0 ∨ opK l i = 3 ∨ opK l i = 4 ∨ opK l i = 5 := by
  unfold opK; split
  · simp
  · split
    · simp
    · split <;> simp
/-- where a reading begins -/
def Tg.start : Tg → Nat
  | .one i => i
  | .wh _ i => i
  | .lp _ _ _ j => j
/-- a reading goes on, and stays among the words -/
theorem R.goes {l : List W4} {t : Tg} {r : Rs} (h : R l t r) : t.start ≤ l.length → match r with
    | .ok _ _ j => (t.start + (match t with | .lp .. => 0 | _ => 1) ≤ j) ∧ j ≤ l.length
    | .bad m => t.start ≤ m ∧ m ≤ l.length := by
  induction h with
  | word h _ => intro _; have := atK_lt h; simp only [Tg.start]; omega
  | no h _ => intro hl; simp only [Tg.start] at *; omega
  | brBad hb _ ih => intro _; have := sees_lt hb; simp only [Tg.start] at *; have := ih (by omega); omega
  | brNo hb _ _ ih => intro _; have := sees_lt hb; simp only [Tg.start] at *; have := ih (by omega); omega
  | br hb _ hc ih => intro _; have := sees_lt hb; have := sees_lt hc; simp only [Tg.start] at *; have := ih (by omega); omega
  | whBad _ ih => intro hl; simp only [Tg.start] at *; exact ih hl
  | @whGo least i j k kids r h g ih ihg =>
    intro hl
    have h1 := ih hl
    simp only [Tg.start] at *
    have h2 := ihg (by omega)
    cases r with
    | ok a b c => simp only at h2 ⊢; omega
    | bad m => simp only at h2 ⊢; omega
  | stop _ => intro hl; simp only [Tg.start] at *; omega
  | opBad h _ _ ih => intro _; have := opK_lt h; simp only [Tg.start] at *; have := ih (by omega); omega
  | @op least j j2 k k2 kids kids2 r h _ _ _ ih ihf =>
    intro _
    have := opK_lt h
    simp only [Tg.start] at *
    have h1 := ih (by omega)
    have h2 := ihf (by omega)
    cases r with
    | ok a b c => simp only at h2 ⊢; omega
    | bad m => simp only at h2 ⊢; omega

/-! ### the same by lines of the grammar: what is stronger comes first -/
/-- a reading's next word joins nothing so tight -/
theorem R.ends {l : List W4} {t : Tg} {r : Rs} (h : R l t r) : match t, r with
    | .wh least _, .ok _ _ j => opK l j = 0 ∨ binds (opK l j) < least
    | .lp least _ _ _, .ok _ _ j => opK l j = 0 ∨ binds (opK l j) < least
    | _, _ => True := by
  induction h with
  | word _ _ => trivial
  | no _ _ => trivial
  | brBad _ _ _ => trivial
  | brNo _ _ _ _ => trivial
  | br _ _ _ _ => trivial
  | whBad _ _ => trivial
  | @whGo least i j k kids r h g ih ihg => cases r <;> exact ihg
  | stop h => exact h
  | opBad _ _ _ _ => trivial
  | @op least j j2 k k2 kids kids2 r h hb g f ihg ihf => cases r <;> exact ihf
/-- each reading has an answer -/
theorem R.total_lt (l : List W4) : ∀ n, (∀ i, l.length - i < n → ∃ r, R l (.one i) r) ∧ (∀ least i, l.length - i < n → ∃ r, R l (.wh least i) r) ∧ (∀ least k kids j, l.length - j < n → ∃ r, R l (.lp least k kids j) r)
  | 0 => ⟨fun _ h => absurd h (by omega), fun _ _ h => absurd h (by omega), fun _ _ _ _ h => absurd h (by omega)⟩
  | n + 1 => by
    obtain ⟨_, hw, hp⟩ := R.total_lt l n
    have one : ∀ i, l.length - i < n + 1 → ∃ r, R l (.one i) r := by
      intro i hi
      cases hb : sees l i 4 [40] with
      | false =>
        cases ha : atK l i with
        | none => exact ⟨_, .no ha hb⟩
        | some k => exact ⟨_, .word ha hb⟩
      | true =>
        have hlt := sees_lt hb
        obtain ⟨r, hr⟩ := hw 1 (i + 1) (by omega)
        cases r with
        | bad m => exact ⟨_, .brBad hb hr⟩
        | ok k kids j =>
          cases hc : sees l j 4 [41] with
          | false => exact ⟨_, .brNo hb hr hc⟩
          | true => exact ⟨_, .br hb hr hc⟩
    refine ⟨one, ?_, ?_⟩
    · intro least i hi
      obtain ⟨r, hr⟩ := one i hi
      cases r with
      | bad m => exact ⟨_, .whBad hr⟩
      | ok k kids j =>
        have hlt : i < l.length := by
          cases hr with
          | word h _ => exact atK_lt h
          | br hb _ _ => exact sees_lt hb
        have hg := hr.goes (by simp only [Tg.start]; omega)
        simp only [Tg.start] at hg
        obtain ⟨r, hq⟩ := hp least k kids j (by omega)
        exact ⟨r, .whGo hr hq⟩
    · intro least k kids j hj
      by_cases h0 : opK l j = 0
      · exact ⟨_, .stop (.inl h0)⟩
      · by_cases hb : binds (opK l j) < least
        · exact ⟨_, .stop (.inr hb)⟩
        · have hlt := opK_lt h0
          obtain ⟨r, hr⟩ := hw (rgt (opK l j)) (j + 1) (by omega)
          cases r with
          | bad m => exact ⟨_, .opBad h0 (by omega) hr⟩
          | ok k2 kids2 j2 =>
            have hg := hr.goes (by simp only [Tg.start]; omega)
            simp only [Tg.start] at hg
            obtain ⟨r, hq⟩ := hp least (opK l j) (two k kids k2 kids2) j2 (by omega)
            exact ⟨r, .op h0 (by omega) hr hq⟩
theorem R.wh_total (l : List W4) (least i : Nat) : ∃ r, R l (.wh least i) r := (R.total_lt l _).2.1 least i (Nat.lt_succ_self _)
end Rd
end Go.Proofs.YtocehfklacjgbaaGreatDoor
namespace Go.Proofs.YtocehfklacjgbaaGreatDoor
open Go.RowKit Go.ChangeShapes Go.WideShapes

theorem u_Type : ∃ f0 f1 : Field, Tryz.prog.underlying 27 = some (.struct #[f0, f1]) ∧ f0.type = 24 ∧ f0.offset = 0 ∧ f1.type = 25 ∧ f1.offset = 1 := ⟨_, _, Tryz.underlying27, rfl, rfl, rfl, rfl⟩
theorem c_Type : Tryz.prog.cellsOf 27 = 2 := by kernel_rfl
theorem c_int8 : Tryz.prog.cellsOf 24 = 1 := by kernel_rfl
theorem c_kids : Tryz.prog.cellsOf 25 = 1 := by kernel_rfl

theorem add_at (b o i : Nat) : (⟨b, o, none⟩ : Addr).add i = ⟨b, o + i, none⟩ := by unfold Addr.add; by_cases h : i = 0 <;> simp [h]

namespace Ty
theorem forest {w : World} {b o n : Nat} (h : ∀ i, i < n → ∃ k kids B m c, w.cell? ⟨b, o + i * 2, none⟩ = some (.int .i8 k) ∧ w.cell? ⟨b, o + i * 2 + 1, none⟩ = some (.slice B m c) ∧ Is w k kids B m c) :
    ∀ j, j ≤ n → ∃ f : Fo, len f = j ∧ Lies w f (some ⟨b, o, none⟩) (n - j) := by
  intro j
  induction j with
  | zero => exact fun _ => ⟨.nil, rfl, trivial⟩
  | succ j ih =>
    intro hj
    obtain ⟨f, hf, hL⟩ := ih (by omega)
    obtain ⟨k, kids, B, m, c, h1, h2, h3⟩ := h (n - (j + 1)) (by omega)
    refine ⟨.node 0 0 k kids f, by simp only [len]; omega, b, o, B, c, rfl, ⟨h3.lo, h3.hi⟩, h1, by rw [← h3.n_eq]; exact h2, by rw [← h3.n_eq]; exact h3.n_le, h3.c_le, h3.lies, ?_⟩
    rw [show n - (j + 1) + 1 = n - j by omega]
    exact hL
end Ty

set_option maxRecDepth 100000 in
theorem open_type {H : Type} {enc : TypeId × Value → H} {w : World} {base : Nat} {sp : Nat → Bool} {hd : Bool} : ∀ (fuel : Nat) (cs : List Value) (x : DataW H × List MemPlace), DataW.trod enc Tryz.prog w base sp hd fuel 27 cs = some x →
    ∃ k kids A n c, cs = [.int .i8 k, .slice A n c] ∧ Ty.Is w k kids A n c := by
  intro fuel
  induction fuel using Nat.strongRecOn with
  | _ fuel ih =>
    intro cs x h
    obtain ⟨f0, f1, hu, t0, o0, t1, o1⟩ := u_Type
    obtain ⟨xs, m, rfl, -, hl, hxl, hf⟩ := DataW.trod_struct hu h
    rw [c_Type] at hl
    match cs, hl with
    | [v0, v1], _ =>
    have h0 := hf 0 f0 rfl
    have h1 := hf 1 f1 rfl
    rw [t0, o0, c_int8] at h0
    rw [t1, o1, c_kids] at h1
    have hx0 : xs[0]? = some (xs[0]'(by rw [hxl]; simp)) := List.getElem?_eq_getElem _
    have hx1 : xs[1]? = some (xs[1]'(by rw [hxl]; simp)) := List.getElem?_eq_getElem _
    rw [hx0] at h0
    rw [hx1] at h1
    simp only [List.drop_zero, List.take_succ_cons, List.take_zero, List.drop_succ_cons] at h0 h1
    obtain ⟨k, hk, -, hwf⟩ := DataW.trod_int Tryz.underlying24 h0
    have hlo : -128 ≤ k ∧ k ≤ 127 := by
      have hmin : IntKind.i8.min = -128 := rfl
      have hmax : IntKind.i8.max = 127 := rfl
      simp only [Lit.wf, Bool.and_eq_true, decide_eq_true_eq, hmin, hmax] at hwf
      omega
    injection hk with hk
    subst hk
    rcases DataW.trod_slice Tryz.underlying25 h1 with ⟨hcs, -⟩ | ⟨a, len, cap, elems, rest, m', hm, hcs, -, hb, hle, hcap, hel, hat, -, -⟩
    · injection hcs with hcs
      subst hcs
      exact ⟨k, .nil, none, 0, 0, rfl, ⟨trivial, rfl, Nat.le_refl _, Nat.zero_le _, hlo.1, hlo.2⟩⟩
    · injection hcs with hcs
      subst hcs
      rw [c_Type] at hat
      obtain ⟨b, o, s⟩ := a
      by_cases hz : len = 0
      · subst hz
        exact ⟨k, .nil, some ⟨b, o, s⟩, 0, cap, rfl, ⟨trivial, rfl, hle, hcap, hlo.1, hlo.2⟩⟩
      · have hsp : s = none := by
          have h2 := hat 0 (by omega)
          rw [List.getElem?_eq_getElem (by omega : 0 < elems.length)] at h2
          obtain ⟨cs', hc, -⟩ := Option.bind_eq_some_iff.1 h2
          obtain ⟨-, hcl, hcell⟩ := World.cells?_some hc
          have h3 := hcell 0 (by omega)
          rw [List.getElem?_eq_getElem (by omega : 0 < cs'.length)] at h3
          simpa [Addr.add] using World.cell?_spot h3
        subst hsp
        have hfor : ∀ i, i < len → ∃ k kids B m c, w.cell? ⟨b, o + i * 2, none⟩ = some (.int .i8 k) ∧ w.cell? ⟨b, o + i * 2 + 1, none⟩ = some (.slice B m c) ∧ Ty.Is w k kids B m c := by
          intro i hi
          have h2 := hat i hi
          rw [List.getElem?_eq_getElem (by omega : i < elems.length)] at h2
          obtain ⟨cs', hc, htr⟩ := Option.bind_eq_some_iff.1 h2
          obtain ⟨k', kids', A', n', c', rfl, hIs⟩ := ih m' (by omega) cs' _ htr
          obtain ⟨-, hcl, hcell⟩ := World.cells?_some hc
          have h3 := hcell 0 (by omega)
          have h4 := hcell 1 (by omega)
          refine ⟨k', kids', A', n', c', ?_, ?_, hIs⟩
          · rw [add_at, add_at] at h3; simpa using h3
          · rw [add_at, add_at] at h4; simpa using h4
        obtain ⟨f, hf1, hf2⟩ := Ty.forest hfor len (Nat.le_refl _)
        rw [Nat.sub_self] at hf2
        exact ⟨k, f, some ⟨b, o, none⟩, len, cap, rfl, ⟨hf2, hf1.symm, hle, hcap, hlo.1, hlo.2⟩⟩
end Go.Proofs.YtocehfklacjgbaaGreatDoor
