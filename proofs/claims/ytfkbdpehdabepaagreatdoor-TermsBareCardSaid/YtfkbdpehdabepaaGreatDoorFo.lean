/-
  Types as forests: how many, how deep, what they are; how they lie in memory.
-/
import Derived.Test.YtfkbdpehdabepaaGreatDoorChecked
import Derived.WalkKit
import Derived.ChangeSame
import Derived.Deep.Trees
import Derived.Deep.Slices
import Derived.Below
import Derived.Lib.Hide
namespace Go.Proofs.YtfkbdpehdabepaaGreatDoor
open Go.RowKit Go.ChangeShapes Go.WideShapes

/-- a list of types: 'node _ _ k kids rest': the first is of kind k and has the kids -/
abbrev Fo := Go.Deep.BT Int
namespace Ty
def len : Fo → Nat
  | .nil => 0
  | .node _ _ _ _ r => len r + 1
def nodes : Fo → Nat
  | .nil => 0
  | .node _ _ _ kids r => nodes kids + 1 + nodes r
def dep : Fo → Nat
  | .nil => 0
  | .node _ _ _ kids r => max (dep kids + 1) (dep r)
/-- has a kind its kids? -/
def okK (k : Int) (n : Nat) : Bool := if 0 ≤ k ∧ k ≤ 2 then n == 0 else if 3 ≤ k ∧ k ≤ 5 then n == 2 else false
def okF : Fo → Bool
  | .nil => true
  | .node _ _ k kids r => okK k (len kids) && okF kids && okF r
/-- what Check tells of a type -/
def chk (k : Int) (kids : Fo) : Nat := if 8192 < nodes kids + 1 then 32 else if 200 < dep kids + 1 then 31 else if okK k (len kids) && okF kids then 0 else 20
def nod (kids : Fo) : Nat := min (nodes kids + 1) 8193
def dpt (kids : Fo) : Nat := if 8192 < nodes kids + 1 then 201 else min (dep kids + 1) 201

theorem len_le_nodes : ∀ f : Fo, len f ≤ nodes f
  | .nil => Nat.le_refl _
  | .node _ _ _ _ r => by have := len_le_nodes r; simp only [len, nodes]; omega
theorem dep_le_nodes : ∀ f : Fo, dep f ≤ nodes f
  | .nil => Nat.le_refl _
  | .node _ _ _ kids r => by have := dep_le_nodes kids; have := dep_le_nodes r; simp only [dep, nodes]; omega
/-- the types of a list lie in memory from the i-th place of a slice on -/
def Lies (w : World) : Fo → Option Addr → Nat → Prop
  | .nil, _, _ => True
  | .node _ _ k kids r, A, i => ∃ b o B c, A = some ⟨b, o, none⟩ ∧ (-128 ≤ k ∧ k ≤ 127) ∧ w.cell? ⟨b, o + i * 2, none⟩ = some (.int .i8 k) ∧ w.cell? ⟨b, o + i * 2 + 1, none⟩ = some (.slice B (len kids) c) ∧
      len kids ≤ c ∧ c ≤ maxLen ∧ Lies w kids B 0 ∧ Lies w r A (i + 1)
/-- a type's value: its kind, its kids -/
structure Is (w : World) (k : Int) (kids : Fo) (A : Option Addr) (n c : Nat) : Prop where
  lies : Lies w kids A 0
  n_eq : n = len kids
  n_le : n ≤ c
  c_le : c ≤ maxLen
  lo : -128 ≤ k
  hi : k ≤ 127

theorem Lies.lt {w : World} {f : Fo} {b o : Nat} {i : Nat} (h : Lies w f (some ⟨b, o, none⟩) i) (hf : 0 < len f) : b < w.heap.size := by
  cases f with
  | nil => cases hf
  | node _ _ k kids r =>
    obtain ⟨b', o', B, c, hA, _, h1, _⟩ := h
    injection hA with hA; injection hA with e1 e2; subst e1
    rcases Nat.lt_or_ge b w.heap.size with h2 | h2
    · exact h2
    · simp [World.cell?, Array.getElem?_eq_none h2] at h1

theorem cell_lt {w : World} {b o : Nat} {v : Value} (h1 : w.cell? ⟨b, o, none⟩ = some v) : b < w.heap.size := by
  rcases Nat.lt_or_ge b w.heap.size with h2 | h2
  · exact h2
  · simp [World.cell?, Array.getElem?_eq_none h2] at h1

/-- what keeps all blocks below n but one keeps what lies elsewhere -/
theorem Lies.keep {w w' : World} (hk : ∀ (b o : Nat) (v : Value), w.cell? ⟨b, o, none⟩ = some v → (∃ k : Int, v = .int .i8 k) ∨ (∃ B n c, v = .slice B n c) → w'.cell? ⟨b, o, none⟩ = some v) :
    ∀ (f : Fo) (A : Option Addr) (i : Nat), Lies w f A i → Lies w' f A i
  | .nil, _, _, _ => trivial
  | .node _ _ _ kids r, A, i, h => by
    obtain ⟨b, o, B, c, hA, hkk, h1, h2, h3, h4, h5, h6⟩ := h
    exact ⟨b, o, B, c, hA, hkk, hk b _ _ h1 (.inl ⟨_, rfl⟩), hk b _ _ h2 (.inr ⟨_, _, _, rfl⟩), h3, h4, Lies.keep hk kids B 0 h5, Lies.keep hk r A (i + 1) h6⟩
theorem Lies.below {w w' : World} {f : Fo} {A : Option Addr} {i : Nat} (h : Lies w f A i) (hb : Below w.heap.size w w') : Lies w' f A i :=
  Lies.keep (fun b o v h1 _ => by rw [hb.cell (p := ⟨b, o, none⟩) (cell_lt h1)]; exact h1) f A i h
theorem Is.below {w w' : World} {k : Int} {kids : Fo} {A : Option Addr} {n c : Nat} (h : Is w k kids A n c) (hb : Below w.heap.size w w') : Is w' k kids A n c :=
  ⟨h.lies.below hb, h.n_eq, h.n_le, h.c_le, h.lo, h.hi⟩
theorem Is.alloc {w : World} {k : Int} {kids : Fo} {A : Option Addr} {n c : Nat} (h : Is w k kids A n c) (o : Obj) : Is (w.alloc o) k kids A n c :=
  h.below ((Below.refl _ _).alloc (Nat.le_refl _) _)
theorem Lies.alloc {w : World} {f : Fo} {A : Option Addr} {i : Nat} (h : Lies w f A i) (o : Obj) : Lies (w.alloc o) f A i :=
  h.below ((Below.refl _ _).alloc (Nat.le_refl _) _)
/-- one block alone may have turned, and nothing of what lies is in it (its cells are numbers of another kind) -/
theorem Lies.grown {w w' : World} {f : Fo} {A : Option Addr} {i g : Nat} (h : Lies w f A i) (hg : w.grownBy w' (some g)) (hno : ∀ o v, w.cell? ⟨g, o, none⟩ = some v → (∃ k : Int, v = .int .i8 k) ∨ (∃ B n c, v = .slice B n c) → False) : Lies w' f A i :=
  Lies.keep (fun b o v h1 h2 => by
    by_cases hb : b = g
    · subst hb; exact (hno o v h1 h2).elim
    · rw [World.cell?_of_block (hg.block b (cell_lt h1) (fun e => hb (by injection e)))]; exact h1) f A i h
theorem Is.grown {w w' : World} {k : Int} {kids : Fo} {A : Option Addr} {n c g : Nat} (h : Is w k kids A n c) (hg : w.grownBy w' (some g)) (hno : ∀ o v, w.cell? ⟨g, o, none⟩ = some v → (∃ k : Int, v = .int .i8 k) ∨ (∃ B n c, v = .slice B n c) → False) : Is w' k kids A n c :=
  ⟨h.lies.grown hg hno, h.n_eq, h.n_le, h.c_le, h.lo, h.hi⟩

end Ty
end Go.Proofs.YtfkbdpehdabepaaGreatDoor
