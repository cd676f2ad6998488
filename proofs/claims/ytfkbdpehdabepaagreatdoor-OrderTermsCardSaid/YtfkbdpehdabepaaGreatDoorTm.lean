/-
  Terms as forests: how many, how deep, what they are; how they lie in memory.
-/
import Derived.Test.YtfkbdpehdabepaaGreatDoorM1
import Derived.Test.YtfkbdpehdabepaaGreatDoorM2
import Derived.Test.YtfkbdpehdabepaaGreatDoorMem
namespace Go.Proofs.YtfkbdpehdabepaaGreatDoor
open Go.RowKit Go.ChangeShapes Go.WideShapes

/-- a term's own fields -/
structure Hd where
  kind : Int
  name : ByteArray
  arg : ByteArray
  num : Int
  tk : Int
  tkids : Fo
  uk : Int
  ukids : Fo
  label : Int
  pos : Int
/-- a list of terms: the first has the fields h and the kids -/
inductive Tm where
  | nil
  | node (h : Hd) (kids rest : Tm)
/-- where a term's types and kids lie -/
structure Pl where
  TA : Option Addr
  tn : Nat
  tc : Nat
  UA : Option Addr
  un : Nat
  uc : Nat
  A : Option Addr
  n : Nat
  c : Nat
/-- a term's cells -/
@[reducible] def Hd.cells (h : Hd) (p : Pl) : List Value :=
  [.int .i8 h.kind, .string h.name, .string h.arg, .int .i64 h.num, .int .i8 h.tk, .slice p.TA p.tn p.tc, .int .i8 h.uk, .slice p.UA p.un p.uc, .int .i64 h.label, .int .i64 h.pos, .slice p.A p.n p.c]

namespace Tm
def hasName (k : Int) : Bool := decide (k = 0 ∨ k = 4 ∨ k = 5 ∨ k = 7 ∨ k = 14 ∨ k = 15)
def hasArg (k : Int) : Bool := decide (k = 5 ∨ k = 14)
def hasNum (k : Int) : Bool := decide (k = 1)
def hasType (k : Int) : Bool := decide (k = 4 ∨ k = 5 ∨ k = 7 ∨ k = 12 ∨ k = 13 ∨ k = 16 ∨ k = 17)
def hasTo (k : Int) : Bool := decide (k = 5 ∨ k = 17)
def hasLabel (k : Int) : Bool := decide (k = 17)
def isKind (k : Int) : Bool := decide (0 ≤ k ∧ k ≤ 17)
def kidsN (k : Int) : Nat :=
  if k = 4 ∨ k = 5 ∨ k = 10 ∨ k = 11 ∨ k = 12 ∨ k = 13 ∨ k = 16 ∨ k = 17 then 1 else if k = 6 ∨ k = 7 ∨ k = 9 ∨ k = 15 then 2 else if k = 8 ∨ k = 14 then 3 else 0
def isOp (s : ByteArray) : Bool := decide (s.toList ∈ ([[43], [45], [42], [47], [60], [61]] : List (List UInt8)))

def len : Tm → Nat
  | .nil => 0
  | .node _ _ r => len r + 1
/-- the nodes of a term's own types that count -/
def tyN (h : Hd) : Nat := (if hasType h.kind then Ty.nod h.tkids else 0) + (if hasTo h.kind then Ty.nod h.ukids else 0)
def tyD (h : Hd) : Nat := max (if hasType h.kind then Ty.dpt h.tkids else 0) (if hasTo h.kind then Ty.dpt h.ukids else 0)
def nodes : Tm → Nat
  | .nil => 0
  | .node h kids r => 1 + tyN h + nodes kids + nodes r
def dep : Tm → Nat
  | .nil => 0
  | .node h kids r => max (1 + max (tyD h) (dep kids)) (dep r)
/-- the types that count, as a list -/
def tys (h : Hd) : Fo := if hasType h.kind then (if hasTo h.kind then .node 0 0 h.tk h.tkids (.node 0 0 h.uk h.ukids .nil) else .node 0 0 h.tk h.tkids .nil) else .nil
def nameOk (h : Hd) : Bool := if h.kind = 15 then isOp h.name else (!hasName h.kind || Sc.isName h.name) && (!hasArg h.kind || Sc.isName h.arg)
def labelOk (n : Int) : Bool := decide (n ≠ 0 ∧ -2147483648 ≤ n ∧ n ≤ 2147483648)
def tysOk (h : Hd) : Bool := (!hasType h.kind || Ty.chk h.tk h.tkids == 0) && (!hasTo h.kind || Ty.chk h.uk h.ukids == 0)
/-- what a term's own fields must be, with so many kids -/
def headOk (h : Hd) (n : Nat) : Bool := isKind h.kind && decide (n = kidsN h.kind) && nameOk h && (!hasLabel h.kind || labelOk h.label) && tysOk h
def okF : Tm → Bool
  | .nil => true
  | .node h kids r => headOk h (len kids) && okF kids && okF r
def okT (h : Hd) (kids : Tm) : Bool := headOk h (len kids) && okF kids
/-- a term's nodes, depth -/
def nd (h : Hd) (kids : Tm) : Nat := 1 + tyN h + nodes kids
def dp (h : Hd) (kids : Tm) : Nat := 1 + max (tyD h) (dep kids)
def nod (h : Hd) (kids : Tm) : Nat := min (nd h kids) 8193
def dpt (h : Hd) (kids : Tm) : Nat := if 8192 < nd h kids then 201 else min (dp h kids) 201
def chk (h : Hd) (kids : Tm) : Nat := if 8192 < nd h kids then 32 else if 200 < dp h kids then 31 else if okT h kids then 0 else 30

theorem hasTo_type {k : Int} (h : hasTo k = true) : hasType k = true := by simp [hasTo, hasType] at *; omega
theorem len_le_nodes : ∀ f : Tm, len f ≤ nodes f
  | .nil => Nat.le_refl _
  | .node _ _ r => by have := len_le_nodes r; simp only [len, nodes]; omega

/-- what is asked of a term's places -/
structure Fit (w : World) (h : Hd) (p : Pl) (n : Nat) : Prop where
  ty : Ty.Is w h.tk h.tkids p.TA p.tn p.tc
  to : Ty.Is w h.uk h.ukids p.UA p.un p.uc
  n_eq : p.n = n
  n_le : p.n ≤ p.c
  c_le : p.c ≤ maxLen
  klo : -128 ≤ h.kind
  khi : h.kind ≤ 127
  llo : -9223372036854775808 ≤ h.label
  lhi : h.label ≤ 9223372036854775807
  nm : h.name.size ≤ 281474976710656
  ar : h.arg.size ≤ 281474976710656
/-- the terms of a list lie in memory from the i-th place of a slice on -/
def Lies (w : World) : Tm → Option Addr → Nat → Prop
  | .nil, _, _ => True
  | .node h kids r, A, i => ∃ b o p, A = some ⟨b, o, none⟩ ∧ (∀ j v, (h.cells p)[j]? = some v → w.cell? ⟨b, o + i * 11 + j, none⟩ = some v) ∧ Fit w h p (len kids) ∧ Lies w kids p.A 0 ∧ Lies w r A (i + 1)
/-- a term's value -/
structure Is (w : World) (h : Hd) (kids : Tm) (p : Pl) : Prop where
  fit : Fit w h p (len kids)
  lies : Lies w kids p.A 0

/-- what keeps all blocks that hold a kind -/
def Kept (w w' : World) : Prop := ∀ b, (∃ o k, w.cell? ⟨b, o, none⟩ = some (.int .i8 k)) → ∀ o v, w.cell? ⟨b, o, none⟩ = some v → w'.cell? ⟨b, o, none⟩ = some v
end Tm
theorem Ty.Lies.kept {w w' : World} (hk : Tm.Kept w w') : ∀ (f : Fo) (A : Option Addr) (i : Nat), Ty.Lies w f A i → Ty.Lies w' f A i
  | .nil, _, _, _ => trivial
  | .node _ _ _ kids r, A, i, h => by
    obtain ⟨b, o, B, c, hA, hkk, h1, h2, h3, h4, h5, h6⟩ := h
    exact ⟨b, o, B, c, hA, hkk, hk b ⟨_, _, h1⟩ _ _ h1, hk b ⟨_, _, h1⟩ _ _ h2, h3, h4, Ty.Lies.kept hk kids B 0 h5, Ty.Lies.kept hk r A (i + 1) h6⟩
theorem Ty.Is.kept {w w' : World} {k : Int} {kids : Fo} {A : Option Addr} {n c : Nat} (h : Ty.Is w k kids A n c) (hk : Tm.Kept w w') : Ty.Is w' k kids A n c :=
  ⟨h.lies.kept hk, h.n_eq, h.n_le, h.c_le, h.lo, h.hi⟩
namespace Tm
theorem Fit.kept {w w' : World} {h : Hd} {p : Pl} {n : Nat} (f : Fit w h p n) (hk : Kept w w') : Fit w' h p n :=
  ⟨f.ty.kept hk, f.to.kept hk, f.n_eq, f.n_le, f.c_le, f.klo, f.khi, f.llo, f.lhi, f.nm, f.ar⟩
theorem Lies.kept {w w' : World} (hk : Kept w w') : ∀ (f : Tm) (A : Option Addr) (i : Nat), Lies w f A i → Lies w' f A i
  | .nil, _, _, _ => trivial
  | .node h kids r, A, i, hh => by
    obtain ⟨b, o, p, hA, h1, h2, h3, h4⟩ := hh
    exact ⟨b, o, p, hA, fun j v hv => hk b ⟨_, _, h1 0 _ rfl⟩ _ _ (h1 j v hv), h2.kept hk, Lies.kept hk kids p.A 0 h3, Lies.kept hk r A (i + 1) h4⟩
theorem Is.kept {w w' : World} {h : Hd} {kids : Tm} {p : Pl} (f : Is w h kids p) (hk : Kept w w') : Is w' h kids p := ⟨f.fit.kept hk, f.lies.kept hk⟩
theorem Kept.of_below {w w' : World} (hb : Below w.heap.size w w') : Kept w w' := fun b _ o v h => by rw [hb.cell (p := ⟨b, o, none⟩) (Ty.cell_lt h)]; exact h
theorem Lies.below {w w' : World} {f : Tm} {A : Option Addr} {i : Nat} (h : Lies w f A i) (hb : Below w.heap.size w w') : Lies w' f A i := h.kept (.of_below hb)
theorem Is.below {w w' : World} {h : Hd} {kids : Tm} {p : Pl} (f : Is w h kids p) (hb : Below w.heap.size w w') : Is w' h kids p := f.kept (.of_below hb)
theorem Is.alloc {w : World} {h : Hd} {kids : Tm} {p : Pl} (f : Is w h kids p) (o : Obj) : Is (w.alloc o) h kids p := f.below ((Below.refl _ _).alloc (Nat.le_refl _) _)
theorem Lies.alloc {w : World} {f : Tm} {A : Option Addr} {i : Nat} (h : Lies w f A i) (o : Obj) : Lies (w.alloc o) f A i := h.below ((Below.refl _ _).alloc (Nat.le_refl _) _)
/-- one block alone may have turned, and there is no kind in it -/
theorem Kept.grown {w w' : World} {g : Nat} (hg : w.grownBy w' (some g)) (hno : ∀ o (k : Int), w.cell? ⟨g, o, none⟩ = some (.int .i8 k) → False) : Kept w w' := fun b hb o v h => by
  by_cases e : b = g
  · subst e; obtain ⟨o', k, hk⟩ := hb; exact (hno o' k hk).elim
  · rw [World.cell?_of_block (hg.block b (Ty.cell_lt h) (fun h => e (by injection h)))]; exact h
end Tm
end Go.Proofs.YtfkbdpehdabepaaGreatDoor
