/-
  Types as forests: how many, how deep, what they are; how they lie in memory. An argument that is a type: its kind, its kids, as they lie in memory. errors.As knows the error type. Types that lie in blocks of which P holds.
-/
import Derived.Test.YtknhoagicdfikaaGreatDoorChecked
import Derived.WalkKit
import Derived.ChangeSame
import Derived.Deep.Trees
import Derived.Deep.Slices
import Derived.Below
import Derived.Lib.Hide
namespace Go.Proofs.YtknhoagicdfikaaGreatDoor
open Go.RowKit Go.ChangeShapes Go.WideShapes

/-- a list of types: 'node _ _ k kids rest': the first is of kind k and has the kids -/
abbrev Fo := Go.Deep.BT Int
namespace Ty
def len : Fo → Nat
  | .nil => 0
  | .node _ _ _ _ r => len r + 1
def nodes : Fo → Nat
  | .nil => 0
  | .node _ _ _ kids r => nodes kids + 1 + nodes r
def dep : Fo → Nat
  | .nil => 0
  | .node _ _ _ kids r => max (dep kids + 1) (dep r)
/-- has a kind its kids? -/
def okK (k : Int) (n : Nat) : Bool := if 0 ≤ k ∧ k ≤ 2 then n == 0 else if 3 ≤ k ∧ k ≤ 5 then n == 2 else false
def okF : Fo → Bool
  | .nil => true
  | .node _ _ k kids r => okK k (len kids) && okF kids && okF r
/-- nowhere Unknown -/
def knF : Fo → Bool
  | .nil => true
  | .node _ _ k kids r => (k != 0) && knF kids && knF r
/-- the same, one by one -/
def eqF : Fo → Fo → Bool
  | .nil, .nil => true
  | .nil, .node _ _ _ _ _ => false
  | .node _ _ _ _ _, .nil => false
  | .node _ _ k kids r, .node _ _ k' kids' r' => (k == k') && eqF kids kids' && eqF r r'
/-- what Check tells of a type -/
def chk (k : Int) (kids : Fo) : Nat := if 8192 < nodes kids + 1 then 32 else if 200 < dep kids + 1 then 31 else if okK k (len kids) && okF kids then 0 else 20
def nod (kids : Fo) : Nat := min (nodes kids + 1) 8193
def dpt (kids : Fo) : Nat := if 8192 < nodes kids + 1 then 201 else min (dep kids + 1) 201

theorem len_le_nodes : ∀ f : Fo, len f ≤ nodes f
  | .nil => Nat.le_refl _
  | .node _ _ _ _ r => by have := len_le_nodes r; simp only [len, nodes]; omega
theorem dep_le_nodes : ∀ f : Fo, dep f ≤ nodes f
  | .nil => Nat.le_refl _
  | .node _ _ _ kids r => by have := dep_le_nodes kids; have := dep_le_nodes r; simp only [dep, nodes]; omega
theorem eqF_refl : ∀ f : Fo, eqF f f = true
  | .nil => rfl
  | .node _ _ k kids r => by simp [eqF, eqF_refl kids, eqF_refl r]
theorem eqF_len : ∀ f g : Fo, eqF f g = true → len f = len g
  | .nil, .nil, _ => rfl
  | .nil, .node _ _ _ _ _, h => by simp [eqF] at h
  | .node _ _ _ _ _, .nil, h => by simp [eqF] at h
  | .node _ _ k kids r, .node _ _ k' kids' r', h => by
    simp only [eqF, Bool.and_eq_true] at h
    simp only [len]; rw [eqF_len r r' h.2]

/-- the types of a list lie in memory from the i-th place of a slice on -/
def Lies (w : World) : Fo → Option Addr → Nat → Prop
  | .nil, _, _ => True
  | .node _ _ k kids r, A, i => ∃ b o B c, A = some ⟨b, o, none⟩ ∧ (-128 ≤ k ∧ k ≤ 127) ∧ w.cell? ⟨b, o + i * 2, none⟩ = some (.int .i8 k) ∧ w.cell? ⟨b, o + i * 2 + 1, none⟩ = some (.slice B (len kids) c) ∧
      len kids ≤ c ∧ c ≤ maxLen ∧ Lies w kids B 0 ∧ Lies w r A (i + 1)
/-- a type's value: its kind, its kids -/
structure Is (w : World) (k : Int) (kids : Fo) (A : Option Addr) (n c : Nat) : Prop where
  lies : Lies w kids A 0
  n_eq : n = len kids
  n_le : n ≤ c
  c_le : c ≤ maxLen
  lo : -128 ≤ k
  hi : k ≤ 127

theorem Lies.lt {w : World} {f : Fo} {b o : Nat} {i : Nat} (h : Lies w f (some ⟨b, o, none⟩) i) (hf : 0 < len f) : b < w.heap.size := by
  cases f with
  | nil => cases hf
  | node _ _ k kids r =>
    obtain ⟨b', o', B, c, hA, _, h1, _⟩ := h
    injection hA with hA; injection hA with e1 e2; subst e1
    rcases Nat.lt_or_ge b w.heap.size with h2 | h2
    · exact h2
    · simp [World.cell?, Array.getElem?_eq_none h2] at h1

theorem cell_lt {w : World} {b o : Nat} {v : Value} (h1 : w.cell? ⟨b, o, none⟩ = some v) : b < w.heap.size := by
  rcases Nat.lt_or_ge b w.heap.size with h2 | h2
  · exact h2
  · simp [World.cell?, Array.getElem?_eq_none h2] at h1

/-- what keeps all blocks below n but one keeps what lies elsewhere -/
theorem Lies.keep {w w' : World} (hk : ∀ (b o : Nat) (v : Value), w.cell? ⟨b, o, none⟩ = some v → (∃ k : Int, v = .int .i8 k) ∨ (∃ B n c, v = .slice B n c) → w'.cell? ⟨b, o, none⟩ = some v) :
    ∀ (f : Fo) (A : Option Addr) (i : Nat), Lies w f A i → Lies w' f A i
  | .nil, _, _, _ => trivial
  | .node _ _ _ kids r, A, i, h => by
    obtain ⟨b, o, B, c, hA, hkk, h1, h2, h3, h4, h5, h6⟩ := h
    exact ⟨b, o, B, c, hA, hkk, hk b _ _ h1 (.inl ⟨_, rfl⟩), hk b _ _ h2 (.inr ⟨_, _, _, rfl⟩), h3, h4, Lies.keep hk kids B 0 h5, Lies.keep hk r A (i + 1) h6⟩
theorem Lies.below {w w' : World} {f : Fo} {A : Option Addr} {i : Nat} (h : Lies w f A i) (hb : Below w.heap.size w w') : Lies w' f A i :=
  Lies.keep (fun b o v h1 _ => by rw [hb.cell (p := ⟨b, o, none⟩) (cell_lt h1)]; exact h1) f A i h
theorem Is.below {w w' : World} {k : Int} {kids : Fo} {A : Option Addr} {n c : Nat} (h : Is w k kids A n c) (hb : Below w.heap.size w w') : Is w' k kids A n c :=
  ⟨h.lies.below hb, h.n_eq, h.n_le, h.c_le, h.lo, h.hi⟩
theorem Is.alloc {w : World} {k : Int} {kids : Fo} {A : Option Addr} {n c : Nat} (h : Is w k kids A n c) (o : Obj) : Is (w.alloc o) k kids A n c :=
  h.below ((Below.refl _ _).alloc (Nat.le_refl _) _)
theorem Lies.alloc {w : World} {f : Fo} {A : Option Addr} {i : Nat} (h : Lies w f A i) (o : Obj) : Lies (w.alloc o) f A i :=
  h.below ((Below.refl _ _).alloc (Nat.le_refl _) _)
/-- one block alone may have turned, and nothing of what lies is in it (its cells are numbers of another kind) -/
theorem Lies.grown {w w' : World} {f : Fo} {A : Option Addr} {i g : Nat} (h : Lies w f A i) (hg : w.grownBy w' (some g)) (hno : ∀ o v, w.cell? ⟨g, o, none⟩ = some v → (∃ k : Int, v = .int .i8 k) ∨ (∃ B n c, v = .slice B n c) → False) : Lies w' f A i :=
  Lies.keep (fun b o v h1 h2 => by
    by_cases hb : b = g
    · subst hb; exact (hno o v h1 h2).elim
    · rw [World.cell?_of_block (hg.block b (cell_lt h1) (fun e => hb (by injection e)))]; exact h1) f A i h
theorem Is.grown {w w' : World} {k : Int} {kids : Fo} {A : Option Addr} {n c g : Nat} (h : Is w k kids A n c) (hg : w.grownBy w' (some g)) (hno : ∀ o v, w.cell? ⟨g, o, none⟩ = some v → (∃ k : Int, v = .int .i8 k) ∨ (∃ B n c, v = .slice B n c) → False) : Is w' k kids A n c :=
  ⟨h.lies.grown hg hno, h.n_eq, h.n_le, h.c_le, h.lo, h.hi⟩

end Ty
end Go.Proofs.YtknhoagicdfikaaGreatDoor
namespace Go.Proofs.YtknhoagicdfikaaGreatDoor
open Go.RowKit Go.ChangeShapes Go.WideShapes

theorem u_Type : ∃ f0 f1 : Field, Tryz.prog.underlying 25 = some (.struct #[f0, f1]) ∧ f0.type = 22 ∧ f0.offset = 0 ∧ f1.type = 23 ∧ f1.offset = 1 := ⟨_, _, Tryz.underlying25, rfl, rfl, rfl, rfl⟩
theorem c_Type : Tryz.prog.cellsOf 25 = 2 := by kernel_rfl
theorem c_int8 : Tryz.prog.cellsOf 22 = 1 := by kernel_rfl
theorem c_kids : Tryz.prog.cellsOf 23 = 1 := by kernel_rfl

theorem add_at (b o i : Nat) : (⟨b, o, none⟩ : Addr).add i = ⟨b, o + i, none⟩ := by unfold Addr.add; by_cases h : i = 0 <;> simp [h]

namespace Ty
theorem forest {w : World} {b o n : Nat} (h : ∀ i, i < n → ∃ k kids B m c, w.cell? ⟨b, o + i * 2, none⟩ = some (.int .i8 k) ∧ w.cell? ⟨b, o + i * 2 + 1, none⟩ = some (.slice B m c) ∧ Is w k kids B m c) :
    ∀ j, j ≤ n → ∃ f : Fo, len f = j ∧ Lies w f (some ⟨b, o, none⟩) (n - j) := by
  intro j
  induction j with
  | zero => exact fun _ => ⟨.nil, rfl, trivial⟩
  | succ j ih =>
    intro hj
    obtain ⟨f, hf, hL⟩ := ih (by omega)
    obtain ⟨k, kids, B, m, c, h1, h2, h3⟩ := h (n - (j + 1)) (by omega)
    refine ⟨.node 0 0 k kids f, by simp only [len]; omega, b, o, B, c, rfl, ⟨h3.lo, h3.hi⟩, h1, by rw [← h3.n_eq]; exact h2, by rw [← h3.n_eq]; exact h3.n_le, h3.c_le, h3.lies, ?_⟩
    rw [show n - (j + 1) + 1 = n - j by omega]
    exact hL
end Ty

set_option maxRecDepth 100000 in
theorem open_type {H : Type} {enc : TypeId × Value → H} {w : World} {base : Nat} {sp : Nat → Bool} {hd : Bool} : ∀ (fuel : Nat) (cs : List Value) (x : DataW H × List MemPlace), DataW.trod enc Tryz.prog w base sp hd fuel 25 cs = some x →
    ∃ k kids A n c, cs = [.int .i8 k, .slice A n c] ∧ Ty.Is w k kids A n c := by
  intro fuel
  induction fuel using Nat.strongRecOn with
  | _ fuel ih =>
    intro cs x h
    obtain ⟨f0, f1, hu, t0, o0, t1, o1⟩ := u_Type
    obtain ⟨xs, m, rfl, -, hl, hxl, hf⟩ := DataW.trod_struct hu h
    rw [c_Type] at hl
    match cs, hl with
    | [v0, v1], _ =>
    have h0 := hf 0 f0 rfl
    have h1 := hf 1 f1 rfl
    rw [t0, o0, c_int8] at h0
    rw [t1, o1, c_kids] at h1
    have hx0 : xs[0]? = some (xs[0]'(by rw [hxl]; simp)) := List.getElem?_eq_getElem _
    have hx1 : xs[1]? = some (xs[1]'(by rw [hxl]; simp)) := List.getElem?_eq_getElem _
    rw [hx0] at h0
    rw [hx1] at h1
    simp only [List.drop_zero, List.take_succ_cons, List.take_zero, List.drop_succ_cons] at h0 h1
    obtain ⟨k, hk, -, hwf⟩ := DataW.trod_int Tryz.underlying22 h0
    have hlo : -128 ≤ k ∧ k ≤ 127 := by
      have hmin : IntKind.i8.min = -128 := rfl
      have hmax : IntKind.i8.max = 127 := rfl
      simp only [Lit.wf, Bool.and_eq_true, decide_eq_true_eq, hmin, hmax] at hwf
      omega
    injection hk with hk
    subst hk
    rcases DataW.trod_slice Tryz.underlying23 h1 with ⟨hcs, -⟩ | ⟨a, len, cap, elems, rest, m', hm, hcs, -, hb, hle, hcap, hel, hat, -, -⟩
    · injection hcs with hcs
      subst hcs
      exact ⟨k, .nil, none, 0, 0, rfl, ⟨trivial, rfl, Nat.le_refl _, Nat.zero_le _, hlo.1, hlo.2⟩⟩
    · injection hcs with hcs
      subst hcs
      rw [c_Type] at hat
      obtain ⟨b, o, s⟩ := a
      by_cases hz : len = 0
      · subst hz
        exact ⟨k, .nil, some ⟨b, o, s⟩, 0, cap, rfl, ⟨trivial, rfl, hle, hcap, hlo.1, hlo.2⟩⟩
      · have hsp : s = none := by
          have h2 := hat 0 (by omega)
          rw [List.getElem?_eq_getElem (by omega : 0 < elems.length)] at h2
          obtain ⟨cs', hc, -⟩ := Option.bind_eq_some_iff.1 h2
          obtain ⟨-, hcl, hcell⟩ := World.cells?_some hc
          have h3 := hcell 0 (by omega)
          rw [List.getElem?_eq_getElem (by omega : 0 < cs'.length)] at h3
          simpa [Addr.add] using World.cell?_spot h3
        subst hsp
        have hfor : ∀ i, i < len → ∃ k kids B m c, w.cell? ⟨b, o + i * 2, none⟩ = some (.int .i8 k) ∧ w.cell? ⟨b, o + i * 2 + 1, none⟩ = some (.slice B m c) ∧ Ty.Is w k kids B m c := by
          intro i hi
          have h2 := hat i hi
          rw [List.getElem?_eq_getElem (by omega : i < elems.length)] at h2
          obtain ⟨cs', hc, htr⟩ := Option.bind_eq_some_iff.1 h2
          obtain ⟨k', kids', A', n', c', rfl, hIs⟩ := ih m' (by omega) cs' _ htr
          obtain ⟨-, hcl, hcell⟩ := World.cells?_some hc
          have h3 := hcell 0 (by omega)
          have h4 := hcell 1 (by omega)
          refine ⟨k', kids', A', n', c', ?_, ?_, hIs⟩
          · rw [add_at, add_at] at h3; simpa using h3
          · rw [add_at, add_at] at h4; simpa using h4
        obtain ⟨f, hf1, hf2⟩ := Ty.forest hfor len (Nat.le_refl _)
        rw [Nat.sub_self] at hf2
        exact ⟨k, f, some ⟨b, o, none⟩, len, cap, rfl, ⟨hf2, hf1.symm, hle, hcap, hlo.1, hlo.2⟩⟩
end Go.Proofs.YtknhoagicdfikaaGreatDoor
namespace Go.Proofs.YtknhoagicdfikaaGreatDoor
open Go.RowKit

/-- errors.As knows the error type -/
def ErrT (w : World) : Prop := w.cell? ⟨0, 0, none⟩ = some (.iface 112 (.agg #[.pointer (some ⟨9, 30, none⟩)]))
theorem ErrT.below {w w' : World} (h : ErrT w) (hb : Below w.heap.size w w') : ErrT w' := by
  unfold ErrT at h ⊢
  rw [hb.cell (p := ⟨0, 0, none⟩) (Ty.cell_lt h)]
  exact h
end Go.Proofs.YtknhoagicdfikaaGreatDoor
namespace Go.Proofs.YtknhoagicdfikaaGreatDoor
open Go.RowKit

namespace Ty
/-- the types of a list lie in blocks of which P holds -/
def LiesP (P : Nat → Prop) (w : World) : Fo → Option Addr → Nat → Prop
  | .nil, _, _ => True
  | .node _ _ k kids r, A, i => ∃ b o B c, A = some ⟨b, o, none⟩ ∧ P b ∧ (-128 ≤ k ∧ k ≤ 127) ∧ w.cell? ⟨b, o + i * 2, none⟩ = some (.int .i8 k) ∧ w.cell? ⟨b, o + i * 2 + 1, none⟩ = some (.slice B (len kids) c) ∧
      len kids ≤ c ∧ c ≤ maxLen ∧ LiesP P w kids B 0 ∧ LiesP P w r A (i + 1)
theorem LiesP.to {P P' : Nat → Prop} {w w' : World} (hk : ∀ b o v, P b → w.cell? ⟨b, o, none⟩ = some v → P' b ∧ w'.cell? ⟨b, o, none⟩ = some v) : ∀ (f : Fo) (A : Option Addr) (i : Nat), LiesP P w f A i → LiesP P' w' f A i
  | .nil, _, _, _ => trivial
  | .node _ _ _ kids r, A, i, h => by
    obtain ⟨b, o, B, c, hA, hP, hkk, h1, h2, h3, h4, h5, h6⟩ := h
    exact ⟨b, o, B, c, hA, (hk b _ _ hP h1).1, hkk, (hk b _ _ hP h1).2, (hk b _ _ hP h2).2, h3, h4, LiesP.to hk kids B 0 h5, LiesP.to hk r A (i + 1) h6⟩
theorem LiesP.lies {P : Nat → Prop} {w : World} : ∀ (f : Fo) (A : Option Addr) (i : Nat), LiesP P w f A i → Lies w f A i
  | .nil, _, _, _ => trivial
  | .node _ _ _ kids r, A, i, h => by
    obtain ⟨b, o, B, c, hA, hP, hkk, h1, h2, h3, h4, h5, h6⟩ := h
    exact ⟨b, o, B, c, hA, hkk, h1, h2, h3, h4, LiesP.lies kids B 0 h5, LiesP.lies r A (i + 1) h6⟩
theorem Lies.inP {w : World} : ∀ (f : Fo) (A : Option Addr) (i : Nat), Lies w f A i → LiesP (fun b => b < w.heap.size) w f A i
  | .nil, _, _, _ => trivial
  | .node _ _ _ kids r, A, i, h => by
    obtain ⟨b, o, B, c, hA, hkk, h1, h2, h3, h4, h5, h6⟩ := h
    exact ⟨b, o, B, c, hA, cell_lt h1, hkk, h1, h2, h3, h4, Lies.inP kids B 0 h5, Lies.inP r A (i + 1) h6⟩
/-- a type that lies in blocks of which P holds -/
structure IsP (P : Nat → Prop) (w : World) (k : Int) (kids : Fo) (A : Option Addr) (n c : Nat) : Prop where
  lies : LiesP P w kids A 0
  n_eq : n = len kids
  n_le : n ≤ c
  c_le : c ≤ maxLen
  lo : -128 ≤ k
  hi : k ≤ 127
theorem IsP.is {P : Nat → Prop} {w : World} {k : Int} {kids : Fo} {A : Option Addr} {n c : Nat} (h : IsP P w k kids A n c) : Is w k kids A n c := ⟨h.lies.lies, h.n_eq, h.n_le, h.c_le, h.lo, h.hi⟩
theorem Is.inP {w : World} {k : Int} {kids : Fo} {A : Option Addr} {n c : Nat} (h : Is w k kids A n c) : IsP (fun b => b < w.heap.size) w k kids A n c := ⟨h.lies.inP, h.n_eq, h.n_le, h.c_le, h.lo, h.hi⟩
theorem IsP.to {P P' : Nat → Prop} {w w' : World} {k : Int} {kids : Fo} {A : Option Addr} {n c : Nat} (h : IsP P w k kids A n c) (hk : ∀ b o v, P b → w.cell? ⟨b, o, none⟩ = some v → P' b ∧ w'.cell? ⟨b, o, none⟩ = some v) : IsP P' w' k kids A n c :=
  ⟨LiesP.to hk _ _ _ h.lies, h.n_eq, h.n_le, h.c_le, h.lo, h.hi⟩
theorem LiesP.two {P : Nat → Prop} {w : World} {a b c d : Nat} {k1 k2 : Int} {f1 f2 : Fo} {A : Option Addr} (h : LiesP P w (.node a b k1 f1 (.node c d k2 f2 .nil)) A 0) :
    ∃ bb oo B1 c1 B2 c2, A = some ⟨bb, oo, none⟩ ∧ w.cell? ⟨bb, oo, none⟩ = some (.int .i8 k1) ∧ w.cell? ⟨bb, oo + 1, none⟩ = some (.slice B1 (len f1) c1) ∧ w.cell? ⟨bb, oo + 2, none⟩ = some (.int .i8 k2) ∧ w.cell? ⟨bb, oo + 3, none⟩ = some (.slice B2 (len f2) c2) ∧ IsP P w k1 f1 B1 (len f1) c1 ∧ IsP P w k2 f2 B2 (len f2) c2 := by
  obtain ⟨bb, oo, B1, c1, rfl, -, ⟨h1, h2⟩, h3, h4, h5, h6, h7, ⟨bb', oo', B2, c2, e, -, ⟨g1, g2⟩, g3, g4, g5, g6, g7, -⟩⟩ := h
  injection e with e; injection e with e1 e2; subst e1; subst e2
  exact ⟨_, _, B1, c1, B2, c2, rfl, by simpa using h3, by simpa using h4, by simpa using g3, by simpa using g4, ⟨h7, rfl, h5, h6, h1, h2⟩, ⟨g7, rfl, g5, g6, g1, g2⟩⟩
end Ty
end Go.Proofs.YtknhoagicdfikaaGreatDoor
