/-
  Types that lie in blocks of which P holds.
-/
import Derived.Test.YtailgpkgcockhaaDoorFo
namespace Go.Proofs.YtailgpkgcockhaaDoor
open Go.RowKit

namespace Ty
/-- the types of a list lie in blocks of which P holds -/
def LiesP (P : Nat → Prop) (w : World) : Fo → Option Addr → Nat → Prop
  | .nil, _, _ => True
  | .node _ _ k kids r, A, i => ∃ b o B c, A = some ⟨b, o, none⟩ ∧ P b ∧ (-128 ≤ k ∧ k ≤ 127) ∧ w.cell? ⟨b, o + i * 2, none⟩ = some (.int .i8 k) ∧ w.cell? ⟨b, o + i * 2 + 1, none⟩ = some (.slice B (len kids) c) ∧
      len kids ≤ c ∧ c ≤ maxLen ∧ LiesP P w kids B 0 ∧ LiesP P w r A (i + 1)
theorem LiesP.to {P P' : Nat → Prop} {w w' : World} (hk : ∀ b o v, P b → w.cell? ⟨b, o, none⟩ = some v → P' b ∧ w'.cell? ⟨b, o, none⟩ = some v) : ∀ (f : Fo) (A : Option Addr) (i : Nat), LiesP P w f A i → LiesP P' w' f A i
  | .nil, _, _, _ => trivial
  | .node _ _ _ kids r, A, i, h => by
    obtain ⟨b, o, B, c, hA, hP, hkk, h1, h2, h3, h4, h5, h6⟩ := h
    exact ⟨b, o, B, c, hA, (hk b _ _ hP h1).1, hkk, (hk b _ _ hP h1).2, (hk b _ _ hP h2).2, h3, h4, LiesP.to hk kids B 0 h5, LiesP.to hk r A (i + 1) h6⟩
theorem LiesP.lies {P : Nat → Prop} {w : World} : ∀ (f : Fo) (A : Option Addr) (i : Nat), LiesP P w f A i → Lies w f A i
  | .nil, _, _, _ => trivial
  | .node _ _ _ kids r, A, i, h => by
    obtain ⟨b, o, B, c, hA, hP, hkk, h1, h2, h3, h4, h5, h6⟩ := h
    exact ⟨b, o, B, c, hA, hkk, h1, h2, h3, h4, LiesP.lies kids B 0 h5, LiesP.lies r A (i + 1) h6⟩
theorem Lies.inP {w : World} : ∀ (f : Fo) (A : Option Addr) (i : Nat), Lies w f A i → LiesP (fun b => b < w.heap.size) w f A i
  | .nil, _, _, _ => trivial
  | .node _ _ _ kids r, A, i, h => by
    obtain ⟨b, o, B, c, hA, hkk, h1, h2, h3, h4, h5, h6⟩ := h
    exact ⟨b, o, B, c, hA, cell_lt h1, hkk, h1, h2, h3, h4, Lies.inP kids B 0 h5, Lies.inP r A (i + 1) h6⟩
/-- a type that lies in blocks of which P holds -/
structure IsP (P : Nat → Prop) (w : World) (k : Int) (kids : Fo) (A : Option Addr) (n c : Nat) : Prop where
  lies : LiesP P w kids A 0
  n_eq : n = len kids
  n_le : n ≤ c
  c_le : c ≤ maxLen
  lo : -128 ≤ k
  hi : k ≤ 127
theorem IsP.is {P : Nat → Prop} {w : World} {k : Int} {kids : Fo} {A : Option Addr} {n c : Nat} (h : IsP P w k kids A n c) : Is w k kids A n c := ⟨h.lies.lies, h.n_eq, h.n_le, h.c_le, h.lo, h.hi⟩
theorem Is.inP {w : World} {k : Int} {kids : Fo} {A : Option Addr} {n c : Nat} (h : Is w k kids A n c) : IsP (fun b => b < w.heap.size) w k kids A n c := ⟨h.lies.inP, h.n_eq, h.n_le, h.c_le, h.lo, h.hi⟩
theorem IsP.to {P P' : Nat → Prop} {w w' : World} {k : Int} {kids : Fo} {A : Option Addr} {n c : Nat} (h : IsP P w k kids A n c) (hk : ∀ b o v, P b → w.cell? ⟨b, o, none⟩ = some v → P' b ∧ w'.cell? ⟨b, o, none⟩ = some v) : IsP P' w' k kids A n c :=
  ⟨LiesP.to hk _ _ _ h.lies, h.n_eq, h.n_le, h.c_le, h.lo, h.hi⟩
theorem LiesP.two {P : Nat → Prop} {w : World} {a b c d : Nat} {k1 k2 : Int} {f1 f2 : Fo} {A : Option Addr} (h : LiesP P w (.node a b k1 f1 (.node c d k2 f2 .nil)) A 0) :
    ∃ bb oo B1 c1 B2 c2, A = some ⟨bb, oo, none⟩ ∧ w.cell? ⟨bb, oo, none⟩ = some (.int .i8 k1) ∧ w.cell? ⟨bb, oo + 1, none⟩ = some (.slice B1 (len f1) c1) ∧ w.cell? ⟨bb, oo + 2, none⟩ = some (.int .i8 k2) ∧ w.cell? ⟨bb, oo + 3, none⟩ = some (.slice B2 (len f2) c2) ∧ IsP P w k1 f1 B1 (len f1) c1 ∧ IsP P w k2 f2 B2 (len f2) c2 := by
  obtain ⟨bb, oo, B1, c1, rfl, -, ⟨h1, h2⟩, h3, h4, h5, h6, h7, ⟨bb', oo', B2, c2, e, -, ⟨g1, g2⟩, g3, g4, g5, g6, g7, -⟩⟩ := h
  injection e with e; injection e with e1 e2; subst e1; subst e2
  exact ⟨_, _, B1, c1, B2, c2, rfl, by simpa using h3, by simpa using h4, by simpa using g3, by simpa using g4, ⟨h7, rfl, h5, h6, h1, h2⟩, ⟨g7, rfl, g5, g6, g1, g2⟩⟩
end Ty
end Go.Proofs.YtailgpkgcockhaaDoor
