/-
  The reference's Same, Known, Of, Ground; types.Ground.
-/
import Derived.Test.YtocopanencbmeaaDoorRefEq
import Derived.Deep.OwnRows
namespace Go.Proofs.YtocopanencbmeaaDoor
open Go.RowKit

theorem Ty.chk_ok {k : Int} {kids : Fo} (h : Ty.chk k kids = 0) : Ty.okT k kids = true ∧ Ty.nodes kids + 1 ≤ 8192 ∧ Ty.dep kids + 1 ≤ 200 := by
  unfold Ty.chk at h
  split at h
  · cases h
  · split at h
    · cases h
    · split at h
      · rename_i h1 h2 h3; exact ⟨h3, by omega, by omega⟩
      · cases h

namespace Ty
/-- two parts -/
def two (k : Int) (kids : Fo) (k' : Int) (kids' : Fo) : Fo := .node 0 0 k kids (.node 0 0 k' kids' .nil)
/-- a block of two types' cells -/
theorem lies_two {w : World} {N : Nat} {k k' : Int} {kids kids' : Fo} {A A' : Option Addr} {n c n' c' : Nat} {t : TypeId} (h : w.heap[N]? = some (.cells #[.int .i8 k, .slice A n c, .int .i8 k', .slice A' n' c'] t (0, 0))) (h1 : Is w k kids A n c) (h2 : Is w k' kids' A' n' c') :
    Lies w (two k kids k' kids') (some ⟨N, 0, none⟩) 0 := by
  refine ⟨N, 0, A, c, rfl, ⟨h1.lo, h1.hi⟩, by simp [World.cell?, h], by rw [← h1.n_eq]; simp [World.cell?, h], by rw [← h1.n_eq]; exact h1.n_le, h1.c_le, h1.lies, ?_⟩
  exact ⟨N, 0, A', c', rfl, ⟨h2.lo, h2.hi⟩, by simp [World.cell?, h], by rw [← h2.n_eq]; simp [World.cell?, h], by rw [← h2.n_eq]; exact h2.n_le, h2.c_le, h2.lies, trivial⟩
end Ty

/-- what Of leaves: a type in new memory -/
def OfPost (w : World) (kd k : Int) (kids : Fo) (k' : Int) (kids' : Fo) (e : Ending) (w' : World) : Prop :=
  ∃ N, e = .returned (.agg #[.int .i8 kd, .slice (some ⟨N, 0, none⟩) 2 2]) ∧ w.heap.size ≤ N ∧ Ty.Is w' kd (Ty.two k kids k' kids') (some ⟨N, 0, none⟩) 2 2 ∧ Below w.heap.size w w'

/-- .. cell by cell -/
def OfRaw (w : World) (kd k : Int) (A : Option Addr) (n c : Nat) (k' : Int) (A' : Option Addr) (n' c' : Nat) (e : Ending) (w' : World) : Prop :=
  ∃ N, e = .returned (.agg #[.int .i8 kd, .slice (some ⟨N, 0, none⟩) 2 2]) ∧ w.heap.size ≤ N ∧ w'.heap[N]? = some (.cells #[.int .i8 k, .slice A n c, .int .i8 k', .slice A' n' c'] 25 (0, 0)) ∧ Below w.heap.size w w'

namespace Ty
def gOk (k : Int) (kids : Fo) : Bool := (chk k kids == 0) && (k != 0)
def gK (k : Int) (kids : Fo) : Int := if chk k kids = 0 then k else 0
def gKids (k : Int) (kids : Fo) : Fo := if chk k kids = 0 ∧ 3 ≤ k then two 0 .nil 0 .nil else .nil
theorem is_nil (w : World) (k : Int) (h1 : -128 ≤ k) (h2 : k ≤ 127) : Is w k .nil none 0 0 := ⟨trivial, rfl, Nat.le_refl _, Nat.zero_le _, h1, h2⟩
end Ty
/-- what Ground leaves: a ground in new memory, and whether there is one -/
def GroundPost (w : World) (k : Int) (kids : Fo) (e : Ending) (w' : World) : Prop :=
  ∃ G m c, e = .returned (.tuple #[.agg #[.int .i8 (Ty.gK k kids), .slice G m c], .bool (Ty.gOk k kids)]) ∧ Ty.Is w' (Ty.gK k kids) (Ty.gKids k kids) G m c ∧
    (G = none ∨ ∃ g, G = some ⟨g, 0, none⟩ ∧ w.heap.size ≤ g ∧ m = 2 ∧ w'.heap[g]? = some (.cells #[.int .i8 0, .slice none 0 0, .int .i8 0, .slice none 0 0] 25 (0, 0))) ∧ Below w.heap.size w w'

theorem Ty.okT_range {k : Int} {kids : Fo} (h : Ty.okT k kids = true) : k = 0 ∨ k = 1 ∨ k = 2 ∨ k = 3 ∨ k = 4 ∨ k = 5 := by
  unfold Ty.okT Ty.okK at h
  split at h
  · omega
  · split at h
    · omega
    · simp at h

end Go.Proofs.YtocopanencbmeaaDoor
