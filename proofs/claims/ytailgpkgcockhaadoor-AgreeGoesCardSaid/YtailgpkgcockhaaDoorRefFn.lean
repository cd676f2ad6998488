/-
  The reference's Same, Known, Of, Ground; types.Ground.
-/
import Derived.Test.YtailgpkgcockhaaDoorRefEq
import Derived.Deep.OwnRows
namespace Go.Proofs.YtailgpkgcockhaaDoor
open Go.RowKit

theorem Ty.chk_ok {k : Int} {kids : Fo} (h : Ty.chk k kids = 0) : Ty.okT k kids = true ∧ Ty.nodes kids + 1 ≤ 8192 ∧ Ty.dep kids + 1 ≤ 200 := by
  unfold Ty.chk at h
  split at h
  · cases h
  · split at h
    · cases h
    · split at h
      · rename_i h1 h2 h3; exact ⟨h3, by omega, by omega⟩
      · cases h

namespace Ty
/-- two parts -/
def two (k : Int) (kids : Fo) (k' : Int) (kids' : Fo) : Fo := .node 0 0 k kids (.node 0 0 k' kids' .nil)
/-- a block of two types' cells -/
theorem lies_two {w : World} {N : Nat} {k k' : Int} {kids kids' : Fo} {A A' : Option Addr} {n c n' c' : Nat} {t : TypeId} (h : w.heap[N]? = some (.cells #[.int .i8 k, .slice A n c, .int .i8 k', .slice A' n' c'] t (0, 0))) (h1 : Is w k kids A n c) (h2 : Is w k' kids' A' n' c') :
    Lies w (two k kids k' kids') (some ⟨N, 0, none⟩) 0 := by
  refine ⟨N, 0, A, c, rfl, ⟨h1.lo, h1.hi⟩, by simp [World.cell?, h], by rw [← h1.n_eq]; simp [World.cell?, h], by rw [← h1.n_eq]; exact h1.n_le, h1.c_le, h1.lies, ?_⟩
  exact ⟨N, 0, A', c', rfl, ⟨h2.lo, h2.hi⟩, by simp [World.cell?, h], by rw [← h2.n_eq]; simp [World.cell?, h], by rw [← h2.n_eq]; exact h2.n_le, h2.c_le, h2.lies, trivial⟩
end Ty

/-- what Of leaves: a type in new memory -/
def OfPost (w : World) (kd k : Int) (kids : Fo) (k' : Int) (kids' : Fo) (e : Ending) (w' : World) : Prop :=
  ∃ N, e = .returned (.agg #[.int .i8 kd, .slice (some ⟨N, 0, none⟩) 2 2]) ∧ w.heap.size ≤ N ∧ Ty.Is w' kd (Ty.two k kids k' kids') (some ⟨N, 0, none⟩) 2 2 ∧ Below w.heap.size w w'

/-- .. cell by cell -/
def OfRaw (w : World) (kd k : Int) (A : Option Addr) (n c : Nat) (k' : Int) (A' : Option Addr) (n' c' : Nat) (e : Ending) (w' : World) : Prop :=
  ∃ N, e = .returned (.agg #[.int .i8 kd, .slice (some ⟨N, 0, none⟩) 2 2]) ∧ w.heap.size ≤ N ∧ w'.heap[N]? = some (.cells #[.int .i8 k, .slice A n c, .int .i8 k', .slice A' n' c'] 25 (0, 0)) ∧ Below w.heap.size w w'

set_option maxHeartbeats 1000000 in
set_option maxRecDepth 100000 in
theorem of_raw (kd : Int) (k : Int) (A : Option Addr) (n c : Nat) (k' : Int) (A' : Option Addr) (n' c' : Nat) (w : World) :
    Calls Tryd.prog 13 #[.int .i8 kd, .agg #[.int .i8 k, .slice A n c], .agg #[.int .i8 k', .slice A' n' c']] w (OfRaw w kd k A n c k' A' n' c') := by
  go_enter Tryd.func13, Tryd.ntmps13
  go_wp2_with fail
  refine bodyPost_ret (v := .agg #[.int .i8 kd, .slice (some ⟨w.heap.size + 1 + 1 + 1, 0, none⟩) 2 2]) (by simp [results, Tryd.results13, go_sem]) rfl ⟨_, rfl, by omega, ?_, ?_⟩
  · have := heap_new (((w.alloc (Obj.cells #[Value.int IntKind.i8 k, Value.slice A n c] 25)).alloc (Obj.cells #[Value.int IntKind.i8 k', Value.slice A' n' c'] 25)).alloc (Obj.cells #[Value.int IntKind.i8 kd, Value.slice (some { block := w.heap.size + 1 + 1 + 1, off := 0 }) 2 2] 25)) (Obj.cells #[Value.int IntKind.i8 k, Value.slice A n c, Value.int IntKind.i8 k', Value.slice A' n' c'] 25)
    simpa using this
  · exact ((((Below.refl w.heap.size w).alloc (Nat.le_refl _) _).alloc (by simp) _).alloc (by simp <;> omega) _).alloc (by simp <;> omega) _

theorem of_any (kd : Int) (hkd : -128 ≤ kd ∧ kd ≤ 127) (k : Int) (kids : Fo) (A : Option Addr) (n c : Nat) (k' : Int) (kids' : Fo) (A' : Option Addr) (n' c' : Nat) (w : World) (hIs : Ty.Is w k kids A n c) (hIs' : Ty.Is w k' kids' A' n' c') :
    Calls Tryd.prog 13 #[.int .i8 kd, .agg #[.int .i8 k, .slice A n c], .agg #[.int .i8 k', .slice A' n' c']] w (OfPost w kd k kids k' kids') := by
  refine (of_raw kd k A n c k' A' n' c' w).mono fun e w' h => ?_
  obtain ⟨N, rfl, hN, hcs, hb⟩ := h
  exact ⟨N, rfl, hN, ⟨Ty.lies_two hcs (hIs.below hb) (hIs'.below hb), rfl, Nat.le_refl _, by unfold maxLen; omega, hkd.1, hkd.2⟩, hb⟩

namespace Ty
def gOk (k : Int) (kids : Fo) : Bool := (chk k kids == 0) && (k != 0)
def gK (k : Int) (kids : Fo) : Int := if chk k kids = 0 then k else 0
def gKids (k : Int) (kids : Fo) : Fo := if chk k kids = 0 ∧ 3 ≤ k then two 0 .nil 0 .nil else .nil
theorem is_nil (w : World) (k : Int) (h1 : -128 ≤ k) (h2 : k ≤ 127) : Is w k .nil none 0 0 := ⟨trivial, rfl, Nat.le_refl _, Nat.zero_le _, h1, h2⟩
end Ty
/-- what Ground leaves: a ground in new memory, and whether there is one -/
def GroundPost (w : World) (k : Int) (kids : Fo) (e : Ending) (w' : World) : Prop :=
  ∃ G m c, e = .returned (.tuple #[.agg #[.int .i8 (Ty.gK k kids), .slice G m c], .bool (Ty.gOk k kids)]) ∧ Ty.Is w' (Ty.gK k kids) (Ty.gKids k kids) G m c ∧
    (G = none ∨ ∃ g, G = some ⟨g, 0, none⟩ ∧ w.heap.size ≤ g ∧ m = 2 ∧ w'.heap[g]? = some (.cells #[.int .i8 0, .slice none 0 0, .int .i8 0, .slice none 0 0] 25 (0, 0))) ∧ Below w.heap.size w w'

theorem Ty.okT_range {k : Int} {kids : Fo} (h : Ty.okT k kids = true) : k = 0 ∨ k = 1 ∨ k = 2 ∨ k = 3 ∨ k = 4 ∨ k = 5 := by
  unfold Ty.okT Ty.okK at h
  split at h
  · omega
  · split at h
    · omega
    · simp at h

end Go.Proofs.YtailgpkgcockhaaDoor
