/-
  The reference's Equal, Same, Known, Of, Ground; types.Ground.
-/
import Derived.Test.YtailgpkgcockhaaDoorRefRight
namespace Go.Proofs.YtailgpkgcockhaaDoor
open Go.RowKit

theorem two_boxes (w : World) (k : Int) (A : Option Addr) (n c : Nat) (k' : Int) (A' : Option Addr) (n' c' : Nat) :
    Below w.heap.size w ((w.alloc (.cells #[.int .i8 k, .slice A n c] 25)).alloc (.cells #[.int .i8 k', .slice A' n' c'] 25)) ∧
    ((w.alloc (.cells #[.int .i8 k, .slice A n c] 25)).alloc (.cells #[.int .i8 k', .slice A' n' c'] 25)).heap[w.heap.size]? = some (.cells #[.int .i8 k, .slice A n c] 25) ∧
    ((w.alloc (.cells #[.int .i8 k, .slice A n c] 25)).alloc (.cells #[.int .i8 k', .slice A' n' c'] 25)).heap[w.heap.size + 1]? = some (.cells #[.int .i8 k', .slice A' n' c'] 25) := by
  refine ⟨((Below.refl w.heap.size w).alloc (Nat.le_refl _) _).alloc (by simp) _, heap_old (heap_new w _) _, ?_⟩
  have := heap_new (w.alloc (.cells #[.int .i8 k, .slice A n c] 25)) (.cells #[.int .i8 k', .slice A' n' c'] 25)
  simpa using this

theorem Ty.okK_same {k : Int} {n m : Nat} (h1 : Ty.okK k n = true) (h2 : Ty.okK k m = true) : n = m := by
  unfold Ty.okK at h1 h2
  split at h1
  · simp at h1; rw [if_pos ‹_›] at h2; simp at h2; omega
  · rw [if_neg ‹_›] at h2
    split at h1
    · simp at h1; rw [if_pos ‹_›] at h2; simp at h2; omega
    · cases h1

end Go.Proofs.YtailgpkgcockhaaDoor
