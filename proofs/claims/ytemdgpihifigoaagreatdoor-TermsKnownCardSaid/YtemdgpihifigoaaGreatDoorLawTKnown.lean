/-
  P3: some terms, told by hand. The law's walk.
-/
import Derived.Test.YtemdgpihifigoaaGreatDoorNames
import Derived.Test.YtemdgpihifigoaaGreatDoorRefFn
import Derived.Test.YtemdgpihifigoaaGreatDoorKnown0
import Derived.Test.YtemdgpihifigoaaGreatDoorTmAlike
namespace Go.Proofs.YtemdgpihifigoaaGreatDoor
open Go.RowKit

@[reducible] def pF (w : World) : Pl := ⟨none, 0, 0, none, 0, 0, some ⟨w.heap.size + 1 + 1 + 1, 0, none⟩, 1, 1⟩
/-- what the law knows of the terms that it made -/
structure KF (w W : World) : Prop where
  below : Below w.heap.size w W
  box : W.heap[w.heap.size + 1 + 1 + 1 + 1]? = some (.cells #[.int .i8 4, .string ⟨#[120]⟩, .string ⟨#[]⟩, .int .i64 0, .int .i8 1, .slice none 0 0, .int .i8 0, .slice none 0 0, .int .i64 0, .int .i64 0, .slice (some ⟨w.heap.size + 1 + 1 + 1, 0, none⟩) 1 1] 28 (0, 0))
  is : Tm.Is W Tm.hLam Tm.fK (pF w)
theorem KF.later {w W u : World} (h : KF w W) (hb : Below W.heap.size W u) : KF w u := ⟨h.below.trans (hb.mono h.below.size), heap_below hb (heap_lt h.box) h.box, h.is.below hb⟩
theorem known_start (w : World) : KF w (((((w.alloc (.cells #[.int .i8 0, .string ⟨#[120]⟩, .string ⟨#[]⟩, .int .i64 0, .int .i8 0, .slice none 0 0, .int .i8 0, .slice none 0 0, .int .i64 0, .int .i64 0, .slice none 0 0] 28)).alloc (.cells #[.int .i8 0, .string ⟨#[121]⟩, .string ⟨#[]⟩, .int .i64 0, .int .i8 0, .slice none 0 0, .int .i8 0, .slice none 0 0, .int .i64 0, .int .i64 0, .slice none 0 0] 28)).alloc (.cells #[.int .i8 0, .string ⟨#[120]⟩, .string ⟨#[]⟩, .int .i64 0, .int .i8 0, .slice none 0 0, .int .i8 0, .slice none 0 0, .int .i64 0, .int .i64 0, .slice none 0 0, .int .i8 0, .string ⟨#[121]⟩, .string ⟨#[]⟩, .int .i64 0, .int .i8 0, .slice none 0 0, .int .i8 0, .slice none 0 0, .int .i64 0, .int .i64 0, .slice none 0 0] 28)).alloc (.cells #[.int .i8 6, .string ⟨#[]⟩, .string ⟨#[]⟩, .int .i64 0, .int .i8 0, .slice none 0 0, .int .i8 0, .slice none 0 0, .int .i64 0, .int .i64 0, .slice (some ⟨w.heap.size + 1 + 1, 0, none⟩) 2 2] 28)).alloc (.cells #[.int .i8 4, .string ⟨#[120]⟩, .string ⟨#[]⟩, .int .i64 0, .int .i8 1, .slice none 0 0, .int .i8 0, .slice none 0 0, .int .i64 0, .int .i64 0, .slice (some ⟨w.heap.size + 1 + 1 + 1, 0, none⟩) 1 1] 28)) ∧ (((((w.alloc (.cells #[.int .i8 0, .string ⟨#[120]⟩, .string ⟨#[]⟩, .int .i64 0, .int .i8 0, .slice none 0 0, .int .i8 0, .slice none 0 0, .int .i64 0, .int .i64 0, .slice none 0 0] 28)).alloc (.cells #[.int .i8 0, .string ⟨#[121]⟩, .string ⟨#[]⟩, .int .i64 0, .int .i8 0, .slice none 0 0, .int .i8 0, .slice none 0 0, .int .i64 0, .int .i64 0, .slice none 0 0] 28)).alloc (.cells #[.int .i8 0, .string ⟨#[120]⟩, .string ⟨#[]⟩, .int .i64 0, .int .i8 0, .slice none 0 0, .int .i8 0, .slice none 0 0, .int .i64 0, .int .i64 0, .slice none 0 0, .int .i8 0, .string ⟨#[121]⟩, .string ⟨#[]⟩, .int .i64 0, .int .i8 0, .slice none 0 0, .int .i8 0, .slice none 0 0, .int .i64 0, .int .i64 0, .slice none 0 0] 28)).alloc (.cells #[.int .i8 6, .string ⟨#[]⟩, .string ⟨#[]⟩, .int .i64 0, .int .i8 0, .slice none 0 0, .int .i8 0, .slice none 0 0, .int .i64 0, .int .i64 0, .slice (some ⟨w.heap.size + 1 + 1, 0, none⟩) 2 2] 28)).alloc (.cells #[.int .i8 4, .string ⟨#[120]⟩, .string ⟨#[]⟩, .int .i64 0, .int .i8 1, .slice none 0 0, .int .i8 0, .slice none 0 0, .int .i64 0, .int .i64 0, .slice (some ⟨w.heap.size + 1 + 1 + 1, 0, none⟩) 1 1] 28)).heap[w.heap.size]? = some (.cells #[.int .i8 0, .string ⟨#[120]⟩, .string ⟨#[]⟩, .int .i64 0, .int .i8 0, .slice none 0 0, .int .i8 0, .slice none 0 0, .int .i64 0, .int .i64 0, .slice none 0 0] 28 (0, 0)) := by
  have a1 : (w.alloc (.cells #[.int .i8 0, .string ⟨#[120]⟩, .string ⟨#[]⟩, .int .i64 0, .int .i8 0, .slice none 0 0, .int .i8 0, .slice none 0 0, .int .i64 0, .int .i64 0, .slice none 0 0] 28)).heap.size = w.heap.size + 1 := by simp
  have hx : (((((w.alloc (.cells #[.int .i8 0, .string ⟨#[120]⟩, .string ⟨#[]⟩, .int .i64 0, .int .i8 0, .slice none 0 0, .int .i8 0, .slice none 0 0, .int .i64 0, .int .i64 0, .slice none 0 0] 28)).alloc (.cells #[.int .i8 0, .string ⟨#[121]⟩, .string ⟨#[]⟩, .int .i64 0, .int .i8 0, .slice none 0 0, .int .i8 0, .slice none 0 0, .int .i64 0, .int .i64 0, .slice none 0 0] 28)).alloc (.cells #[.int .i8 0, .string ⟨#[120]⟩, .string ⟨#[]⟩, .int .i64 0, .int .i8 0, .slice none 0 0, .int .i8 0, .slice none 0 0, .int .i64 0, .int .i64 0, .slice none 0 0, .int .i8 0, .string ⟨#[121]⟩, .string ⟨#[]⟩, .int .i64 0, .int .i8 0, .slice none 0 0, .int .i8 0, .slice none 0 0, .int .i64 0, .int .i64 0, .slice none 0 0] 28)).alloc (.cells #[.int .i8 6, .string ⟨#[]⟩, .string ⟨#[]⟩, .int .i64 0, .int .i8 0, .slice none 0 0, .int .i8 0, .slice none 0 0, .int .i64 0, .int .i64 0, .slice (some ⟨w.heap.size + 1 + 1, 0, none⟩) 2 2] 28)).alloc (.cells #[.int .i8 4, .string ⟨#[120]⟩, .string ⟨#[]⟩, .int .i64 0, .int .i8 1, .slice none 0 0, .int .i8 0, .slice none 0 0, .int .i64 0, .int .i64 0, .slice (some ⟨w.heap.size + 1 + 1 + 1, 0, none⟩) 1 1] 28)).heap[w.heap.size]? = some (.cells #[.int .i8 0, .string ⟨#[120]⟩, .string ⟨#[]⟩, .int .i64 0, .int .i8 0, .slice none 0 0, .int .i8 0, .slice none 0 0, .int .i64 0, .int .i64 0, .slice none 0 0] 28 (0, 0)) := heap_old (heap_old (heap_old (heap_old (heap_new w _) _) _) _) _
  have h2 : (((((w.alloc (.cells #[.int .i8 0, .string ⟨#[120]⟩, .string ⟨#[]⟩, .int .i64 0, .int .i8 0, .slice none 0 0, .int .i8 0, .slice none 0 0, .int .i64 0, .int .i64 0, .slice none 0 0] 28)).alloc (.cells #[.int .i8 0, .string ⟨#[121]⟩, .string ⟨#[]⟩, .int .i64 0, .int .i8 0, .slice none 0 0, .int .i8 0, .slice none 0 0, .int .i64 0, .int .i64 0, .slice none 0 0] 28)).alloc (.cells #[.int .i8 0, .string ⟨#[120]⟩, .string ⟨#[]⟩, .int .i64 0, .int .i8 0, .slice none 0 0, .int .i8 0, .slice none 0 0, .int .i64 0, .int .i64 0, .slice none 0 0, .int .i8 0, .string ⟨#[121]⟩, .string ⟨#[]⟩, .int .i64 0, .int .i8 0, .slice none 0 0, .int .i8 0, .slice none 0 0, .int .i64 0, .int .i64 0, .slice none 0 0] 28)).alloc (.cells #[.int .i8 6, .string ⟨#[]⟩, .string ⟨#[]⟩, .int .i64 0, .int .i8 0, .slice none 0 0, .int .i8 0, .slice none 0 0, .int .i64 0, .int .i64 0, .slice (some ⟨w.heap.size + 1 + 1, 0, none⟩) 2 2] 28)).alloc (.cells #[.int .i8 4, .string ⟨#[120]⟩, .string ⟨#[]⟩, .int .i64 0, .int .i8 1, .slice none 0 0, .int .i8 0, .slice none 0 0, .int .i64 0, .int .i64 0, .slice (some ⟨w.heap.size + 1 + 1 + 1, 0, none⟩) 1 1] 28)).heap[w.heap.size + 1 + 1]? = some (.cells #[.int .i8 0, .string ⟨#[120]⟩, .string ⟨#[]⟩, .int .i64 0, .int .i8 0, .slice none 0 0, .int .i8 0, .slice none 0 0, .int .i64 0, .int .i64 0, .slice none 0 0, .int .i8 0, .string ⟨#[121]⟩, .string ⟨#[]⟩, .int .i64 0, .int .i8 0, .slice none 0 0, .int .i8 0, .slice none 0 0, .int .i64 0, .int .i64 0, .slice none 0 0] 28 (0, 0)) := by
    refine heap_old (heap_old ?_ _) _
    have := heap_new ((w.alloc (.cells #[.int .i8 0, .string ⟨#[120]⟩, .string ⟨#[]⟩, .int .i64 0, .int .i8 0, .slice none 0 0, .int .i8 0, .slice none 0 0, .int .i64 0, .int .i64 0, .slice none 0 0] 28)).alloc (.cells #[.int .i8 0, .string ⟨#[121]⟩, .string ⟨#[]⟩, .int .i64 0, .int .i8 0, .slice none 0 0, .int .i8 0, .slice none 0 0, .int .i64 0, .int .i64 0, .slice none 0 0] 28)) (.cells #[.int .i8 0, .string ⟨#[120]⟩, .string ⟨#[]⟩, .int .i64 0, .int .i8 0, .slice none 0 0, .int .i8 0, .slice none 0 0, .int .i64 0, .int .i64 0, .slice none 0 0, .int .i8 0, .string ⟨#[121]⟩, .string ⟨#[]⟩, .int .i64 0, .int .i8 0, .slice none 0 0, .int .i8 0, .slice none 0 0, .int .i64 0, .int .i64 0, .slice none 0 0] 28)
    simpa using this
  have h3 : (((((w.alloc (.cells #[.int .i8 0, .string ⟨#[120]⟩, .string ⟨#[]⟩, .int .i64 0, .int .i8 0, .slice none 0 0, .int .i8 0, .slice none 0 0, .int .i64 0, .int .i64 0, .slice none 0 0] 28)).alloc (.cells #[.int .i8 0, .string ⟨#[121]⟩, .string ⟨#[]⟩, .int .i64 0, .int .i8 0, .slice none 0 0, .int .i8 0, .slice none 0 0, .int .i64 0, .int .i64 0, .slice none 0 0] 28)).alloc (.cells #[.int .i8 0, .string ⟨#[120]⟩, .string ⟨#[]⟩, .int .i64 0, .int .i8 0, .slice none 0 0, .int .i8 0, .slice none 0 0, .int .i64 0, .int .i64 0, .slice none 0 0, .int .i8 0, .string ⟨#[121]⟩, .string ⟨#[]⟩, .int .i64 0, .int .i8 0, .slice none 0 0, .int .i8 0, .slice none 0 0, .int .i64 0, .int .i64 0, .slice none 0 0] 28)).alloc (.cells #[.int .i8 6, .string ⟨#[]⟩, .string ⟨#[]⟩, .int .i64 0, .int .i8 0, .slice none 0 0, .int .i8 0, .slice none 0 0, .int .i64 0, .int .i64 0, .slice (some ⟨w.heap.size + 1 + 1, 0, none⟩) 2 2] 28)).alloc (.cells #[.int .i8 4, .string ⟨#[120]⟩, .string ⟨#[]⟩, .int .i64 0, .int .i8 1, .slice none 0 0, .int .i8 0, .slice none 0 0, .int .i64 0, .int .i64 0, .slice (some ⟨w.heap.size + 1 + 1 + 1, 0, none⟩) 1 1] 28)).heap[w.heap.size + 1 + 1 + 1]? = some (.cells #[.int .i8 6, .string ⟨#[]⟩, .string ⟨#[]⟩, .int .i64 0, .int .i8 0, .slice none 0 0, .int .i8 0, .slice none 0 0, .int .i64 0, .int .i64 0, .slice (some ⟨w.heap.size + 1 + 1, 0, none⟩) 2 2] 28 (0, 0)) := by
    refine heap_old ?_ _
    have := heap_new (((w.alloc (.cells #[.int .i8 0, .string ⟨#[120]⟩, .string ⟨#[]⟩, .int .i64 0, .int .i8 0, .slice none 0 0, .int .i8 0, .slice none 0 0, .int .i64 0, .int .i64 0, .slice none 0 0] 28)).alloc (.cells #[.int .i8 0, .string ⟨#[121]⟩, .string ⟨#[]⟩, .int .i64 0, .int .i8 0, .slice none 0 0, .int .i8 0, .slice none 0 0, .int .i64 0, .int .i64 0, .slice none 0 0] 28)).alloc (.cells #[.int .i8 0, .string ⟨#[120]⟩, .string ⟨#[]⟩, .int .i64 0, .int .i8 0, .slice none 0 0, .int .i8 0, .slice none 0 0, .int .i64 0, .int .i64 0, .slice none 0 0, .int .i8 0, .string ⟨#[121]⟩, .string ⟨#[]⟩, .int .i64 0, .int .i8 0, .slice none 0 0, .int .i8 0, .slice none 0 0, .int .i64 0, .int .i64 0, .slice none 0 0] 28)) (.cells #[.int .i8 6, .string ⟨#[]⟩, .string ⟨#[]⟩, .int .i64 0, .int .i8 0, .slice none 0 0, .int .i8 0, .slice none 0 0, .int .i64 0, .int .i64 0, .slice (some ⟨w.heap.size + 1 + 1, 0, none⟩) 2 2] 28)
    simpa using this
  have h4 : (((((w.alloc (.cells #[.int .i8 0, .string ⟨#[120]⟩, .string ⟨#[]⟩, .int .i64 0, .int .i8 0, .slice none 0 0, .int .i8 0, .slice none 0 0, .int .i64 0, .int .i64 0, .slice none 0 0] 28)).alloc (.cells #[.int .i8 0, .string ⟨#[121]⟩, .string ⟨#[]⟩, .int .i64 0, .int .i8 0, .slice none 0 0, .int .i8 0, .slice none 0 0, .int .i64 0, .int .i64 0, .slice none 0 0] 28)).alloc (.cells #[.int .i8 0, .string ⟨#[120]⟩, .string ⟨#[]⟩, .int .i64 0, .int .i8 0, .slice none 0 0, .int .i8 0, .slice none 0 0, .int .i64 0, .int .i64 0, .slice none 0 0, .int .i8 0, .string ⟨#[121]⟩, .string ⟨#[]⟩, .int .i64 0, .int .i8 0, .slice none 0 0, .int .i8 0, .slice none 0 0, .int .i64 0, .int .i64 0, .slice none 0 0] 28)).alloc (.cells #[.int .i8 6, .string ⟨#[]⟩, .string ⟨#[]⟩, .int .i64 0, .int .i8 0, .slice none 0 0, .int .i8 0, .slice none 0 0, .int .i64 0, .int .i64 0, .slice (some ⟨w.heap.size + 1 + 1, 0, none⟩) 2 2] 28)).alloc (.cells #[.int .i8 4, .string ⟨#[120]⟩, .string ⟨#[]⟩, .int .i64 0, .int .i8 1, .slice none 0 0, .int .i8 0, .slice none 0 0, .int .i64 0, .int .i64 0, .slice (some ⟨w.heap.size + 1 + 1 + 1, 0, none⟩) 1 1] 28)).heap[w.heap.size + 1 + 1 + 1 + 1]? = some (.cells #[.int .i8 4, .string ⟨#[120]⟩, .string ⟨#[]⟩, .int .i64 0, .int .i8 1, .slice none 0 0, .int .i8 0, .slice none 0 0, .int .i64 0, .int .i64 0, .slice (some ⟨w.heap.size + 1 + 1 + 1, 0, none⟩) 1 1] 28 (0, 0)) := by
    have := heap_new ((((w.alloc (.cells #[.int .i8 0, .string ⟨#[120]⟩, .string ⟨#[]⟩, .int .i64 0, .int .i8 0, .slice none 0 0, .int .i8 0, .slice none 0 0, .int .i64 0, .int .i64 0, .slice none 0 0] 28)).alloc (.cells #[.int .i8 0, .string ⟨#[121]⟩, .string ⟨#[]⟩, .int .i64 0, .int .i8 0, .slice none 0 0, .int .i8 0, .slice none 0 0, .int .i64 0, .int .i64 0, .slice none 0 0] 28)).alloc (.cells #[.int .i8 0, .string ⟨#[120]⟩, .string ⟨#[]⟩, .int .i64 0, .int .i8 0, .slice none 0 0, .int .i8 0, .slice none 0 0, .int .i64 0, .int .i64 0, .slice none 0 0, .int .i8 0, .string ⟨#[121]⟩, .string ⟨#[]⟩, .int .i64 0, .int .i8 0, .slice none 0 0, .int .i8 0, .slice none 0 0, .int .i64 0, .int .i64 0, .slice none 0 0] 28)).alloc (.cells #[.int .i8 6, .string ⟨#[]⟩, .string ⟨#[]⟩, .int .i64 0, .int .i8 0, .slice none 0 0, .int .i8 0, .slice none 0 0, .int .i64 0, .int .i64 0, .slice (some ⟨w.heap.size + 1 + 1, 0, none⟩) 2 2] 28)) (.cells #[.int .i8 4, .string ⟨#[120]⟩, .string ⟨#[]⟩, .int .i64 0, .int .i8 1, .slice none 0 0, .int .i8 0, .slice none 0 0, .int .i64 0, .int .i64 0, .slice (some ⟨w.heap.size + 1 + 1 + 1, 0, none⟩) 1 1] 28)
    simpa using this
  have hb : Below w.heap.size w (((((w.alloc (.cells #[.int .i8 0, .string ⟨#[120]⟩, .string ⟨#[]⟩, .int .i64 0, .int .i8 0, .slice none 0 0, .int .i8 0, .slice none 0 0, .int .i64 0, .int .i64 0, .slice none 0 0] 28)).alloc (.cells #[.int .i8 0, .string ⟨#[121]⟩, .string ⟨#[]⟩, .int .i64 0, .int .i8 0, .slice none 0 0, .int .i8 0, .slice none 0 0, .int .i64 0, .int .i64 0, .slice none 0 0] 28)).alloc (.cells #[.int .i8 0, .string ⟨#[120]⟩, .string ⟨#[]⟩, .int .i64 0, .int .i8 0, .slice none 0 0, .int .i8 0, .slice none 0 0, .int .i64 0, .int .i64 0, .slice none 0 0, .int .i8 0, .string ⟨#[121]⟩, .string ⟨#[]⟩, .int .i64 0, .int .i8 0, .slice none 0 0, .int .i8 0, .slice none 0 0, .int .i64 0, .int .i64 0, .slice none 0 0] 28)).alloc (.cells #[.int .i8 6, .string ⟨#[]⟩, .string ⟨#[]⟩, .int .i64 0, .int .i8 0, .slice none 0 0, .int .i8 0, .slice none 0 0, .int .i64 0, .int .i64 0, .slice (some ⟨w.heap.size + 1 + 1, 0, none⟩) 2 2] 28)).alloc (.cells #[.int .i8 4, .string ⟨#[120]⟩, .string ⟨#[]⟩, .int .i64 0, .int .i8 1, .slice none 0 0, .int .i8 0, .slice none 0 0, .int .i64 0, .int .i64 0, .slice (some ⟨w.heap.size + 1 + 1 + 1, 0, none⟩) 1 1] 28)) := (((((Below.refl _ _).alloc (Nat.le_refl _) _).alloc (by simp) _).alloc (by simp <;> omega) _).alloc (by simp <;> omega) _).alloc (by simp <;> omega) _
  refine ⟨⟨hb, h4, ?_⟩, hx⟩
  generalize (((((w.alloc (.cells #[.int .i8 0, .string ⟨#[120]⟩, .string ⟨#[]⟩, .int .i64 0, .int .i8 0, .slice none 0 0, .int .i8 0, .slice none 0 0, .int .i64 0, .int .i64 0, .slice none 0 0] 28)).alloc (.cells #[.int .i8 0, .string ⟨#[121]⟩, .string ⟨#[]⟩, .int .i64 0, .int .i8 0, .slice none 0 0, .int .i8 0, .slice none 0 0, .int .i64 0, .int .i64 0, .slice none 0 0] 28)).alloc (.cells #[.int .i8 0, .string ⟨#[120]⟩, .string ⟨#[]⟩, .int .i64 0, .int .i8 0, .slice none 0 0, .int .i8 0, .slice none 0 0, .int .i64 0, .int .i64 0, .slice none 0 0, .int .i8 0, .string ⟨#[121]⟩, .string ⟨#[]⟩, .int .i64 0, .int .i8 0, .slice none 0 0, .int .i8 0, .slice none 0 0, .int .i64 0, .int .i64 0, .slice none 0 0] 28)).alloc (.cells #[.int .i8 6, .string ⟨#[]⟩, .string ⟨#[]⟩, .int .i64 0, .int .i8 0, .slice none 0 0, .int .i8 0, .slice none 0 0, .int .i64 0, .int .i64 0, .slice (some ⟨w.heap.size + 1 + 1, 0, none⟩) 2 2] 28)).alloc (.cells #[.int .i8 4, .string ⟨#[120]⟩, .string ⟨#[]⟩, .int .i64 0, .int .i8 1, .slice none 0 0, .int .i8 0, .slice none 0 0, .int .i64 0, .int .i64 0, .slice (some ⟨w.heap.size + 1 + 1 + 1, 0, none⟩) 1 1] 28)) = u at *
  have c2 := fun j v (hj : (#[.int .i8 0, .string ⟨#[120]⟩, .string ⟨#[]⟩, .int .i64 0, .int .i8 0, .slice none 0 0, .int .i8 0, .slice none 0 0, .int .i64 0, .int .i64 0, .slice none 0 0, .int .i8 0, .string ⟨#[121]⟩, .string ⟨#[]⟩, .int .i64 0, .int .i8 0, .slice none 0 0, .int .i8 0, .slice none 0 0, .int .i64 0, .int .i64 0, .slice none 0 0] : Array Value)[j]? = some v) => cell_of_heap h2 j hj
  have c3 := fun j v (hj : (#[.int .i8 6, .string ⟨#[]⟩, .string ⟨#[]⟩, .int .i64 0, .int .i8 0, .slice none 0 0, .int .i8 0, .slice none 0 0, .int .i64 0, .int .i64 0, .slice (some ⟨w.heap.size + 1 + 1, 0, none⟩) 2 2] : Array Value)[j]? = some v) => cell_of_heap h3 j hj
  refine ⟨⟨⟨trivial, rfl, Nat.le_refl _, Nat.zero_le _, by decide, by decide⟩, zTy u, rfl, Nat.le_refl _, (by show 1 ≤ maxLen; unfold maxLen; omega), by decide, by decide, by decide, by decide, by decide, by decide⟩, ?_⟩
  refine ⟨w.heap.size + 1 + 1 + 1, 0, ⟨none, 0, 0, none, 0, 0, some ⟨w.heap.size + 1 + 1, 0, none⟩, 2, 2⟩, rfl, fun j v hj => ?_, fit_plain u 6 ⟨#[]⟩ _ 2 (by omega) (by decide) (by omega), ?_, trivial⟩
  · rw [show 0 + 0 * 11 + j = j by omega]; exact c3 j v (by simpa [Tm.hApp] using hj)
  · refine ⟨w.heap.size + 1 + 1, 0, ⟨none, 0, 0, none, 0, 0, none, 0, 0⟩, rfl, fun j v hj => ?_, fit_plain u 0 Tm.sx none 0 (by omega) (by decide) (by omega), trivial, w.heap.size + 1 + 1, 0, ⟨none, 0, 0, none, 0, 0, none, 0, 0⟩, rfl, fun j v hj => ?_, fit_plain u 0 Tm.sy none 0 (by omega) (by decide) (by omega), trivial, trivial⟩
    · have hl := (List.getElem?_eq_some_iff.1 hj).1
      rw [show 0 + 0 * 11 + j = j by omega]
      refine c2 j v ?_
      rw [← Array.getElem?_toList]
      exact (List.getElem?_append_left (l₂ := ([.int .i8 0, .string ⟨#[121]⟩, .string ⟨#[]⟩, .int .i64 0, .int .i8 0, .slice none 0 0, .int .i8 0, .slice none 0 0, .int .i64 0, .int .i64 0, .slice none 0 0] : List Value)) hl).trans hj
    · rw [show 0 + (0 + 1) * 11 + j = 11 + j by omega]
      refine c2 (11 + j) v ?_
      rw [← Array.getElem?_toList]
      exact (List.getElem?_append_right (l₁ := ([.int .i8 0, .string ⟨#[120]⟩, .string ⟨#[]⟩, .int .i64 0, .int .i8 0, .slice none 0 0, .int .i8 0, .slice none 0 0, .int .i64 0, .int .i64 0, .slice none 0 0] : List Value)) (l₂ := ([.int .i8 0, .string ⟨#[121]⟩, .string ⟨#[]⟩, .int .i64 0, .int .i8 0, .slice none 0 0, .int .i8 0, .slice none 0 0, .int .i64 0, .int .i64 0, .slice none 0 0] : List Value)) (by simp)).trans (by simpa [Tm.hv, Tm.sy] using hj)

set_option maxHeartbeats 8000000 in
set_option maxRecDepth 100000 in
theorem law_TermsKnown (w : World) (hG : TGlob w) :
    Calls Tryz.prog 4 #[] w fun e w' => e = .returned (.bool true) ∧ Below w.heap.size w w' := by
  have HG := Lib.hid hG
  have HK := Lib.hid (known_start w)
  clear hG
  go_enter Tryz.func4, Tryz.ntmps4
  go_upto_region 3 with fail
  generalize (((((w.alloc (.cells #[.int .i8 0, .string ⟨#[120]⟩, .string ⟨#[]⟩, .int .i64 0, .int .i8 0, .slice none 0 0, .int .i8 0, .slice none 0 0, .int .i64 0, .int .i64 0, .slice none 0 0] 28)).alloc (.cells #[.int .i8 0, .string ⟨#[121]⟩, .string ⟨#[]⟩, .int .i64 0, .int .i8 0, .slice none 0 0, .int .i8 0, .slice none 0 0, .int .i64 0, .int .i64 0, .slice none 0 0] 28)).alloc (.cells #[.int .i8 0, .string ⟨#[120]⟩, .string ⟨#[]⟩, .int .i64 0, .int .i8 0, .slice none 0 0, .int .i8 0, .slice none 0 0, .int .i64 0, .int .i64 0, .slice none 0 0, .int .i8 0, .string ⟨#[121]⟩, .string ⟨#[]⟩, .int .i64 0, .int .i8 0, .slice none 0 0, .int .i8 0, .slice none 0 0, .int .i64 0, .int .i64 0, .slice none 0 0] 28)).alloc (.cells #[.int .i8 6, .string ⟨#[]⟩, .string ⟨#[]⟩, .int .i64 0, .int .i8 0, .slice none 0 0, .int .i8 0, .slice none 0 0, .int .i64 0, .int .i64 0, .slice (some ⟨w.heap.size + 1 + 1, 0, none⟩) 2 2] 28)).alloc (.cells #[.int .i8 4, .string ⟨#[120]⟩, .string ⟨#[]⟩, .int .i64 0, .int .i8 1, .slice none 0 0, .int .i8 0, .slice none 0 0, .int .i64 0, .int .i64 0, .slice (some ⟨w.heap.size + 1 + 1 + 1, 0, none⟩) 1 1] 28)) = w5 at *
  obtain ⟨x0, x1, x2, x3, x4, x5, x6, x7, x8, x9, x10, xl⟩ := own11 HK.out.2
  have HB := Lib.hid (Bx.start w5)
  go_wp2_with fail
  go_loopw [15] (fun v wr => ∃ (i : Nat) (p : Pl), v = .int .i64 i ∧ i ≤ 40 ∧ Bx w5 i p wr) (fun v _ => 40 - (intOf v).toNat)
  case atStart => exact ⟨0, _, rfl, by omega, HB.out⟩
  case round =>
    obtain ⟨i, p, rfl, hi, hX⟩ := hrel
    clear HB x0 x1 x2 x3 x4 x5 x6 x7 x8 x9 x10 xl
    by_cases h40 : (i : Int) < 40
    · obtain ⟨x0, x1, x2, x3, x4, x5, x6, x7, x8, x9, x10, xl⟩ := own11 hX.box
      have fz : ∀ j, wr.frozen? ⟨w5.heap.size, j, none⟩ = false := fun j => by simp [World.frozen?, hX.box]
      have HX := Lib.hid hX
      clear hX
      go_wp2_with fail
      have hfin := Lib.hid (HX.out.put (w2 := ((((((((((((wr.setCell ⟨w5.heap.size, 0, none⟩ (.int .i8 9)).setCell ⟨w5.heap.size, 1, none⟩ (.string ⟨#[]⟩)).setCell ⟨w5.heap.size, 2, none⟩ (.string ⟨#[]⟩)).setCell ⟨w5.heap.size, 3, none⟩ (.int .i64 0)).setCell ⟨w5.heap.size, 4, none⟩ (.int .i8 0)).setCell ⟨w5.heap.size, 5, none⟩ (.slice none 0 0)).setCell ⟨w5.heap.size, 6, none⟩ (.int .i8 0)).setCell ⟨w5.heap.size, 7, none⟩ (.slice none 0 0)).setCell ⟨w5.heap.size, 8, none⟩ (.int .i64 0)).setCell ⟨w5.heap.size, 9, none⟩ (.int .i64 0)).setCell ⟨w5.heap.size, 10, none⟩ (.slice (some ⟨wr.heap.size, 0, none⟩) 2 2)).alloc (.cells (((Tm.bH2 i).cells p ++ (Tm.bH2 i).cells p).toArray) 28))) (N := wr.heap.size) (Nat.le_refl _)
        (by have := heap_new (((((((((((wr.setCell ⟨w5.heap.size, 0, none⟩ (.int .i8 9)).setCell ⟨w5.heap.size, 1, none⟩ (.string ⟨#[]⟩)).setCell ⟨w5.heap.size, 2, none⟩ (.string ⟨#[]⟩)).setCell ⟨w5.heap.size, 3, none⟩ (.int .i64 0)).setCell ⟨w5.heap.size, 4, none⟩ (.int .i8 0)).setCell ⟨w5.heap.size, 5, none⟩ (.slice none 0 0)).setCell ⟨w5.heap.size, 6, none⟩ (.int .i8 0)).setCell ⟨w5.heap.size, 7, none⟩ (.slice none 0 0)).setCell ⟨w5.heap.size, 8, none⟩ (.int .i64 0)).setCell ⟨w5.heap.size, 9, none⟩ (.int .i64 0)).setCell ⟨w5.heap.size, 10, none⟩ (.slice (some ⟨wr.heap.size, 0, none⟩) 2 2)) (.cells (((Tm.bH2 i).cells p ++ (Tm.bH2 i).cells p).toArray) 28); simpa using this)
        (heap_old (heap_set11 HX.out.box) _) (fun k x hk hx => heap_old (heap_far11 hx hk _ _ _ _ _ _ _ _ _ _ _) _) ((below_only11 HX.out.below (Nat.le_refl _) _ _ _ _ _ _ _ _ _ _ _).alloc (by simp [World.setCell]; omega) _))
      clear x0 x1 x2 x3 x4 x5 x6 x7 x8 x9 x10 fz
      go_roundw
      case rel => exact ⟨i + 1, _, by go_num, by omega, hfin.out⟩
      case measure => simp [intOf]; omega
    · have hi40 : i = 40 := by omega
      rw [show (i : Int) = 40 by omega]
      subst hi40
      have hk0 : KF w wr := HK.out.1.later hX.below
      have hb0 : wr.heap[w5.heap.size]? = some (.cells #[.int .i8 9, .string ⟨#[]⟩, .string ⟨#[]⟩, .int .i64 0, .int .i8 0, .slice p.TA p.tn p.tc, .int .i8 0, .slice p.UA p.un p.uc, .int .i64 0, .int .i64 0, .slice p.A p.n p.c] 28 (0, 0)) := hX.box
      have hi0 : Tm.Is wr Tm.hTwo (Tm.bK2 40) p := hX.all
      have C1 := Lib.hid (fun (W : World) (hk : KF w W) => (show Calls Tryz.prog 10 #[.agg #[.int .i8 4, .string ⟨#[120]⟩, .string ⟨#[]⟩, .int .i64 0, .int .i8 1, .slice none 0 0, .int .i8 0, .slice none 0 0, .int .i64 0, .int .i64 0, .slice (some ⟨w.heap.size + 1 + 1 + 1, 0, none⟩) 1 1]] W (fun e w' => e = .returned (.int .i64 0) ∧ Below W.heap.size W w') from by have q := tcheck_any Tm.hLam Tm.fK (pF w) W hk.is (HG.out.below hk.below); rw [Tm.f_chk] at q; exact q))
      have C2 := Lib.hid (fun (W : World) (hk : KF w W) => (show Calls Tryz.prog 11 #[.agg #[.int .i8 4, .string ⟨#[120]⟩, .string ⟨#[]⟩, .int .i64 0, .int .i8 1, .slice none 0 0, .int .i8 0, .slice none 0 0, .int .i64 0, .int .i64 0, .slice (some ⟨w.heap.size + 1 + 1 + 1, 0, none⟩) 1 1]] W (fun e w' => e = .returned (.int .i64 5) ∧ Below W.heap.size W w') from by have q := tnodes_any Tm.hLam Tm.fK (pF w) W hk.is (HG.out.below hk.below).terms; rw [Tm.f_nod] at q; exact q))
      have C3 := Lib.hid (fun (W : World) (hk : KF w W) => (show Calls Tryz.prog 12 #[.agg #[.int .i8 4, .string ⟨#[120]⟩, .string ⟨#[]⟩, .int .i64 0, .int .i8 1, .slice none 0 0, .int .i8 0, .slice none 0 0, .int .i64 0, .int .i64 0, .slice (some ⟨w.heap.size + 1 + 1 + 1, 0, none⟩) 1 1]] W (fun e w' => e = .returned (.int .i64 3) ∧ Below W.heap.size W w') from by have q := tdepth_any Tm.hLam Tm.fK (pF w) W hk.is (HG.out.below hk.below).terms; rw [Tm.f_dpt] at q; exact q))
      have C4 := Lib.hid (fun (W : World) (hk : KF w W) => (show Calls Tryz.prog 8 #[.agg #[.int .i8 4, .string ⟨#[120]⟩, .string ⟨#[]⟩, .int .i64 0, .int .i8 1, .slice none 0 0, .int .i8 0, .slice none 0 0, .int .i64 0, .int .i64 0, .slice (some ⟨w.heap.size + 1 + 1 + 1, 0, none⟩) 1 1]] W (FreeRow W [Tm.nm Tm.sy]) from by have q := tfree_any Tm.hLam Tm.fK (pF w) W hk.is (HG.out.below hk.below); rw [Tm.f_frS] at q; exact q.mono fun _ _ z => z.row))
      have C5 := Lib.hid (fun (W : World) (hk : KF w W) (hi : Tm.Is W Tm.hTwo (Tm.bK2 40) p) => (show Calls Tryz.prog 10 #[.agg #[.int .i8 9, .string ⟨#[]⟩, .string ⟨#[]⟩, .int .i64 0, .int .i8 0, .slice p.TA p.tn p.tc, .int .i8 0, .slice p.UA p.un p.uc, .int .i64 0, .int .i64 0, .slice p.A p.n p.c]] W (fun e w' => e = .returned (.int .i64 32) ∧ Below W.heap.size W w') from by have q := tcheck_any Tm.hTwo (Tm.bK2 40) p W hi (HG.out.below hk.below); rw [Tm.b_facts.1] at q; exact q))
      have C6 := Lib.hid (fun (W : World) (hk : KF w W) (hi : Tm.Is W Tm.hTwo (Tm.bK2 40) p) => (show Calls Tryz.prog 11 #[.agg #[.int .i8 9, .string ⟨#[]⟩, .string ⟨#[]⟩, .int .i64 0, .int .i8 0, .slice p.TA p.tn p.tc, .int .i8 0, .slice p.UA p.un p.uc, .int .i64 0, .int .i64 0, .slice p.A p.n p.c]] W (fun e w' => e = .returned (.int .i64 8193) ∧ Below W.heap.size W w') from by have q := tnodes_any Tm.hTwo (Tm.bK2 40) p W hi (HG.out.below hk.below).terms; rw [Tm.b_facts.2] at q; exact q))
      have C7 := Lib.hid (fun (W : World) (hk : KF w W) => (show Calls Tryz.prog 10 #[.agg #[.int .i8 4, .string ⟨#[]⟩, .string ⟨#[]⟩, .int .i64 0, .int .i8 0, .slice none 0 0, .int .i8 0, .slice none 0 0, .int .i64 0, .int .i64 0, .slice none 0 0]] W (fun e w' => e = .returned (.int .i64 30) ∧ Below W.heap.size W w') from by have q := tcheck_any Tm.hBare .nil ⟨none, 0, 0, none, 0, 0, none, 0, 0⟩ W ⟨fit_plain W 4 ⟨#[]⟩ none 0 (by omega) (by decide) (by omega), trivial⟩ (HG.out.below hk.below); rw [Tm.bare_chk] at q; exact q))
      have C8 := Lib.hid (fun (W : World) => (show Calls Tryz.prog 13 #[.agg #[.int .i8 1, .slice none 0 0]] W (fun e w' => e = .returned (.int .i64 0) ∧ Below W.heap.size W w') from ref_check 1 .nil none 0 0 W ⟨trivial, rfl, Nat.le_refl _, Nat.zero_le _, by omega, by omega⟩))
      have K0 := Lib.hid hk0
      have X0 := Lib.hid hb0
      have I0 := Lib.hid hi0
      clear hX hk0 hb0 hi0 hi h40 HG
      obtain ⟨a0, a1, a2, a3, a4, a5, a6, a7, a8, a9, a10, al⟩ := own11 K0.out.box
      go_wp2_with fail
      refine (C1.out _ K0.out).mono ?_
      rintro e u0 ⟨rfl, hb⟩
      have K1 := Lib.hid (K0.out.later hb)
      have X1 := Lib.hid (heap_below hb (heap_lt X0.out) X0.out)
      have I1 := Lib.hid (I0.out.below hb)
      clear hb a0 a1 a2 a3 a4 a5 a6 a7 a8 a9 a10 al
      obtain ⟨a0, a1, a2, a3, a4, a5, a6, a7, a8, a9, a10, al⟩ := own11 K1.out.box
      go_wp2_with fail
      refine (C2.out _ K1.out).mono ?_
      rintro e u1 ⟨rfl, hb⟩
      have K2 := Lib.hid (K1.out.later hb)
      have X2 := Lib.hid (heap_below hb (heap_lt X1.out) X1.out)
      have I2 := Lib.hid (I1.out.below hb)
      clear hb a0 a1 a2 a3 a4 a5 a6 a7 a8 a9 a10 al
      obtain ⟨a0, a1, a2, a3, a4, a5, a6, a7, a8, a9, a10, al⟩ := own11 K2.out.box
      go_wp2_with fail
      refine (C3.out _ K2.out).mono ?_
      rintro e u2 ⟨rfl, hb⟩
      have K3 := Lib.hid (K2.out.later hb)
      have X3 := Lib.hid (heap_below hb (heap_lt X2.out) X2.out)
      have I3 := Lib.hid (I2.out.below hb)
      clear hb a0 a1 a2 a3 a4 a5 a6 a7 a8 a9 a10 al
      obtain ⟨a0, a1, a2, a3, a4, a5, a6, a7, a8, a9, a10, al⟩ := own11 K3.out.box
      go_wp2_with fail
      refine (C4.out _ K3.out).mono ?_
      rintro e u3 ⟨A, c, rfl, hr, hb⟩
      have K4 := Lib.hid (K3.out.later hb)
      have X4 := Lib.hid (heap_below hb (heap_lt X3.out) X3.out)
      have I4 := Lib.hid (I3.out.below hb)
      have R := Lib.hid hr
      clear hr
      clear hb a0 a1 a2 a3 a4 a5 a6 a7 a8 a9 a10 al
      go_wp2_with fail
      have hb : Below u3.heap.size u3 (u3.alloc (.cells #[.string ⟨#[121]⟩] 9)) := (Below.refl _ _).alloc (Nat.le_refl _) _
      have hy : BRow (u3.alloc (.cells #[.string ⟨#[121]⟩] 9)) (some ⟨u3.heap.size, 0, none⟩) [Tm.nm Tm.sy] := fun j x hj => by
        match j, hj with
        | 0, hj => cases hj; exact ⟨_, _, rfl, (own1 (heap_new u3 _)).1⟩
      have hr := R.out.below hb
      have K5 := Lib.hid (K4.out.later hb)
      have X5 := Lib.hid (heap_below hb (heap_lt X4.out) X4.out)
      have I5 := Lib.hid (I4.out.below hb)
      refine (names_any [Tm.nm Tm.sy] A (some ⟨u3.heap.size, 0, none⟩) c 1 _ (by simp) hr hy).mono ?_
      clear hr hy hb R
      rintro e u4 ⟨rfl, hb⟩
      have K6 := Lib.hid (K5.out.later hb)
      have X6 := Lib.hid (heap_below hb (heap_lt X5.out) X5.out)
      have I6 := Lib.hid (I5.out.below hb)
      clear hb
      obtain ⟨a0, a1, a2, a3, a4, a5, a6, a7, a8, a9, a10, al⟩ := own11 X6.out
      go_wp2_with fail
      refine (C5.out _ K6.out I6.out).mono ?_
      rintro e u6 ⟨rfl, hb⟩
      have K7 := Lib.hid (K6.out.later hb)
      have X7 := Lib.hid (heap_below hb (heap_lt X6.out) X6.out)
      have I7 := Lib.hid (I6.out.below hb)
      clear hb a0 a1 a2 a3 a4 a5 a6 a7 a8 a9 a10 al
      obtain ⟨a0, a1, a2, a3, a4, a5, a6, a7, a8, a9, a10, al⟩ := own11 X7.out
      go_wp2_with fail
      refine (C6.out _ K7.out I7.out).mono ?_
      rintro e u7 ⟨rfl, hb⟩
      have K8 := Lib.hid (K7.out.later hb)
      have X8 := Lib.hid (heap_below hb (heap_lt X7.out) X7.out)
      have I8 := Lib.hid (I7.out.below hb)
      clear hb a0 a1 a2 a3 a4 a5 a6 a7 a8 a9 a10 al
      go_wp2_with fail
      refine (C7.out _ K8.out).mono ?_
      rintro e u8 ⟨rfl, hb⟩
      have K9 := Lib.hid (K8.out.later hb)
      clear hb
      obtain ⟨a0, a1, a2, a3, a4, a5, a6, a7, a8, a9, a10, al⟩ := own11 K9.out.box
      go_wp2_with fail
      refine (C8.out _).mono ?_
      rintro e u9 ⟨rfl, hb⟩
      have K10 := Lib.hid (K9.out.later hb)
      clear hb a0 a1 a2 a3 a4 a5 a6 a7 a8 a9 a10 al
      go_wp2_with fail
      go_ret
      exact ⟨rfl, K10.out.below⟩
end Go.Proofs.YtemdgpihifigoaaGreatDoor
