/-
  The reference's In and With. The reference's free: a name; one body. The reference's free: two names; what stands ahead of a body; branches.
-/
import Derived.Test.YtfkbdpehdabepaaGreatDoorFree0
import Derived.Test.YtfkbdpehdabepaaGreatDoorMeasure
import Derived.Laws.NewBlocks
import Derived.WalkLawsBesides
import Derived.Test.YtfkbdpehdabepaaGreatDoorTmCont
import Derived.Test.YtfkbdpehdabepaaGreatDoorLeaf
import Derived.Maps.AppendAt
import Derived.Deep.RegionLaw
import Derived.Outline
namespace Go.Proofs.YtfkbdpehdabepaaGreatDoor
open Go.RowKit Go.Maps

/-- a slice of these names -/
def BRow (w : World) (A : Option Addr) (l : List (List UInt8)) : Prop := ∀ j x, l[j]? = some x → ∃ g o, A = some ⟨g, o, none⟩ ∧ w.cell? ⟨g, o + j, none⟩ = some (encStr x)
theorem brow_nil (w : World) (A : Option Addr) : BRow w A [] := fun j s hj => by cases j <;> cases hj
theorem BRow.grown {w w' : World} {A : Option Addr} {l : List (List UInt8)} {row : Option Nat} (h : BRow w A l) (hg : w.grownBy w' row) (hne : ∀ g o, A = some ⟨g, o, none⟩ → some g ≠ row) : BRow w' A l := fun j s hj => by
  obtain ⟨g, o, e, hc⟩ := h j s hj
  exact ⟨g, o, e, by rw [World.cell?_of_block (hg.block g (Ty.cell_lt hc) (hne g o e))]; exact hc⟩
theorem BRow.below {w w' : World} {A : Option Addr} {l : List (List UInt8)} (h : BRow w A l) (hb : Below w.heap.size w w') : BRow w' A l := fun j s hj => by
  obtain ⟨g, o, e, hc⟩ := h j s hj
  exact ⟨g, o, e, by rw [hb.cell (p := ⟨g, o + j, none⟩) (Ty.cell_lt hc)]; exact hc⟩
theorem BRow.own {w : World} {base : Nat} {t : TypeId} {A : Option Addr} {n c : Nat} {l : List (List UInt8)} (h : w.ownsRow base t 1 (.slice A n c) n (l.map encStr)) (hn : n = l.length) : BRow w A l := fun j x hj => by
  have hlt := (List.getElem?_eq_some_iff.1 hj).1
  obtain ⟨g, cap, e, -, -, -, -, hr⟩ := row_reads h (by omega)
  injection e with e1
  exact ⟨g, 0, e1, by rw [Nat.zero_add]; exact hr j _ (by rw [List.getElem?_map, hj]; rfl)⟩
theorem enc_of (x : List UInt8) : ∃ sx : ByteArray, encStr x = .string sx ∧ Tm.nm sx = x := ⟨⟨x.toArray⟩, rfl, by simp [Tm.nm]⟩

end Go.Proofs.YtfkbdpehdabepaaGreatDoor
namespace Go.Proofs.YtfkbdpehdabepaaGreatDoor
open Go.RowKit Go.Maps

/-- the block of a slice -/
def ob (A : Option Addr) : Option Nat := (Value.slice A 0 0).ownBlock
theorem ob_is (A : Option Addr) (n c : Nat) : (Value.slice A n c).ownBlock = ob A := by cases A <;> rfl
/-- the names so far -/
def LR (base : Nat) (w : World) (LA : Option Addr) (lc : Nat) (l : List (List UInt8)) : Prop := w.ownsRow base 9 1 (.slice LA l.length lc) l.length (l.map encStr)
/-- the names that are bound, and do not lie where the others grow -/
structure BR (w : World) (A : Option Addr) (bd : List (List UInt8)) (LA : Option Addr) : Prop where
  row : BRow w A bd
  off : bd ≠ [] → ∀ g o, A = some ⟨g, o, none⟩ → some g ≠ ob LA
theorem BR.lt {w : World} {A : Option Addr} {bd : List (List UInt8)} {LA : Option Addr} (h : BR w A bd LA) (hne : bd ≠ []) {g o : Nat} (e : A = some ⟨g, o, none⟩) : g < w.heap.size := by
  cases bd with
  | nil => exact absurd rfl hne
  | cons x r =>
    obtain ⟨g', o', e', hc⟩ := h.row 0 x rfl
    rw [e] at e'; injection e' with e'; injection e' with e1
    subst e1; exact Ty.cell_lt hc
/-- what has become of the names -/
def Upto (w : World) (LA LA' : Option Addr) : Prop := ob LA' = ob LA ∨ ∃ g, ob LA' = some g ∧ w.heap.size ≤ g
theorem BRow.grown2 {w w' : World} {A : Option Addr} {l : List (List UInt8)} {row : Option Nat} (h : BRow w A l) (hg : w.grownBy w' row) (hne : l ≠ [] → ∀ g o, A = some ⟨g, o, none⟩ → some g ≠ row) : BRow w' A l := fun j s hj => by
  obtain ⟨g, o, e, hc⟩ := h j s hj
  exact ⟨g, o, e, by rw [World.cell?_of_block (hg.block g (Ty.cell_lt hc) (hne (by rintro rfl; cases hj) g o e))]; exact hc⟩
theorem BR.step {w w' : World} {A LA LA' : Option Addr} {bd : List (List UInt8)} (h : BR w A bd LA) (hg : w.grownBy w' (ob LA)) (hu : Upto w LA LA') : BR w' A bd LA' :=
  ⟨h.row.grown2 hg h.off, fun hn g o e => by
    rcases hu with q | ⟨g', q, hq⟩
    · rw [q]; exact h.off hn g o e
    · rw [q]; intro e2; injection e2 with e2; have := h.lt hn e; omega⟩
theorem BR.below {w w' : World} {A LA : Option Addr} {bd : List (List UInt8)} (h : BR w A bd LA) (hb : Below w.heap.size w w') : BR w' A bd LA := ⟨h.row.below hb, h.off⟩
theorem LR.below {base : Nat} {w w' : World} {LA : Option Addr} {lc : Nat} {l : List (List UInt8)} (h : LR base w LA lc l) (hb : Below w.heap.size w w') : LR base w' LA lc l := ownsRow_below h hb
theorem LR.lt {base : Nat} {w : World} {LA : Option Addr} {lc : Nat} {l : List (List UInt8)} (h : LR base w LA lc l) : ∀ g, ob LA = some g → base ≤ g ∧ g < w.heap.size := fun g hg => World.ownsRow.lt h g (by rw [ob_is]; exact hg)
theorem Upto.trans {x y : World} {A B C : Option Addr} (h : Upto x A B) (k : Upto y B C) (hs : x.heap.size ≤ y.heap.size) : Upto x A C := by
  rcases k with k | ⟨g, k, hk⟩
  · rcases h with h | ⟨g, h, hg⟩
    · exact .inl (k.trans h)
    · exact .inr ⟨g, k.trans h, hg⟩
  · exact .inr ⟨g, k, by omega⟩
/-- what the reference's free leaves -/
def FrPost (base : Nat) (LA : Option Addr) (l' : List (List UInt8)) (w : World) (e : Ending) (w' : World) : Prop :=
  ∃ LA' lc', e = .returned (.slice LA' l'.length lc') ∧ LR base w' LA' lc' l' ∧ w.grownBy w' (ob LA) ∧ Upto w LA LA'
end Go.Proofs.YtfkbdpehdabepaaGreatDoor
namespace Go.Proofs.YtfkbdpehdabepaaGreatDoor
open Go.RowKit Go.Maps

/-- a state of the reference's free -/
structure FS (base B : Nat) (w : World) (X : Obj) (A : Option Addr) (bd : List (List UInt8)) (LA0 : Option Addr) (W : World) (LA : Option Addr) (lc : Nat) (l : List (List UInt8)) : Prop where
  low : Below base w W
  grown : w.grownBy W (ob LA0)
  upto : Upto w LA0 LA
  box : W.heap[B]? = some X
  off : ob LA ≠ some B
  br : BR W A bd LA
  lr : LR base W LA lc l
theorem FS.drew {base B : Nat} {w W : World} {X : Obj} {A LA0 LA : Option Addr} {bd l : List (List UInt8)} {lc : Nat} (h : FS base B w X A bd LA0 W LA lc l) : FS base B w X A bd LA0 W.drew LA lc l :=
  ⟨h.low.drew, only_drew h.grown, h.upto, h.box, h.off, h.br.below ((Below.refl _ _).drew), h.lr.below ((Below.refl _ _).drew)⟩
theorem FS.later {base B : Nat} {w W u : World} {X : Obj} {A LA0 LA : Option Addr} {bd l : List (List UInt8)} {lc : Nat} (h : FS base B w X A bd LA0 W LA lc l) (hb : Below W.heap.size W u) (hB : base ≤ w.heap.size) : FS base B w X A bd LA0 u LA lc l := by
  have hs := h.grown.size
  refine ⟨h.low.trans (hb.mono (by omega)), ⟨hb.os.trans h.grown.os, hb.tape.trans h.grown.tape, hb.output.trans h.grown.output, Nat.le_trans hs hb.size, fun k hk hne => (hb.block k (by omega)).trans (h.grown.block k hk hne)⟩, h.upto, heap_below hb (heap_lt h.box) h.box, h.off, h.br.below hb, h.lr.below hb⟩
theorem FS.next {base B : Nat} {w u u2 : World} {X : Obj} {A LA0 LA LA2 : Option Addr} {bd l l2 : List (List UInt8)} {lc lc2 : Nat} (h : FS base B w X A bd LA0 u LA lc l) (hB : base ≤ w.heap.size) (hL : LR base u2 LA2 lc2 l2) (hg : u.grownBy u2 (ob LA)) (hu : Upto u LA LA2) : FS base B w X A bd LA0 u2 LA2 lc2 l2 := by
  have hs := h.grown.size
  have hbox := heap_lt h.box
  refine ⟨h.low.grown hg (by omega) (fun k hk => (h.lr.lt k hk).1), ?_, h.upto.trans hu hs, (hg.block B hbox (fun e => h.off e.symm)).trans h.box, ?_, h.br.step hg hu, hL⟩
  · refine ⟨hg.os.trans h.grown.os, hg.tape.trans h.grown.tape, hg.output.trans h.grown.output, Nat.le_trans hs hg.size, fun k hk hne => ?_⟩
    rw [hg.block k (by omega) (fun e => ?_), h.grown.block k hk hne]
    rcases h.upto with q | ⟨z, q, hz⟩
    · exact hne (e.trans q)
    · rw [q] at e; injection e with e; omega
  · rcases hu with q | ⟨z, q, hz⟩
    · rw [q]; exact h.off
    · rw [q]; intro e; injection e with e; omega
theorem FS.post {base B : Nat} {w W : World} {X : Obj} {A LA0 LA : Option Addr} {bd l : List (List UInt8)} {lc : Nat} (h : FS base B w X A bd LA0 W LA lc l) : FrPost base LA0 l w (.returned (.slice LA l.length lc)) W := ⟨LA, lc, rfl, h.lr, h.grown, h.upto⟩
end Go.Proofs.YtfkbdpehdabepaaGreatDoor
