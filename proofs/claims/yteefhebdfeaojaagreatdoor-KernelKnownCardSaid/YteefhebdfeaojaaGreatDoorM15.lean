/-
  order's copies of types. order.meet's own closure; order.together held against it; order.meet. order.together held against order.meet's own closure. order.meet, order.Meet. The document's meet, Meet; the law's kind and met. The document's Meet; the law's kind and met. agree.As, order.Meet once more: what they hand back lies in new memory.
-/
import Derived.Test.YteefhebdfeaojaaGreatDoorM14
import Derived.Test.YteefhebdfeaojaaGreatDoorM13
import Derived.Test.YteefhebdfeaojaaGreatDoorM1
import Derived.Deep.DeepCutAuto
import Derived.Test.YteefhebdfeaojaaGreatDoorKc
import Derived.Deep.RegionHeld3
namespace Go.Proofs.YteefhebdfeaojaaGreatDoor
open Go.RowKit

end Go.Proofs.YteefhebdfeaojaaGreatDoor
namespace Go.Proofs.YteefhebdfeaojaaGreatDoor
open Go.RowKit

namespace Ty
theorem SepF.inP {w : World} {P : Nat → Prop} : ∀ (f : Fo) (g i lo hi : Nat), P g → (∀ b, lo ≤ b → b < hi → P b) → SepF w g f i lo hi → LiesP P w f (some ⟨g, 0, none⟩) i
  | .nil, _, _, _, _, _, _, _ => trivial
  | .node _ _ _ kids r, g, i, lo, hi, hg, hb, h => by
    obtain ⟨A, c, lo', hi', a1, a2, a3, a4, a5, a6, a7, a8, a9, a10⟩ := h
    have hle := SepF.le r _ _ _ a10
    refine ⟨g, 0, A, c, rfl, hg, a4, by rw [Nat.zero_add]; exact a7, by rw [Nat.zero_add]; exact a8, a5, a6, ?_, SepF.inP r g (i + 1) hi' hi hg (fun b h1 h2 => hb b (by omega) h2) a10⟩
    rcases a9 with rfl | ⟨g', rfl, b2, b3, b4, b5⟩
    · trivial
    · exact SepF.inP kids g' 0 lo' hi' (hb g' (by omega) (by omega)) (fun b h1 h2 => hb b (by omega) (by omega)) b5
theorem SepK.inP {w : World} {k : Int} {kids : Fo} {A : Option Addr} {lo hi c : Nat} (h : SepK w kids A lo hi) (hk : -128 ≤ k ∧ k ≤ 127) (h1 : len kids ≤ c) (h2 : c ≤ maxLen) : IsP (fun b => lo ≤ b ∧ b < hi) w k kids A (len kids) c := by
  refine ⟨?_, rfl, h1, h2, hk.1, hk.2⟩
  rcases h with rfl | ⟨g', rfl, a2, a3, a4, a5⟩
  · trivial
  · exact SepF.inP kids g' 0 lo hi ⟨a2, a3⟩ (fun b h1 h2 => ⟨h1, h2⟩) a5
end Ty
/-- what a call that may write two cells and some blocks leaves -/
structure Turn (w w' : World) (p q lo hi : Nat) : Prop where
  os : w'.os = w.os
  tape : w'.tape = w.tape
  output : w'.output = w.output
  size : w.heap.size ≤ w'.heap.size
  block : ∀ b, b < w.heap.size → (b < lo ∨ hi ≤ b) → b ≠ p → w'.heap[b]? = w.heap[b]?
  cell : ∀ o, o ≠ q → o ≠ q + 1 → w'.cell? ⟨p, o, none⟩ = w.cell? ⟨p, o, none⟩
  froz : ∀ o, w'.frozen? ⟨p, o, none⟩ = w.frozen? ⟨p, o, none⟩
theorem Turn.of {w w' : World} {p q lo hi : Nat} (h : Below w.heap.size w w') (hp : p < w.heap.size) : Turn w w' p q lo hi :=
  ⟨h.os, h.tape, h.output, h.size, fun b hb _ _ => h.block b hb, fun o _ _ => h.cell (p := ⟨p, o, none⟩) hp, fun o => h.frozen (p := ⟨p, o, none⟩) hp⟩
theorem Turn.trans {a b c : World} {p q lo hi : Nat} (h : Turn a b p q lo hi) (k : Turn b c p q lo hi) : Turn a c p q lo hi :=
  ⟨k.os.trans h.os, k.tape.trans h.tape, k.output.trans h.output, Nat.le_trans h.size k.size, fun i h1 h2 h3 => (k.block i (Nat.lt_of_lt_of_le h1 h.size) h2 h3).trans (h.block i h1 h2 h3),
    fun o h1 h2 => (k.cell o h1 h2).trans (h.cell o h1 h2), fun o => (k.froz o).trans (h.froz o)⟩
theorem Turn.sub {w w' : World} {g q' lo' hi' p q lo hi : Nat} (h : Turn w w' g q' lo' hi') (hg1 : lo ≤ g) (hg2 : g < hi) (h1 : lo ≤ lo') (h2 : hi' ≤ hi) (hp : p < lo ∨ hi ≤ p) (hps : p < w.heap.size) : Turn w w' p q lo hi := by
  have hpb := h.block p hps (by omega) (by omega)
  exact ⟨h.os, h.tape, h.output, h.size, fun b b1 b2 b3 => h.block b b1 (by omega) (by omega), fun o _ _ => World.cell?_of_block (w := w) (a := ⟨p, o, none⟩) hpb, fun o => World.frozen?_of_block (w := w) (a := ⟨p, o, none⟩) hpb⟩
theorem Turn.below {w w' : World} {p q lo hi n0 : Nat} (h : Turn w w' p q lo hi) (hlo : n0 ≤ lo) (hp : n0 ≤ p) (hs : n0 ≤ w.heap.size) : Below n0 w w' :=
  ⟨h.os, h.tape, h.output, h.size, fun b hb => h.block b (by omega) (by omega) (by omega)⟩

end Go.Proofs.YteefhebdfeaojaaGreatDoor
namespace Go.Proofs.YteefhebdfeaojaaGreatDoor
open Go.RowKit

/-- where a type lies that together may turn -/
structure Own (w : World) (k : Int) (kids : Fo) (A : Option Addr) (c p q lo hi n0 : Nat) : Prop where
  c0 : w.cell? ⟨p, q, none⟩ = some (.int .i8 k)
  c1 : w.cell? ⟨p, q + 1, none⟩ = some (.slice A (Ty.len kids) c)
  fz : ∀ o, w.frozen? ⟨p, o, none⟩ = false
  r : -128 ≤ k ∧ k ≤ 127
  lc : Ty.len kids ≤ c
  cm : c ≤ maxLen
  sep : Ty.SepK w kids A lo hi
  le : lo ≤ hi
  hs : hi ≤ w.heap.size
  out : p < lo ∨ hi ≤ p
  nlo : n0 ≤ lo
  np : n0 ≤ p
  sh : Shapes w
  sn : 1 < n0
theorem Own.below {w w' : World} {k : Int} {kids : Fo} {A : Option Addr} {c p q lo hi n0 : Nat} (h : Own w k kids A c p q lo hi n0) (hb : Below w.heap.size w w') : Own w' k kids A c p q lo hi n0 := by
  have hp := Ty.cell_lt h.c0
  have hhs := h.hs
  exact ⟨by rw [hb.cell (p := ⟨p, q, none⟩) hp]; exact h.c0, by rw [hb.cell (p := ⟨p, q + 1, none⟩) hp]; exact h.c1, fun o => by rw [hb.frozen (p := ⟨p, o, none⟩) hp]; exact h.fz o, h.r, h.lc, h.cm,
    h.sep.keep fun b _ h2 => hb.block b (by omega), h.le, Nat.le_trans h.hs hb.size, h.out, h.nlo, h.np, h.sh.below hb, h.sn⟩
/-- the two kids of a type that together may turn -/
theorem Own.two {w : World} {k k1 k2 : Int} {f1 f2 : Fo} {a1 a2 a3 a4 : Nat} {A : Option Addr} {c p q lo hi n0 : Nat} (h : Own w k (.node a1 a2 k1 f1 (.node a3 a4 k2 f2 .nil)) A c p q lo hi n0) :
    ∃ g B1 c1 B2 c2 l1 h1 l2 h2, A = some ⟨g, 0, none⟩ ∧ lo ≤ g ∧ g < hi ∧ lo ≤ l1 ∧ h1 ≤ l2 ∧ h2 ≤ hi ∧ Own w k1 f1 B1 c1 g 0 l1 h1 n0 ∧ Own w k2 f2 B2 c2 g 2 l2 h2 n0 := by
  obtain ⟨e0, e1, fz, r, lc, cm, sep, le, hs, out, nlo, np, sh, sn⟩ := h
  rcases sep with h | ⟨g, rfl, g1, g2, g3, g4⟩
  · cases h
  · obtain ⟨B1, c1, l1, h1, x1, x2, x3, x4, x5, x6, x7, x8, x9, B2, c2, l2, h2, y1, y2, y3, y4, y5, y6, y7, y8, y9, y10⟩ := g4
    have y10' : h2 ≤ hi := y10
    refine ⟨g, B1, c1, B2, c2, l1, h1, l2, h2, rfl, g1, g2, x1, y1, y10', ⟨by simpa using x7, by simpa using x8, g3, x4, x5, x6, x9, x2, by omega, x3, by omega, by omega, sh, sn⟩, ⟨by simpa using y7, by simpa using y8, g3, y4, y5, y6, y9, y2, by omega, y3, by omega, by omega, sh, sn⟩⟩
end Go.Proofs.YteefhebdfeaojaaGreatDoor
namespace Go.Proofs.YteefhebdfeaojaaGreatDoor
open Go.RowKit

end Go.Proofs.YteefhebdfeaojaaGreatDoor
namespace Go.Proofs.YteefhebdfeaojaaGreatDoor
open Go.RowKit

end Go.Proofs.YteefhebdfeaojaaGreatDoor
namespace Go.Proofs.YteefhebdfeaojaaGreatDoor
open Go.RowKit

end Go.Proofs.YteefhebdfeaojaaGreatDoor
namespace Go.Proofs.YteefhebdfeaojaaGreatDoor
open Go.RowKit
end Go.Proofs.YteefhebdfeaojaaGreatDoor
