/-
  Terms told by hand: a term that is shared within itself; plain facts, and the box in which it grows.
-/
import Derived.Test.YtemdgpihifigoaaGreatDoorFreeC
import Derived.Test.YtemdgpihifigoaaGreatDoorCopyT
namespace Go.Proofs.YtemdgpihifigoaaGreatDoor
open Go.RowKit

namespace Tm
def sx : ByteArray := ⟨#[120]⟩
def sy : ByteArray := ⟨#[121]⟩
def hv (s : ByteArray) : Hd := ⟨0, s, ⟨#[]⟩, 0, 0, .nil, 0, .nil, 0, 0⟩
def hApp : Hd := ⟨6, ⟨#[]⟩, ⟨#[]⟩, 0, 0, .nil, 0, .nil, 0, 0⟩
def hTwo : Hd := ⟨9, ⟨#[]⟩, ⟨#[]⟩, 0, 0, .nil, 0, .nil, 0, 0⟩
def hLam : Hd := ⟨4, sx, ⟨#[]⟩, 0, 1, .nil, 0, .nil, 0, 0⟩
def hBare : Hd := ⟨4, ⟨#[]⟩, ⟨#[]⟩, 0, 0, .nil, 0, .nil, 0, 0⟩
def fK : Tm := .node hApp (.node (hv sx) .nil (.node (hv sy) .nil .nil)) .nil
def bH2 : Nat → Hd
  | 0 => hv sx
  | _ + 1 => hTwo
def bK2 : Nat → Tm
  | 0 => .nil
  | i + 1 => .node (bH2 i) (bK2 i) (.node (bH2 i) (bK2 i) .nil)
theorem tyN_b (i : Nat) : tyN (bH2 i) = 0 := by
  cases i with
  | zero => decide
  | succ i => show tyN hTwo = 0; decide
theorem b_nodes : ∀ i, 2 ^ i ≤ nodes (bK2 i) + 1
  | 0 => by simp [bK2, nodes]
  | i + 1 => by have := b_nodes i; simp only [bK2, nodes, Nat.pow_succ, tyN_b]; omega
theorem b_facts : chk hTwo (bK2 40) = 32 ∧ nod hTwo (bK2 40) = 8193 := by
  have h := b_nodes 40
  have e : tyN hTwo = 0 := by decide
  generalize bK2 40 = f at h ⊢
  refine ⟨by unfold chk nd; rw [if_pos (by omega)], by unfold nod nd; omega⟩
theorem f_chk : chk hLam fK = 0 := by decide +kernel
theorem f_nod : nod hLam fK = 5 := by decide +kernel
theorem f_dpt : dpt hLam fK = 3 := by decide +kernel
theorem f_frS : frS hLam fK = [nm sy] := by
  unfold frS
  rw [if_pos f_chk]
  have e : frT hLam fK [] [] = [nm sy] := by decide +kernel
  rw [e]; simp
theorem bare_chk : chk hBare .nil = 30 := by decide +kernel
end Tm
theorem Tm.bK2_succ (i : Nat) : Tm.bK2 (i + 1) = .node (Tm.bH2 i) (Tm.bK2 i) (.node (Tm.bH2 i) (Tm.bK2 i) .nil) := rfl
theorem Tm.bK2_zero : Tm.bK2 0 = .nil := rfl
attribute [irreducible] Tm.bK2

/-- a box, and what it holds, which lies elsewhere -/
structure Bx (w0 : World) (i : Nat) (p : Pl) (wr : World) : Prop where
  box : wr.heap[w0.heap.size]? = some (.cells #[.int .i8 (Tm.bH2 i).kind, .string (Tm.bH2 i).name, .string (Tm.bH2 i).arg, .int .i64 (Tm.bH2 i).num, .int .i8 (Tm.bH2 i).tk, .slice p.TA p.tn p.tc, .int .i8 (Tm.bH2 i).uk, .slice p.UA p.un p.uc, .int .i64 (Tm.bH2 i).label, .int .i64 (Tm.bH2 i).pos, .slice p.A p.n p.c] 28 (0, 0))
  is : Tm.Is (mask (fun b => decide (b ≠ w0.heap.size)) wr) (Tm.bH2 i) (Tm.bK2 i) p
  below : Below w0.heap.size w0 wr
theorem zTy (w : World) : Ty.Is w 0 .nil none 0 0 := ⟨trivial, rfl, Nat.le_refl _, Nat.zero_le _, by omega, by omega⟩
theorem fit_plain (w : World) (k : Int) (s : ByteArray) (A : Option Addr) (n : Nat) (hk : -128 ≤ k ∧ k ≤ 127) (hs : s.size ≤ 100) (hn : n ≤ 100) : Tm.Fit w ⟨k, s, ⟨#[]⟩, 0, 0, .nil, 0, .nil, 0, 0⟩ ⟨none, 0, 0, none, 0, 0, A, n, n⟩ n :=
  ⟨zTy w, zTy w, rfl, Nat.le_refl _, (by show n ≤ maxLen; unfold maxLen; omega), hk.1, hk.2, (by show (-9223372036854775808 : Int) ≤ 0; omega), (by show (0 : Int) ≤ 9223372036854775807; omega), (by show s.size ≤ 281474976710656; omega), (by show (⟨#[]⟩ : ByteArray).size ≤ 281474976710656; decide)⟩
theorem Bx.start (w0 : World) : Bx w0 0 ⟨none, 0, 0, none, 0, 0, none, 0, 0⟩ (w0.alloc (.cells #[.int .i8 0, .string ⟨#[120]⟩, .string ⟨#[]⟩, .int .i64 0, .int .i8 0, .slice none 0 0, .int .i8 0, .slice none 0 0, .int .i64 0, .int .i64 0, .slice none 0 0] 28)) := by
  refine ⟨heap_new _ _, ⟨?_, ?_⟩, (Below.refl _ _).alloc (Nat.le_refl _) _⟩
  · rw [Tm.bK2_zero]; exact fit_plain _ 0 Tm.sx none 0 (by omega) (by decide) (by omega)
  · rw [Tm.bK2_zero]; trivial
theorem Bx.later {w0 : World} {i : Nat} {p : Pl} {wr w2 : World} (h : Bx w0 i p wr) (hb : Below wr.heap.size wr w2) : Bx w0 i p w2 :=
  ⟨heap_below hb (heap_lt h.box) h.box, h.is.kept (kept_mask fun b o v hP hc => ⟨hP, by rw [hb.cell (p := ⟨b, o, none⟩) (Ty.cell_lt hc)]; exact hc⟩), h.below.trans (hb.mono h.below.size)⟩
theorem Bx.all {w0 : World} {i : Nat} {p : Pl} {wr : World} (h : Bx w0 i p wr) : Tm.Is wr (Tm.bH2 i) (Tm.bK2 i) p := h.is.kept kept_of_mask
/-- the two copies' block, and the box written over -/
theorem Bx.put {w0 : World} {i : Nat} {p : Pl} {wr w2 : World} {N : Nat} (h : Bx w0 i p wr) (hN : wr.heap.size ≤ N)
    (hn : w2.heap[N]? = some (.cells ((Tm.bH2 i).cells p ++ (Tm.bH2 i).cells p).toArray 28 (0, 0)))
    (hx : w2.heap[w0.heap.size]? = some (.cells #[.int .i8 Tm.hTwo.kind, .string Tm.hTwo.name, .string Tm.hTwo.arg, .int .i64 Tm.hTwo.num, .int .i8 Tm.hTwo.tk, .slice (Pl.mk none 0 0 none 0 0 (some ⟨N, 0, none⟩) 2 2).TA (Pl.mk none 0 0 none 0 0 (some ⟨N, 0, none⟩) 2 2).tn (Pl.mk none 0 0 none 0 0 (some ⟨N, 0, none⟩) 2 2).tc, .int .i8 Tm.hTwo.uk, .slice (Pl.mk none 0 0 none 0 0 (some ⟨N, 0, none⟩) 2 2).UA (Pl.mk none 0 0 none 0 0 (some ⟨N, 0, none⟩) 2 2).un (Pl.mk none 0 0 none 0 0 (some ⟨N, 0, none⟩) 2 2).uc, .int .i64 Tm.hTwo.label, .int .i64 Tm.hTwo.pos, .slice (Pl.mk none 0 0 none 0 0 (some ⟨N, 0, none⟩) 2 2).A (Pl.mk none 0 0 none 0 0 (some ⟨N, 0, none⟩) 2 2).n (Pl.mk none 0 0 none 0 0 (some ⟨N, 0, none⟩) 2 2).c] 28 (0, 0)))
    (hk : ∀ k x, k ≠ w0.heap.size → wr.heap[k]? = some x → w2.heap[k]? = some x) (hb : Below w0.heap.size w0 w2) : Bx w0 (i + 1) ⟨none, 0, 0, none, 0, 0, some ⟨N, 0, none⟩, 2, 2⟩ w2 := by
  have hXl := heap_lt h.box
  have hIs : Tm.Is (mask (fun b => decide (b ≠ w0.heap.size)) w2) (Tm.bH2 i) (Tm.bK2 i) p := h.is.kept (kept_mask fun b o v hP hc => ⟨hP, by
    have hP2 : b ≠ w0.heap.size := by simpa using hP
    have hbl := Ty.cell_lt hc
    rw [World.cell?_of_block (w := wr) (by
      show w2.heap[b]? = wr.heap[b]?
      rw [Array.getElem?_eq_getElem hbl]
      exact hk b _ hP2 (Array.getElem?_eq_getElem hbl))]
    exact hc⟩)
  have hc : ∀ j v, ((Tm.bH2 i).cells p ++ (Tm.bH2 i).cells p)[j]? = some v → (mask (fun b => decide (b ≠ w0.heap.size)) w2).cell? ⟨N, j, none⟩ = some v := fun j v hj =>
    mask_of (by simp; omega) (cell_of_heap hn j (by simpa using hj))
  refine ⟨hx, ⟨?_, ?_⟩, hb⟩
  · rw [Tm.bK2_succ]; exact fit_plain _ 9 ⟨#[]⟩ _ 2 (by omega) (by decide) (by omega)
  · rw [Tm.bK2_succ]
    refine ⟨N, 0, p, rfl, fun j v hj => ?_, hIs.fit, hIs.lies, N, 0, p, rfl, fun j v hj => ?_, hIs.fit, hIs.lies, trivial⟩
    · have hl := (List.getElem?_eq_some_iff.1 hj).1
      rw [show 0 + 0 * 11 + j = j by omega]
      exact hc j v (by rw [List.getElem?_append_left hl]; exact hj)
    · rw [show 0 + (0 + 1) * 11 + j = 11 + j by omega]
      exact hc (11 + j) v (by rw [List.getElem?_append_right (by simp), show 11 + j - ((Tm.bH2 i).cells p).length = j by simp]; exact hj)
end Go.Proofs.YtemdgpihifigoaaGreatDoor
