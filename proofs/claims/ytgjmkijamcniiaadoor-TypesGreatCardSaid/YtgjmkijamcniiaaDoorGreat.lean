/-
  Great types: shared within themselves. What they are; how a box that grows keeps them.
-/
import Derived.Test.YtgjmkijamcniiaaDoorWakes
namespace Go.Proofs.YtgjmkijamcniiaaDoor
open Go.RowKit

namespace Ty
def aK : Nat → Int
  | 0 => 1
  | _ + 1 => 4
def aF : Nat → Fo
  | 0 => .nil
  | i + 1 => two (aK i) (aF i) (aK i) (aF i)
def bK : Nat → Int
  | 0 => 1
  | _ + 1 => 3
def bF : Nat → Fo
  | 0 => .nil
  | i + 1 => two 0 .nil (bK i) (bF i)
def dK : Nat → Int
  | 0 => 1
  | _ + 1 => 5
def dF : Nat → Fo
  | 0 => .nil
  | i + 1 => two (dK i) (dF i) 0 .nil
theorem nodes_two (k : Int) (f : Fo) (k' : Int) (f' : Fo) : nodes (two k f k' f') = nodes f + 1 + (nodes f' + 1) := by simp [two, nodes]
theorem dep_two (k : Int) (f : Fo) (k' : Int) (f' : Fo) : dep (two k f k' f') = max (dep f + 1) (dep f' + 1) := by simp [two, dep]
theorem aF_nodes : ∀ i, 2 ^ i ≤ nodes (aF i) + 1
  | 0 => by simp [aF, nodes]
  | i + 1 => by have := aF_nodes i; rw [aF, nodes_two, Nat.pow_succ]; omega
theorem bF_nodes : ∀ i, nodes (bF i) = 2 * i
  | 0 => rfl
  | i + 1 => by have := bF_nodes i; rw [bF, nodes_two, this]; simp [nodes]; omega
theorem bF_dep : ∀ i, dep (bF i) = i
  | 0 => rfl
  | i + 1 => by have := bF_dep i; rw [bF, dep_two, this]; simp [dep]
theorem bF_ok : ∀ i, okT (bK i) (bF i) = true
  | 0 => by decide
  | i + 1 => by
    have h := bF_ok i
    unfold okT at h ⊢
    rw [Bool.and_eq_true] at h
    rw [Bool.and_eq_true, bF]
    refine ⟨rfl, ?_⟩
    unfold two
    simp only [okF, len, Bool.and_eq_true]
    exact ⟨⟨rfl, trivial⟩, ⟨h.1, h.2⟩, trivial⟩
theorem dF_nodes : ∀ i, nodes (dF i) = 2 * i
  | 0 => rfl
  | i + 1 => by have := dF_nodes i; rw [dF, nodes_two, this]; simp [nodes]; omega

theorem a_facts : chk 4 (aF 60) = 32 ∧ nod (aF 60) = 8193 ∧ dpt (aF 60) = 201 ∧ textT 4 (aF 60) = ⟨#[]⟩ ∧ sameT 4 (aF 60) 4 (aF 60) = false := by
  have h := aF_nodes 60
  generalize aF 60 = f at h ⊢
  have h1 : chk 4 f = 32 := by unfold chk; rw [if_pos (by omega)]
  refine ⟨h1, by unfold nod; omega, by unfold dpt; rw [if_pos (by omega)], by unfold textT; rw [if_neg (by omega)], by unfold sameT; rw [h1]; rfl⟩
theorem b_facts : chk 3 (bF 199) = 0 ∧ dpt (bF 199) = 200 := by
  have h1 := bF_nodes 199
  have h2 := bF_dep 199
  have h3 : okT 3 (bF 199) = true := bF_ok 199
  generalize bF 199 = f at h1 h2 h3 ⊢
  refine ⟨?_, ?_⟩
  · unfold chk; rw [if_neg (by omega), if_neg (by omega)]; exact if_pos h3
  · unfold dpt; rw [if_neg (by omega)]; omega
theorem c_facts : chk 3 (two 3 (bF 199) 0 .nil) = 31 := by
  have h1 := bF_nodes 199
  have h2 := bF_dep 199
  generalize bF 199 = f at h1 h2 ⊢
  unfold chk; rw [if_neg (by rw [nodes_two]; simp [nodes]; omega), if_pos (by rw [dep_two]; simp [dep]; omega)]
theorem d_facts : chk 5 (dF 5000) = 32 ∧ dpt (dF 5000) = 201 := by
  have h := dF_nodes 5000
  generalize dF 5000 = f at h ⊢
  exact ⟨by unfold chk; rw [if_pos (by omega)], by unfold dpt; rw [if_pos (by omega)]⟩

/-- the world without what lies in the box X -/
def dead (X : Nat) (w : World) : World := (w.setCell ⟨X, 0, none⟩ (.bool false)).setCell ⟨X, 1, none⟩ (.bool false)
theorem dead_off {X : Nat} {w : World} {b o : Nat} (h : b ≠ X) : (dead X w).cell? ⟨b, o, none⟩ = w.cell? ⟨b, o, none⟩ := by
  unfold dead
  rw [World.cell?_setCell_other _ _ _ _ (fun e => h (by injection e with e; exact e.symm)), World.cell?_setCell_other _ _ _ _ (fun e => h (by injection e with e; exact e.symm))]
theorem dead_at {X : Nat} {w : World} {v0 v1 v : Value} {t : TypeId} {o : Nat} (h : w.heap[X]? = some (.cells #[v0, v1] t (0, 0))) (hc : (dead X w).cell? ⟨X, o, none⟩ = some v) : v = .bool false := by
  have := heap_set h (.bool false) (.bool false)
  unfold dead at hc
  simp only [World.cell?, this] at hc
  rcases o with _ | _ | o
  · simpa using hc.symm
  · simpa using hc.symm
  · simp at hc
/-- a type that lies elsewhere than in the box X -/
def IsOff (X : Nat) (w : World) (k : Int) (kids : Fo) (A : Option Addr) (n c : Nat) : Prop := Is (dead X w) k kids A n c
theorem IsOff.is {X : Nat} {w : World} {v0 v1 : Value} {t : TypeId} {k : Int} {kids : Fo} {A : Option Addr} {n c : Nat} (h : IsOff X w k kids A n c) (hx : w.heap[X]? = some (.cells #[v0, v1] t (0, 0))) : Is w k kids A n c :=
  ⟨Lies.keep (fun b o v h1 h2 => by
    by_cases hb : b = X
    · subst hb; rw [dead_at hx h1] at h2; rcases h2 with ⟨_, h2⟩ | ⟨_, _, _, h2⟩ <;> cases h2
    · rw [← dead_off hb]; exact h1) _ _ _ h.lies, h.n_eq, h.n_le, h.c_le, h.lo, h.hi⟩
theorem IsOff.keep {X : Nat} {w w' : World} {v0 v1 : Value} {t : TypeId} {k : Int} {kids : Fo} {A : Option Addr} {n c : Nat} (h : IsOff X w k kids A n c) (hx : w.heap[X]? = some (.cells #[v0, v1] t (0, 0)))
    (hk : ∀ b o v, b ≠ X → w.cell? ⟨b, o, none⟩ = some v → w'.cell? ⟨b, o, none⟩ = some v) : IsOff X w' k kids A n c :=
  ⟨Lies.keep (fun b o v h1 h2 => by
    by_cases hb : b = X
    · subst hb; rw [dead_at hx h1] at h2; rcases h2 with ⟨_, h2⟩ | ⟨_, _, _, h2⟩ <;> cases h2
    · rw [dead_off hb] at h1 ⊢; exact hk b o v hb h1) _ _ _ h.lies, h.n_eq, h.n_le, h.c_le, h.lo, h.hi⟩
end Ty

/-- a box, and the type of its cells, that lies elsewhere -/
structure Box (w0 : World) (k : Int) (kids : Fo) (A : Option Addr) (n c : Nat) (wr : World) : Prop where
  box : wr.heap[w0.heap.size]? = some (.cells #[.int .i8 k, .slice A n c] 25 (0, 0))
  off : Ty.IsOff w0.heap.size wr k kids A n c
  below : Below w0.heap.size w0 wr

theorem Box.new (w0 : World) (k : Int) (h1 : -128 ≤ k) (h2 : k ≤ 127) : Box w0 k .nil none 0 0 (w0.alloc (.cells #[.int .i8 k, .slice none 0 0] 25)) :=
  ⟨heap_new _ _, Ty.is_nil _ k h1 h2, (Below.refl _ _).alloc (Nat.le_refl _) _⟩
theorem Box.is {w0 : World} {k : Int} {kids : Fo} {A : Option Addr} {n c : Nat} {wr : World} (h : Box w0 k kids A n c wr) : Ty.Is wr k kids A n c := h.off.is h.box
theorem Box.later {w0 : World} {k : Int} {kids : Fo} {A : Option Addr} {n c : Nat} {wr w2 : World} (h : Box w0 k kids A n c wr) (hb : Below wr.heap.size wr w2) : Box w0 k kids A n c w2 :=
  ⟨heap_below hb (heap_lt h.box) h.box, h.off.keep h.box (fun b o v _ hc => by rw [hb.cell (p := ⟨b, o, none⟩) (Ty.cell_lt hc)]; exact hc), h.below.trans (hb.mono h.below.size)⟩
/-- Of's block and the box written over: the next one -/
theorem Box.put {w0 : World} {k : Int} {kids : Fo} {A : Option Addr} {n c : Nat} {wr : World} (h : Box w0 k kids A n c wr) {kd k1 k2 : Int} {f1 f2 : Fo} {A1 A2 : Option Addr} {n1 c1 n2 c2 N : Nat} (hkd : -128 ≤ kd ∧ kd ≤ 127)
    (hN : wr.heap[N]? = some (.cells #[.int .i8 k1, .slice A1 n1 c1, .int .i8 k2, .slice A2 n2 c2] 25 (0, 0))) (hne : N ≠ w0.heap.size)
    (h1 : Ty.IsOff w0.heap.size wr k1 f1 A1 n1 c1) (h2 : Ty.IsOff w0.heap.size wr k2 f2 A2 n2 c2) :
    Box w0 kd (Ty.two k1 f1 k2 f2) (some ⟨N, 0, none⟩) 2 2 ((wr.setCell ⟨w0.heap.size, 0, none⟩ (.int .i8 kd)).setCell ⟨w0.heap.size, 1, none⟩ (.slice (some ⟨N, 0, none⟩) 2 2)) := by
  have e : Ty.IsOff w0.heap.size wr kd (Ty.two k1 f1 k2 f2) (some ⟨N, 0, none⟩) 2 2 :=
    ⟨Ty.lies_two (heap_far hN hne _ _) h1 h2, rfl, Nat.le_refl _, by unfold maxLen; omega, hkd.1, hkd.2⟩
  refine ⟨heap_set h.box _ _, e.keep h.box (fun b o v hb hc => ?_), (h.below.setCell (Nat.le_refl _) _).setCell (Nat.le_refl _) _⟩
  rw [World.cell?_setCell_other _ _ _ _ (fun e => hb (by injection e with e; exact e.symm)), World.cell?_setCell_other _ _ _ _ (fun e => hb (by injection e with e; exact e.symm))]; exact hc
theorem Box.nil {w0 wr : World} (k : Int) (h1 : -128 ≤ k) (h2 : k ≤ 127) : Ty.IsOff w0.heap.size wr k .nil none 0 0 := Ty.is_nil _ k h1 h2
theorem Box.own {w0 : World} {k : Int} {kids : Fo} {A : Option Addr} {n c : Nat} {wr : World} (h : Box w0 k kids A n c wr) : wr.cell? ⟨w0.heap.size, 0, none⟩ = some (.int .i8 k) ∧ wr.cell? ⟨w0.heap.size, 1, none⟩ = some (.slice A n c) ∧
    wr.frozen? ⟨w0.heap.size, 0, none⟩ = false ∧ wr.frozen? ⟨w0.heap.size, 1, none⟩ = false ∧ w0.heap.size < wr.heap.size := own2 h.box
theorem Box.newA (w0 : World) : Box w0 (Ty.aK 0) (Ty.aF 0) none 0 0 (w0.alloc (.cells #[.int .i8 1, .slice none 0 0] 25)) := Box.new w0 1 (by omega) (by omega)
theorem Box.newB (w0 : World) : Box w0 (Ty.bK 0) (Ty.bF 0) none 0 0 (w0.alloc (.cells #[.int .i8 1, .slice none 0 0] 25)) := Box.new w0 1 (by omega) (by omega)
theorem Box.newD (w0 : World) : Box w0 (Ty.dK 0) (Ty.dF 0) none 0 0 (w0.alloc (.cells #[.int .i8 1, .slice none 0 0] 25)) := Box.new w0 1 (by omega) (by omega)
theorem Box.putA {w0 : World} {i : Nat} {A : Option Addr} {n c : Nat} {wr : World} (h : Box w0 (Ty.aK i) (Ty.aF i) A n c wr) {N : Nat}
    (hN : wr.heap[N]? = some (.cells #[.int .i8 (Ty.aK i), .slice A n c, .int .i8 (Ty.aK i), .slice A n c] 25 (0, 0))) (hne : N ≠ w0.heap.size) :
    Box w0 (Ty.aK (i + 1)) (Ty.aF (i + 1)) (some ⟨N, 0, none⟩) 2 2 ((wr.setCell ⟨w0.heap.size, 0, none⟩ (.int .i8 4)).setCell ⟨w0.heap.size, 1, none⟩ (.slice (some ⟨N, 0, none⟩) 2 2)) :=
  h.put (kd := 4) (by omega) hN hne h.off h.off
theorem Box.putB {w0 : World} {i : Nat} {A : Option Addr} {n c : Nat} {wr : World} (h : Box w0 (Ty.bK i) (Ty.bF i) A n c wr) {N : Nat}
    (hN : wr.heap[N]? = some (.cells #[.int .i8 0, .slice none 0 0, .int .i8 (Ty.bK i), .slice A n c] 25 (0, 0))) (hne : N ≠ w0.heap.size) :
    Box w0 (Ty.bK (i + 1)) (Ty.bF (i + 1)) (some ⟨N, 0, none⟩) 2 2 ((wr.setCell ⟨w0.heap.size, 0, none⟩ (.int .i8 3)).setCell ⟨w0.heap.size, 1, none⟩ (.slice (some ⟨N, 0, none⟩) 2 2)) :=
  h.put (kd := 3) (by omega) hN hne (Box.nil 0 (by omega) (by omega)) h.off
theorem Box.putD {w0 : World} {i : Nat} {A : Option Addr} {n c : Nat} {wr : World} (h : Box w0 (Ty.dK i) (Ty.dF i) A n c wr) {N : Nat}
    (hN : wr.heap[N]? = some (.cells #[.int .i8 (Ty.dK i), .slice A n c, .int .i8 0, .slice none 0 0] 25 (0, 0))) (hne : N ≠ w0.heap.size) :
    Box w0 (Ty.dK (i + 1)) (Ty.dF (i + 1)) (some ⟨N, 0, none⟩) 2 2 ((wr.setCell ⟨w0.heap.size, 0, none⟩ (.int .i8 5)).setCell ⟨w0.heap.size, 1, none⟩ (.slice (some ⟨N, 0, none⟩) 2 2)) :=
  h.put (kd := 5) (by omega) hN hne h.off (Box.nil 0 (by omega) (by omega))
attribute [irreducible] Ty.aF Ty.bF Ty.dF
end Go.Proofs.YtgjmkijamcniiaaDoor
