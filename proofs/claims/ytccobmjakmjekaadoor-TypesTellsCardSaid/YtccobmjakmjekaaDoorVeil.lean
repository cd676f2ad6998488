/-
  A type in new memory: it lies in the world whose blocks below n are struck out.
-/
import Derived.Test.YtccobmjakmjekaaDoorWakes
namespace Go.Proofs.YtccobmjakmjekaaDoor
open Go.RowKit

namespace Ty
/-- the world without its blocks below n -/
def veil (n : Nat) (w : World) : World := { w with heap := w.heap.mapIdx fun i o => if i < n then .cells #[] 0 (0, 0) else o }
theorem veil_off {n : Nat} {w : World} {b o : Nat} (h : n ≤ b) : (veil n w).cell? ⟨b, o, none⟩ = w.cell? ⟨b, o, none⟩ := by
  unfold veil World.cell?
  simp only [Array.getElem?_mapIdx]
  cases hb : w.heap[b]? with
  | none => simp
  | some x => simp [show ¬ b < n by omega]
theorem veil_at {n : Nat} {w : World} {b o : Nat} {v : Value} (hc : (veil n w).cell? ⟨b, o, none⟩ = some v) : n ≤ b := by
  rcases Nat.lt_or_ge b n with h | h
  · unfold veil World.cell? at hc
    simp only [Array.getElem?_mapIdx] at hc
    cases hb : w.heap[b]? with
    | none => simp [hb] at hc
    | some x => simp [hb, h] at hc
  · exact h
/-- a type that lies in blocks from n on -/
def IsNew (n : Nat) (w : World) (k : Int) (kids : Fo) (A : Option Addr) (m c : Nat) : Prop := Is (veil n w) k kids A m c
theorem IsNew.keep {n n' : Nat} {w w' : World} {k : Int} {kids : Fo} {A : Option Addr} {m c : Nat} (h : IsNew n w k kids A m c) (hn : n' ≤ n)
    (hk : ∀ b o v, n ≤ b → w.cell? ⟨b, o, none⟩ = some v → w'.cell? ⟨b, o, none⟩ = some v) : IsNew n' w' k kids A m c :=
  ⟨Lies.keep (fun b o v h1 _ => by
    have hb := veil_at h1
    rw [veil_off hb] at h1
    rw [veil_off (by omega)]
    exact hk b o v hb h1) _ _ _ h.lies, h.n_eq, h.n_le, h.c_le, h.lo, h.hi⟩
theorem IsNew.is {n : Nat} {w : World} {k : Int} {kids : Fo} {A : Option Addr} {m c : Nat} (h : IsNew n w k kids A m c) : Is w k kids A m c :=
  ⟨Lies.keep (fun b o v h1 _ => by rw [← veil_off (veil_at h1)]; exact h1) _ _ _ h.lies, h.n_eq, h.n_le, h.c_le, h.lo, h.hi⟩
theorem IsNew.below {n : Nat} {w w' : World} {k : Int} {kids : Fo} {A : Option Addr} {m c : Nat} (h : IsNew n w k kids A m c) (hb : Below w.heap.size w w') : IsNew n w' k kids A m c :=
  h.keep (Nat.le_refl _) fun b o v _ hc => by rw [hb.cell (p := ⟨b, o, none⟩) (cell_lt hc)]; exact hc
theorem isNew_nil (n : Nat) (w : World) (k : Int) (h1 : -128 ≤ k) (h2 : k ≤ 127) : IsNew n w k .nil none 0 0 := is_nil _ k h1 h2

/-- the first i types of a list lie, cell by cell, in the row from b's o-th cell on, what they hold in blocks from n on -/
def Done (n : Nat) (w : World) : Nat → Fo → Nat → Nat → Prop
  | 0, _, _, _ => True
  | _ + 1, .nil, _, _ => False
  | i + 1, .node _ _ k kids r, b, o => (∃ B m c, w.cell? ⟨b, o, none⟩ = some (.int .i8 k) ∧ w.cell? ⟨b, o + 1, none⟩ = some (.slice B m c) ∧ IsNew n w k kids B m c) ∧ Done n w i r b (o + 2)
/-- what is behind the i-th -/
def behind : Nat → Fo → Fo
  | 0, f => f
  | _ + 1, .nil => .nil
  | i + 1, .node _ _ _ _ r => behind i r
theorem Done.keep {n : Nat} {w w' : World} : ∀ (i : Nat) (f : Fo) (b o : Nat), Done n w i f b o → (∀ j v, j < o + 2 * i → w.cell? ⟨b, j, none⟩ = some v → w'.cell? ⟨b, j, none⟩ = some v) →
    (∀ k kids B m c, IsNew n w k kids B m c → IsNew n w' k kids B m c) → Done n w' i f b o
  | 0, _, _, _, _, _, _ => trivial
  | _ + 1, .nil, _, _, h, _, _ => h
  | i + 1, .node _ _ k kids r, b, o, h, h1, h2 => by
    obtain ⟨⟨B, m, c, e1, e2, e3⟩, e4⟩ := h
    exact ⟨⟨B, m, c, h1 _ _ (by omega) e1, h1 _ _ (by omega) e2, h2 _ _ _ _ _ e3⟩, Done.keep i r b (o + 2) e4 (fun j v hj => h1 j v (by omega)) h2⟩
theorem Done.next {n : Nat} {w : World} {a' b' : Nat} {k : Int} {kids s : Fo} {B : Option Addr} {m c : Nat} : ∀ (i : Nat) (f : Fo) (b o : Nat), Done n w i f b o → behind i f = .node a' b' k kids s →
    w.cell? ⟨b, o + 2 * i, none⟩ = some (.int .i8 k) → w.cell? ⟨b, o + 2 * i + 1, none⟩ = some (.slice B m c) → IsNew n w k kids B m c → Done n w (i + 1) f b o
  | 0, .nil, _, _, _, h, _, _, _ => by cases h
  | 0, .node _ _ _ _ _, _, _, _, h, h1, h2, h3 => by cases h; exact ⟨⟨B, m, c, h1, h2, h3⟩, trivial⟩
  | _ + 1, .nil, _, _, h, _, _, _, _ => h.elim
  | i + 1, .node _ _ k1 kids1 r, b, o, h, hb, h1, h2, h3 => by
    obtain ⟨e1, e2⟩ := h
    exact ⟨e1, Done.next i r b (o + 2) e2 hb (by rw [show o + 2 + 2 * i = o + 2 * (i + 1) by omega]; exact h1) (by rw [show o + 2 + 2 * i = o + 2 * (i + 1) by omega]; exact h2) h3⟩
theorem Done.lies {n : Nat} {w : World} {b : Nat} : ∀ (f : Fo) (o : Nat), Done n w (len f) f b (o * 2) → Lies w f (some ⟨b, 0, none⟩) o
  | .nil, _, _ => trivial
  | .node _ _ k kids r, o, h => by
    simp only [len] at h
    obtain ⟨⟨B, m, c, e1, e2, e3⟩, e4⟩ := h
    have e5 := e3.is
    refine ⟨b, 0, B, c, rfl, ⟨e5.lo, e5.hi⟩, by rw [Nat.zero_add]; exact e1, by rw [Nat.zero_add, ← e5.n_eq]; exact e2, by rw [← e5.n_eq]; exact e5.n_le, e5.c_le, e5.lies, ?_⟩
    exact Done.lies r (o + 1) (by rw [Nat.add_mul, Nat.one_mul]; exact e4)
end Ty
end Go.Proofs.YtccobmjakmjekaaDoor
