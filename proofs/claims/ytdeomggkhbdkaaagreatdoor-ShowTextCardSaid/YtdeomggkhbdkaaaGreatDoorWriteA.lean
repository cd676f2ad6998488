/-
  types.needs; what types.write leaves.
-/
import Derived.Test.YtdeomggkhbdkaaaGreatDoorM1
import Derived.Test.YtdeomggkhbdkaaaGreatDoorBuilder
import Derived.Test.YtdeomggkhbdkaaaGreatDoorM7
namespace Go.Proofs.YtdeomggkhbdkaaaGreatDoor
open Go.RowKit

set_option maxHeartbeats 1000000 in
theorem needs_any (k : Int) (hk : k = 3 ∨ k = 4 ∨ k = 5) (w : World) (hS : Shapes w) :
    Calls Tryz.prog 96 #[.int .i8 k] w fun e w' => e = .returned (.tuple #[.int .i64 (Ty.need k true), .int .i64 (Ty.need k false)]) ∧ w' = w := by
  obtain ⟨hs1, hs2⟩ := hS
  have s15 := hs2 15 _ rfl
  have s19 := hs2 19 _ rfl
  have s23 := hs2 23 _ rfl
  clear hs2
  rcases hk with rfl | rfl | rfl
  all_goals
    go_enter Tryz.func96, Tryz.ntmps96
    go_wp2_with fail
    go_ret2
    exact ⟨rfl, rfl⟩

/-- what write leaves -/
def WroteTxt (B b : Nat) (l l' : List UInt8) (w : World) (e : Ending) (w' : World) : Prop :=
  e = .returned (.tuple #[]) ∧ Bld B b (l ++ l') w' ∧ Wrote B b w w'

theorem okT_leaf {k : Int} {kids : Fo} (h : Ty.okT k kids = true) (hk : k = 0 ∨ k = 1 ∨ k = 2) : kids = .nil := by
  unfold Ty.okT Ty.okK at h
  rw [if_pos (by omega), Bool.and_eq_true] at h
  cases kids with
  | nil => rfl
  | node _ _ _ _ _ => simp [Ty.len] at h
theorem okT_pair {k : Int} {kids : Fo} (h : Ty.okT k kids = true) (hk : k = 3 ∨ k = 4 ∨ k = 5) : ∃ a b k1 kids1 a' b' k2 kids2, kids = .node a b k1 kids1 (.node a' b' k2 kids2 .nil) ∧ Ty.okT k1 kids1 = true ∧ Ty.okT k2 kids2 = true := by
  unfold Ty.okT Ty.okK at h
  rw [if_neg (by omega), if_pos (by omega), Bool.and_eq_true] at h
  cases kids with
  | nil => simp [Ty.len] at h
  | node a b k1 kids1 r =>
    cases r with
    | nil => simp [Ty.len] at h
    | node a' b' k2 kids2 r =>
      cases r with
      | nil =>
        refine ⟨_, _, _, _, _, _, _, _, rfl, ?_, ?_⟩ <;> simp only [Ty.okF, Bool.and_eq_true] at h <;> unfold Ty.okT <;> simp only [Bool.and_eq_true]
        · exact h.2.1
        · exact h.2.2.1
      | node _ _ _ _ _ => simp [Ty.len] at h

/-- the cells of two kids, in a later world -/
theorem kid_cells {w0 W : World} {bb oo : Nat} {k1 k2 : Int} {v1 v2 : Value} (hb : Below w0.heap.size w0 W) (h1 : w0.cell? ⟨bb, oo + 0 * 2, none⟩ = some (.int .i8 k1)) (h2 : w0.cell? ⟨bb, oo + 0 * 2 + 1, none⟩ = some v1)
    (h3 : w0.cell? ⟨bb, oo + (0 + 1) * 2, none⟩ = some (.int .i8 k2)) (h4 : w0.cell? ⟨bb, oo + (0 + 1) * 2 + 1, none⟩ = some v2) :
    W.cell? ⟨bb, oo, none⟩ = some (.int .i8 k1) ∧ W.cell? ⟨bb, oo + 1, none⟩ = some v1 ∧ W.cell? ⟨bb, oo + 2, none⟩ = some (.int .i8 k2) ∧ W.cell? ⟨bb, oo + 2 + 1, none⟩ = some v2 := by
  have hlt := Ty.cell_lt h1
  simp only [Nat.zero_mul, Nat.add_zero, Nat.zero_add, Nat.one_mul] at h1 h2 h3 h4
  exact ⟨by rw [(bcell hb).1 _ _ hlt]; exact h1, by rw [(bcell hb).1 _ _ hlt]; exact h2, by rw [(bcell hb).1 _ _ hlt]; exact h3, by rw [(bcell hb).1 _ _ hlt]; exact h4⟩

/-- a kid is written, in a later world -/
def KidW (w0 : World) (b : Nat) (k : Int) (kids : Fo) (A : Option Addr) (c : Nat) (least : Int) : Prop :=
  ∀ (W : World) (l : List UInt8), Below w0.heap.size w0 W → Bld w0.heap.size b l W → l.length + (Ty.txt k kids least).length ≤ 1000000000 →
    Calls Tryz.prog 77 #[.pointer (some ⟨b, 0, none⟩), .agg #[.int .i8 k, .slice A (Ty.len kids) c], .int .i64 least] W (WroteTxt w0.heap.size b l (Ty.txt k kids least) W)
theorem ownsF_low {w : World} {B B' : Nat} {e : TypeId} {v : Value} {n : Nat} {xs : List Value} (h : w.ownsRowF B e 1 v n xs) (hB : B' ≤ B) : w.ownsRowF B' e 1 v n xs := by
  refine ⟨h.1, ?_⟩
  rcases h.2 with h | ⟨g, cap, cur, fz, h1, h2, h3⟩
  · exact .inl h
  · exact .inr ⟨g, cap, cur, fz, h1, by omega, h3⟩
/-- a base may be lowered -/
theorem bld_low {B B' b : Nat} {w : World} (h : Lib.IsBuilderF 37 5 B b [] w) (hB : B' ≤ B) : Bld B' b [] w := by
  rcases h with ⟨h1, v, h2, h3, h4⟩ | ⟨h1, v, h2, h3, h4⟩
  · exact .inl ⟨by omega, v, h2, ownsF_low h3 hB, h4⟩
  · exact .inr ⟨by omega, v, h2, ownsF_low h3 hB, h4⟩
end Go.Proofs.YtdeomggkhbdkaaaGreatDoor
