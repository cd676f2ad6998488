/-
  The reader: how tightly the parts bind; the atom; as much as binds so tightly.
-/
import Derived.Test.YtkpdddlonmkebaaDoorRd5
namespace Go.Proofs.YtkpdddlonmkebaaDoor
open Go.RowKit Rd

set_option maxHeartbeats 1000000 in
theorem needsR_any (k : Int) (hk : k = 3 ∨ k = 4 ∨ k = 5) (w : World) (hS : Shapes w) :
    ∃ lf : Int, Calls Tryd.prog 36 #[.int .i8 k] w fun e w' => e = .returned (.tuple #[.int .i64 lf, .int .i64 (Rd.rgt k)]) ∧ w' = w := by
  obtain ⟨hs1, hs2⟩ := hS
  have s15 := hs2 15 _ rfl
  have s19 := hs2 19 _ rfl
  have s23 := hs2 23 _ rfl
  clear hs2
  rcases hk with rfl | rfl | rfl
  · refine ⟨2, ?_⟩
    go_enter Tryd.func36, Tryd.ntmps36
    go_wp2_with fail
    go_ret2
    exact ⟨rfl, rfl⟩
  · refine ⟨3, ?_⟩
    go_enter Tryd.func36, Tryd.ntmps36
    go_wp2_with fail
    go_ret2
    exact ⟨rfl, rfl⟩
  · refine ⟨2, ?_⟩
    go_enter Tryd.func36, Tryd.ntmps36
    go_wp2_with fail
    go_ret2
    exact ⟨rfl, rfl⟩

theorem atom_any (l : List W4) (A : Option Addr) (c rb i : Nat) (w : World) (h : RdS l A c rb w i)
    (hw : Rd.sees l i 4 [40] = true → ∀ W : World, RdS l A c rb W (i + 1) → Calls Tryd.prog 20 #[.pointer (some ⟨rb, 0, none⟩), .int .i64 1] W (RPost l A c rb W (.wh 1 (i + 1)))) :
    Calls Tryd.prog 34 #[.pointer (some ⟨rb, 0, none⟩)] w (RPost l A c rb w (.one i)) := by
  cases hb : Rd.sees l i 4 [40] with
  | true => exact atom_br l A c rb i w h hb (hw hb)
  | false => exact atom_word l A c rb i w h hb
end Go.Proofs.YtkpdddlonmkebaaDoor
