/-
  The law's Words: two rows of the same words are the same.
-/
import Derived.Test.YtjngdhbaobbaeaaDoorAll
namespace Go.Proofs.YtjngdhbaobbaeaaDoor
open Go.RowKit

/-- the four cells of word k stand at block g from cell 4k on -/
def Sc.HasWords (w : World) (g : Nat) (l : List Sc.Wd) (n : Nat) : Prop :=
  ∀ k x, k < n → l[k]? = some x → w.cell? ⟨g, k * 4, none⟩ = some (.int .i8 x.1) ∧ w.cell? ⟨g, k * 4 + 1, none⟩ = some (.string x.2.1) ∧ w.cell? ⟨g, k * 4 + 2, none⟩ = some (.int .i64 x.2.2.1) ∧ w.cell? ⟨g, k * 4 + 3, none⟩ = some (.int .i64 x.2.2.2)

set_option maxHeartbeats 1000000 in
set_option maxRecDepth 100000 in
theorem words_same (l : List Sc.Wd) (n g1 g2 c1 c2 : Nat) (w : World) (hn : n ≤ l.length) (hm : n ≤ 65537) (h1 : Sc.HasWords w g1 l n) (h2 : Sc.HasWords w g2 l n) :
    Calls Tryd.prog 11 #[.slice (some ⟨g1, 0, none⟩) n c1, .slice (some ⟨g2, 0, none⟩) n c2] w fun e w' => e = .returned (.bool true) ∧ ∃ m, w' = w.drewN m := by
  have H1 := Lib.hid h1
  have H2 := Lib.hid h2
  clear h1 h2
  go_enter Tryd.func11, Tryd.ntmps11
  go_wp2_with fail
  go_loopw [13] (fun i wr => ∃ k m : Nat, k ≤ n ∧ i = .int .i64 k ∧ wr = w.drewN m) (fun i _ => n - (intOf i).toNat)
  case atStart => exact ⟨0, 0, Nat.zero_le _, rfl, rfl⟩
  case round =>
    obtain ⟨k, m, hk, rfl, rfl⟩ := hrel
    by_cases hlt : k < n
    · obtain ⟨x, hx⟩ : ∃ x, l[k]? = some x := ⟨l[k]'(by omega), List.getElem?_eq_getElem (by omega)⟩
      obtain ⟨a0, a1, a2, a3⟩ := H1.out k x hlt hx
      obtain ⟨b0, b1, b2, b3⟩ := H2.out k x hlt hx
      clear hx
      obtain ⟨x0, x1, x2, x3⟩ := x
      have j1 : (k : Int) < n := by omega
      have j0 : (0 : Int) ≤ k := by omega
      go_wp2_with fail
      go_quiet (fail)
      go_wp2_with fail
      go_roundw
      case rel => exact ⟨k + 1, m + nq, by omega, by go_num, by first | rfl | exact World.drewN_drewN _ _ _⟩
      case measure => simp [intOf]; omega
    · go_wp2_with fail
      go_ret
      exact ⟨rfl, _, rfl⟩
end Go.Proofs.YtjngdhbaobbaeaaDoor
