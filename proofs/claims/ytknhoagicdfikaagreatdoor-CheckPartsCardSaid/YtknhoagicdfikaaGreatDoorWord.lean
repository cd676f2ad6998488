/-
  scan.word, strings.Clone.
-/
import Derived.Test.YtknhoagicdfikaaGreatDoorLeaf
import Derived.Test.YtknhoagicdfikaaGreatDoorM2
import Derived.Test.YtknhoagicdfikaaGreatDoorShelf
namespace Go.Proofs.YtknhoagicdfikaaGreatDoor
open Go.RowKit


theorem below_set4 {B b : Nat} {w w1 : World} (hb : Below B w w1) (h : B ≤ b) (v0 v1 v2 v3 : Value) :
    Below B w ((((w1.setCell ⟨b, 0, none⟩ v0).setCell ⟨b, 1, none⟩ v1).setCell ⟨b, 2, none⟩ v2).setCell ⟨b, 3, none⟩ v3) :=
  (((hb.setCell h v0).setCell h v1).setCell h v2).setCell h v3


set_option maxHeartbeats 400000 in
theorem clone_any (s : ByteArray) (hs : s.size ≤ 281474976710656) (w : World) :
    Calls Tryz.prog 87 #[.string s] w fun e w' => e = .returned (.string s) ∧ Below w.heap.size w w' := by
  go_enter Tryz.func87, Tryz.ntmps87
  go_wp2_with (go_at_call 94; refine (Tryz.stringslite_Clone s _ hs).mono ?_; rintro e w' ⟨rfl, hb⟩)
  go_ret
  exact ⟨rfl, hb⟩

set_option maxHeartbeats 400000 in
theorem word_any (k : Int) (s : ByteArray) (hs : s.size ≤ 281474976710656) (w : World) :
    Calls Tryz.prog 101 #[.int .i8 k, .string s] w fun e w' => e = .returned (.agg #[.int .i8 k, .string s, .int .i64 0, .int .i64 0]) ∧ Below w.heap.size w w' := by
  go_enter Tryz.func101, Tryz.ntmps101
  go_wp2_with (go_at_call 87; refine (clone_any s hs _).mono ?_; rintro e w' ⟨rfl, hb⟩; obtain ⟨hc, hf⟩ := bcell hb)
  refine bodyPost_ret (v := .agg #[.int .i8 k, .string s, .int .i64 0, .int .i64 0]) (by simp [results, Tryz.results101, go_sem, hc]) rfl ⟨rfl, ?_⟩
  exact below_set4 (((Below.refl _ _).alloc (Nat.le_refl _) _).trans (hb.mono (by simp))) (Nat.le_refl _) _ _ _ _
end Go.Proofs.YtknhoagicdfikaaGreatDoor
