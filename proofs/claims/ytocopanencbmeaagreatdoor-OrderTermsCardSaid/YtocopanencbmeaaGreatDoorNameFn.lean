/-
  scan.Name.
-/
import Derived.Test.YtocopanencbmeaaGreatDoorScanT
namespace Go.Proofs.YtocopanencbmeaaGreatDoor
open Go.RowKit

set_option maxHeartbeats 1000000 in
set_option maxRecDepth 100000 in
theorem scan_Name_of (s : ByteArray) (k v er : Int) (n : Nat) (w : World) (b1 b2 b3 : Bool) (h1 : (er == 0) = b1) (h2 : (k == 1) = b2) (h3 : ((s.extract 0 n).toList == s.toList) = b3)
    (he : s.toList.isEmpty = false)
    (hF : ∀ w1 : World, Below w.heap.size w w1 → Calls Tryz.prog 63 #[.string s] w1 fun e w' => e = .returned (.tuple #[.agg #[.int .i8 k, .string (s.extract 0 n), .int .i64 v, .int .i64 0], .int .i64 er]) ∧ Below w1.heap.size w1 w') :
    Calls Tryz.prog 50 #[.string s] w fun e w' => e = .returned (.bool (b1 && b2 && b3)) ∧ Below w.heap.size w w' := by
  have he2 : (s.toList == []) = false := by cases hq : s.toList <;> simp_all
  cases b1 <;> cases b2 <;> cases b3
  all_goals
    go_enter Tryz.func50, Tryz.ntmps50
    go_wp2_with (go_at_call 63; refine (hF _ (Below.refl _ _)).mono ?_; rintro e w1 ⟨rfl, hb⟩)
    go_ret
    exact ⟨rfl, hb.alloc hb.size _⟩

theorem scan_Name_any (s : ByteArray) (hs : s.size ≤ 281474976710656) (w : World) (tp : TypeId) (p : Value) (hvar : w.var? Tryz.prog "strconv.ErrRange" = some #[.iface tp p]) :
    Calls Tryz.prog 50 #[.string s] w fun e w' => e = .returned (.bool (Sc.isName s)) ∧ Below w.heap.size w w' := by
  by_cases h0 : s.size = 0
  · have hn : Sc.isName s = false := by unfold Sc.isName; rw [if_pos h0]
    have he : s.toList = [] := by rw [Lib.toList_data]; apply List.eq_nil_of_length_eq_zero; rw [Sc.data_len]; exact h0
    rw [hn]
    clear h0 hn
    have he1 : s.toList.isEmpty = true := by rw [he]; rfl
    clear he
    go_enter Tryz.func50, Tryz.ntmps50
    go_wp2_with fail
    go_ret
    exact ⟨rfl, Below.refl _ _⟩
  · have h1 : 0 < s.size := by omega
    have he : s.toList.isEmpty = false := by
      rw [Lib.toList_data]
      have := Sc.data_len s
      cases hq : s.data.toList with
      | nil => rw [hq] at this; simp at this; omega
      | cons a l => rfl
    have hle := Sc.fN_le s h1
    have := scan_Name_of s (Sc.fK s) (Sc.fV s) (Sc.fE s) (Sc.fN s) w _ _ _ rfl rfl rfl he fun w1 hb => first_any s hs h1 w1 tp p (var_at hb hvar)
    have e : Sc.isName s = ((Sc.fE s == 0) && (Sc.fK s == 1) && ((s.extract 0 (Sc.fN s)).toList == s.toList)) := by
      unfold Sc.isName
      rw [if_neg h0, Sc.extract_beq s _ hle]
      rfl
    rw [e]
    exact this
end Go.Proofs.YtocopanencbmeaaGreatDoor
