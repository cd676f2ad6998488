/-
  Layer 13: the number of what went wrong.
-/
import Derived.Test.YteefhebdfeaojaaGreatDoorM19
import Derived.Test.YteefhebdfeaojaaGreatDoorM23
namespace Go.Proofs.YteefhebdfeaojaaGreatDoor
open Go.RowKit
set_option maxHeartbeats 1000000 in
set_option maxRecDepth 100000 in
theorem knumber_nil (w : World) : Calls Tryz.prog 13 #[.nilIface] w fun e w' => e = .returned (.int .i64 0) ∧ w = w' := by
  go_enter Tryz.func13, Tryz.ntmps13
  go_wp2_with fail
  go_ret
  exact ⟨rfl, rfl⟩
theorem knix (i : Nat) (hi : i = 0 ∨ i = 1 ∨ i = 2) (w : World) : (Instr.index 58 (.agg #[.int .i64 30, .int .i64 31, .int .i64 32]) (.int .i64 i)).run Tryz.prog w = .ok (.int .i64 (30 + (i : Int))) w := by
  rcases hi with rfl | rfl | rfl <;> kernel_rfl
set_option maxHeartbeats 4000000 in
set_option maxRecDepth 100000 in
theorem knumber_any (g : Nat) (E : Int) (w : World) (hc : w.cell? ⟨g, 0, none⟩ = some (.int .i64 E)) : Calls Tryz.prog 13 #[.iface 54 (.pointer (some ⟨g, 0, none⟩))] w fun e w' => e = .returned (.int .i64 (Kn.num E)) ∧ w = w' := by
  have CI := Lib.hid (fun d : Int => is_any g E d w hc)
  clear hc
  have HN := Lib.hid (show Kn.num E = if (E == 30) = true then 30 else if (E == 31) = true then 31 else if (E == 32) = true then 32 else 130 from by
    unfold Kn.num
    simp only [beq_iff_eq]
    by_cases h0 : E = 30
    · rw [if_pos (.inl h0), if_pos h0]; exact h0
    · rw [if_neg h0]
      by_cases h1 : E = 31
      · rw [if_pos (.inr (.inr h1)), if_pos h1]; exact h1
      · rw [if_neg h1]
        by_cases h2 : E = 32
        · rw [if_pos (.inr (.inl h2)), if_pos h2]; exact h2
        · rw [if_neg h2, if_neg (by rintro (h | h | h) <;> contradiction)])
  have C0 := Lib.hid (CI.out 30)
  have C1 := Lib.hid (CI.out 31)
  have C2 := Lib.hid (CI.out 32)
  generalize hR : Kn.num E = R at *
  clear CI hR
  have x0 : (Instr.index 58 (.agg #[.int .i64 30, .int .i64 31, .int .i64 32]) (.int .i64 0)).run Tryz.prog w = .ok (.int .i64 30) w := knix 0 (.inl rfl) w
  have x1 : (Instr.index 58 (.agg #[.int .i64 30, .int .i64 31, .int .i64 32]) (.int .i64 1)).run Tryz.prog w = .ok (.int .i64 31) w := knix 1 (.inr (.inl rfl)) w
  have x2 : (Instr.index 58 (.agg #[.int .i64 30, .int .i64 31, .int .i64 32]) (.int .i64 2)).run Tryz.prog w = .ok (.int .i64 32) w := knix 2 (.inr (.inr rfl)) w
  generalize (E == 30) = b0 at *
  generalize (E == 31) = b1 at *
  generalize (E == 32) = b2 at *
  have h := HN.out
  clear HN
  cases b0 <;> cases b1 <;> cases b2
  all_goals
    simp only [if_true, if_false, Bool.false_eq_true] at h
    subst h
    go_enter Tryz.func13, Tryz.ntmps13
    go_wp2_with fail
    refine wp_loop_rounds 4 ?_
    rw [rounds_succ]
    go_wp2_with fail
    refine C0.out.mono ?_
    rintro ev w' ⟨rfl, rfl⟩
    go_wp2_with fail
    first
      | (go_ret; exact ⟨rfl, rfl⟩)
      | (rw [rounds_succ]
         go_wp2_with fail
         refine C1.out.mono ?_
         rintro ev w' ⟨rfl, rfl⟩
         go_wp2_with fail
         first
           | (go_ret; exact ⟨rfl, rfl⟩)
           | (rw [rounds_succ]
              go_wp2_with fail
              refine C2.out.mono ?_
              rintro ev w' ⟨rfl, rfl⟩
              go_wp2_with fail
              first
                | (go_ret; exact ⟨rfl, rfl⟩)
                | (rw [rounds_succ]
                   go_wp2_with fail
                   go_ret
                   exact ⟨rfl, rfl⟩)))
end Go.Proofs.YteefhebdfeaojaaGreatDoor
