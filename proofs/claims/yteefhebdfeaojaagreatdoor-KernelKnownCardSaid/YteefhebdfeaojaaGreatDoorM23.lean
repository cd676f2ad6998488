/-
  errors.As at a target of type **api.Fault, where the error is a *api.Fault: true, and the target holds it. errors.Is of a *api.Fault and its own number: true. errors.Is of a *api.Fault and any number: whether it is its own.
-/
import Derived.Test.YteefhebdfeaojaaGreatDoorWord
import Derived.LaidEql
import Derived.Stop.Asserts
import Derived.RowKitTokens
namespace Go.Proofs.YteefhebdfeaojaaGreatDoor
open Go.RowKit Go.Extern.Stop Go.Stop Go.Extern

end Go.Proofs.YteefhebdfeaojaaGreatDoor
namespace Go.Proofs.YteefhebdfeaojaaGreatDoor
open Go.RowKit Go.Extern.Stop Go.Stop Go.Extern

/-- two interface values of one integer type are the same just if the numbers are -/
theorem eql_errno (a b : Int) (w : World) : (binOp .eql 38 (.iface 30 (.int .i64 a)) (.iface 30 (.int .i64 b))).run Tryz.prog w = .ok (.bool (a == b)) w := by
  obtain ⟨i, hi, hc⟩ := Option.map_eq_some_iff.1 (show (Tryz.prog.info? 30).map (·.comparable) = some true by kernel_rfl)
  have h : ∀ d : Nat, (Op.equalIn (d + 2) 38 (.iface 30 (.int .i64 a)) (.iface 30 (.int .i64 b))).run Tryz.prog w = .ok (a == b) w := fun d => by
    simp [Op.equalIn, run_underlying Tryz.underlying38, run_underlying Tryz.underlying30, typeInfo, hi, hc]
  simp only [binOp]
  simp [Op.equal, Op.maxDepth, h 9998]

theorem is_typeOf (v : Value) (w : World) : (ReflectliteType.typeOf #[.iface 30 v]).run Tryz.prog w = .ok (.iface 110 (.agg #[.pointer (some ⟨8, 30, none⟩)])) w := by kernel_rfl
theorem is_comparable (w : World) : ((ReflectliteType.method fun t => do Rtype.noPackHeld "Comparable" t; (fun a => Value.bool a.comparable) <$> typeInfo t) #[.agg #[.pointer (some ⟨8, 30, none⟩)]]).run Tryz.prog w = .ok (.bool true) w := by kernel_rfl
theorem is_mComparable (v : Value) (w : World) : (Go.method 311 110 v "Comparable").run Tryz.prog w = .ok (138, v) w := by kernel_rfl
theorem is_noIs (v : Value) (xT : TypeId) (w : World) : (Instr.typeAssert (.iface 54 v) xT 112 true).run Tryz.prog w = .ok (.tuple #[.nilIface, .bool false]) w := run_typeAssert_lacksB Tryz.underlying112 (by kernel_rfl) (by kernel_rfl) v xT w
theorem is_unwrap (v : Value) (xT : TypeId) (w : World) : (Instr.typeAssert (.iface 54 v) xT 115 true).run Tryz.prog w = .ok (.tuple #[.iface 54 v, .bool true]) w := run_typeAssert_hasB Tryz.underlying115 (by kernel_rfl) v xT w
theorem is_mUnwrap (v : Value) (w : World) : (Go.method 311 54 v "Unwrap").run Tryz.prog w = .ok (134, v) w := by kernel_rfl
theorem is_types (e : Addr) (c : Int) (w : World) : (binOp .eql 38 (.iface 54 (.pointer (some e))) (.iface 30 (.int .i64 c))).run Tryz.prog w = .ok (.bool false) w :=
  run_eql_iface_types _ _ _ _ Tryz.underlying38 (by decide) w

set_option maxHeartbeats 1000000 in
theorem unwrap_any (e : Nat) (c : Int) (w : World) (hc : w.cell? ⟨e, 0, none⟩ = some (.int .i64 c)) :
    Calls Tryz.prog 134 #[.pointer (some ⟨e, 0, none⟩)] w fun ev w' => ev = .returned (.iface 30 (.int .i64 c)) ∧ w = w' := by
  go_enter Tryz.func134, Tryz.ntmps134
  go_wp2
  go_ret
  exact ⟨rfl, rfl⟩

end Go.Proofs.YteefhebdfeaojaaGreatDoor
namespace Go.Proofs.YteefhebdfeaojaaGreatDoor
open Go.RowKit Go.Extern.Stop Go.Stop Go.Extern
theorem is_noIs2 (v : Value) (xT : TypeId) (w : World) : (Instr.typeAssert (.iface 30 v) xT 112 true).run Tryz.prog w = .ok (.tuple #[.nilIface, .bool false]) w := run_typeAssert_lacksB Tryz.underlying112 (by kernel_rfl) (by kernel_rfl) v xT w
theorem is_noUnwrap2 (v : Value) (xT : TypeId) (w : World) : (Instr.typeAssert (.iface 30 v) xT 115 true).run Tryz.prog w = .ok (.tuple #[.nilIface, .bool false]) w := run_typeAssert_lacksB Tryz.underlying115 (by kernel_rfl) (by kernel_rfl) v xT w
theorem is_noUnwraps2 (v : Value) (xT : TypeId) (w : World) : (Instr.typeAssert (.iface 30 v) xT 117 true).run Tryz.prog w = .ok (.tuple #[.nilIface, .bool false]) w := run_typeAssert_lacksB Tryz.underlying117 (by kernel_rfl) (by kernel_rfl) v xT w

set_option maxHeartbeats 1000000 in
theorem is_inner2 (e : Nat) (c d : Int) (w : World) (hc : w.cell? ⟨e, 0, none⟩ = some (.int .i64 c)) :
    Calls Tryz.prog 45 #[.iface 54 (.pointer (some ⟨e, 0, none⟩)), .iface 30 (.int .i64 d), .bool true] w fun ev w' => ev = .returned (.bool (c == d)) ∧ w = w' := by
  have h1 := is_noIs (.pointer (some ⟨e, 0, none⟩))
  have h2 := is_unwrap (.pointer (some ⟨e, 0, none⟩))
  have h3 := is_mUnwrap (.pointer (some ⟨e, 0, none⟩))
  have h4 := is_types ⟨e, 0, none⟩ d w
  have h5 := eql_errno c d w
  have h6 := is_noIs2 (.int .i64 c)
  have h7 := is_noUnwrap2 (.int .i64 c)
  have h8 := is_noUnwraps2 (.int .i64 c)
  generalize (c == d) = b at *
  cases b
  · go_enter Tryz.func45, Tryz.ntmps45
    go_wp2_with fail
    refine wp_loop_rounds 2 ?_
    rw [rounds_succ]
    go_wp2_with (go_at_call 134; refine (unwrap_any e c _ hc).mono ?_; rintro ev w' ⟨rfl, rfl⟩)
    rw [rounds_succ]
    go_wp2_with fail
    go_ret
    exact ⟨rfl, rfl⟩
  · go_enter Tryz.func45, Tryz.ntmps45
    go_wp2_with fail
    refine wp_loop_rounds 2 ?_
    rw [rounds_succ]
    go_wp2_with (go_at_call 134; refine (unwrap_any e c _ hc).mono ?_; rintro ev w' ⟨rfl, rfl⟩)
    rw [rounds_succ]
    go_wp2_with fail
    go_ret
    exact ⟨rfl, rfl⟩

set_option maxHeartbeats 1000000 in
theorem is_any (e : Nat) (c d : Int) (w : World) (hc : w.cell? ⟨e, 0, none⟩ = some (.int .i64 c)) :
    Calls Tryz.prog 24 #[.iface 54 (.pointer (some ⟨e, 0, none⟩)), .iface 30 (.int .i64 d)] w fun ev w' => ev = .returned (.bool (c == d)) ∧ w = w' := by
  have t1 := @run_callFunc_extern Tryz.prog 44 _ ReflectliteType.typeOf Tryz.func44 (by kernel_rfl) (by kernel_rfl) (by kernel_rfl) (by kernel_rfl)
  have t2 := @run_callFunc_extern Tryz.prog 138 _ (ReflectliteType.method fun t => do Rtype.noPackHeld "Comparable" t; pure (.bool (← typeInfo t).comparable)) Tryz.func138 (by kernel_rfl) (by kernel_rfl) (by kernel_rfl) (by kernel_rfl)
  have t3 := is_typeOf
  have t4 := is_comparable
  have t5 := is_mComparable
  go_enter Tryz.func24, Tryz.ntmps24
  go_wp2_with (go_at_call 45; refine (is_inner2 e c d _ hc).mono ?_; rintro ev w' ⟨rfl, rfl⟩)
  go_ret
  exact ⟨rfl, rfl⟩
end Go.Proofs.YteefhebdfeaojaaGreatDoor
