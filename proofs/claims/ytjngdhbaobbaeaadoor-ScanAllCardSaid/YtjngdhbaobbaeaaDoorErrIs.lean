/-
  errors.Is of a *api.Fault and its own number: true.
-/
import Derived.Test.YtjngdhbaobbaeaaDoorErrAs
namespace Go.Proofs.YtjngdhbaobbaeaaDoor
open Go.RowKit Go.Extern.Stop Go.Stop Go.Extern

/-- two interface values of one integer type are the same just if the numbers are -/
theorem eql_errno (a b : Int) (w : World) : (binOp .eql 24 (.iface 27 (.int .i64 a)) (.iface 27 (.int .i64 b))).run Tryd.prog w = .ok (.bool (a == b)) w := by
  obtain ⟨i, hi, hc⟩ := Option.map_eq_some_iff.1 (show (Tryd.prog.info? 27).map (·.comparable) = some true by kernel_rfl)
  have h : ∀ d : Nat, (Op.equalIn (d + 2) 24 (.iface 27 (.int .i64 a)) (.iface 27 (.int .i64 b))).run Tryd.prog w = .ok (a == b) w := fun d => by
    simp [Op.equalIn, run_underlying Tryd.underlying24, run_underlying Tryd.underlying27, typeInfo, hi, hc]
  simp only [binOp]
  simp [Op.equal, Op.maxDepth, h 9998]

theorem is_typeOf (v : Value) (w : World) : (ReflectliteType.typeOf #[.iface 27 v]).run Tryd.prog w = .ok (.iface 88 (.agg #[.pointer (some ⟨7, 27, none⟩)])) w := by kernel_rfl
theorem is_comparable (w : World) : ((ReflectliteType.method fun t => do Rtype.noPackHeld "Comparable" t; (fun a => Value.bool a.comparable) <$> typeInfo t) #[.agg #[.pointer (some ⟨7, 27, none⟩)]]).run Tryd.prog w = .ok (.bool true) w := by kernel_rfl
theorem is_mComparable (v : Value) (w : World) : (Go.method 263 88 v "Comparable").run Tryd.prog w = .ok (108, v) w := by kernel_rfl
theorem is_noIs (v : Value) (xT : TypeId) (w : World) : (Instr.typeAssert (.iface 42 v) xT 100 true).run Tryd.prog w = .ok (.tuple #[.nilIface, .bool false]) w := run_typeAssert_lacksB Tryd.underlying100 (by kernel_rfl) (by kernel_rfl) v xT w
theorem is_unwrap (v : Value) (xT : TypeId) (w : World) : (Instr.typeAssert (.iface 42 v) xT 95 true).run Tryd.prog w = .ok (.tuple #[.iface 42 v, .bool true]) w := run_typeAssert_hasB Tryd.underlying95 (by kernel_rfl) v xT w
theorem is_mUnwrap (v : Value) (w : World) : (Go.method 263 42 v "Unwrap").run Tryd.prog w = .ok (102, v) w := by kernel_rfl
theorem is_types (e : Addr) (c : Int) (w : World) : (binOp .eql 24 (.iface 42 (.pointer (some e))) (.iface 27 (.int .i64 c))).run Tryd.prog w = .ok (.bool false) w :=
  run_eql_iface_types _ _ _ _ Tryd.underlying24 (by decide) w

set_option maxHeartbeats 1000000 in
theorem unwrap_any (e : Nat) (c : Int) (w : World) (hc : w.cell? ⟨e, 0, none⟩ = some (.int .i64 c)) :
    Calls Tryd.prog 102 #[.pointer (some ⟨e, 0, none⟩)] w fun ev w' => ev = .returned (.iface 27 (.int .i64 c)) ∧ w = w' := by
  go_enter Tryd.func102, Tryd.ntmps102
  go_wp2
  go_ret
  exact ⟨rfl, rfl⟩

set_option maxHeartbeats 1000000 in
theorem is_inner (e : Nat) (c : Int) (w : World) (hc : w.cell? ⟨e, 0, none⟩ = some (.int .i64 c)) :
    Calls Tryd.prog 49 #[.iface 42 (.pointer (some ⟨e, 0, none⟩)), .iface 27 (.int .i64 c), .bool true] w fun ev w' => ev = .returned (.bool true) ∧ w = w' := by
  have h1 := is_noIs (.pointer (some ⟨e, 0, none⟩))
  have h2 := is_unwrap (.pointer (some ⟨e, 0, none⟩))
  have h3 := is_mUnwrap (.pointer (some ⟨e, 0, none⟩))
  have h4 := is_types ⟨e, 0, none⟩ c w
  have h5 := eql_errno c c w
  have h6 : (c == c) = true := by simp
  rw [h6] at h5
  go_enter Tryd.func49, Tryd.ntmps49
  go_wp2_with fail
  refine wp_loop_rounds 2 ?_
  rw [rounds_succ]
  go_wp2_with (go_at_call 102; refine (unwrap_any e c _ hc).mono ?_; rintro ev w' ⟨rfl, rfl⟩)
  rw [rounds_succ]
  go_wp2_with fail
  go_ret
  exact ⟨rfl, rfl⟩

set_option maxHeartbeats 1000000 in
theorem is_own (e : Nat) (c : Int) (w : World) (hc : w.cell? ⟨e, 0, none⟩ = some (.int .i64 c)) :
    Calls Tryd.prog 38 #[.iface 42 (.pointer (some ⟨e, 0, none⟩)), .iface 27 (.int .i64 c)] w fun ev w' => ev = .returned (.bool true) ∧ w = w' := by
  have t1 := @run_callFunc_extern Tryd.prog 48 _ ReflectliteType.typeOf Tryd.func48 (by kernel_rfl) (by kernel_rfl) (by kernel_rfl) (by kernel_rfl)
  have t2 := @run_callFunc_extern Tryd.prog 108 _ (ReflectliteType.method fun t => do Rtype.noPackHeld "Comparable" t; pure (.bool (← typeInfo t).comparable)) Tryd.func108 (by kernel_rfl) (by kernel_rfl) (by kernel_rfl) (by kernel_rfl)
  have t3 := is_typeOf
  have t4 := is_comparable
  have t5 := is_mComparable
  go_enter Tryd.func38, Tryd.ntmps38
  go_wp2_with (go_at_call 49; refine (is_inner e c _ hc).mono ?_; rintro ev w' ⟨rfl, rfl⟩)
  go_ret
  exact ⟨rfl, rfl⟩
end Go.Proofs.YtjngdhbaobbaeaaDoor
