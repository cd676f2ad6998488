import Derived.LaidEql
import Derived.Stop.Asserts
import Derived.RowKitTokens
import Derived.WalkKit
import Derived.WalkSpells
import Derived.WalkLawsBesides
import Derived.Lib.Hide
import Derived.Deep.QuietTactic
import Derived.BigQuiet
import Derived.Test.YtekeoilmfbcefaaGreatDoorChecked
import Derived.Below
import Derived.OwnWalk
import Derived.Laws.AppendOwn
import Derived.Deep.AppendLies
import Derived.Test.YtekeoilmfbcefaaGreatDoorRows
import Derived.Shelf.Small.Utf8
import Derived.Shelf.Small.Strs
import Derived.Shelf.LaysM
import Derived.Shelf.Strconv.Clone
import Derived.Shelf.LaysC
import Derived.Shelf.Strconv.Lower
import Derived.Shelf.Strconv.ParseUint10
import Derived.Shelf.Strconv.ParseUint10Empty
import Derived.Shelf.Strconv.ParseUint10Any
import Derived.Shelf.Strconv.ParseInt10
import Derived.Shelf.Strconv.RangeError
import Derived.Shelf.Strconv.ParseUintEmpty
import Derived.Shelf.Strconv.ParseInt10At64
import Derived.Shelf.Strconv.ParseInt10All
import Derived.Shelf.Strconv.ParseIntPublic10
import Derived.Shelf.Strconv.ErrVarParseInt
import Derived.Shelf.Strings.Search1
import Derived.Shelf.Strings.Prefix
import Derived.Shelf.Strings.Runes
import Derived.Test.YtekeoilmfbcefaaGreatDoorProg
import Derived.Test.YtekeoilmfbcefaaGreatDoorWord
namespace Go.Proofs.YtekeoilmfbcefaaGreatDoor
open Go.RowKit
theorem zFT {P : Prop} (h : P := by
 go_enter Tryz.func42, Tryz.ntmps42
 go_wp2_with fail
 refine wp_loop_rounds 2 ?_
 rw [rounds_succ]
 go_wp2_with (go_at_call 177; refine (uh e c _ hc).mono ?_; rintro ev w' ⟨rfl, rfl⟩)
 rw [rounds_succ]
 go_wp2_with fail
 go_ret
 exact ⟨rfl, rfl⟩) : P := h
end Go.Proofs.YtekeoilmfbcefaaGreatDoor
namespace Go.Proofs.YtekeoilmfbcefaaGreatDoor
open Go.RowKit Go.Extern.Stop Go.Stop Go.Extern
theorem zBn (a b : Int) (w : World) : (binOp .eql 35 (.iface 29 (.int .i64 a)) (.iface 29 (.int .i64 b))).run Tryz.prog w = .ok (.bool (a == b)) w := by
 obtain ⟨i, hi, hc⟩ := Option.map_eq_some_iff.1 (show (Tryz.prog.info? 29).map (·.comparable) = some true by kernel_rfl)
 have h : ∀ d : Nat, (Op.equalIn (d + 2) 35 (.iface 29 (.int .i64 a)) (.iface 29 (.int .i64 b))).run Tryz.prog w = .ok (a == b) w := fun d => by
  simp [Op.equalIn, run_underlying Tryz.underlying35, run_underlying Tryz.underlying29, typeInfo, hi, hc]
 simp only [binOp]
 simp [Op.equal, Op.maxDepth, h 9998]
theorem zBi (v : Value) (w : World) : (ReflectliteType.typeOf #[.iface 29 v]).run Tryz.prog w = .ok (.iface 103 (.agg #[.pointer (some ⟨8, 29, none⟩)])) w := by kernel_rfl
theorem yh (w : World) : ((ReflectliteType.method fun t => do Rtype.noPackHeld "Comparable" t; (fun a => Value.bool a.comparable) <$> typeInfo t) #[.agg #[.pointer (some ⟨8, 29, none⟩)]]).run Tryz.prog w = .ok (.bool true) w := by kernel_rfl
theorem yH (v : Value) (w : World) : (Go.method 335 103 v "Comparable").run Tryz.prog w = .ok (181, v) w := by kernel_rfl
theorem zDn (v : Value) (xT : TypeId) (w : World) : (Instr.typeAssert (.iface 52 v) xT 105 true).run Tryz.prog w = .ok (.tuple #[.nilIface, .bool false]) w := run_typeAssert_lacksB Tryz.underlying105 (by kernel_rfl) (by kernel_rfl) v xT w
theorem zBh (v : Value) (xT : TypeId) (w : World) : (Instr.typeAssert (.iface 52 v) xT 108 true).run Tryz.prog w = .ok (.tuple #[.iface 52 v, .bool true]) w := run_typeAssert_hasB Tryz.underlying108 (by kernel_rfl) v xT w
theorem zAS (v : Value) (w : World) : (Go.method 335 52 v "Unwrap").run Tryz.prog w = .ok (177, v) w := by kernel_rfl
theorem zD6 (e : Addr) (c : Int) (w : World) : (binOp .eql 35 (.iface 52 (.pointer (some e))) (.iface 29 (.int .i64 c))).run Tryz.prog w = .ok (.bool false) w :=
 run_eql_iface_types _ _ _ _ Tryz.underlying35 (by decide) w
set_option maxHeartbeats 1000000 in
theorem uh (e : Nat) (c : Int) (w : World) (hc : w.cell? ⟨e, 0, none⟩ = some (.int .i64 c)) :
  Calls Tryz.prog 177 #[.pointer (some ⟨e, 0, none⟩)] w fun ev w' => ev = .returned (.iface 29 (.int .i64 c)) ∧ w = w' := by
 go_enter Tryz.func177, Tryz.ntmps177
 go_wp2
 go_ret
 exact ⟨rfl, rfl⟩
end Go.Proofs.YtekeoilmfbcefaaGreatDoor
namespace Go.Proofs.YtekeoilmfbcefaaGreatDoor
set_option maxHeartbeats 1000000
open Go.RowKit Go.Extern.Stop Go.Stop Go.Extern
theorem zD7 (v : Value) (xT : TypeId) (w : World) : (Instr.typeAssert (.iface 29 v) xT 105 true).run Tryz.prog w = .ok (.tuple #[.nilIface, .bool false]) w := run_typeAssert_lacksB Tryz.underlying105 (by kernel_rfl) (by kernel_rfl) v xT w
theorem wF (v : Value) (xT : TypeId) (w : World) : (Instr.typeAssert (.iface 29 v) xT 108 true).run Tryz.prog w = .ok (.tuple #[.nilIface, .bool false]) w := run_typeAssert_lacksB Tryz.underlying108 (by kernel_rfl) (by kernel_rfl) v xT w
theorem yg (v : Value) (xT : TypeId) (w : World) : (Instr.typeAssert (.iface 29 v) xT 110 true).run Tryz.prog w = .ok (.tuple #[.nilIface, .bool false]) w := run_typeAssert_lacksB Tryz.underlying110 (by kernel_rfl) (by kernel_rfl) v xT w
theorem zBj (e : Nat) (c d : Int) (w : World) (hc : w.cell? ⟨e, 0, none⟩ = some (.int .i64 c)) :
  Calls Tryz.prog 42 #[.iface 52 (.pointer (some ⟨e, 0, none⟩)), .iface 29 (.int .i64 d), .bool true] w fun ev w' => ev = .returned (.bool (c == d)) ∧ w = w' := by
 have h1 := zDn (.pointer (some ⟨e, 0, none⟩))
 have h2 := zBh (.pointer (some ⟨e, 0, none⟩))
 have h3 := zAS (.pointer (some ⟨e, 0, none⟩))
 have h4 := zD6 ⟨e, 0, none⟩ d w
 have h5 := zBn c d w
 have h6 := zD7 (.int .i64 c)
 have h7 := wF (.int .i64 c)
 have h8 := yg (.int .i64 c)
 generalize (c == d) = b at *
 cases b
 ·exact zFT
 ·exact zFT
theorem zEe (e : Nat) (c d : Int) (w : World) (hc : w.cell? ⟨e, 0, none⟩ = some (.int .i64 c)) :
  Calls Tryz.prog 18 #[.iface 52 (.pointer (some ⟨e, 0, none⟩)), .iface 29 (.int .i64 d)] w fun ev w' => ev = .returned (.bool (c == d)) ∧ w = w' := by
 have t1 := @run_callFunc_extern Tryz.prog 41 _ ReflectliteType.typeOf Tryz.func41 (by kernel_rfl) (by kernel_rfl) (by kernel_rfl) (by kernel_rfl)
 have t2 := @run_callFunc_extern Tryz.prog 181 _ (ReflectliteType.method fun t => do Rtype.noPackHeld "Comparable" t; pure (.bool (← typeInfo t).comparable)) Tryz.func181 (by kernel_rfl) (by kernel_rfl) (by kernel_rfl) (by kernel_rfl)
 have t3 := zBi
 have t4 := yh
 have t5 := yH
 go_enter Tryz.func18, Tryz.ntmps18
 go_wp2_with (go_at_call 42; refine (zBj e c d _ hc).mono ?_; rintro ev w' ⟨rfl, rfl⟩)
 go_ret
 exact ⟨rfl, rfl⟩
end Go.Proofs.YtekeoilmfbcefaaGreatDoor
