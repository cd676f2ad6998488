/-
  types.measure, its closure; Nodes and Depth. types.all: a list of types, each held against a function.
-/
import Derived.Test.YtfkbdpehdabepaaGreatDoorMeasure
import Derived.RegionTactic
import Derived.BigRegion
namespace Go.Proofs.YtfkbdpehdabepaaGreatDoor
open Go.RowKit

theorem eqlGreat (w : World) : (binOp .eql 20 (.iface 97 (.agg #[])) (.iface 97 (.agg #[]))).run Tryz.prog w = .ok (.bool true) w := by kernel_rfl
theorem eqlNone (w : World) : (binOp .eql 20 .nilIface (.iface 97 (.agg #[]))).run Tryz.prog w = .ok (.bool false) w := by kernel_rfl
theorem neqNone (w : World) : (binOp .neq 20 .nilIface .nilIface).run Tryz.prog w = .ok (.bool false) w := by kernel_rfl

set_option maxRecDepth 100000 in
theorem catch_great (p q : Addr) (x y : Value) (w : World) (hp : w.cell? p = some x) (hq : w.cell? q = some y) (fp : w.frozen? p = false) (fq : w.frozen? q = false) (hne : p ≠ q) :
    CallsD Tryz.prog 111 #[.pointer (some p), .pointer (some q)] (.panicking [{ v := .iface 97 (.agg #[]), recovered := false }]) w fun e u' w' =>
      e = .returned (.tuple #[]) ∧ u' = .panicking [{ v := .iface 97 (.agg #[]), recovered := true }] ∧ w' = (w.setCell p (.int .i64 8193)).setCell q (.int .i64 201) := by
  have e1 := eqlGreat
  have hq' : (w.setCell p (.int .i64 8193)).cell? q = some y := by rw [World.cell?_setCell_other w p q _ hne]; exact hq
  refine callsD_of_wpS Tryz.func111 rfl fun c₀ cs hu => ?_
  apply wpS_seq
  apply wpS_region
  simp [wpOpsS, go_sem, recoverD, hu, Tryz.ntmps111, Exit.thenS]
  refine wpS_of_wp ?_
  change Code.wp _ _ _ { tmps := #[.pointer (some p), .pointer (some q), .iface 97 (.agg #[]), .iface 97 (.agg #[]), undef, undef, undef, undef, undef, undef, undef], defers := [] } w
  clear hu
  go_wp2_with fail
  exact ⟨rfl, _, rfl, .tuple #[], by simp [results, Tryz.results111], rfl, rfl, rfl⟩

set_option maxRecDepth 100000 in
theorem catch_idle (p q : Addr) (w : World) :
    CallsD Tryz.prog 111 #[.pointer (some p), .pointer (some q)] .returning w fun e u' w' => e = .returned (.tuple #[]) ∧ u' = .returning ∧ w' = w := by
  have e1 := eqlNone
  have e2 := neqNone
  refine callsD_of_wpS Tryz.func111 rfl fun c₀ cs hu => ?_
  apply wpS_seq
  apply wpS_region
  simp [wpOpsS, go_sem, recoverD, hu, Tryz.ntmps111, Exit.thenS]
  refine wpS_of_wp ?_
  change Code.wp _ _ _ { tmps := #[.pointer (some p), .pointer (some q), .nilIface, .nilIface, undef, undef, undef, undef, undef, undef, undef], defers := [] } w
  go_wp2_with fail
  exact ⟨rfl, .returning, by cases c₀; simp_all, .tuple #[], by simp [results, Tryz.results111], rfl, rfl, rfl⟩

theorem heap_grown {b g : Nat} {w w1 : World} {x : Obj} (hg : w.grownBy w1 (some g)) (hne : b ≠ g) (h : w.heap[b]? = some x) : w1.heap[b]? = some x := by
  rw [hg.block b (heap_lt h) (fun e => hne (by injection e))]; exact h

theorem two_cells (w : World) (p q : Nat) (u v : Value) {x y : Value} (hne : p ≠ q) (hp : w.cell? ⟨p, 0, none⟩ = some x) (hq : w.cell? ⟨q, 0, none⟩ = some y) :
    ((w.setCell ⟨p, 0, none⟩ u).setCell ⟨q, 0, none⟩ v).cell? ⟨p, 0, none⟩ = some u ∧ ((w.setCell ⟨p, 0, none⟩ u).setCell ⟨q, 0, none⟩ v).cell? ⟨q, 0, none⟩ = some v := by
  constructor
  · rw [World.cell?_setCell_other _ ⟨q, 0, none⟩ ⟨p, 0, none⟩ v (fun e => hne (by injection e with e; exact e.symm))]
    exact World.cell?_setCell_same _ _ _ hp
  · refine World.cell?_setCell_same _ _ _ (u := y) ?_
    rw [World.cell?_setCell_other _ ⟨p, 0, none⟩ ⟨q, 0, none⟩ u (fun e => hne (by injection e))]
    exact hq

theorem two_cells_drew (w : World) (p q : Nat) (u v : Value) {x y : Value} (hne : p ≠ q) (hp : w.cell? ⟨p, 0, none⟩ = some x) (hq : w.cell? ⟨q, 0, none⟩ = some y) :
    ((w.setCell ⟨p, 0, none⟩ u).setCell ⟨q, 0, none⟩ v).drew.cell? ⟨p, 0, none⟩ = some u ∧ ((w.setCell ⟨p, 0, none⟩ u).setCell ⟨q, 0, none⟩ v).drew.cell? ⟨q, 0, none⟩ = some v :=
  two_cells w p q u v hne hp hq

set_option maxHeartbeats 1000000 in
set_option maxRecDepth 100000 in
theorem measure_ok (k : Int) (kids : Fo) (A : Option Addr) (len c : Nat) (w : World) (hIs : Ty.Is w k kids A len c) (hn : Ty.nodes kids + 1 ≤ 8192) :
    Calls Tryz.prog 69 #[.agg #[.int .i8 k, .slice A len c]] w fun e w' => e = .returned (.tuple #[.int .i64 (Ty.nod kids), .int .i64 (Ty.dpt kids)]) ∧ Below w.heap.size w w' := by
  have hmf : ∀ (fn : Fn) (first cap : Array Value) (w : World), (Instr.makeFunc fn first cap).run Tryz.prog w = .ok (.func fn first cap) w := fun _ _ _ _ => rfl
  have hcall : ∀ (W : World) (_ : Ty.Is W k kids A len c) (t : Nat) (_ : Tape W t 0 0), Calls Tryz.prog 112 #[.pointer (some ⟨t, 0, none⟩), .agg #[.int .i8 k, .slice A len c], .int .i64 1] W (LayOk W t (Ty.nodes kids + 1) (Ty.dep kids + 1)) := by
    intro W h t hT
    have := lay_ok (Ty.nodes kids + 1) k kids A len c W t 0 0 1 (by omega) h hT (by omega) (by omega) (by omega)
    rw [show 0 + 1 + Ty.nodes kids = Ty.nodes kids + 1 by omega, show max 0 (1 + Ty.dep kids) = Ty.dep kids + 1 by omega] at this
    exact this
  have e1 : Ty.nod kids = Ty.nodes kids + 1 := by unfold Ty.nod; omega
  have e2 : Ty.dpt kids = min (Ty.dep kids + 1) 201 := by unfold Ty.dpt; rw [if_neg (by omega)]
  rw [e1, e2]
  generalize Ty.nodes kids + 1 = N at *
  generalize Ty.dep kids + 1 = D at *
  obtain ⟨M, hM⟩ : ∃ M : Nat, M = min D 201 := ⟨_, rfl⟩
  rw [← hM]
  have HM := Lib.hid hM
  have HC := Lib.hid hcall
  have HI := Lib.hid hIs
  clear hcall hIs e1 e2 hM
  by_cases hD : (D : Int) ≤ 201
  all_goals
    have hD2 : (M : Int) = if (D : Int) ≤ 201 then (D : Int) else 201 := by rw [HM.out]; split <;> omega
    first | rw [if_pos hD] at hD2 | rw [if_neg hD] at hD2
    have HD := Lib.hid hD2
    clear hD2
    go_enter_defers Tryz.func69, Tryz.ntmps69
    go_wp2_with fail
    refine (HC.out _ ((((HI.out.alloc _).alloc _).alloc _).alloc _) _ ?_).mono ?_
    · have := heap_new (((w.alloc (Obj.cells #[Value.int IntKind.i8 k, Value.slice A len c] 25)).alloc (Obj.cells #[Value.int IntKind.i64 0] 3)).alloc (Obj.cells #[Value.int IntKind.i64 0] 3)) (Obj.cells #[Value.int IntKind.i64 0, Value.int IntKind.i64 0] 99)
      simpa [Tape] using this
    rintro e w5 ⟨rfl, hT, hg⟩
    have hb5 : Below w.heap.size w w5 := ((((((Below.refl w.heap.size w).alloc (Nat.le_refl _) _).alloc (by simp) _).alloc (by simp <;> omega) _).alloc (by simp <;> omega) _)).grown hg (by simp <;> omega) (fun k hk => by injection hk with hk; omega)
    have r0 := heap_grown (b := w.heap.size + 1) hg (by omega) (heap_old (heap_old (by have := heap_new (w.alloc (Obj.cells #[Value.int IntKind.i8 k, Value.slice A len c] 25)) (Obj.cells #[Value.int IntKind.i64 0] 3); simpa using this) _) _)
    have r1 := heap_grown (b := w.heap.size + 1 + 1) hg (by omega) (heap_old (by have := heap_new ((w.alloc (Obj.cells #[Value.int IntKind.i8 k, Value.slice A len c] 25)).alloc (Obj.cells #[Value.int IntKind.i64 0] 3)) (Obj.cells #[Value.int IntKind.i64 0] 3); simpa using this) _)
    obtain ⟨t0, t1, f0, f1, htl⟩ := own2 hT
    obtain ⟨p0, p1, p2⟩ := own1 r0
    obtain ⟨q0, q1, q2⟩ := own1 r1
    clear hT hg r0 r1
    go_wp2_with fail
    go_region
    go_wp2_with fail
    have hB6 := ((hb5.setCell (show w.heap.size ≤ (⟨w.heap.size + 1, 0, none⟩ : Addr).block by simp) (Value.int IntKind.i64 N)).setCell (show w.heap.size ≤ (⟨w.heap.size + 1 + 1, 0, none⟩ : Addr).block by simp <;> omega) (Value.int IntKind.i64 M)).drew
    obtain ⟨z0, z1⟩ := two_cells_drew w5 (w.heap.size + 1) (w.heap.size + 1 + 1) (.int .i64 N) (.int .i64 M) (by omega) p0 q0
    rw [HD.out] at hB6 z0 z1
    refine leaves_cons (f := 111) (args := #[.pointer (some ⟨w.heap.size + 1, 0, none⟩), .pointer (some ⟨w.heap.size + 1 + 1, 0, none⟩)]) (by simp) (by simp [go_sem]) ?_
    refine (catch_idle _ _ _).mono ?_
    rintro e u' w6 ⟨rfl, rfl, rfl⟩
    rw [HD.out]
    generalize (World.setCell _ _ _).drew = w6 at hB6 z0 z1 ⊢
    exact ⟨.tuple #[.int .i64 N, _], by simp [results, Tryz.results69, go_sem, z0, z1], rfl, hB6⟩

set_option maxHeartbeats 1000000 in
set_option maxRecDepth 100000 in
theorem measure_big (k : Int) (kids : Fo) (A : Option Addr) (len c : Nat) (w : World) (hIs : Ty.Is w k kids A len c) (hn : 8192 < Ty.nodes kids + 1) :
    Calls Tryz.prog 69 #[.agg #[.int .i8 k, .slice A len c]] w fun e w' => e = .returned (.tuple #[.int .i64 (Ty.nod kids), .int .i64 (Ty.dpt kids)]) ∧ Below w.heap.size w w' := by
  have hmf : ∀ (fn : Fn) (first cap : Array Value) (w : World), (Instr.makeFunc fn first cap).run Tryz.prog w = .ok (.func fn first cap) w := fun _ _ _ _ => rfl
  have hcall : ∀ (W : World) (_ : Ty.Is W k kids A len c) (t : Nat) (_ : Tape W t 0 0), Calls Tryz.prog 112 #[.pointer (some ⟨t, 0, none⟩), .agg #[.int .i8 k, .slice A len c], .int .i64 1] W (LayBig W t) :=
    fun W h t hT => lay_big (Ty.nodes kids + 1) k kids A len c W t 0 0 1 (by omega) h hT (by omega) (by omega) (by omega) (by omega)
  have e1 : ((Ty.nod kids : Nat) : Int) = 8193 := by unfold Ty.nod; omega
  have e2 : ((Ty.dpt kids : Nat) : Int) = 201 := by unfold Ty.dpt; rw [if_pos hn]; rfl
  rw [e1, e2]
  have HC := Lib.hid hcall
  have HI := Lib.hid hIs
  clear hcall hIs e1 e2
  go_enter_defers Tryz.func69, Tryz.ntmps69
  go_wp2_with fail
  refine (HC.out _ ((((HI.out.alloc _).alloc _).alloc _).alloc _) _ ?_).mono ?_
  · have := heap_new (((w.alloc (Obj.cells #[Value.int IntKind.i8 k, Value.slice A len c] 25)).alloc (Obj.cells #[Value.int IntKind.i64 0] 3)).alloc (Obj.cells #[Value.int IntKind.i64 0] 3)) (Obj.cells #[Value.int IntKind.i64 0, Value.int IntKind.i64 0] 99)
    simpa [Tape] using this
  rintro e w5 ⟨rfl, hg⟩
  have hb5 : Below w.heap.size w w5 := ((((((Below.refl w.heap.size w).alloc (Nat.le_refl _) _).alloc (by simp) _).alloc (by simp <;> omega) _).alloc (by simp <;> omega) _)).grown hg (by simp <;> omega) (fun k hk => by injection hk with hk; omega)
  have r0 := heap_grown (b := w.heap.size + 1) hg (by omega) (heap_old (heap_old (by have := heap_new (w.alloc (Obj.cells #[Value.int IntKind.i8 k, Value.slice A len c] 25)) (Obj.cells #[Value.int IntKind.i64 0] 3); simpa using this) _) _)
  have r1 := heap_grown (b := w.heap.size + 1 + 1) hg (by omega) (heap_old (by have := heap_new ((w.alloc (Obj.cells #[Value.int IntKind.i8 k, Value.slice A len c] 25)).alloc (Obj.cells #[Value.int IntKind.i64 0] 3)) (Obj.cells #[Value.int IntKind.i64 0] 3); simpa using this) _)
  obtain ⟨p0, p1, p2⟩ := own1 r0
  obtain ⟨q0, q1, q2⟩ := own1 r1
  clear hg r0 r1
  have hB6 := ((hb5.setCell (show w.heap.size ≤ (⟨w.heap.size + 1, 0, none⟩ : Addr).block by simp) (Value.int IntKind.i64 8193)).setCell (show w.heap.size ≤ (⟨w.heap.size + 1 + 1, 0, none⟩ : Addr).block by simp <;> omega) (Value.int IntKind.i64 201))
  obtain ⟨z0, z1⟩ := two_cells w5 (w.heap.size + 1) (w.heap.size + 1 + 1) (.int .i64 8193) (.int .i64 201) (by omega) p0 q0
  refine leaves_cons (f := 111) (args := #[.pointer (some ⟨w.heap.size + 1, 0, none⟩), .pointer (some ⟨w.heap.size + 1 + 1, 0, none⟩)]) (by simp) (by simp [go_sem]) ?_
  refine (catch_great _ _ _ _ _ p0 q0 p1 q1 (by simp)).mono ?_
  rintro e u' w6 ⟨rfl, rfl, rfl⟩
  have z0' := z0
  have z1' := z1
  generalize (World.setCell _ _ _) = w6 at hB6 z0' z1' ⊢
  exact ⟨.tuple #[.int .i64 8193, .int .i64 201], by simp [results, Tryz.results69, go_sem, z0', z1'], rfl, hB6⟩

theorem measure_any (k : Int) (kids : Fo) (A : Option Addr) (len c : Nat) (w : World) (hIs : Ty.Is w k kids A len c) :
    Calls Tryz.prog 69 #[.agg #[.int .i8 k, .slice A len c]] w fun e w' => e = .returned (.tuple #[.int .i64 (Ty.nod kids), .int .i64 (Ty.dpt kids)]) ∧ Below w.heap.size w w' := by
  rcases Nat.lt_or_ge 8192 (Ty.nodes kids + 1) with h | h
  · exact measure_big k kids A len c w hIs h
  · exact measure_ok k kids A len c w hIs h
end Go.Proofs.YtfkbdpehdabepaaGreatDoor
namespace Go.Proofs.YtfkbdpehdabepaaGreatDoor
open Go.RowKit


namespace Ty
def allF (p : Int → Fo → Bool) : Fo → Bool
  | .nil => true
  | .node _ _ k kids r => p k kids && allF p r
end Ty

/-- a loop's state over a list of types -/
structure Over (w wr : World) (A : Option Addr) (n nk : Nat) (i : Nat) (rest : Fo) : Prop where
  i_eq : i + Ty.len rest = n
  lies : Ty.Lies wr rest A i
  sub : Ty.nodes rest ≤ nk
  below : Below w.heap.size w wr
theorem Over.step {w wr w2 : World} {A : Option Addr} {n nk i a b : Nat} {k : Int} {kids r : Fo} (h : Over w wr A n nk i (.node a b k kids r)) (hb : Below wr.heap.size wr w2) (hA : Ty.Lies wr r A (i + 1)) : Over w w2 A n nk (i + 1) r := by
  obtain ⟨h1, h2, h3, h4⟩ := h
  simp only [Ty.len, Ty.nodes] at h1 h3
  exact ⟨by omega, hA.below hb, by omega, h4.trans (hb.mono h4.size)⟩
theorem Over.start {w : World} {A : Option Addr} {kids : Fo} {n : Nat} (h : Ty.Lies w kids A 0) (hn : n = Ty.len kids) : Over w w A n (Ty.nodes kids) 0 kids := ⟨by omega, h, Nat.le_refl _, Below.refl _ _⟩

set_option maxHeartbeats 1000000 in
set_option maxRecDepth 100000 in
theorem all_any (f : FuncId) (p : Int → Fo → Bool) (kids : Fo) (A : Option Addr) (n c : Nat) (w : World) (hL : Ty.Lies w kids A 0) (hn : n = Ty.len kids) (hnc : n ≤ c) (hc : c ≤ maxLen)
    (hcf : ∀ (args : Array Value) (W : World), (callFunc f args).run Tryz.prog W = .ok (.enter f args) W)
    (hf : ∀ (k' : Int) (kids' : Fo) (A' : Option Addr) (n' c' : Nat) (W : World), Ty.nodes kids' < Ty.nodes kids → Ty.Is W k' kids' A' n' c' → Below w.heap.size w W → Calls Tryz.prog f #[.agg #[.int .i8 k', .slice A' n' c']] W fun e w' => e = .returned (.bool (p k' kids')) ∧ Below W.heap.size W w') :
    Calls Tryz.prog 138 #[.slice A n c, .func (Fn.func f) #[] #[]] w fun e w' => e = .returned (.bool (Ty.allF p kids)) ∧ Below w.heap.size w w' := by
  have hst := Over.start hL hn
  have HF := Lib.hid hf
  have HS := Lib.hid hst
  have i5 : (n : Int) ≤ 9223372036854775807 := by unfold maxLen at hc; omega
  clear hst hn hf hL
  obtain ⟨R, hR⟩ : ∃ R, Ty.allF p kids = R := ⟨_, rfl⟩
  rw [hR]
  have HR := Lib.hid hR
  clear hR
  go_enter Tryz.func138, Tryz.ntmps138
  go_wp2_with fail
  go_loopw [9] (fun v wr => ∃ (i : Nat) (rest : Fo), v = .int .i64 i ∧ Over w wr A n (Ty.nodes kids) i rest ∧ Ty.allF p rest = R) (fun v _ => n - (intOf v).toNat)
  case atStart => exact ⟨0, kids, rfl, HS.out, HR.out⟩
  case round =>
    obtain ⟨i, rest, rfl, hO, hR⟩ := hrel
    cases rest with
    | nil =>
      have hi : i = n := by have := hO.i_eq; simpa [Ty.len] using this
      have hB := hO.below
      clear hO
      simp only [Ty.allF] at hR
      subst hi
      subst hR
      go_wp2_with fail
      go_ret
      exact ⟨rfl, hB⟩
    | node a b k' kids' r =>
      have hst := fun w2 hb => Over.step (w2 := w2) hO hb
      have h1 := hO.i_eq
      have h2 := hO.lies
      have h3 := hO.sub
      have h4 := hO.below
      simp only [Ty.len, Ty.nodes, Ty.allF] at h1 h3 hR
      obtain ⟨bb, oo, B, c', rfl, ⟨hk1, hk2⟩, c1, c2, hl1, hl2, hl3, hl4⟩ := h2
      have hcall := HF.out k' kids' B (Ty.len kids') c' (wr.alloc (.cells #[.int .i8 k', .slice B (Ty.len kids') c'] 25)) (by omega) ⟨hl3.alloc _, rfl, hl1, hl2, hk1, hk2⟩ (h4.alloc h4.size _)
      have HS := Lib.hid hst
      have HL := Lib.hid hl4
      have HC := Lib.hid hcall
      have HRR := Lib.hid hR
      have j1 : (i : Int) < n := by omega
      clear hst hl3 hl4 hcall hO hR
      cases hp : p k' kids'
      · have hp0 : R = false := by rw [← HRR.out, hp]; rfl
        rw [hp] at HC
        subst hp0
        clear hp
        go_wp2_with fail
        refine HC.out.mono ?_
        rintro e w2 ⟨rfl, hb⟩
        go_wp2_with fail
        go_ret
        exact ⟨rfl, (h4.alloc h4.size _).trans (hb.mono (by have := h4.size; simp; omega))⟩
      · have hp0 := HRR.out
        rw [hp, Bool.true_and] at hp0
        have HP := Lib.hid hp0
        rw [hp] at HC
        clear hp hp0
        go_wp2_with fail
        refine HC.out.mono ?_
        rintro e w2 ⟨rfl, hb⟩
        have hbb := Lib.hid (HS.out w2 (((Below.refl _ _).alloc (Nat.le_refl _) _).trans (hb.mono (by simp))) HL.out)
        clear hb
        go_wp2_with fail
        go_roundw
        case rel => exact ⟨i + 1, r, by go_num, hbb.out, HP.out⟩
        case measure => simp [intOf]; omega
end Go.Proofs.YtfkbdpehdabepaaGreatDoor
