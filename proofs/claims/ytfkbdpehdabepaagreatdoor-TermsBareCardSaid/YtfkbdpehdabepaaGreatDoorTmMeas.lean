/-
  terms.measure, its closure.
-/
import Derived.Test.YtfkbdpehdabepaaGreatDoorTmLay
import Derived.Test.YtfkbdpehdabepaaGreatDoorMeas2
namespace Go.Proofs.YtfkbdpehdabepaaGreatDoor
open Go.RowKit

theorem teqlGreat (w : World) : (binOp .eql 20 (.iface 75 (.agg #[])) (.iface 75 (.agg #[]))).run Tryz.prog w = .ok (.bool true) w := by kernel_rfl
theorem teqlNone (w : World) : (binOp .eql 20 .nilIface (.iface 75 (.agg #[]))).run Tryz.prog w = .ok (.bool false) w := by kernel_rfl
theorem tneqNone (w : World) : (binOp .neq 20 .nilIface .nilIface).run Tryz.prog w = .ok (.bool false) w := by kernel_rfl

set_option maxRecDepth 100000 in
theorem tcatch_great (p q : Addr) (x y : Value) (w : World) (hp : w.cell? p = some x) (hq : w.cell? q = some y) (fp : w.frozen? p = false) (fq : w.frozen? q = false) (hne : p ≠ q) :
    CallsD Tryz.prog 82 #[.pointer (some p), .pointer (some q)] (.panicking [{ v := .iface 75 (.agg #[]), recovered := false }]) w fun e u' w' =>
      e = .returned (.tuple #[]) ∧ u' = .panicking [{ v := .iface 75 (.agg #[]), recovered := true }] ∧ w' = (w.setCell p (.int .i64 8193)).setCell q (.int .i64 201) := by
  have e1 := teqlGreat
  have hq' : (w.setCell p (.int .i64 8193)).cell? q = some y := by rw [World.cell?_setCell_other w p q _ hne]; exact hq
  refine callsD_of_wpS Tryz.func82 rfl fun c₀ cs hu => ?_
  apply wpS_seq
  apply wpS_region
  simp [wpOpsS, go_sem, recoverD, hu, Tryz.ntmps82, Exit.thenS]
  refine wpS_of_wp ?_
  change Code.wp _ _ _ { tmps := #[.pointer (some p), .pointer (some q), .iface 75 (.agg #[]), .iface 75 (.agg #[]), undef, undef, undef, undef, undef, undef, undef], defers := [] } w
  clear hu
  go_wp2_with fail
  exact ⟨rfl, _, rfl, .tuple #[], by simp [results, Tryz.results82], rfl, rfl, rfl⟩

set_option maxRecDepth 100000 in
theorem tcatch_idle (p q : Addr) (w : World) :
    CallsD Tryz.prog 82 #[.pointer (some p), .pointer (some q)] .returning w fun e u' w' => e = .returned (.tuple #[]) ∧ u' = .returning ∧ w' = w := by
  have e1 := teqlNone
  have e2 := tneqNone
  refine callsD_of_wpS Tryz.func82 rfl fun c₀ cs hu => ?_
  apply wpS_seq
  apply wpS_region
  simp [wpOpsS, go_sem, recoverD, hu, Tryz.ntmps82, Exit.thenS]
  refine wpS_of_wp ?_
  change Code.wp _ _ _ { tmps := #[.pointer (some p), .pointer (some q), .nilIface, .nilIface, undef, undef, undef, undef, undef, undef, undef], defers := [] } w
  go_wp2_with fail
  exact ⟨rfl, .returning, by cases c₀; simp_all, .tuple #[], by simp [results, Tryz.results82], rfl, rfl, rfl⟩

set_option maxHeartbeats 1000000 in
set_option maxRecDepth 100000 in
theorem tmeasure_ok (h : Hd) (kids : Tm) (p : Pl) (w : World) (hIs : Tm.Is w h kids p) (hS : TShapes w) (hn : Tm.nd h kids ≤ 8192) :
    Calls Tryz.prog 41 #[.agg #[.int .i8 h.kind, .string h.name, .string h.arg, .int .i64 h.num, .int .i8 h.tk, .slice p.TA p.tn p.tc, .int .i8 h.uk, .slice p.UA p.un p.uc, .int .i64 h.label, .int .i64 h.pos, .slice p.A p.n p.c]] w fun e w' => e = .returned (.tuple #[.int .i64 (Tm.nod h kids), .int .i64 (Tm.dpt h kids)]) ∧ Below w.heap.size w w' := by
  have hmf : ∀ (fn : Fn) (first cap : Array Value) (w : World), (Instr.makeFunc fn first cap).run Tryz.prog w = .ok (.func fn first cap) w := fun _ _ _ _ => rfl
  have hcall : ∀ (W : World) (_ : Tm.Is W h kids p ∧ TShapes W) (t : Nat) (_ : TTape W t 0 0), Calls Tryz.prog 83 #[.pointer (some ⟨t, 0, none⟩), .agg #[.int .i8 h.kind, .string h.name, .string h.arg, .int .i64 h.num, .int .i8 h.tk, .slice p.TA p.tn p.tc, .int .i8 h.uk, .slice p.UA p.un p.uc, .int .i64 h.label, .int .i64 h.pos, .slice p.A p.n p.c], .int .i64 1] W (TLayOk W t (Tm.nd h kids) (Tm.dp h kids)) := by
    intro W hh t hT
    have := tlay_any (Tm.nodes kids + 1) h kids p W t 0 0 1 (by omega) hh.1 hh.2 hT (by omega) (by omega) (by omega)
    refine this.mono fun e w' hp => ?_
    rcases hp with ⟨_, h1⟩ | ⟨h1, _⟩
    · rw [show 0 + Tm.nd h kids = Tm.nd h kids by omega, show max 0 (1 + max (Tm.tyD h) (Tm.dep kids)) = Tm.dp h kids by unfold Tm.dp; omega] at h1
      exact h1
    · omega
  have e1 : Tm.nod h kids = Tm.nd h kids := by unfold Tm.nod; omega
  have e2 : Tm.dpt h kids = min (Tm.dp h kids) 201 := by unfold Tm.dpt; rw [if_neg (by omega)]
  rw [e1, e2]
  generalize Tm.nd h kids = N at *
  generalize Tm.dp h kids = D at *
  obtain ⟨M, hM⟩ : ∃ M : Nat, M = min D 201 := ⟨_, rfl⟩
  rw [← hM]
  have HM := Lib.hid hM
  have HC := Lib.hid hcall
  have HI : Hid (∀ (W : World), Below w.heap.size w W → Tm.Is W h kids p ∧ TShapes W) := Lib.hid fun W hb => ⟨hIs.below hb, hS.below hb⟩
  have H4 : ∀ o1 o2 o3 o4 : Obj, Below w.heap.size w ((((w.alloc o1).alloc o2).alloc o3).alloc o4) := fun o1 o2 o3 o4 => ((((Below.refl w.heap.size w).alloc (Nat.le_refl _) _).alloc (by simp) _).alloc (by simp <;> omega) _).alloc (by simp <;> omega) _
  clear hcall hIs hS e1 e2 hM
  all_goals
    have hD2 : (M : Int) = min (D : Int) 201 := by rw [HM.out]; omega
    have HD := Lib.hid hD2
    clear hD2
    go_enter_defers Tryz.func41, Tryz.ntmps41
    go_wp2_with fail
    refine (HC.out _ (HI.out _ (H4 _ _ _ _)) _ ?_).mono ?_
    · have := heap_new (((w.alloc (.cells #[.int .i8 h.kind, .string h.name, .string h.arg, .int .i64 h.num, .int .i8 h.tk, .slice p.TA p.tn p.tc, .int .i8 h.uk, .slice p.UA p.un p.uc, .int .i64 h.label, .int .i64 h.pos, .slice p.A p.n p.c] 28)).alloc (Obj.cells #[Value.int IntKind.i64 0] 3)).alloc (Obj.cells #[Value.int IntKind.i64 0] 3)) (Obj.cells #[Value.int IntKind.i64 0, Value.int IntKind.i64 0] 74)
      simpa [TTape] using this
    rintro e w5 ⟨rfl, hT, hg⟩
    have hb5 : Below w.heap.size w w5 := ((((((Below.refl w.heap.size w).alloc (Nat.le_refl _) _).alloc (by simp) _).alloc (by simp <;> omega) _).alloc (by simp <;> omega) _)).grown hg (by simp <;> omega) (fun k hk => by injection hk with hk; omega)
    have r0 := heap_grown (b := w.heap.size + 1) hg (by omega) (heap_old (heap_old (by have := heap_new (w.alloc (.cells #[.int .i8 h.kind, .string h.name, .string h.arg, .int .i64 h.num, .int .i8 h.tk, .slice p.TA p.tn p.tc, .int .i8 h.uk, .slice p.UA p.un p.uc, .int .i64 h.label, .int .i64 h.pos, .slice p.A p.n p.c] 28)) (Obj.cells #[Value.int IntKind.i64 0] 3); simpa using this) _) _)
    have r1 := heap_grown (b := w.heap.size + 1 + 1) hg (by omega) (heap_old (by have := heap_new ((w.alloc (.cells #[.int .i8 h.kind, .string h.name, .string h.arg, .int .i64 h.num, .int .i8 h.tk, .slice p.TA p.tn p.tc, .int .i8 h.uk, .slice p.UA p.un p.uc, .int .i64 h.label, .int .i64 h.pos, .slice p.A p.n p.c] 28)).alloc (Obj.cells #[Value.int IntKind.i64 0] 3)) (Obj.cells #[Value.int IntKind.i64 0] 3); simpa using this) _)
    obtain ⟨t0, t1, f0, f1, htl⟩ := own2 hT
    obtain ⟨p0, p1, p2⟩ := own1 r0
    obtain ⟨q0, q1, q2⟩ := own1 r1
    clear hT hg r0 r1
    go_wp2_with fail
    go_region
    go_wp2_with fail
    have hB6 := ((hb5.setCell (show w.heap.size ≤ (⟨w.heap.size + 1, 0, none⟩ : Addr).block by simp) (Value.int IntKind.i64 N)).setCell (show w.heap.size ≤ (⟨w.heap.size + 1 + 1, 0, none⟩ : Addr).block by simp <;> omega) (Value.int IntKind.i64 M)).drew
    obtain ⟨z0, z1⟩ := two_cells_drew w5 (w.heap.size + 1) (w.heap.size + 1 + 1) (.int .i64 N) (.int .i64 M) (by omega) p0 q0
    rw [HD.out] at hB6 z0 z1
    refine leaves_cons (f := 82) (args := #[.pointer (some ⟨w.heap.size + 1, 0, none⟩), .pointer (some ⟨w.heap.size + 1 + 1, 0, none⟩)]) (by simp) (by simp [go_sem]) ?_
    refine (tcatch_idle _ _ _).mono ?_
    rintro e u' w6 ⟨rfl, rfl, rfl⟩
    rw [HD.out]
    generalize (World.setCell _ _ _).drew = w6 at hB6 z0 z1 ⊢
    exact ⟨.tuple #[.int .i64 N, _], by simp [results, Tryz.results41, go_sem, z0, z1], rfl, hB6⟩

set_option maxHeartbeats 1000000 in
set_option maxRecDepth 100000 in
theorem tmeasure_big (h : Hd) (kids : Tm) (p : Pl) (w : World) (hIs : Tm.Is w h kids p) (hS : TShapes w) (hn : 8192 < Tm.nd h kids) :
    Calls Tryz.prog 41 #[.agg #[.int .i8 h.kind, .string h.name, .string h.arg, .int .i64 h.num, .int .i8 h.tk, .slice p.TA p.tn p.tc, .int .i8 h.uk, .slice p.UA p.un p.uc, .int .i64 h.label, .int .i64 h.pos, .slice p.A p.n p.c]] w fun e w' => e = .returned (.tuple #[.int .i64 (Tm.nod h kids), .int .i64 (Tm.dpt h kids)]) ∧ Below w.heap.size w w' := by
  have hmf : ∀ (fn : Fn) (first cap : Array Value) (w : World), (Instr.makeFunc fn first cap).run Tryz.prog w = .ok (.func fn first cap) w := fun _ _ _ _ => rfl
  have hcall : ∀ (W : World) (_ : Tm.Is W h kids p ∧ TShapes W) (t : Nat) (_ : TTape W t 0 0), Calls Tryz.prog 83 #[.pointer (some ⟨t, 0, none⟩), .agg #[.int .i8 h.kind, .string h.name, .string h.arg, .int .i64 h.num, .int .i8 h.tk, .slice p.TA p.tn p.tc, .int .i8 h.uk, .slice p.UA p.un p.uc, .int .i64 h.label, .int .i64 h.pos, .slice p.A p.n p.c], .int .i64 1] W (TLayBig W t) := by
    intro W hh t hT
    have := tlay_any (Tm.nodes kids + 1) h kids p W t 0 0 1 (by omega) hh.1 hh.2 hT (by omega) (by omega) (by omega)
    refine this.mono fun e w' hp => ?_
    rcases hp with ⟨h1, _⟩ | ⟨_, h1⟩
    · omega
    · exact h1
  have e1 : ((Tm.nod h kids : Nat) : Int) = 8193 := by unfold Tm.nod; omega
  have e2 : ((Tm.dpt h kids : Nat) : Int) = 201 := by unfold Tm.dpt; rw [if_pos hn]; rfl
  rw [e1, e2]
  have HC := Lib.hid hcall
  have HI : Hid (∀ (W : World), Below w.heap.size w W → Tm.Is W h kids p ∧ TShapes W) := Lib.hid fun W hb => ⟨hIs.below hb, hS.below hb⟩
  have H4 : ∀ o1 o2 o3 o4 : Obj, Below w.heap.size w ((((w.alloc o1).alloc o2).alloc o3).alloc o4) := fun o1 o2 o3 o4 => ((((Below.refl w.heap.size w).alloc (Nat.le_refl _) _).alloc (by simp) _).alloc (by simp <;> omega) _).alloc (by simp <;> omega) _
  clear hcall hIs hS e1 e2
  go_enter_defers Tryz.func41, Tryz.ntmps41
  go_wp2_with fail
  refine (HC.out _ (HI.out _ (H4 _ _ _ _)) _ ?_).mono ?_
  · have := heap_new (((w.alloc (.cells #[.int .i8 h.kind, .string h.name, .string h.arg, .int .i64 h.num, .int .i8 h.tk, .slice p.TA p.tn p.tc, .int .i8 h.uk, .slice p.UA p.un p.uc, .int .i64 h.label, .int .i64 h.pos, .slice p.A p.n p.c] 28)).alloc (Obj.cells #[Value.int IntKind.i64 0] 3)).alloc (Obj.cells #[Value.int IntKind.i64 0] 3)) (Obj.cells #[Value.int IntKind.i64 0, Value.int IntKind.i64 0] 74)
    simpa [TTape] using this
  rintro e w5 ⟨rfl, hg⟩
  have hb5 : Below w.heap.size w w5 := ((((((Below.refl w.heap.size w).alloc (Nat.le_refl _) _).alloc (by simp) _).alloc (by simp <;> omega) _).alloc (by simp <;> omega) _)).grown hg (by simp <;> omega) (fun k hk => by injection hk with hk; omega)
  have r0 := heap_grown (b := w.heap.size + 1) hg (by omega) (heap_old (heap_old (by have := heap_new (w.alloc (.cells #[.int .i8 h.kind, .string h.name, .string h.arg, .int .i64 h.num, .int .i8 h.tk, .slice p.TA p.tn p.tc, .int .i8 h.uk, .slice p.UA p.un p.uc, .int .i64 h.label, .int .i64 h.pos, .slice p.A p.n p.c] 28)) (Obj.cells #[Value.int IntKind.i64 0] 3); simpa using this) _) _)
  have r1 := heap_grown (b := w.heap.size + 1 + 1) hg (by omega) (heap_old (by have := heap_new ((w.alloc (.cells #[.int .i8 h.kind, .string h.name, .string h.arg, .int .i64 h.num, .int .i8 h.tk, .slice p.TA p.tn p.tc, .int .i8 h.uk, .slice p.UA p.un p.uc, .int .i64 h.label, .int .i64 h.pos, .slice p.A p.n p.c] 28)).alloc (Obj.cells #[Value.int IntKind.i64 0] 3)) (Obj.cells #[Value.int IntKind.i64 0] 3); simpa using this) _)
  obtain ⟨p0, p1, p2⟩ := own1 r0
  obtain ⟨q0, q1, q2⟩ := own1 r1
  clear hg r0 r1
  have hB6 := ((hb5.setCell (show w.heap.size ≤ (⟨w.heap.size + 1, 0, none⟩ : Addr).block by simp) (Value.int IntKind.i64 8193)).setCell (show w.heap.size ≤ (⟨w.heap.size + 1 + 1, 0, none⟩ : Addr).block by simp <;> omega) (Value.int IntKind.i64 201))
  obtain ⟨z0, z1⟩ := two_cells w5 (w.heap.size + 1) (w.heap.size + 1 + 1) (.int .i64 8193) (.int .i64 201) (by omega) p0 q0
  refine leaves_cons (f := 82) (args := #[.pointer (some ⟨w.heap.size + 1, 0, none⟩), .pointer (some ⟨w.heap.size + 1 + 1, 0, none⟩)]) (by simp) (by simp [go_sem]) ?_
  refine (tcatch_great _ _ _ _ _ p0 q0 p1 q1 (by simp)).mono ?_
  rintro e u' w6 ⟨rfl, rfl, rfl⟩
  have z0' := z0
  have z1' := z1
  generalize (World.setCell _ _ _) = w6 at hB6 z0' z1' ⊢
  exact ⟨.tuple #[.int .i64 8193, .int .i64 201], by simp [results, Tryz.results41, go_sem, z0', z1'], rfl, hB6⟩

theorem tmeasure_any (h : Hd) (kids : Tm) (p : Pl) (w : World) (hIs : Tm.Is w h kids p) (hS : TShapes w) :
    Calls Tryz.prog 41 #[.agg #[.int .i8 h.kind, .string h.name, .string h.arg, .int .i64 h.num, .int .i8 h.tk, .slice p.TA p.tn p.tc, .int .i8 h.uk, .slice p.UA p.un p.uc, .int .i64 h.label, .int .i64 h.pos, .slice p.A p.n p.c]] w fun e w' => e = .returned (.tuple #[.int .i64 (Tm.nod h kids), .int .i64 (Tm.dpt h kids)]) ∧ Below w.heap.size w w' := by
  rcases Nat.lt_or_ge 8192 (Tm.nd h kids) with hh | hh
  · exact tmeasure_big h kids p w hIs hS hh
  · exact tmeasure_ok h kids p w hIs hS hh
end Go.Proofs.YtfkbdpehdabepaaGreatDoor
