/-
  terms.measure, its closure. slices.ContainsFunc over types and terms; terms.untyped, misnamed. slices.ContainsFunc over terms; terms.misnamed.
-/
import Derived.Test.YtknhoagicdfikaaGreatDoorM7
import Derived.Test.YtknhoagicdfikaaGreatDoorM5
import Derived.Test.YtknhoagicdfikaaGreatDoorM3
namespace Go.Proofs.YtknhoagicdfikaaGreatDoor
open Go.RowKit

theorem teqlGreat (w : World) : (binOp .eql 20 (.iface 94 (.agg #[])) (.iface 94 (.agg #[]))).run Tryz.prog w = .ok (.bool true) w := by kernel_rfl
theorem teqlNone (w : World) : (binOp .eql 20 .nilIface (.iface 94 (.agg #[]))).run Tryz.prog w = .ok (.bool false) w := by kernel_rfl
theorem tneqNone (w : World) : (binOp .neq 20 .nilIface .nilIface).run Tryz.prog w = .ok (.bool false) w := by kernel_rfl

set_option maxRecDepth 100000 in
theorem tcatch_great (p q : Addr) (x y : Value) (w : World) (hp : w.cell? p = some x) (hq : w.cell? q = some y) (fp : w.frozen? p = false) (fq : w.frozen? q = false) (hne : p ≠ q) :
    CallsD Tryz.prog 51 #[.pointer (some p), .pointer (some q)] (.panicking [{ v := .iface 94 (.agg #[]), recovered := false }]) w fun e u' w' =>
      e = .returned (.tuple #[]) ∧ u' = .panicking [{ v := .iface 94 (.agg #[]), recovered := true }] ∧ w' = (w.setCell p (.int .i64 8193)).setCell q (.int .i64 201) := by
  have e1 := teqlGreat
  have hq' : (w.setCell p (.int .i64 8193)).cell? q = some y := by rw [World.cell?_setCell_other w p q _ hne]; exact hq
  refine callsD_of_wpS Tryz.func51 rfl fun c₀ cs hu => ?_
  apply wpS_seq
  apply wpS_region
  simp [wpOpsS, go_sem, recoverD, hu, Tryz.ntmps51, Exit.thenS]
  refine wpS_of_wp ?_
  change Code.wp _ _ _ { tmps := #[.pointer (some p), .pointer (some q), .iface 94 (.agg #[]), .iface 94 (.agg #[]), undef, undef, undef, undef, undef, undef, undef], defers := [] } w
  clear hu
  go_wp2_with fail
  exact ⟨rfl, _, rfl, .tuple #[], by simp [results, Tryz.results51], rfl, rfl, rfl⟩

set_option maxRecDepth 100000 in
theorem tcatch_idle (p q : Addr) (w : World) :
    CallsD Tryz.prog 51 #[.pointer (some p), .pointer (some q)] .returning w fun e u' w' => e = .returned (.tuple #[]) ∧ u' = .returning ∧ w' = w := by
  have e1 := teqlNone
  have e2 := tneqNone
  refine callsD_of_wpS Tryz.func51 rfl fun c₀ cs hu => ?_
  apply wpS_seq
  apply wpS_region
  simp [wpOpsS, go_sem, recoverD, hu, Tryz.ntmps51, Exit.thenS]
  refine wpS_of_wp ?_
  change Code.wp _ _ _ { tmps := #[.pointer (some p), .pointer (some q), .nilIface, .nilIface, undef, undef, undef, undef, undef, undef, undef], defers := [] } w
  go_wp2_with fail
  exact ⟨rfl, .returning, by cases c₀; simp_all, .tuple #[], by simp [results, Tryz.results51], rfl, rfl, rfl⟩

set_option maxHeartbeats 1000000 in
set_option maxRecDepth 100000 in
theorem tmeasure_ok (h : Hd) (kids : Tm) (p : Pl) (w : World) (hIs : Tm.Is w h kids p) (hS : TShapes w) (hn : Tm.nd h kids ≤ 8192) :
    Calls Tryz.prog 29 #[.agg #[.int .i8 h.kind, .string h.name, .string h.arg, .int .i64 h.num, .int .i8 h.tk, .slice p.TA p.tn p.tc, .int .i8 h.uk, .slice p.UA p.un p.uc, .int .i64 h.label, .int .i64 h.pos, .slice p.A p.n p.c]] w fun e w' => e = .returned (.tuple #[.int .i64 (Tm.nod h kids), .int .i64 (Tm.dpt h kids)]) ∧ Below w.heap.size w w' := by
  have hmf : ∀ (fn : Fn) (first cap : Array Value) (w : World), (Instr.makeFunc fn first cap).run Tryz.prog w = .ok (.func fn first cap) w := fun _ _ _ _ => rfl
  have hcall : ∀ (W : World) (_ : Tm.Is W h kids p ∧ TShapes W) (t : Nat) (_ : TTape W t 0 0), Calls Tryz.prog 52 #[.pointer (some ⟨t, 0, none⟩), .agg #[.int .i8 h.kind, .string h.name, .string h.arg, .int .i64 h.num, .int .i8 h.tk, .slice p.TA p.tn p.tc, .int .i8 h.uk, .slice p.UA p.un p.uc, .int .i64 h.label, .int .i64 h.pos, .slice p.A p.n p.c], .int .i64 1] W (TLayOk W t (Tm.nd h kids) (Tm.dp h kids)) := by
    intro W hh t hT
    have := tlay_any (Tm.nodes kids + 1) h kids p W t 0 0 1 (by omega) hh.1 hh.2 hT (by omega) (by omega) (by omega)
    refine this.mono fun e w' hp => ?_
    rcases hp with ⟨_, h1⟩ | ⟨h1, _⟩
    · rw [show 0 + Tm.nd h kids = Tm.nd h kids by omega, show max 0 (1 + max (Tm.tyD h) (Tm.dep kids)) = Tm.dp h kids by unfold Tm.dp; omega] at h1
      exact h1
    · omega
  have e1 : Tm.nod h kids = Tm.nd h kids := by unfold Tm.nod; omega
  have e2 : Tm.dpt h kids = min (Tm.dp h kids) 201 := by unfold Tm.dpt; rw [if_neg (by omega)]
  rw [e1, e2]
  generalize Tm.nd h kids = N at *
  generalize Tm.dp h kids = D at *
  obtain ⟨M, hM⟩ : ∃ M : Nat, M = min D 201 := ⟨_, rfl⟩
  rw [← hM]
  have HM := Lib.hid hM
  have HC := Lib.hid hcall
  have HI : Hid (∀ (W : World), Below w.heap.size w W → Tm.Is W h kids p ∧ TShapes W) := Lib.hid fun W hb => ⟨hIs.below hb, hS.below hb⟩
  have H4 : ∀ o1 o2 o3 o4 : Obj, Below w.heap.size w ((((w.alloc o1).alloc o2).alloc o3).alloc o4) := fun o1 o2 o3 o4 => ((((Below.refl w.heap.size w).alloc (Nat.le_refl _) _).alloc (by simp) _).alloc (by simp <;> omega) _).alloc (by simp <;> omega) _
  clear hcall hIs hS e1 e2 hM
  all_goals
    have hD2 : (M : Int) = min (D : Int) 201 := by rw [HM.out]; omega
    have HD := Lib.hid hD2
    clear hD2
    go_enter_defers Tryz.func29, Tryz.ntmps29
    go_wp2_with fail
    refine (HC.out _ (HI.out _ (H4 _ _ _ _)) _ ?_).mono ?_
    · have := heap_new (((w.alloc (.cells #[.int .i8 h.kind, .string h.name, .string h.arg, .int .i64 h.num, .int .i8 h.tk, .slice p.TA p.tn p.tc, .int .i8 h.uk, .slice p.UA p.un p.uc, .int .i64 h.label, .int .i64 h.pos, .slice p.A p.n p.c] 28)).alloc (Obj.cells #[Value.int IntKind.i64 0] 3)).alloc (Obj.cells #[Value.int IntKind.i64 0] 3)) (Obj.cells #[Value.int IntKind.i64 0, Value.int IntKind.i64 0] 92)
      simpa [TTape] using this
    rintro e w5 ⟨rfl, hT, hg⟩
    have hb5 : Below w.heap.size w w5 := ((((((Below.refl w.heap.size w).alloc (Nat.le_refl _) _).alloc (by simp) _).alloc (by simp <;> omega) _).alloc (by simp <;> omega) _)).grown hg (by simp <;> omega) (fun k hk => by injection hk with hk; omega)
    have r0 := heap_grown (b := w.heap.size + 1) hg (by omega) (heap_old (heap_old (by have := heap_new (w.alloc (.cells #[.int .i8 h.kind, .string h.name, .string h.arg, .int .i64 h.num, .int .i8 h.tk, .slice p.TA p.tn p.tc, .int .i8 h.uk, .slice p.UA p.un p.uc, .int .i64 h.label, .int .i64 h.pos, .slice p.A p.n p.c] 28)) (Obj.cells #[Value.int IntKind.i64 0] 3); simpa using this) _) _)
    have r1 := heap_grown (b := w.heap.size + 1 + 1) hg (by omega) (heap_old (by have := heap_new ((w.alloc (.cells #[.int .i8 h.kind, .string h.name, .string h.arg, .int .i64 h.num, .int .i8 h.tk, .slice p.TA p.tn p.tc, .int .i8 h.uk, .slice p.UA p.un p.uc, .int .i64 h.label, .int .i64 h.pos, .slice p.A p.n p.c] 28)).alloc (Obj.cells #[Value.int IntKind.i64 0] 3)) (Obj.cells #[Value.int IntKind.i64 0] 3); simpa using this) _)
    obtain ⟨t0, t1, f0, f1, htl⟩ := own2 hT
    obtain ⟨p0, p1, p2⟩ := own1 r0
    obtain ⟨q0, q1, q2⟩ := own1 r1
    clear hT hg r0 r1
    go_wp2_with fail
    go_region
    go_wp2_with fail
    have hB6 := ((hb5.setCell (show w.heap.size ≤ (⟨w.heap.size + 1, 0, none⟩ : Addr).block by simp) (Value.int IntKind.i64 N)).setCell (show w.heap.size ≤ (⟨w.heap.size + 1 + 1, 0, none⟩ : Addr).block by simp <;> omega) (Value.int IntKind.i64 M)).drew
    obtain ⟨z0, z1⟩ := two_cells_drew w5 (w.heap.size + 1) (w.heap.size + 1 + 1) (.int .i64 N) (.int .i64 M) (by omega) p0 q0
    rw [HD.out] at hB6 z0 z1
    refine leaves_cons (f := 51) (args := #[.pointer (some ⟨w.heap.size + 1, 0, none⟩), .pointer (some ⟨w.heap.size + 1 + 1, 0, none⟩)]) (by simp) (by simp [go_sem]) ?_
    refine (tcatch_idle _ _ _).mono ?_
    rintro e u' w6 ⟨rfl, rfl, rfl⟩
    rw [HD.out]
    generalize (World.setCell _ _ _).drew = w6 at hB6 z0 z1 ⊢
    exact ⟨.tuple #[.int .i64 N, _], by simp [results, Tryz.results29, go_sem, z0, z1], rfl, hB6⟩

set_option maxHeartbeats 1000000 in
set_option maxRecDepth 100000 in
theorem tmeasure_big (h : Hd) (kids : Tm) (p : Pl) (w : World) (hIs : Tm.Is w h kids p) (hS : TShapes w) (hn : 8192 < Tm.nd h kids) :
    Calls Tryz.prog 29 #[.agg #[.int .i8 h.kind, .string h.name, .string h.arg, .int .i64 h.num, .int .i8 h.tk, .slice p.TA p.tn p.tc, .int .i8 h.uk, .slice p.UA p.un p.uc, .int .i64 h.label, .int .i64 h.pos, .slice p.A p.n p.c]] w fun e w' => e = .returned (.tuple #[.int .i64 (Tm.nod h kids), .int .i64 (Tm.dpt h kids)]) ∧ Below w.heap.size w w' := by
  have hmf : ∀ (fn : Fn) (first cap : Array Value) (w : World), (Instr.makeFunc fn first cap).run Tryz.prog w = .ok (.func fn first cap) w := fun _ _ _ _ => rfl
  have hcall : ∀ (W : World) (_ : Tm.Is W h kids p ∧ TShapes W) (t : Nat) (_ : TTape W t 0 0), Calls Tryz.prog 52 #[.pointer (some ⟨t, 0, none⟩), .agg #[.int .i8 h.kind, .string h.name, .string h.arg, .int .i64 h.num, .int .i8 h.tk, .slice p.TA p.tn p.tc, .int .i8 h.uk, .slice p.UA p.un p.uc, .int .i64 h.label, .int .i64 h.pos, .slice p.A p.n p.c], .int .i64 1] W (TLayBig W t) := by
    intro W hh t hT
    have := tlay_any (Tm.nodes kids + 1) h kids p W t 0 0 1 (by omega) hh.1 hh.2 hT (by omega) (by omega) (by omega)
    refine this.mono fun e w' hp => ?_
    rcases hp with ⟨h1, _⟩ | ⟨_, h1⟩
    · omega
    · exact h1
  have e1 : ((Tm.nod h kids : Nat) : Int) = 8193 := by unfold Tm.nod; omega
  have e2 : ((Tm.dpt h kids : Nat) : Int) = 201 := by unfold Tm.dpt; rw [if_pos hn]; rfl
  rw [e1, e2]
  have HC := Lib.hid hcall
  have HI : Hid (∀ (W : World), Below w.heap.size w W → Tm.Is W h kids p ∧ TShapes W) := Lib.hid fun W hb => ⟨hIs.below hb, hS.below hb⟩
  have H4 : ∀ o1 o2 o3 o4 : Obj, Below w.heap.size w ((((w.alloc o1).alloc o2).alloc o3).alloc o4) := fun o1 o2 o3 o4 => ((((Below.refl w.heap.size w).alloc (Nat.le_refl _) _).alloc (by simp) _).alloc (by simp <;> omega) _).alloc (by simp <;> omega) _
  clear hcall hIs hS e1 e2
  go_enter_defers Tryz.func29, Tryz.ntmps29
  go_wp2_with fail
  refine (HC.out _ (HI.out _ (H4 _ _ _ _)) _ ?_).mono ?_
  · have := heap_new (((w.alloc (.cells #[.int .i8 h.kind, .string h.name, .string h.arg, .int .i64 h.num, .int .i8 h.tk, .slice p.TA p.tn p.tc, .int .i8 h.uk, .slice p.UA p.un p.uc, .int .i64 h.label, .int .i64 h.pos, .slice p.A p.n p.c] 28)).alloc (Obj.cells #[Value.int IntKind.i64 0] 3)).alloc (Obj.cells #[Value.int IntKind.i64 0] 3)) (Obj.cells #[Value.int IntKind.i64 0, Value.int IntKind.i64 0] 92)
    simpa [TTape] using this
  rintro e w5 ⟨rfl, hg⟩
  have hb5 : Below w.heap.size w w5 := ((((((Below.refl w.heap.size w).alloc (Nat.le_refl _) _).alloc (by simp) _).alloc (by simp <;> omega) _).alloc (by simp <;> omega) _)).grown hg (by simp <;> omega) (fun k hk => by injection hk with hk; omega)
  have r0 := heap_grown (b := w.heap.size + 1) hg (by omega) (heap_old (heap_old (by have := heap_new (w.alloc (.cells #[.int .i8 h.kind, .string h.name, .string h.arg, .int .i64 h.num, .int .i8 h.tk, .slice p.TA p.tn p.tc, .int .i8 h.uk, .slice p.UA p.un p.uc, .int .i64 h.label, .int .i64 h.pos, .slice p.A p.n p.c] 28)) (Obj.cells #[Value.int IntKind.i64 0] 3); simpa using this) _) _)
  have r1 := heap_grown (b := w.heap.size + 1 + 1) hg (by omega) (heap_old (by have := heap_new ((w.alloc (.cells #[.int .i8 h.kind, .string h.name, .string h.arg, .int .i64 h.num, .int .i8 h.tk, .slice p.TA p.tn p.tc, .int .i8 h.uk, .slice p.UA p.un p.uc, .int .i64 h.label, .int .i64 h.pos, .slice p.A p.n p.c] 28)).alloc (Obj.cells #[Value.int IntKind.i64 0] 3)) (Obj.cells #[Value.int IntKind.i64 0] 3); simpa using this) _)
  obtain ⟨p0, p1, p2⟩ := own1 r0
  obtain ⟨q0, q1, q2⟩ := own1 r1
  clear hg r0 r1
  have hB6 := ((hb5.setCell (show w.heap.size ≤ (⟨w.heap.size + 1, 0, none⟩ : Addr).block by simp) (Value.int IntKind.i64 8193)).setCell (show w.heap.size ≤ (⟨w.heap.size + 1 + 1, 0, none⟩ : Addr).block by simp <;> omega) (Value.int IntKind.i64 201))
  obtain ⟨z0, z1⟩ := two_cells w5 (w.heap.size + 1) (w.heap.size + 1 + 1) (.int .i64 8193) (.int .i64 201) (by omega) p0 q0
  refine leaves_cons (f := 51) (args := #[.pointer (some ⟨w.heap.size + 1, 0, none⟩), .pointer (some ⟨w.heap.size + 1 + 1, 0, none⟩)]) (by simp) (by simp [go_sem]) ?_
  refine (tcatch_great _ _ _ _ _ p0 q0 p1 q1 (by simp)).mono ?_
  rintro e u' w6 ⟨rfl, rfl, rfl⟩
  have z0' := z0
  have z1' := z1
  generalize (World.setCell _ _ _) = w6 at hB6 z0' z1' ⊢
  exact ⟨.tuple #[.int .i64 8193, .int .i64 201], by simp [results, Tryz.results29, go_sem, z0', z1'], rfl, hB6⟩

theorem tmeasure_any (h : Hd) (kids : Tm) (p : Pl) (w : World) (hIs : Tm.Is w h kids p) (hS : TShapes w) :
    Calls Tryz.prog 29 #[.agg #[.int .i8 h.kind, .string h.name, .string h.arg, .int .i64 h.num, .int .i8 h.tk, .slice p.TA p.tn p.tc, .int .i8 h.uk, .slice p.UA p.un p.uc, .int .i64 h.label, .int .i64 h.pos, .slice p.A p.n p.c]] w fun e w' => e = .returned (.tuple #[.int .i64 (Tm.nod h kids), .int .i64 (Tm.dpt h kids)]) ∧ Below w.heap.size w w' := by
  rcases Nat.lt_or_ge 8192 (Tm.nd h kids) with hh | hh
  · exact tmeasure_big h kids p w hIs hS hh
  · exact tmeasure_ok h kids p w hIs hS hh
end Go.Proofs.YtknhoagicdfikaaGreatDoor
namespace Go.Proofs.YtknhoagicdfikaaGreatDoor
open Go.RowKit

/-- what the program's own variables hold -/
structure TGlob (w : World) : Prop where
  terms : TShapes w
  types : Shapes w
  err : ∃ tp p, w.var? Tryz.prog "strconv.ErrRange" = some #[.iface tp p]
theorem TGlob.below {w w' : World} (h : TGlob w) (hb : Below w.heap.size w w') : TGlob w' :=
  ⟨h.terms.below hb, h.types.below hb, by obtain ⟨tp, p, hv⟩ := h.err; exact ⟨tp, p, var_at hb hv⟩⟩
theorem TGlob.alloc {w : World} (h : TGlob w) (o : Obj) : TGlob (w.alloc o) := h.below ((Below.refl _ _).alloc (Nat.le_refl _) _)

namespace Ty
def anyF (q : Int → Fo → Bool) : Fo → Bool
  | .nil => false
  | .node _ _ k kids r => q k kids || anyF q r
end Ty
namespace Tm
def anyF (q : Hd → Tm → Bool) : Tm → Bool
  | .nil => false
  | .node h kids r => q h kids || anyF q r
theorem tysOk_any (h : Hd) : Ty.anyF (fun k kids => Ty.chk k kids != 0) (tys h) = !tysOk h := by
  unfold tys tysOk
  cases ht : hasType h.kind
  · have hu : hasTo h.kind = false := by
      cases hq : hasTo h.kind
      · rfl
      · rw [hasTo_type hq] at ht; cases ht
    simp [hu, Ty.anyF]
  · cases hu : hasTo h.kind
    · simp [Ty.anyF, bne]
    · simp only [Ty.anyF, bne, if_true, Bool.not_true, Bool.false_or, Bool.or_false]
      cases (Ty.chk h.tk h.tkids == 0) <;> cases (Ty.chk h.uk h.ukids == 0) <;> rfl
theorem okF_any : ∀ f : Tm, anyF (fun h kids => !okT h kids) f = !okF f
  | .nil => rfl
  | .node h kids r => by
    simp only [anyF, okF]
    rw [okF_any r]
    have : okT h kids = (headOk h (len kids) && okF kids) := rfl
    rw [this]
    cases headOk h (len kids) <;> cases okF kids <;> cases okF r <;> rfl
end Tm

set_option maxHeartbeats 1000000 in
set_option maxRecDepth 100000 in
theorem untyped_any (k : Int) (kids : Fo) (A : Option Addr) (n c : Nat) (w : World) (hIs : Ty.Is w k kids A n c) (hS : Shapes w) :
    Calls Tryz.prog 58 #[.agg #[.int .i8 k, .slice A n c]] w fun e w' => e = .returned (.bool (Ty.chk k kids != 0)) ∧ Below w.heap.size w w' := by
  have hB0 := (Below.refl w.heap.size w).alloc (Nat.le_refl _) (.cells #[.int .i8 k, .slice A n c] 25)
  have HC := Lib.hid (fun (W : World) (hb : Below w.heap.size w W) => check_any k kids A n c W (hIs.below hb) (hS.below hb))
  clear hIs hS
  have e1 : (Ty.chk k kids != 0) = (((Ty.chk k kids : Nat) : Int) != 0) := by
    generalize Ty.chk k kids = N
    rw [Bool.eq_iff_iff]; simp
  rw [e1]
  generalize ((Ty.chk k kids : Nat) : Int) = N at *
  clear e1
  go_enter Tryz.func58, Tryz.ntmps58
  go_wp2_with fail
  refine (HC.out _ hB0).mono ?_
  rintro e w3 ⟨rfl, hb⟩
  go_wp2_with fail
  go_ret
  exact ⟨rfl, hB0.trans (hb.mono hB0.size)⟩

/-- the place of the first type of a list of which q holds; -1 -/
def Ty.firstI (q : Int → Fo → Bool) : Fo → Nat → Int
  | .nil, _ => -1
  | .node _ _ k kids r, i => if q k kids then i else Ty.firstI q r (i + 1)
theorem Ty.firstI_iff (q : Int → Fo → Bool) : ∀ (f : Fo) (i : Nat), 0 ≤ Ty.firstI q f i ↔ Ty.anyF q f = true
  | .nil, _ => by simp [Ty.firstI, Ty.anyF]
  | .node _ _ k kids r, i => by
    simp only [Ty.firstI, Ty.anyF, Bool.or_eq_true]
    by_cases hq : q k kids = true
    · rw [if_pos hq]; simp [hq]
    · rw [if_neg hq, Ty.firstI_iff q r (i + 1)]; simp [hq]
theorem Ty.firstI_any (q : Int → Fo → Bool) (f : Fo) (i : Nat) : decide (0 ≤ Ty.firstI q f i) = Ty.anyF q f := by
  rw [Bool.eq_iff_iff, decide_eq_true_eq]; exact Ty.firstI_iff q f i
def Tm.firstI (q : Hd → Tm → Bool) : Tm → Nat → Int
  | .nil, _ => -1
  | .node h kids r, i => if q h kids then i else Tm.firstI q r (i + 1)
theorem Tm.firstI_iff (q : Hd → Tm → Bool) : ∀ (f : Tm) (i : Nat), 0 ≤ Tm.firstI q f i ↔ Tm.anyF q f = true
  | .nil, _ => by simp [Tm.firstI, Tm.anyF]
  | .node h kids r, i => by
    simp only [Tm.firstI, Tm.anyF, Bool.or_eq_true]
    by_cases hq : q h kids = true
    · rw [if_pos hq]; simp [hq]
    · rw [if_neg hq, Tm.firstI_iff q r (i + 1)]; simp [hq]
theorem Tm.firstI_any (q : Hd → Tm → Bool) (f : Tm) (i : Nat) : decide (0 ≤ Tm.firstI q f i) = Tm.anyF q f := by
  rw [Bool.eq_iff_iff, decide_eq_true_eq]; exact Tm.firstI_iff q f i


set_option maxHeartbeats 1000000 in
set_option maxRecDepth 100000 in
theorem ty_index_any (f : FuncId) (q : Int → Fo → Bool) (kids : Fo) (A : Option Addr) (n c : Nat) (w : World) (hL : Ty.Lies w kids A 0) (hn : n = Ty.len kids) (hnc : n ≤ c) (hc : c ≤ maxLen)
    (hcf : ∀ (args : Array Value) (W : World), (callFunc f args).run Tryz.prog W = .ok (.enter f args) W)
    (hf : ∀ (k' : Int) (kids' : Fo) (A' : Option Addr) (n' c' : Nat) (W : World), Ty.Is W k' kids' A' n' c' → Below w.heap.size w W → Calls Tryz.prog f #[.agg #[.int .i8 k', .slice A' n' c']] W fun e w' => e = .returned (.bool (q k' kids')) ∧ Below W.heap.size W w') :
    Calls Tryz.prog 83 #[.slice A n c, .func (Fn.func f) #[] #[]] w fun e w' => e = .returned (.int .i64 (Ty.firstI q kids 0)) ∧ Below w.heap.size w w' := by
  have hst := Over.start hL hn
  have HF := Lib.hid hf
  have HS := Lib.hid hst
  have i5 : (n : Int) ≤ 9223372036854775807 := by unfold maxLen at hc; omega
  clear hst hn hf hL
  obtain ⟨R, hR⟩ : ∃ R, Ty.firstI q kids 0 = R := ⟨_, rfl⟩
  rw [hR]
  have HR := Lib.hid hR
  clear hR
  go_enter Tryz.func83, Tryz.ntmps83
  go_wp2_with fail
  go_loopw [8] (fun v wr => ∃ (i : Nat) (rest : Fo), v = .int .i64 i ∧ Over w wr A n (Ty.nodes kids) i rest ∧ Ty.firstI q rest i = R) (fun v _ => n - (intOf v).toNat)
  case atStart => exact ⟨0, kids, rfl, HS.out, HR.out⟩
  case round =>
    obtain ⟨i, rest, rfl, hO, hR⟩ := hrel
    cases rest with
    | nil =>
      have hi : i = n := by have := hO.i_eq; simpa [Ty.len] using this
      have hB := hO.below
      clear hO
      simp only [Ty.firstI] at hR
      subst hi
      subst hR
      go_wp2_with fail
      go_ret
      exact ⟨rfl, hB⟩
    | node a b k' kids' r =>
      have hst := fun w2 hb => Over.step (w2 := w2) hO hb
      have h1 := hO.i_eq
      have h2 := hO.lies
      have h4 := hO.below
      simp only [Ty.len, Ty.firstI] at h1 hR
      obtain ⟨bb, oo, B, c', rfl, ⟨hk1, hk2⟩, c1, c2, hl1, hl2, hl3, hl4⟩ := h2
      have hcall := HF.out k' kids' B (Ty.len kids') c' wr ⟨hl3, rfl, hl1, hl2, hk1, hk2⟩ h4
      have HS := Lib.hid hst
      have HL := Lib.hid hl4
      have HRR := Lib.hid hR
      have j1 : (i : Int) < n := by omega
      clear hst hl3 hl4 hO hR
      cases hp : q k' kids'
      · have hp0 := HRR.out
        rw [hp, if_neg (by simp)] at hp0
        have HP := Lib.hid hp0
        rw [hp] at hcall
        have HC := Lib.hid hcall
        clear hp hp0 hcall
        go_wp2_with fail
        refine HC.out.mono ?_
        rintro e w2 ⟨rfl, hb⟩
        have hbb := Lib.hid (HS.out w2 hb HL.out)
        clear hb
        go_wp2_with fail
        go_roundw
        case rel => exact ⟨i + 1, r, by go_num, hbb.out, HP.out⟩
        case measure => simp [intOf]; omega
      · have hp0 : R = i := by rw [← HRR.out, hp]; rfl
        rw [hp] at hcall
        have HC := Lib.hid hcall
        clear hp hcall
        subst hp0
        go_wp2_with fail
        refine HC.out.mono ?_
        rintro e w2 ⟨rfl, hb⟩
        go_wp2_with fail
        go_ret
        exact ⟨rfl, h4.trans (hb.mono h4.size)⟩

set_option maxHeartbeats 1000000 in
set_option maxRecDepth 100000 in
theorem ty_contains_any (f : FuncId) (q : Int → Fo → Bool) (kids : Fo) (A : Option Addr) (n c : Nat) (w : World) (hL : Ty.Lies w kids A 0) (hn : n = Ty.len kids) (hnc : n ≤ c) (hc : c ≤ maxLen)
    (hcf : ∀ (args : Array Value) (W : World), (callFunc f args).run Tryz.prog W = .ok (.enter f args) W)
    (hf : ∀ (k' : Int) (kids' : Fo) (A' : Option Addr) (n' c' : Nat) (W : World), Ty.Is W k' kids' A' n' c' → Below w.heap.size w W → Calls Tryz.prog f #[.agg #[.int .i8 k', .slice A' n' c']] W fun e w' => e = .returned (.bool (q k' kids')) ∧ Below W.heap.size W w') :
    Calls Tryz.prog 56 #[.slice A n c, .func (Fn.func f) #[] #[]] w fun e w' => e = .returned (.bool (Ty.anyF q kids)) ∧ Below w.heap.size w w' := by
  have HI := Lib.hid (ty_index_any f q kids A n c w hL hn hnc hc hcf hf)
  rw [← Ty.firstI_any q kids 0]
  clear hL hn hf hcf
  generalize Ty.firstI q kids 0 = R at *
  go_enter Tryz.func56, Tryz.ntmps56
  go_wp2_with fail
  refine HI.out.mono ?_
  rintro e w2 ⟨rfl, hb⟩
  go_wp2_with fail
  go_ret
  exact ⟨rfl, hb⟩
end Go.Proofs.YtknhoagicdfikaaGreatDoor
namespace Go.Proofs.YtknhoagicdfikaaGreatDoor
open Go.RowKit

/-- a loop's state over a list of terms -/
structure OverT (w wr : World) (A : Option Addr) (n nk : Nat) (i : Nat) (rest : Tm) : Prop where
  i_eq : i + Tm.len rest = n
  lies : Tm.Lies wr rest A i
  sub : Tm.nodes rest ≤ nk
  below : Below w.heap.size w wr
theorem OverT.step {w wr w2 : World} {A : Option Addr} {n nk i : Nat} {h : Hd} {kids r : Tm} (g : OverT w wr A n nk i (.node h kids r)) (hb : Below wr.heap.size wr w2) (hA : Tm.Lies wr r A (i + 1)) : OverT w w2 A n nk (i + 1) r := by
  obtain ⟨h1, h2, h3, h4⟩ := g
  simp only [Tm.len, Tm.nodes] at h1 h3
  exact ⟨by omega, hA.below hb, by omega, h4.trans (hb.mono h4.size)⟩
theorem OverT.start {w : World} {A : Option Addr} {kids : Tm} {n : Nat} (h : Tm.Lies w kids A 0) (hn : n = Tm.len kids) : OverT w w A n (Tm.nodes kids) 0 kids := ⟨by omega, h, Nat.le_refl _, Below.refl _ _⟩
/-- a row's cells, one by one -/
theorem Tm.row {w : World} {b o : Nat} {h : Hd} {p : Pl} (hcs : ∀ j v, (h.cells p)[j]? = some v → w.cell? ⟨b, o + j, none⟩ = some v) :
    w.cell? ⟨b, o, none⟩ = some (.int .i8 h.kind) ∧ w.cell? ⟨b, o + 1, none⟩ = some (.string h.name) ∧ w.cell? ⟨b, o + 2, none⟩ = some (.string h.arg) ∧ w.cell? ⟨b, o + 3, none⟩ = some (.int .i64 h.num) ∧
    w.cell? ⟨b, o + 4, none⟩ = some (.int .i8 h.tk) ∧ w.cell? ⟨b, o + 5, none⟩ = some (.slice p.TA p.tn p.tc) ∧ w.cell? ⟨b, o + 6, none⟩ = some (.int .i8 h.uk) ∧ w.cell? ⟨b, o + 7, none⟩ = some (.slice p.UA p.un p.uc) ∧
    w.cell? ⟨b, o + 8, none⟩ = some (.int .i64 h.label) ∧ w.cell? ⟨b, o + 9, none⟩ = some (.int .i64 h.pos) ∧ w.cell? ⟨b, o + 10, none⟩ = some (.slice p.A p.n p.c) :=
  ⟨hcs 0 _ rfl, hcs 1 _ rfl, hcs 2 _ rfl, hcs 3 _ rfl, hcs 4 _ rfl, hcs 5 _ rfl, hcs 6 _ rfl, hcs 7 _ rfl, hcs 8 _ rfl, hcs 9 _ rfl, hcs 10 _ rfl⟩

set_option maxHeartbeats 1000000 in
set_option maxRecDepth 100000 in
theorem tm_index_any (f : FuncId) (q : Hd → Tm → Bool) (kids : Tm) (A : Option Addr) (n c : Nat) (w : World) (hL : Tm.Lies w kids A 0) (hn : n = Tm.len kids) (hnc : n ≤ c) (hc : c ≤ maxLen)
    (hcf : ∀ (args : Array Value) (W : World), (callFunc f args).run Tryz.prog W = .ok (.enter f args) W)
    (hf : ∀ (h : Hd) (kids' : Tm) (p : Pl) (W : World), Tm.nodes kids' < Tm.nodes kids → Tm.Is W h kids' p → Below w.heap.size w W → Calls Tryz.prog f #[.agg #[.int .i8 h.kind, .string h.name, .string h.arg, .int .i64 h.num, .int .i8 h.tk, .slice p.TA p.tn p.tc, .int .i8 h.uk, .slice p.UA p.un p.uc, .int .i64 h.label, .int .i64 h.pos, .slice p.A p.n p.c]] W fun e w' => e = .returned (.bool (q h kids')) ∧ Below W.heap.size W w') :
    Calls Tryz.prog 84 #[.slice A n c, .func (Fn.func f) #[] #[]] w fun e w' => e = .returned (.int .i64 (Tm.firstI q kids 0)) ∧ Below w.heap.size w w' := by
  have hst := OverT.start hL hn
  have HF := Lib.hid hf
  have HS := Lib.hid hst
  have i5 : (n : Int) ≤ 9223372036854775807 := by unfold maxLen at hc; omega
  clear hst hn hf hL
  obtain ⟨R, hR⟩ : ∃ R, Tm.firstI q kids 0 = R := ⟨_, rfl⟩
  rw [hR]
  have HR := Lib.hid hR
  clear hR
  go_enter Tryz.func84, Tryz.ntmps84
  go_wp2_with fail
  go_loopw [8] (fun v wr => ∃ (i : Nat) (rest : Tm), v = .int .i64 i ∧ OverT w wr A n (Tm.nodes kids) i rest ∧ Tm.firstI q rest i = R) (fun v _ => n - (intOf v).toNat)
  case atStart => exact ⟨0, kids, rfl, HS.out, HR.out⟩
  case round =>
    obtain ⟨i, rest, rfl, hO, hR⟩ := hrel
    cases rest with
    | nil =>
      have hi : i = n := by have := hO.i_eq; simpa [Tm.len] using this
      have hB := hO.below
      clear hO
      simp only [Tm.firstI] at hR
      subst hi
      subst hR
      go_wp2_with fail
      go_ret
      exact ⟨rfl, hB⟩
    | node h kids' r =>
      have hst := fun w2 hb => OverT.step (w2 := w2) hO hb
      have h1 := hO.i_eq
      have h2 := hO.lies
      have h3 := hO.sub
      have h4 := hO.below
      simp only [Tm.len, Tm.nodes, Tm.firstI] at h1 h3 hR
      obtain ⟨bb, oo, p, rfl, hcs, hfit, hl3, hl4⟩ := h2
      have hcall := HF.out h kids' p wr (by omega) ⟨hfit, hl3⟩ h4
      obtain ⟨c0, c1, c2, c3, c4, c5, c6, c7, c8, c9, c10⟩ := Tm.row hcs
      have HS := Lib.hid hst
      have HL := Lib.hid hl4
      have HRR := Lib.hid hR
      have j1 : (i : Int) < n := by omega
      clear hst hl3 hl4 hO hR hcs hfit
      cases hp : q h kids'
      · have hp0 := HRR.out
        rw [hp, if_neg (by simp)] at hp0
        have HP := Lib.hid hp0
        rw [hp] at hcall
        have HC := Lib.hid hcall
        clear hp hp0 hcall
        go_wp2_with fail
        refine HC.out.mono ?_
        rintro e w2 ⟨rfl, hb⟩
        have hbb := Lib.hid (HS.out w2 hb HL.out)
        clear hb
        go_wp2_with fail
        go_roundw
        case rel => exact ⟨i + 1, r, by go_num, hbb.out, HP.out⟩
        case measure => simp [intOf]; omega
      · have hp0 : R = i := by rw [← HRR.out, hp]; rfl
        rw [hp] at hcall
        have HC := Lib.hid hcall
        clear hp hcall
        subst hp0
        go_wp2_with fail
        refine HC.out.mono ?_
        rintro e w2 ⟨rfl, hb⟩
        go_wp2_with fail
        go_ret
        exact ⟨rfl, h4.trans (hb.mono h4.size)⟩

set_option maxHeartbeats 1000000 in
set_option maxRecDepth 100000 in
theorem tm_contains_any (f : FuncId) (q : Hd → Tm → Bool) (kids : Tm) (A : Option Addr) (n c : Nat) (w : World) (hL : Tm.Lies w kids A 0) (hn : n = Tm.len kids) (hnc : n ≤ c) (hc : c ≤ maxLen)
    (hcf : ∀ (args : Array Value) (W : World), (callFunc f args).run Tryz.prog W = .ok (.enter f args) W)
    (hf : ∀ (h : Hd) (kids' : Tm) (p : Pl) (W : World), Tm.nodes kids' < Tm.nodes kids → Tm.Is W h kids' p → Below w.heap.size w W → Calls Tryz.prog f #[.agg #[.int .i8 h.kind, .string h.name, .string h.arg, .int .i64 h.num, .int .i8 h.tk, .slice p.TA p.tn p.tc, .int .i8 h.uk, .slice p.UA p.un p.uc, .int .i64 h.label, .int .i64 h.pos, .slice p.A p.n p.c]] W fun e w' => e = .returned (.bool (q h kids')) ∧ Below W.heap.size W w') :
    Calls Tryz.prog 59 #[.slice A n c, .func (Fn.func f) #[] #[]] w fun e w' => e = .returned (.bool (Tm.anyF q kids)) ∧ Below w.heap.size w w' := by
  have HI := Lib.hid (tm_index_any f q kids A n c w hL hn hnc hc hcf hf)
  rw [← Tm.firstI_any q kids 0]
  clear hL hn hf hcf
  generalize Tm.firstI q kids 0 = R at *
  go_enter Tryz.func59, Tryz.ntmps59
  go_wp2_with fail
  refine HI.out.mono ?_
  rintro e w2 ⟨rfl, hb⟩
  go_wp2_with fail
  go_ret
  exact ⟨rfl, hb⟩

/-! misnamed -/
set_option maxHeartbeats 2000000 in
set_option maxRecDepth 100000 in
theorem misnamed_any (h : Hd) (p : Pl) (w : World) (n0 : Nat) (hF : Tm.Fit w h p n0) (hG : TGlob w) (b2 b3 b4 b5 : Bool) (kn : Int) :
    Calls Tryz.prog 54 #[.agg #[.int .i8 h.kind, .string h.name, .string h.arg, .int .i64 h.num, .int .i8 h.tk, .slice p.TA p.tn p.tc, .int .i8 h.uk, .slice p.UA p.un p.uc, .int .i64 h.label, .int .i64 h.pos, .slice p.A p.n p.c], .agg #[.bool (Tm.hasName h.kind), .bool (Tm.hasArg h.kind), .bool b2, .bool b3, .bool b4, .bool b5, .int .i64 kn]] w fun e w' => e = .returned (.bool (!Tm.nameOk h)) ∧ Below w.heap.size w w' := by
  have hB0 : Below w.heap.size w ((w.alloc (.cells #[.int .i8 h.kind, .string h.name, .string h.arg, .int .i64 h.num, .int .i8 h.tk, .slice p.TA p.tn p.tc, .int .i8 h.uk, .slice p.UA p.un p.uc, .int .i64 h.label, .int .i64 h.pos, .slice p.A p.n p.c] 28)).alloc (.cells #[.bool (Tm.hasName h.kind), .bool (Tm.hasArg h.kind), .bool b2, .bool b3, .bool b4, .bool b5, .int .i64 kn] 97)) :=
    ((Below.refl _ _).alloc (Nat.le_refl _) _).alloc (by simp) _
  have HN := Lib.hid (fun (W : World) (hb : Below w.heap.size w W) => by
    obtain ⟨tp, q, hv⟩ := (hG.below hb).err
    exact scan_Name_any h.name hF.nm W tp q hv)
  have HA := Lib.hid (fun (W : World) (hb : Below w.heap.size w W) => by
    obtain ⟨tp, q, hv⟩ := (hG.below hb).err
    exact scan_Name_any h.arg hF.ar W tp q hv)
  obtain ⟨r0, r1, r2⟩ := two_new w (.cells #[.int .i8 h.kind, .string h.name, .string h.arg, .int .i64 h.num, .int .i8 h.tk, .slice p.TA p.tn p.tc, .int .i8 h.uk, .slice p.UA p.un p.uc, .int .i64 h.label, .int .i64 h.pos, .slice p.A p.n p.c] 28) (.cells #[.bool (Tm.hasName h.kind), .bool (Tm.hasArg h.kind), .bool b2, .bool b3, .bool b4, .bool b5, .int .i64 kn] 97)
  have R0 := Lib.hid r0
  have R1 := Lib.hid r1
  clear hF hG r0 r1 r2
  by_cases hk : h.kind = 15
  · have e1 : Tm.nameOk h = Tm.isOp h.name := by unfold Tm.nameOk; rw [if_pos hk]
    have HO := Lib.hid (operator_any h.name)
    have hk2 : (h.kind == 15) = true := by rw [hk]; rfl
    rw [e1]
    generalize Tm.isOp h.name = R at *
    clear hk e1
    go_enter Tryz.func54, Tryz.ntmps54
    go_wp2_with fail
    refine (HO.out _).mono ?_
    rintro e w2 ⟨rfl, rfl⟩
    go_wp2_with fail
    go_ret
    exact ⟨rfl, hB0⟩
  · have hk2 : (h.kind == 15) = false := by simpa using hk
    have e1 : Tm.nameOk h = ((!Tm.hasName h.kind || Sc.isName h.name) && (!Tm.hasArg h.kind || Sc.isName h.arg)) := by unfold Tm.nameOk; rw [if_neg hk]
    rw [e1]
    clear hk e1
    generalize Sc.isName h.name = x at *
    generalize Sc.isName h.arg = y at *
    generalize Tm.hasName h.kind = a at *
    generalize Tm.hasArg h.kind = b at *
    have HP := hB0.size
    cases a
    · cases b
      · go_enter Tryz.func54, Tryz.ntmps54
        go_wp2_with fail
        go_ret
        exact ⟨rfl, hB0⟩
      · go_enter Tryz.func54, Tryz.ntmps54
        go_wp2_with fail
        refine (HA.out _ hB0).mono ?_
        rintro e w2 ⟨rfl, hb⟩
        go_wp2_with fail
        go_ret
        exact ⟨rfl, hB0.trans (hb.mono HP)⟩
    · cases x
      · go_enter Tryz.func54, Tryz.ntmps54
        go_wp2_with fail
        refine (HN.out _ hB0).mono ?_
        rintro e w2 ⟨rfl, hb⟩
        go_wp2_with fail
        go_ret
        exact ⟨rfl, hB0.trans (hb.mono HP)⟩
      · cases b
        · go_enter Tryz.func54, Tryz.ntmps54
          go_wp2_with fail
          refine (HN.out _ hB0).mono ?_
          rintro e w2 ⟨rfl, hb⟩
          obtain ⟨s0, s1, s2, s3, s4, s5, s6, sl⟩ := own7 (heap_below hb (by simp) R1.out)
          go_wp2_with fail
          go_ret
          exact ⟨rfl, hB0.trans (hb.mono HP)⟩
        · go_enter Tryz.func54, Tryz.ntmps54
          go_wp2_with fail
          refine (HN.out _ hB0).mono ?_
          rintro e w2 ⟨rfl, hb⟩
          obtain ⟨s0, s1, s2, s3, s4, s5, s6, sl⟩ := own7 (heap_below hb (by simp) R1.out)
          obtain ⟨q0, q1, q2, q3, q4, q5, q6, q7, q8, q9, q10, ql⟩ := own11 (heap_below hb (by simp; omega) R0.out)
          have hB2 := hB0.trans (hb.mono HP)
          clear hb
          go_wp2_with fail
          refine (HA.out _ hB2).mono ?_
          rintro e w3 ⟨rfl, hb⟩
          go_wp2_with fail
          go_ret
          exact ⟨rfl, hB2.trans (hb.mono hB2.size)⟩
end Go.Proofs.YtknhoagicdfikaaGreatDoor
