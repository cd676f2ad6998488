import Derived.Test.YtlfcbmobgbcgnaaGreatDoorM6
import Derived.Test.YtlfcbmobgbcgnaaGreatDoorM7
import Derived.Test.YtlfcbmobgbcgnaaGreatDoorM8
import Derived.Test.YtlfcbmobgbcgnaaGreatDoorM2
namespace Go.Proofs.YtlfcbmobgbcgnaaGreatDoor
set_option maxRecDepth 100000
open Go.RowKit
theorem zBI (w : World) : (binOp .eql 20 (.iface 146 (.agg #[])) (.iface 146 (.agg #[]))).run Tryz.prog w = .ok (.bool true) w := by kernel_rfl
theorem zCT (w : World) : (binOp .eql 20 .nilIface (.iface 146 (.agg #[]))).run Tryz.prog w = .ok (.bool false) w := by kernel_rfl
theorem zCR (w : World) : (binOp .neq 20 .nilIface .nilIface).run Tryz.prog w = .ok (.bool false) w := by kernel_rfl
theorem xN (p q : Addr) (x y : Value) (w : World) (hp : w.cell? p = some x) (hq : w.cell? q = some y) (fp : w.frozen? p = false) (fq : w.frozen? q = false) (hne : p ≠ q) :
  CallsD Tryz.prog 113 #[.pointer (some p), .pointer (some q)] (.panicking [{ v := .iface 146 (.agg #[]), recovered := false }]) w fun e u' w' =>
   e = .returned (.tuple #[]) ∧ u' = .panicking [{ v := .iface 146 (.agg #[]), recovered := true }] ∧ w' = (w.setCell p (.int .i64 8193)).setCell q (.int .i64 201) := by
 have e1 := zBI
 have hq' : (w.setCell p (.int .i64 8193)).cell? q = some y := by rw [World.cell?_setCell_other w p q _ hne]; exact hq
 refine callsD_of_wpS Tryz.func113 rfl fun c₀ cs hu => ?_
 apply wpS_seq
 apply wpS_region
 simp [wpOpsS, go_sem, recoverD, hu, Tryz.ntmps113, Exit.thenS]
 refine wpS_of_wp ?_
 change Code.wp _ _ _ { tmps := #[.pointer (some p), .pointer (some q), .iface 146 (.agg #[]), .iface 146 (.agg #[]), undef, undef, undef, undef, undef, undef, undef], defers := [] } w
 clear hu
 go_wp2_with fail
 exact ⟨rfl, _, rfl, .tuple #[], by simp [results, Tryz.results113], rfl, rfl, rfl⟩
theorem wU (p q : Addr) (w : World) :
  CallsD Tryz.prog 113 #[.pointer (some p), .pointer (some q)] .returning w fun e u' w' => e = .returned (.tuple #[]) ∧ u' = .returning ∧ w' = w := by
 have e1 := zCT
 have e2 := zCR
 refine callsD_of_wpS Tryz.func113 rfl fun c₀ cs hu => ?_
 apply wpS_seq
 apply wpS_region
 simp [wpOpsS, go_sem, recoverD, hu, Tryz.ntmps113, Exit.thenS]
 refine wpS_of_wp ?_
 change Code.wp _ _ _ { tmps := #[.pointer (some p), .pointer (some q), .nilIface, .nilIface, undef, undef, undef, undef, undef, undef, undef], defers := [] } w
 go_wp2_with fail
 exact ⟨rfl, .returning, by cases c₀; simp_all, .tuple #[], by simp [results, Tryz.results113], rfl, rfl, rfl⟩
set_option maxHeartbeats 1000000 in
theorem wS (h : Hd) (kids : Tm) (p : Pl) (w : World) (hIs : Tm.Is w h kids p) (hS : TShapes w) (hn : Tm.nd h kids ≤ 8192) :
  Calls Tryz.prog 79 #[.agg (tC_ h p)] w fun e w' => e = .returned (.tuple #[.int .i64 (Tm.nod h kids), .int .i64 (Tm.dpt h kids)]) ∧ Below w.heap.size w w' := by
 try unfold tC_
 have hmf : ∀ (fn : Fn) (first cap : Array Value) (w : World), (Instr.makeFunc fn first cap).run Tryz.prog w = .ok (.func fn first cap) w := fun _ _ _ _ => rfl
 have hcall : ∀ (W : World) (_ : Tm.Is W h kids p ∧ TShapes W) (t : Nat) (_ : TTape W t 0 0), Calls Tryz.prog 114 #[.pointer (some ⟨t, 0, none⟩), .agg (tC_ h p), .int .i64 1] W (TLayOk W t (Tm.nd h kids) (Tm.dp h kids)) := by
  intro W hh t hT
  have := wT (Tm.nodes kids + 1) h kids p W t 0 0 1 (by omega) hh.1 hh.2 hT (by omega) (by omega) (by omega)
  refine this.mono fun e w' hp => ?_
  rcases hp with ⟨_, h1⟩ | ⟨h1, _⟩
  ·rw [show 0 + Tm.nd h kids = Tm.nd h kids by omega, show max 0 (1 + max (Tm.tyD h) (Tm.dep kids)) = Tm.dp h kids by unfold Tm.dp; omega] at h1
   exact h1
  ·omega
 have e1 : Tm.nod h kids = Tm.nd h kids := by unfold Tm.nod; omega
 have e2 : Tm.dpt h kids = min (Tm.dp h kids) 201 := by unfold Tm.dpt; rw [if_neg (by omega)]
 rw [e1, e2]
 generalize Tm.nd h kids = N at *
 generalize Tm.dp h kids = D at *
 obtain ⟨M, hM⟩ : ∃ M : Nat, M = min D 201 := ⟨_, rfl⟩
 rw [← hM]
 have HM := k0_ hM
 have HC := k0_ hcall
 have HI : Hid (∀ (W : World), Below w.heap.size w W → Tm.Is W h kids p ∧ TShapes W) := k0_ fun W hb => ⟨hIs.below hb, hS.below hb⟩
 have H4 : ∀ o1 o2 o3 o4 : Obj, Below w.heap.size w ((((w.alloc o1).alloc o2).alloc o3).alloc o4) := fun o1 o2 o3 o4 => ((((Below.refl w.heap.size w).alloc (Nat.le_refl _) _).alloc (by simp) _).alloc (by simp <;> omega) _).alloc (by simp <;> omega) _
 clear hcall hIs hS e1 e2 hM
 all_goals
  have hD2 : (M : Int) = min (D : Int) 201 := by rw [HM.out]; omega
  have HD := k0_ hD2
  clear hD2
  go_enter_defers Tryz.func79, Tryz.ntmps79
  go_wp2_with fail
  refine (HC.out _ (HI.out _ (H4 _ _ _ _)) _ ?_).mono ?_
  ·exact zFO
  rintro e w5 ⟨rfl, hT, hg⟩
  have hb5 : Below w.heap.size w w5 := ((((((Below.refl w.heap.size w).alloc (Nat.le_refl _) _).alloc (by simp) _).alloc (by simp <;> omega) _).alloc (by simp <;> omega) _)).grown hg (by simp <;> omega) (fun k hk => by injection hk with hk; omega)
  have r0 := zz (b := w.heap.size + 1) hg (by omega) (zH (zH (by have := zD (w.alloc (.cells (tC_ h p) 28)) (Obj.cells #[Value.int IntKind.i64 0] 3); simpa using this) _) _)
  have r1 := zz (b := w.heap.size + 1 + 1) hg (by omega) (zH (by have := zD ((w.alloc (.cells (tC_ h p) 28)).alloc (Obj.cells #[Value.int IntKind.i64 0] 3)) (Obj.cells #[Value.int IntKind.i64 0] 3); simpa using this) _)
  obtain ⟨t0, t1, f0, f1, htl⟩ := zF hT
  obtain ⟨p0, p1, p2⟩ := vZ r0
  obtain ⟨q0, q1, q2⟩ := vZ r1
  clear hT hg r0 r1
  go_wp2_with fail
  go_region
  go_wp2_with fail
  have hB6 := ((hb5.setCell (show w.heap.size ≤ (⟨w.heap.size + 1, 0, none⟩ : Addr).block by simp) (Value.int IntKind.i64 N)).setCell (show w.heap.size ≤ (⟨w.heap.size + 1 + 1, 0, none⟩ : Addr).block by simp <;> omega) (Value.int IntKind.i64 M)).drew
  obtain ⟨z0, z1⟩ := jc w5 (w.heap.size + 1) (w.heap.size + 1 + 1) (.int .i64 N) (.int .i64 M) (by omega) p0 q0
  rw [HD.out] at hB6 z0 z1
  refine leaves_cons (f := 113) (args := #[.pointer (some ⟨w.heap.size + 1, 0, none⟩), .pointer (some ⟨w.heap.size + 1 + 1, 0, none⟩)]) (by simp) (by simp [go_sem]) ?_
  refine (wU _ _ _).mono ?_
  rintro e u' w6 ⟨rfl, rfl, rfl⟩
  rw [HD.out]
  generalize (World.setCell _ _ _).drew = w6 at hB6 z0 z1 ⊢
  exact ⟨.tuple #[.int .i64 N, _], by simp [results, Tryz.results79, go_sem, z0, z1], rfl, hB6⟩
set_option maxHeartbeats 1000000 in
theorem xK (h : Hd) (kids : Tm) (p : Pl) (w : World) (hIs : Tm.Is w h kids p) (hS : TShapes w) (hn : 8192 < Tm.nd h kids) :
  Calls Tryz.prog 79 #[.agg (tC_ h p)] w fun e w' => e = .returned (.tuple #[.int .i64 (Tm.nod h kids), .int .i64 (Tm.dpt h kids)]) ∧ Below w.heap.size w w' := by
 try unfold tC_
 have hmf : ∀ (fn : Fn) (first cap : Array Value) (w : World), (Instr.makeFunc fn first cap).run Tryz.prog w = .ok (.func fn first cap) w := fun _ _ _ _ => rfl
 have hcall : ∀ (W : World) (_ : Tm.Is W h kids p ∧ TShapes W) (t : Nat) (_ : TTape W t 0 0), Calls Tryz.prog 114 #[.pointer (some ⟨t, 0, none⟩), .agg (tC_ h p), .int .i64 1] W (TLayBig W t) := by
  intro W hh t hT
  have := wT (Tm.nodes kids + 1) h kids p W t 0 0 1 (by omega) hh.1 hh.2 hT (by omega) (by omega) (by omega)
  refine this.mono fun e w' hp => ?_
  rcases hp with ⟨h1, _⟩ | ⟨_, h1⟩
  ·omega
  ·exact h1
 have e1 : ((Tm.nod h kids : Nat) : Int) = 8193 := by unfold Tm.nod; omega
 have e2 : ((Tm.dpt h kids : Nat) : Int) = 201 := by unfold Tm.dpt; rw [if_pos hn]; rfl
 rw [e1, e2]
 have HC := k0_ hcall
 have HI : Hid (∀ (W : World), Below w.heap.size w W → Tm.Is W h kids p ∧ TShapes W) := k0_ fun W hb => ⟨hIs.below hb, hS.below hb⟩
 have H4 : ∀ o1 o2 o3 o4 : Obj, Below w.heap.size w ((((w.alloc o1).alloc o2).alloc o3).alloc o4) := fun o1 o2 o3 o4 => ((((Below.refl w.heap.size w).alloc (Nat.le_refl _) _).alloc (by simp) _).alloc (by simp <;> omega) _).alloc (by simp <;> omega) _
 clear hcall hIs hS e1 e2
 go_enter_defers Tryz.func79, Tryz.ntmps79
 go_wp2_with fail
 refine (HC.out _ (HI.out _ (H4 _ _ _ _)) _ ?_).mono ?_
 ·exact zFO
 rintro e w5 ⟨rfl, hg⟩
 have hb5 : Below w.heap.size w w5 := ((((((Below.refl w.heap.size w).alloc (Nat.le_refl _) _).alloc (by simp) _).alloc (by simp <;> omega) _).alloc (by simp <;> omega) _)).grown hg (by simp <;> omega) (fun k hk => by injection hk with hk; omega)
 have r0 := zz (b := w.heap.size + 1) hg (by omega) (zH (zH (by have := zD (w.alloc (.cells (tC_ h p) 28)) (Obj.cells #[Value.int IntKind.i64 0] 3); simpa using this) _) _)
 have r1 := zz (b := w.heap.size + 1 + 1) hg (by omega) (zH (by have := zD ((w.alloc (.cells (tC_ h p) 28)).alloc (Obj.cells #[Value.int IntKind.i64 0] 3)) (Obj.cells #[Value.int IntKind.i64 0] 3); simpa using this) _)
 obtain ⟨p0, p1, p2⟩ := vZ r0
 obtain ⟨q0, q1, q2⟩ := vZ r1
 clear hg r0 r1
 have hB6 := ((hb5.setCell (show w.heap.size ≤ (⟨w.heap.size + 1, 0, none⟩ : Addr).block by simp) (Value.int IntKind.i64 8193)).setCell (show w.heap.size ≤ (⟨w.heap.size + 1 + 1, 0, none⟩ : Addr).block by simp <;> omega) (Value.int IntKind.i64 201))
 obtain ⟨z0, z1⟩ := vX w5 (w.heap.size + 1) (w.heap.size + 1 + 1) (.int .i64 8193) (.int .i64 201) (by omega) p0 q0
 refine leaves_cons (f := 113) (args := #[.pointer (some ⟨w.heap.size + 1, 0, none⟩), .pointer (some ⟨w.heap.size + 1 + 1, 0, none⟩)]) (by simp) (by simp [go_sem]) ?_
 refine (xN _ _ _ _ _ p0 q0 p1 q1 (by simp)).mono ?_
 rintro e u' w6 ⟨rfl, rfl, rfl⟩
 have z0' := z0
 have z1' := z1
 generalize (World.setCell _ _ _) = w6 at hB6 z0' z1' ⊢
 exact ⟨.tuple #[.int .i64 8193, .int .i64 201], by simp [results, Tryz.results79, go_sem, z0', z1'], rfl, hB6⟩
theorem xL (h : Hd) (kids : Tm) (p : Pl) (w : World) (hIs : Tm.Is w h kids p) (hS : TShapes w) :
  Calls Tryz.prog 79 #[.agg (tC_ h p)] w fun e w' => e = .returned (.tuple #[.int .i64 (Tm.nod h kids), .int .i64 (Tm.dpt h kids)]) ∧ Below w.heap.size w w' := by
 try unfold tC_
 rcases Nat.lt_or_ge 8192 (Tm.nd h kids) with hh | hh
 ·exact xK h kids p w hIs hS hh
 ·exact wS h kids p w hIs hS hh
end Go.Proofs.YtlfcbmobgbcgnaaGreatDoor
namespace Go.Proofs.YtlfcbmobgbcgnaaGreatDoor
set_option maxHeartbeats 1000000
set_option maxRecDepth 100000
open Go.RowKit
structure TGlob (w : World) : Prop where
 terms : TShapes w
 types : Shapes w
 err : ∃ tp p, w.var? Tryz.prog "strconv.ErrRange" = some #[.iface tp p]
theorem TGlob.below {w w' : World} (h : TGlob w) (hb : Below w.heap.size w w') : TGlob w' :=
 ⟨h.terms.below hb, h.types.below hb, by obtain ⟨tp, p, hv⟩ := h.err; exact ⟨tp, p, xH hb hv⟩⟩
theorem TGlob.alloc {w : World} (h : TGlob w) (o : Obj) : TGlob (w.alloc o) := h.below ((Below.refl _ _).alloc (Nat.le_refl _) _)
namespace Ty
def anyF (q : Int → Fo → Bool) : Fo → Bool
 | .nil => false
 | .node _ _ k kids r => q k kids || anyF q r
end Ty
namespace Tm
def anyF (q : Hd → Tm → Bool) : Tm → Bool
 | .nil => false
 | .node h kids r => q h kids || anyF q r
theorem zBF (h : Hd) : Ty.anyF (fun k kids => Ty.chk k kids != 0) (tys h) = !tysOk h := by
 unfold tys tysOk
 cases ht : hasType h.kind
 ·have hu : hasTo h.kind = false := by
   exact zDW
  simp [hu, Ty.anyF]
 ·cases hu : hasTo h.kind
  ·simp [Ty.anyF, bne]
  ·simp only [Ty.anyF, bne, if_true, Bool.not_true, Bool.false_or, Bool.or_false]
   cases (Ty.chk h.tk h.tkids == 0) <;> cases (Ty.chk h.uk h.ukids == 0) <;> rfl
theorem zB1 : ∀ f : Tm, anyF (fun h kids => !okT h kids) f = !okF f
 | .nil => rfl
 | .node h kids r => by
  simp only [anyF, okF]
  rw [zB1 r]
  have : okT h kids = (headOk h (len kids) && okF kids) := rfl
  rw [this]
  cases headOk h (len kids) <;> cases okF kids <;> cases okF r <;> rfl
end Tm
theorem wR (k : Int) (kids : Fo) (A : Option Addr) (n c : Nat) (w : World) (hIs : Ty.Is w k kids A n c) (hS : Shapes w) :
  Calls Tryz.prog 119 #[.agg #[.int .i8 k, .slice A n c]] w fun e w' => e = .returned (.bool (Ty.chk k kids != 0)) ∧ Below w.heap.size w w' := by
 have hB0 := (Below.refl w.heap.size w).alloc (Nat.le_refl _) (.cells #[.int .i8 k, .slice A n c] 25)
 have HC := k0_ (fun (W : World) (hb : Below w.heap.size w W) => jS k kids A n c W (hIs.below hb) (hS.below hb))
 clear hIs hS
 have e1 : (Ty.chk k kids != 0) = (((Ty.chk k kids : Nat) : Int) != 0) := by
  generalize Ty.chk k kids = N
  rw [Bool.eq_iff_iff]; simp
 rw [e1]
 generalize ((Ty.chk k kids : Nat) : Int) = N at *
 clear e1
 go_enter Tryz.func119, Tryz.ntmps119
 go_wp2_with fail
 refine (HC.out _ hB0).mono ?_
 exact yQ
def Ty.firstI (q : Int → Fo → Bool) : Fo → Nat → Int
 | .nil, _ => -1
 | .node _ _ k kids r, i => if q k kids then i else Ty.firstI q r (i + 1)
theorem Ty.jH (q : Int → Fo → Bool) : ∀ (f : Fo) (i : Nat), 0 ≤ Ty.firstI q f i ↔ Ty.anyF q f = true
 | .nil, _ => by simp [Ty.firstI, Ty.anyF]
 | .node _ _ k kids r, i => by
  simp only [Ty.firstI, Ty.anyF, Bool.or_eq_true]
  by_cases hq : q k kids = true
  ·rw [if_pos hq]; simp [hq]
  ·rw [if_neg hq, Ty.jH q r (i + 1)]; simp [hq]
theorem Ty.vI (q : Int → Fo → Bool) (f : Fo) (i : Nat) : decide (0 ≤ Ty.firstI q f i) = Ty.anyF q f := by
 rw [Bool.eq_iff_iff, decide_eq_true_eq]; exact Ty.jH q f i
def Tm.firstI (q : Hd → Tm → Bool) : Tm → Nat → Int
 | .nil, _ => -1
 | .node h kids r, i => if q h kids then i else Tm.firstI q r (i + 1)
theorem Tm.jH (q : Hd → Tm → Bool) : ∀ (f : Tm) (i : Nat), 0 ≤ Tm.firstI q f i ↔ Tm.anyF q f = true
 | .nil, _ => by simp [Tm.firstI, Tm.anyF]
 | .node h kids r, i => by
  simp only [Tm.firstI, Tm.anyF, Bool.or_eq_true]
  by_cases hq : q h kids = true
  ·rw [if_pos hq]; simp [hq]
  ·rw [if_neg hq, Tm.jH q r (i + 1)]; simp [hq]
theorem Tm.vI (q : Hd → Tm → Bool) (f : Tm) (i : Nat) : decide (0 ≤ Tm.firstI q f i) = Tm.anyF q f := by
 rw [Bool.eq_iff_iff, decide_eq_true_eq]; exact Tm.jH q f i
theorem xI (f : FuncId) (q : Int → Fo → Bool) (kids : Fo) (A : Option Addr) (n c : Nat) (w : World) (hL : Ty.Lies w kids A 0) (hn : n = Ty.len kids) (hnc : n ≤ c) (hc : c ≤ maxLen)
  (hcf : ∀ (args : Array Value) (W : World), (callFunc f args).run Tryz.prog W = .ok (.enter f args) W)
  (hf : ∀ (k' : Int) (kids' : Fo) (A' : Option Addr) (n' c' : Nat) (W : World), Ty.Is W k' kids' A' n' c' → Below w.heap.size w W → Calls Tryz.prog f #[.agg #[.int .i8 k', .slice A' n' c']] W fun e w' => e = .returned (.bool (q k' kids')) ∧ Below W.heap.size W w') :
  Calls Tryz.prog 111 #[.slice A n c, .func (Fn.func f) #[] #[]] w fun e w' => e = .returned (.int .i64 (Ty.firstI q kids 0)) ∧ Below w.heap.size w w' := by
 have hst := Over.start hL hn
 have HF := k0_ hf
 have HS := k0_ hst
 have i5 : (n : Int) ≤ 9223372036854775807 := by unfold maxLen at hc; omega
 clear hst hn hf hL
 obtain ⟨R, hR⟩ : ∃ R, Ty.firstI q kids 0 = R := ⟨_, rfl⟩
 rw [hR]
 have HR := k0_ hR
 clear hR
 go_enter Tryz.func111, Tryz.ntmps111
 go_wp2_with fail
 go_loopw [8] (fun v wr => ∃ (i : Nat) (rest : Fo), v = .int .i64 i ∧ Over w wr A n (Ty.nodes kids) i rest ∧ Ty.firstI q rest i = R) (fun v _ => n - (intOf v).toNat)
 case atStart => exact ⟨0, kids, rfl, HS.out, HR.out⟩
 case round =>
  obtain ⟨i, rest, rfl, hO, hR⟩ := hrel
  cases rest with
  | nil =>
   have hi : i = n := by have := hO.i_eq; simpa [Ty.len] using this
   have hB := hO.below
   clear hO
   simp only [Ty.firstI] at hR
   exact zE3
  | node a b k' kids' r =>
   have hst := fun w2 hb => Over.step (w2 := w2) hO hb
   have h1 := hO.i_eq
   have h2 := hO.lies
   have h4 := hO.below
   simp only [Ty.len, Ty.firstI] at h1 hR
   obtain ⟨bb, oo, B, c', rfl, ⟨hk1, hk2⟩, c1, c2, hl1, hl2, hl3, hl4⟩ := h2
   have hcall := HF.out k' kids' B (Ty.len kids') c' wr ⟨hl3, rfl, hl1, hl2, hk1, hk2⟩ h4
   have HS := k0_ hst
   have HL := k0_ hl4
   have HRR := k0_ hR
   have j1 : (i : Int) < n := by omega
   clear hst hl3 hl4 hO hR
   cases hp : q k' kids'
   ·exact zFK
   ·exact zFd
theorem jZ (f : FuncId) (q : Int → Fo → Bool) (kids : Fo) (A : Option Addr) (n c : Nat) (w : World) (hL : Ty.Lies w kids A 0) (hn : n = Ty.len kids) (hnc : n ≤ c) (hc : c ≤ maxLen)
  (hcf : ∀ (args : Array Value) (W : World), (callFunc f args).run Tryz.prog W = .ok (.enter f args) W)
  (hf : ∀ (k' : Int) (kids' : Fo) (A' : Option Addr) (n' c' : Nat) (W : World), Ty.Is W k' kids' A' n' c' → Below w.heap.size w W → Calls Tryz.prog f #[.agg #[.int .i8 k', .slice A' n' c']] W fun e w' => e = .returned (.bool (q k' kids')) ∧ Below W.heap.size W w') :
  Calls Tryz.prog 76 #[.slice A n c, .func (Fn.func f) #[] #[]] w fun e w' => e = .returned (.bool (Ty.anyF q kids)) ∧ Below w.heap.size w w' := by
 have HI := k0_ (xI f q kids A n c w hL hn hnc hc hcf hf)
 rw [← Ty.vI q kids 0]
 clear hL hn hf hcf
 generalize Ty.firstI q kids 0 = R at *
 go_enter Tryz.func76, Tryz.ntmps76
 go_wp2_with fail
 refine HI.out.mono ?_
 rintro e w2 ⟨rfl, hb⟩
 go_wp2_with fail
 go_ret
 exact ⟨rfl, hb⟩
end Go.Proofs.YtlfcbmobgbcgnaaGreatDoor
namespace Go.Proofs.YtlfcbmobgbcgnaaGreatDoor
set_option maxHeartbeats 2000000
set_option maxRecDepth 100000
open Go.RowKit
structure OverT (w wr : World) (A : Option Addr) (n nk : Nat) (i : Nat) (rest : Tm) : Prop where
 i_eq : i + Tm.len rest = n
 lies : Tm.Lies wr rest A i
 sub : Tm.nodes rest ≤ nk
 below : Below w.heap.size w wr
theorem OverT.step {w wr w2 : World} {A : Option Addr} {n nk i : Nat} {h : Hd} {kids r : Tm} (g : OverT w wr A n nk i (.node h kids r)) (hb : Below wr.heap.size wr w2) (hA : Tm.Lies wr r A (i + 1)) : OverT w w2 A n nk (i + 1) r := by
 obtain ⟨h1, h2, h3, h4⟩ := g
 simp only [Tm.len, Tm.nodes] at h1 h3
 exact ⟨by omega, hA.below hb, by omega, h4.trans (hb.mono h4.size)⟩
theorem OverT.start {w : World} {A : Option Addr} {kids : Tm} {n : Nat} (h : Tm.Lies w kids A 0) (hn : n = Tm.len kids) : OverT w w A n (Tm.nodes kids) 0 kids := ⟨by omega, h, Nat.le_refl _, Below.refl _ _⟩
theorem Tm.row {w : World} {b o : Nat} {h : Hd} {p : Pl} (hcs : ∀ j v, (h.cells p)[j]? = some v → w.cell? ⟨b, o + j, none⟩ = some v) :
  w.cell? ⟨b, o, none⟩ = some (.int .i8 h.kind) ∧ w.cell? ⟨b, o + 1, none⟩ = some (.string h.name) ∧ w.cell? ⟨b, o + 2, none⟩ = some (.string h.arg) ∧ w.cell? ⟨b, o + 3, none⟩ = some (.int .i64 h.num) ∧
  w.cell? ⟨b, o + 4, none⟩ = some (.int .i8 h.tk) ∧ w.cell? ⟨b, o + 5, none⟩ = some (.slice p.TA p.tn p.tc) ∧ w.cell? ⟨b, o + 6, none⟩ = some (.int .i8 h.uk) ∧ w.cell? ⟨b, o + 7, none⟩ = some (.slice p.UA p.un p.uc) ∧
  w.cell? ⟨b, o + 8, none⟩ = some (.int .i64 h.label) ∧ w.cell? ⟨b, o + 9, none⟩ = some (.int .i64 h.pos) ∧ w.cell? ⟨b, o + 10, none⟩ = some (.slice p.A p.n p.c) :=
 ⟨hcs 0 _ rfl, hcs 1 _ rfl, hcs 2 _ rfl, hcs 3 _ rfl, hcs 4 _ rfl, hcs 5 _ rfl, hcs 6 _ rfl, hcs 7 _ rfl, hcs 8 _ rfl, hcs 9 _ rfl, hcs 10 _ rfl⟩
theorem xM (f : FuncId) (q : Hd → Tm → Bool) (kids : Tm) (A : Option Addr) (n c : Nat) (w : World) (hL : Tm.Lies w kids A 0) (hn : n = Tm.len kids) (hnc : n ≤ c) (hc : c ≤ maxLen)
  (hcf : ∀ (args : Array Value) (W : World), (callFunc f args).run Tryz.prog W = .ok (.enter f args) W)
  (hf : ∀ (h : Hd) (kids' : Tm) (p : Pl) (W : World), Tm.nodes kids' < Tm.nodes kids → Tm.Is W h kids' p → Below w.heap.size w W → Calls Tryz.prog f #[.agg (tC_ h p)] W fun e w' => e = .returned (.bool (q h kids')) ∧ Below W.heap.size W w') :
  Calls Tryz.prog 120 #[.slice A n c, .func (Fn.func f) #[] #[]] w fun e w' => e = .returned (.int .i64 (Tm.firstI q kids 0)) ∧ Below w.heap.size w w' := by
 try unfold tC_
 have hst := OverT.start hL hn
 have HF := k0_ hf
 have HS := k0_ hst
 have i5 : (n : Int) ≤ 9223372036854775807 := by unfold maxLen at hc; omega
 clear hst hn hf hL
 obtain ⟨R, hR⟩ : ∃ R, Tm.firstI q kids 0 = R := ⟨_, rfl⟩
 rw [hR]
 have HR := k0_ hR
 clear hR
 go_enter Tryz.func120, Tryz.ntmps120
 go_wp2_with fail
 go_loopw [8] (fun v wr => ∃ (i : Nat) (rest : Tm), v = .int .i64 i ∧ OverT w wr A n (Tm.nodes kids) i rest ∧ Tm.firstI q rest i = R) (fun v _ => n - (intOf v).toNat)
 case atStart => exact ⟨0, kids, rfl, HS.out, HR.out⟩
 case round =>
  obtain ⟨i, rest, rfl, hO, hR⟩ := hrel
  cases rest with
  | nil =>
   have hi : i = n := by have := hO.i_eq; simpa [Tm.len] using this
   have hB := hO.below
   clear hO
   simp only [Tm.firstI] at hR
   exact zE3
  | node h kids' r =>
   have hst := fun w2 hb => OverT.step (w2 := w2) hO hb
   have h1 := hO.i_eq
   have h2 := hO.lies
   have h3 := hO.sub
   have h4 := hO.below
   simp only [Tm.len, Tm.nodes, Tm.firstI] at h1 h3 hR
   obtain ⟨bb, oo, p, rfl, hcs, hfit, hl3, hl4⟩ := h2
   have hcall := HF.out h kids' p wr (by omega) ⟨hfit, hl3⟩ h4
   obtain ⟨c0, c1, c2, c3, c4, c5, c6, c7, c8, c9, c10⟩ := Tm.row hcs
   have HS := k0_ hst
   have HL := k0_ hl4
   have HRR := k0_ hR
   have j1 : (i : Int) < n := by omega
   clear hst hl3 hl4 hO hR hcs hfit
   cases hp : q h kids'
   ·exact zFK
   ·exact zFd
theorem ja (f : FuncId) (q : Hd → Tm → Bool) (kids : Tm) (A : Option Addr) (n c : Nat) (w : World) (hL : Tm.Lies w kids A 0) (hn : n = Tm.len kids) (hnc : n ≤ c) (hc : c ≤ maxLen)
  (hcf : ∀ (args : Array Value) (W : World), (callFunc f args).run Tryz.prog W = .ok (.enter f args) W)
  (hf : ∀ (h : Hd) (kids' : Tm) (p : Pl) (W : World), Tm.nodes kids' < Tm.nodes kids → Tm.Is W h kids' p → Below w.heap.size w W → Calls Tryz.prog f #[.agg (tC_ h p)] W fun e w' => e = .returned (.bool (q h kids')) ∧ Below W.heap.size W w') :
  Calls Tryz.prog 81 #[.slice A n c, .func (Fn.func f) #[] #[]] w fun e w' => e = .returned (.bool (Tm.anyF q kids)) ∧ Below w.heap.size w w' := by
 try unfold tC_
 have HI := k0_ (xM f q kids A n c w hL hn hnc hc hcf hf)
 rw [← Tm.vI q kids 0]
 clear hL hn hf hcf
 generalize Tm.firstI q kids 0 = R at *
 go_enter Tryz.func81, Tryz.ntmps81
 go_wp2_with fail
 refine HI.out.mono ?_
 rintro e w2 ⟨rfl, hb⟩
 go_wp2_with fail
 go_ret
 exact ⟨rfl, hb⟩
theorem xq (h : Hd) (p : Pl) (w : World) (n0 : Nat) (hF : Tm.Fit w h p n0) (hG : TGlob w) (b2 b3 b4 b5 : Bool) (kn : Int) :
  Calls Tryz.prog 116 #[.agg (tC_ h p), .agg #[.bool (Tm.hasName h.kind), .bool (Tm.hasArg h.kind), .bool b2, .bool b3, .bool b4, .bool b5, .int .i64 kn]] w fun e w' => e = .returned (.bool (!Tm.nameOk h)) ∧ Below w.heap.size w w' := by
 try unfold tC_
 have hB0 : Below w.heap.size w ((w.alloc (.cells (tC_ h p) 28)).alloc (.cells #[.bool (Tm.hasName h.kind), .bool (Tm.hasArg h.kind), .bool b2, .bool b3, .bool b4, .bool b5, .int .i64 kn] 149)) :=
  ((Below.refl _ _).alloc (Nat.le_refl _) _).alloc (by simp) _
 have HN := k0_ (fun (W : World) (hb : Below w.heap.size w W) => by
  obtain ⟨tp, q, hv⟩ := (hG.below hb).err
  exact vF h.name hF.nm W tp q hv)
 have HA := k0_ (fun (W : World) (hb : Below w.heap.size w W) => by
  obtain ⟨tp, q, hv⟩ := (hG.below hb).err
  exact vF h.arg hF.ar W tp q hv)
 obtain ⟨r0, r1, r2⟩ := zDa w (.cells (tC_ h p) 28) (.cells #[.bool (Tm.hasName h.kind), .bool (Tm.hasArg h.kind), .bool b2, .bool b3, .bool b4, .bool b5, .int .i64 kn] 149)
 have R0 := k0_ r0
 have R1 := k0_ r1
 clear hF hG r0 r1 r2
 by_cases hk : h.kind = 15
 ·have e1 : Tm.nameOk h = Tm.isOp h.name := by unfold Tm.nameOk; rw [if_pos hk]
  have HO := k0_ (xg h.name)
  have hk2 : (h.kind == 15) = true := by rw [hk]; rfl
  rw [e1]
  generalize Tm.isOp h.name = R at *
  clear hk e1
  go_enter Tryz.func116, Tryz.ntmps116
  go_wp2_with fail
  refine (HO.out _).mono ?_
  rintro e w2 ⟨rfl, rfl⟩
  go_wp2_with fail
  go_ret
  exact ⟨rfl, hB0⟩
 ·have hk2 : (h.kind == 15) = false := by simpa using hk
  have e1 : Tm.nameOk h = ((!Tm.hasName h.kind || Sc.isName h.name) && (!Tm.hasArg h.kind || Sc.isName h.arg)) := by unfold Tm.nameOk; rw [if_neg hk]
  rw [e1]
  clear hk e1
  generalize Sc.isName h.name = x at *
  generalize Sc.isName h.arg = y at *
  generalize Tm.hasName h.kind = a at *
  generalize Tm.hasArg h.kind = b at *
  have HP := hB0.size
  cases a
  ·cases b
   ·go_enter Tryz.func116, Tryz.ntmps116
    go_wp2_with fail
    go_ret
    exact ⟨rfl, hB0⟩
   ·go_enter Tryz.func116, Tryz.ntmps116
    go_wp2_with fail
    refine (HA.out _ hB0).mono ?_
    rintro e w2 ⟨rfl, hb⟩
    exact zEd
  ·cases x
   ·go_enter Tryz.func116, Tryz.ntmps116
    go_wp2_with fail
    refine (HN.out _ hB0).mono ?_
    rintro e w2 ⟨rfl, hb⟩
    exact zEd
   ·cases b
    ·go_enter Tryz.func116, Tryz.ntmps116
     go_wp2_with fail
     refine (HN.out _ hB0).mono ?_
     rintro e w2 ⟨rfl, hb⟩
     obtain ⟨s0, s1, s2, s3, s4, s5, s6, sl⟩ := vR (zA hb (by simp) R1.out)
     exact zEd
    ·go_enter Tryz.func116, Tryz.ntmps116
     go_wp2_with fail
     refine (HN.out _ hB0).mono ?_
     rintro e w2 ⟨rfl, hb⟩
     obtain ⟨s0, s1, s2, s3, s4, s5, s6, sl⟩ := vR (zA hb (by simp) R1.out)
     obtain ⟨q0, q1, q2, q3, q4, q5, q6, q7, q8, q9, q10, ql⟩ := zI (zA hb (by simp; omega) R0.out)
     have hB2 := hB0.trans (hb.mono HP)
     clear hb
     go_wp2_with fail
     refine (HA.out _ hB2).mono ?_
     rintro e w3 ⟨rfl, hb⟩
     go_wp2_with fail
     go_ret
     exact ⟨rfl, hB2.trans (hb.mono hB2.size)⟩
end Go.Proofs.YtlfcbmobgbcgnaaGreatDoor
namespace Go.Proofs.YtlfcbmobgbcgnaaGreatDoor
set_option maxHeartbeats 4000000
set_option maxRecDepth 100000
open Go.RowKit
theorem um (K : Nat) : ∀ (h : Hd) (kids : Tm) (p : Pl) (w : World) (m : Nat), Tm.nodes kids < K → Tm.Is w h kids p → m ≤ 8192 →
  Calls Tryz.prog 93 #[.agg (tC_ h p), .int .i64 m] w fun e w' => ∃ R : Nat, e = .returned (.int .i64 R) ∧ min R 8193 = min (m + Tm.nd h kids) 8193 ∧ R ≤ 40000 ∧ Below w.heap.size w w' := by
 try unfold tC_
 induction K with
 | zero => intro _ _ _ _ _ hK; omega
 | succ K ih =>
  intro h kids p w m hK hIs hm
  have hB0 : Below w.heap.size w (w.alloc (.cells (tC_ h p) 28)) := (Below.refl _ _).alloc (Nat.le_refl _) _
  have HN := k0_ (zD w (.cells (tC_ h p) 28))
  have HT := k0_ (fun (W : World) (hb : Below w.heap.size w W) => jO h.tk h.tkids p.TA p.tn p.tc W (hIs.fit.ty.below hb))
  have HU := k0_ (fun (W : World) (hb : Below w.heap.size w W) => jO h.uk h.ukids p.UA p.un p.uc W (hIs.fit.to.below hb))
  have h1 := Tm.zAV h.tkids
  have h2 := Tm.zAV h.ukids
  have H1 := k0_ (zW h.kind)
  have H2 := k0_ (ze h.kind)
  have IH := k0_ ih
  have HI := k0_ (fun (W : World) (hb : Below w.heap.size w W) => (hIs.below hb).lies)
  have HNE := k0_ hIs.fit.n_eq
  have i5 : (p.n : Int) ≤ 9223372036854775807 := by have h1 := hIs.fit.n_le; have h2 := hIs.fit.c_le; unfold maxLen at h2; omega
  have i6 : (m : Int) ≤ 8192 := by omega
  have hnd : Tm.nd h kids = 1 + ((if Tm.hasType h.kind then Ty.nod h.tkids else 0) + (if Tm.hasTo h.kind then Ty.nod h.ukids else 0)) + Tm.nodes kids := rfl
  rw [hnd]
  clear ih hIs hnd
  generalize Ty.nod h.tkids = N1 at *
  generalize Ty.nod h.ukids = N2 at *
  have g1 : (N1 : Int) ≤ 8193 := by omega
  have g2 : (N2 : Int) ≤ 8193 := by omega
  have z0 := hB0.size
  generalize ht : Tm.hasType h.kind = b1 at *
  generalize hu : Tm.hasTo h.kind = b2 at *
  clear ht hu
  cases b1
  ·cases b2
   ·simp only [Bool.false_eq_true, if_false]
    obtain ⟨q0, q1, q2, q3, q4, q5, q6, q7, q8, q9, q10, ql⟩ := zI HN.out
    go_enter Tryz.func93, Tryz.ntmps93
    go_wp2_with fail
    refine (H1.out _).mono ?_
    rintro e w2 ⟨rfl, rfl⟩
    go_wp2_with fail
    refine (H2.out _).mono ?_
    rintro e w4 ⟨rfl, rfl⟩
    go_wp2_with fail
    have HST := k0_ (OverT.start (HI.out _ hB0) HNE.out)
    clear q0 q1 q2 q3 q4 q5 q6 q7 q8 q9 q10
    generalize hW1 : (w.alloc (.cells (tC_ h p) 28)) = w1 at *
    clear hW1
    go_loopw [1, 5] (fun v1 v5 wr => ∃ (i : Nat) (rest : Tm) (m2 : Nat), v5 = .int .i64 i ∧ v1 = .int .i64 m2 ∧ OverT w1 wr p.A p.n (Tm.nodes kids) i rest ∧ m2 ≤ 40000 ∧ min (m2 + Tm.nodes rest) 8193 = min (m + (1 + (0 + 0) + Tm.nodes kids)) 8193) (fun _ v _ => p.n - (intOf v).toNat)
    case atStart => exact ⟨0, kids, m + 1, rfl, by go_num, HST.out, by omega, by omega⟩
    case round =>
     obtain ⟨i, rest, m2, rfl, rfl, hO, hm2, hRR⟩ := hrel
     have hbB := hB0.trans (hO.below.mono hB0.size)
     have HX := k0_ (zA hO.below (zC HN.out) HN.out)
     obtain ⟨q0, q1, q2, q3, q4, q5, q6, q7, q8, q9, q10, ql2⟩ := zI HX.out
     have HRR := k0_ hRR
     clear hRR
     have i7 : (m2 : Int) ≤ 40000 := by omega
     cases rest with
     | nil =>
      have hi : i = p.n := by have := hO.i_eq; simpa [Tm.len] using this
      have hfin : min m2 8193 = min (m + (1 + (0 + 0) + Tm.nodes kids)) 8193 := by have := HRR.out; simp only [Tm.nodes] at this; omega
      exact zE7
     | node h' kids' r =>
      have hst := fun w2 hb => OverT.step (w2 := w2) hO hb
      have h1 := hO.i_eq
      have h2 := hO.lies
      have h3 := hO.sub
      simp only [Tm.len, Tm.nodes] at h1 h3
      obtain ⟨bb, oo, p', hpA, hcs, hfit, hl3, hl4⟩ := h2
      have j1 : (i : Int) < p.n := by omega
      by_cases hq : m2 ≤ 8192
      ·have hcall := IH.out h' kids' p' wr m2 (by omega) ⟨hfit, hl3⟩ hq
       obtain ⟨c0, c1, c2, c3, c4, c5, c6, c7, c8, c9, c10⟩ := Tm.row hcs
       have HCK := k0_ hcall
       have HS2 := k0_ hst
       have HL := k0_ hl4
       have j2 : (m2 : Int) ≤ 8192 := by omega
       have HPA := k0_ hpA
       clear hst hl3 hl4 hcall hO hcs hfit hpA
       generalize hPA : p.A = PA at *
       obtain rfl : PA = some ⟨bb, oo, none⟩ := HPA.out
       clear hPA HPA
       go_wp2_with fail
       refine HCK.out.mono ?_
       rintro e w2 ⟨R', rfl, hR1, hR2, hb⟩
       have hbb := k0_ (HS2.out w2 hb HL.out)
       have hnx : min (R' + Tm.nodes r) 8193 = min (m + (1 + (0 + 0) + Tm.nodes kids)) 8193 := by
        exact zE9
       exact zED
      ·have hfin : min m2 8193 = min (m + (1 + (0 + 0) + Tm.nodes kids)) 8193 := by have := HRR.out; omega
       exact zEC
   ·simp only [if_true, Bool.false_eq_true, if_false]
    obtain ⟨q0, q1, q2, q3, q4, q5, q6, q7, q8, q9, q10, ql⟩ := zI HN.out
    go_enter Tryz.func93, Tryz.ntmps93
    go_wp2_with fail
    refine (H1.out _).mono ?_
    rintro e w2 ⟨rfl, rfl⟩
    go_wp2_with fail
    refine (H2.out _).mono ?_
    rintro e w4 ⟨rfl, rfl⟩
    go_wp2_with fail
    refine (HU.out _ hB0).mono ?_
    rintro e w5 ⟨rfl, hb⟩
    have hB2 := hB0.trans (hb.mono hB0.size)
    have R2 := kp_ hb HN
    clear q0 q1 q2 q3 q4 q5 q6 q7 q8 q9 q10 ql
    obtain ⟨q0, q1, q2, q3, q4, q5, q6, q7, q8, q9, q10, ql⟩ := zI R2.out
    clear hb
    go_wp2_with fail
    have HST := k0_ (OverT.start (HI.out _ hB2) HNE.out)
    clear q0 q1 q2 q3 q4 q5 q6 q7 q8 q9 q10
    generalize hW1 : w5 = w1 at *
    clear hW1
    go_loopw [1, 5] (fun v1 v5 wr => ∃ (i : Nat) (rest : Tm) (m2 : Nat), v5 = .int .i64 i ∧ v1 = .int .i64 m2 ∧ OverT w1 wr p.A p.n (Tm.nodes kids) i rest ∧ m2 ≤ 40000 ∧ min (m2 + Tm.nodes rest) 8193 = min (m + (1 + (0 + N2) + Tm.nodes kids)) 8193) (fun _ v _ => p.n - (intOf v).toNat)
    case atStart => exact ⟨0, kids, m + 1 + N2, rfl, by go_num, HST.out, by omega, by omega⟩
    case round =>
     obtain ⟨i, rest, m2, rfl, rfl, hO, hm2, hRR⟩ := hrel
     have hbB := hB2.trans (hO.below.mono hB2.size)
     have HX := k0_ (zA hO.below (zC R2.out) R2.out)
     obtain ⟨q0, q1, q2, q3, q4, q5, q6, q7, q8, q9, q10, ql2⟩ := zI HX.out
     have HRR := k0_ hRR
     clear hRR
     have i7 : (m2 : Int) ≤ 40000 := by omega
     cases rest with
     | nil =>
      have hi : i = p.n := by have := hO.i_eq; simpa [Tm.len] using this
      have hfin : min m2 8193 = min (m + (1 + (0 + N2) + Tm.nodes kids)) 8193 := by have := HRR.out; simp only [Tm.nodes] at this; omega
      exact zE7
     | node h' kids' r =>
      have hst := fun w2 hb => OverT.step (w2 := w2) hO hb
      have h1 := hO.i_eq
      have h2 := hO.lies
      have h3 := hO.sub
      simp only [Tm.len, Tm.nodes] at h1 h3
      obtain ⟨bb, oo, p', hpA, hcs, hfit, hl3, hl4⟩ := h2
      have j1 : (i : Int) < p.n := by omega
      by_cases hq : m2 ≤ 8192
      ·have hcall := IH.out h' kids' p' wr m2 (by omega) ⟨hfit, hl3⟩ hq
       obtain ⟨c0, c1, c2, c3, c4, c5, c6, c7, c8, c9, c10⟩ := Tm.row hcs
       have HCK := k0_ hcall
       have HS2 := k0_ hst
       have HL := k0_ hl4
       have j2 : (m2 : Int) ≤ 8192 := by omega
       have HPA := k0_ hpA
       clear hst hl3 hl4 hcall hO hcs hfit hpA
       generalize hPA : p.A = PA at *
       obtain rfl : PA = some ⟨bb, oo, none⟩ := HPA.out
       clear hPA HPA
       go_wp2_with fail
       refine HCK.out.mono ?_
       rintro e w2 ⟨R', rfl, hR1, hR2, hb⟩
       have hbb := k0_ (HS2.out w2 hb HL.out)
       have hnx : min (R' + Tm.nodes r) 8193 = min (m + (1 + (0 + N2) + Tm.nodes kids)) 8193 := by
        exact zE9
       exact zED
      ·have hfin : min m2 8193 = min (m + (1 + (0 + N2) + Tm.nodes kids)) 8193 := by have := HRR.out; omega
       exact zEC
  ·cases b2
   ·simp only [if_true, Bool.false_eq_true, if_false]
    obtain ⟨q0, q1, q2, q3, q4, q5, q6, q7, q8, q9, q10, ql⟩ := zI HN.out
    go_enter Tryz.func93, Tryz.ntmps93
    go_wp2_with fail
    refine (H1.out _).mono ?_
    rintro e w2 ⟨rfl, rfl⟩
    go_wp2_with fail
    refine (HT.out _ hB0).mono ?_
    rintro e w3 ⟨rfl, hb⟩
    have hB1 := hB0.trans (hb.mono hB0.size)
    have R1 := kp_ hb HN
    clear q0 q1 q2 q3 q4 q5 q6 q7 q8 q9 q10 ql
    obtain ⟨q0, q1, q2, q3, q4, q5, q6, q7, q8, q9, q10, ql⟩ := zI R1.out
    clear hb
    go_wp2_with fail
    refine (H2.out _).mono ?_
    rintro e w4 ⟨rfl, rfl⟩
    go_wp2_with fail
    have HST := k0_ (OverT.start (HI.out _ hB1) HNE.out)
    clear q0 q1 q2 q3 q4 q5 q6 q7 q8 q9 q10
    generalize hW1 : w3 = w1 at *
    clear hW1
    go_loopw [1, 5] (fun v1 v5 wr => ∃ (i : Nat) (rest : Tm) (m2 : Nat), v5 = .int .i64 i ∧ v1 = .int .i64 m2 ∧ OverT w1 wr p.A p.n (Tm.nodes kids) i rest ∧ m2 ≤ 40000 ∧ min (m2 + Tm.nodes rest) 8193 = min (m + (1 + (N1 + 0) + Tm.nodes kids)) 8193) (fun _ v _ => p.n - (intOf v).toNat)
    case atStart => exact ⟨0, kids, m + 1 + N1, rfl, by go_num, HST.out, by omega, by omega⟩
    case round =>
     obtain ⟨i, rest, m2, rfl, rfl, hO, hm2, hRR⟩ := hrel
     have hbB := hB1.trans (hO.below.mono hB1.size)
     have HX := k0_ (zA hO.below (zC R1.out) R1.out)
     obtain ⟨q0, q1, q2, q3, q4, q5, q6, q7, q8, q9, q10, ql2⟩ := zI HX.out
     have HRR := k0_ hRR
     clear hRR
     have i7 : (m2 : Int) ≤ 40000 := by omega
     cases rest with
     | nil =>
      have hi : i = p.n := by have := hO.i_eq; simpa [Tm.len] using this
      have hfin : min m2 8193 = min (m + (1 + (N1 + 0) + Tm.nodes kids)) 8193 := by have := HRR.out; simp only [Tm.nodes] at this; omega
      exact zE7
     | node h' kids' r =>
      have hst := fun w2 hb => OverT.step (w2 := w2) hO hb
      have h1 := hO.i_eq
      have h2 := hO.lies
      have h3 := hO.sub
      simp only [Tm.len, Tm.nodes] at h1 h3
      obtain ⟨bb, oo, p', hpA, hcs, hfit, hl3, hl4⟩ := h2
      have j1 : (i : Int) < p.n := by omega
      by_cases hq : m2 ≤ 8192
      ·have hcall := IH.out h' kids' p' wr m2 (by omega) ⟨hfit, hl3⟩ hq
       obtain ⟨c0, c1, c2, c3, c4, c5, c6, c7, c8, c9, c10⟩ := Tm.row hcs
       have HCK := k0_ hcall
       have HS2 := k0_ hst
       have HL := k0_ hl4
       have j2 : (m2 : Int) ≤ 8192 := by omega
       have HPA := k0_ hpA
       clear hst hl3 hl4 hcall hO hcs hfit hpA
       generalize hPA : p.A = PA at *
       obtain rfl : PA = some ⟨bb, oo, none⟩ := HPA.out
       clear hPA HPA
       go_wp2_with fail
       refine HCK.out.mono ?_
       rintro e w2 ⟨R', rfl, hR1, hR2, hb⟩
       have hbb := k0_ (HS2.out w2 hb HL.out)
       have hnx : min (R' + Tm.nodes r) 8193 = min (m + (1 + (N1 + 0) + Tm.nodes kids)) 8193 := by
        exact zE9
       exact zED
      ·have hfin : min m2 8193 = min (m + (1 + (N1 + 0) + Tm.nodes kids)) 8193 := by have := HRR.out; omega
       exact zEC
   ·simp only [if_true]
    obtain ⟨q0, q1, q2, q3, q4, q5, q6, q7, q8, q9, q10, ql⟩ := zI HN.out
    go_enter Tryz.func93, Tryz.ntmps93
    go_wp2_with fail
    refine (H1.out _).mono ?_
    rintro e w2 ⟨rfl, rfl⟩
    go_wp2_with fail
    refine (HT.out _ hB0).mono ?_
    rintro e w3 ⟨rfl, hb⟩
    have hB1 := hB0.trans (hb.mono hB0.size)
    have R1 := kp_ hb HN
    clear q0 q1 q2 q3 q4 q5 q6 q7 q8 q9 q10 ql
    obtain ⟨q0, q1, q2, q3, q4, q5, q6, q7, q8, q9, q10, ql⟩ := zI R1.out
    clear hb
    go_wp2_with fail
    refine (H2.out _).mono ?_
    rintro e w4 ⟨rfl, rfl⟩
    go_wp2_with fail
    refine (HU.out _ hB1).mono ?_
    rintro e w5 ⟨rfl, hb⟩
    have hB2 := hB1.trans (hb.mono hB1.size)
    have R2 := kp_ hb R1
    clear q0 q1 q2 q3 q4 q5 q6 q7 q8 q9 q10 ql
    obtain ⟨q0, q1, q2, q3, q4, q5, q6, q7, q8, q9, q10, ql⟩ := zI R2.out
    clear hb
    go_wp2_with fail
    have HST := k0_ (OverT.start (HI.out _ hB2) HNE.out)
    clear q0 q1 q2 q3 q4 q5 q6 q7 q8 q9 q10
    generalize hW1 : w5 = w1 at *
    clear hW1
    go_loopw [1, 5] (fun v1 v5 wr => ∃ (i : Nat) (rest : Tm) (m2 : Nat), v5 = .int .i64 i ∧ v1 = .int .i64 m2 ∧ OverT w1 wr p.A p.n (Tm.nodes kids) i rest ∧ m2 ≤ 40000 ∧ min (m2 + Tm.nodes rest) 8193 = min (m + (1 + (N1 + N2) + Tm.nodes kids)) 8193) (fun _ v _ => p.n - (intOf v).toNat)
    case atStart => exact ⟨0, kids, m + 1 + N1 + N2, rfl, by go_num, HST.out, by omega, by omega⟩
    case round =>
     obtain ⟨i, rest, m2, rfl, rfl, hO, hm2, hRR⟩ := hrel
     have hbB := hB2.trans (hO.below.mono hB2.size)
     have HX := k0_ (zA hO.below (zC R2.out) R2.out)
     obtain ⟨q0, q1, q2, q3, q4, q5, q6, q7, q8, q9, q10, ql2⟩ := zI HX.out
     have HRR := k0_ hRR
     clear hRR
     have i7 : (m2 : Int) ≤ 40000 := by omega
     cases rest with
     | nil =>
      have hi : i = p.n := by have := hO.i_eq; simpa [Tm.len] using this
      have hfin : min m2 8193 = min (m + (1 + (N1 + N2) + Tm.nodes kids)) 8193 := by have := HRR.out; simp only [Tm.nodes] at this; omega
      exact zE7
     | node h' kids' r =>
      have hst := fun w2 hb => OverT.step (w2 := w2) hO hb
      have h1 := hO.i_eq
      have h2 := hO.lies
      have h3 := hO.sub
      simp only [Tm.len, Tm.nodes] at h1 h3
      obtain ⟨bb, oo, p', hpA, hcs, hfit, hl3, hl4⟩ := h2
      have j1 : (i : Int) < p.n := by omega
      by_cases hq : m2 ≤ 8192
      ·have hcall := IH.out h' kids' p' wr m2 (by omega) ⟨hfit, hl3⟩ hq
       obtain ⟨c0, c1, c2, c3, c4, c5, c6, c7, c8, c9, c10⟩ := Tm.row hcs
       have HCK := k0_ hcall
       have HS2 := k0_ hst
       have HL := k0_ hl4
       have j2 : (m2 : Int) ≤ 8192 := by omega
       have HPA := k0_ hpA
       clear hst hl3 hl4 hcall hO hcs hfit hpA
       generalize hPA : p.A = PA at *
       obtain rfl : PA = some ⟨bb, oo, none⟩ := HPA.out
       clear hPA HPA
       go_wp2_with fail
       refine HCK.out.mono ?_
       rintro e w2 ⟨R', rfl, hR1, hR2, hb⟩
       have hbb := k0_ (HS2.out w2 hb HL.out)
       have hnx : min (R' + Tm.nodes r) 8193 = min (m + (1 + (N1 + N2) + Tm.nodes kids)) 8193 := by
        exact zE9
       exact zED
      ·have hfin : min m2 8193 = min (m + (1 + (N1 + N2) + Tm.nodes kids)) 8193 := by have := HRR.out; omega
       exact zEC
theorem kQ (h : Hd) (kids : Tm) (p : Pl) (w : World) (hIs : Tm.Is w h kids p) :
  Calls Tryz.prog 56 #[.agg (tC_ h p)] w fun e w' => e = .returned (.int .i64 (Tm.nod h kids)) ∧ Below w.heap.size w w' := by
 try unfold tC_
 have hB0 : Below w.heap.size w (w.alloc (.cells (tC_ h p) 28)) := (Below.refl _ _).alloc (Nat.le_refl _) _
 have hc := um (Tm.nodes kids + 1) h kids p _ 0 (by omega) (hIs.below hB0) (by omega)
 have HC := k0_ hc
 clear hIs hc
 go_enter Tryz.func56, Tryz.ntmps56
 go_wp2_with fail
 refine HC.out.mono ?_
 rintro e w3 ⟨R, rfl, hR, hR2, hb⟩
 have HR := k0_ hR
 clear hR
 go_wp2_with fail
 go_ret
 exact ⟨yn (by have := HR.out; unfold Tm.nod; omega), hB0.trans (hb.mono hB0.size)⟩
theorem zBK (K : Nat) : ∀ (h : Hd) (kids : Tm) (p : Pl) (w : World) (m : Nat), Tm.nodes kids < K → Tm.Is w h kids p → 1 ≤ m → m ≤ 201 →
  Calls Tryz.prog 94 #[.agg (tC_ h p), .int .i64 m] w fun e w' => e = .returned (.int .i64 (min (Tm.dp h kids) m : Nat)) ∧ Below w.heap.size w w' := by
 try unfold tC_
 induction K with
 | zero => intro _ _ _ _ _ hK; omega
 | succ K ih =>
  intro h kids p w m hK hIs hm hm2
  have hB0 : Below w.heap.size w (w.alloc (.cells (tC_ h p) 28)) := (Below.refl _ _).alloc (Nat.le_refl _) _
  have HN := k0_ (zD w (.cells (tC_ h p) 28))
  have HT := k0_ (fun (W : World) (hb : Below w.heap.size w W) => jo h.tk h.tkids p.TA p.tn p.tc W (hIs.fit.ty.below hb))
  have HU := k0_ (fun (W : World) (hb : Below w.heap.size w W) => jo h.uk h.ukids p.UA p.un p.uc W (hIs.fit.to.below hb))
  have h1 := Tm.jk h.tkids
  have h2 := Tm.jk h.ukids
  have H1 := k0_ (zW h.kind)
  have H2 := k0_ (ze h.kind)
  have IH := k0_ ih
  have HI := k0_ (fun (W : World) (hb : Below w.heap.size w W) => (hIs.below hb).lies)
  have HNE := k0_ hIs.fit.n_eq
  have i5 : (p.n : Int) ≤ 9223372036854775807 := by have h1 := hIs.fit.n_le; have h2 := hIs.fit.c_le; unfold maxLen at h2; omega
  have hdp : Tm.dp h kids = 1 + max (max (if Tm.hasType h.kind then Ty.dpt h.tkids else 0) (if Tm.hasTo h.kind then Ty.dpt h.ukids else 0)) (Tm.dep kids) := rfl
  rw [hdp]
  clear ih hIs hdp
  generalize Ty.dpt h.tkids = N1 at *
  generalize Ty.dpt h.ukids = N2 at *
  have g1 : (N1 : Int) ≤ 201 := by omega
  have g2 : (N2 : Int) ≤ 201 := by omega
  have z0 := hB0.size
  generalize ht : Tm.hasType h.kind = b1 at *
  generalize hu : Tm.hasTo h.kind = b2 at *
  clear ht hu
  by_cases hm1 : m = 1
  ·subst hm1
   have e1 : min (1 + max (max (if b1 = true then N1 else 0) (if b2 = true then N2 else 0)) (Tm.dep kids)) 1 = 1 := by omega
   rw [e1]
   clear e1
   go_enter Tryz.func94, Tryz.ntmps94
   go_wp2_with fail
   go_ret
   exact ⟨rfl, hB0⟩
  have i6 : (1 : Int) < m := by omega
  have i7 : (m : Int) ≤ 201 := by omega
  cases b1
  ·cases b2
   ·simp only [Bool.false_eq_true, if_false]
    obtain ⟨q0, q1, q2, q3, q4, q5, q6, q7, q8, q9, q10, ql⟩ := zI HN.out
    go_enter Tryz.func94, Tryz.ntmps94
    go_wp2_with fail
    refine (H1.out _).mono ?_
    rintro e w2 ⟨rfl, rfl⟩
    go_wp2_with fail
    refine (H2.out _).mono ?_
    rintro e w4 ⟨rfl, rfl⟩
    go_wp2_with fail
    have HST := k0_ (OverT.start (HI.out _ hB0) HNE.out)
    clear q0 q1 q2 q3 q4 q5 q6 q7 q8 q9 q10
    generalize hW1 : (w.alloc (.cells (tC_ h p) 28)) = w1 at *
    clear hW1
    go_loopw [5, 6] (fun v5 v6 wr => ∃ (i : Nat) (rest : Tm) (d : Nat), v6 = .int .i64 i ∧ v5 = .int .i64 d ∧ OverT w1 wr p.A p.n (Tm.nodes kids) i rest ∧ d ≤ 201 ∧ min (1 + max d (Tm.dep rest)) m = min (1 + max (max 0 0) (Tm.dep kids)) m) (fun _ v _ => p.n - (intOf v).toNat)
    case atStart => exact ⟨0, kids, 0, rfl, by first | rfl | go_num, HST.out, by omega, by omega⟩
    case round =>
     obtain ⟨i, rest, d, rfl, rfl, hO, hm2, hRR⟩ := hrel
     have hbB := hB0.trans (hO.below.mono hB0.size)
     have HX := k0_ (zA hO.below (zC HN.out) HN.out)
     obtain ⟨q0, q1, q2, q3, q4, q5, q6, q7, q8, q9, q10, ql2⟩ := zI HX.out
     have HRR := k0_ hRR
     clear hRR
     have i8 : (d : Int) ≤ 201 := by omega
     cases rest with
     | nil =>
      have hi : i = p.n := by have := hO.i_eq; simpa [Tm.len] using this
      have hfin : min (1 + d) m = min (1 + max (max 0 0) (Tm.dep kids)) m := by have := HRR.out; simp only [Tm.dep] at this; omega
      exact zEB
     | node h' kids' r =>
      have hst := fun w2 hb => OverT.step (w2 := w2) hO hb
      have h1 := hO.i_eq
      have h2 := hO.lies
      have h3 := hO.sub
      simp only [Tm.len, Tm.nodes] at h1 h3
      obtain ⟨bb, oo, p', hpA, hcs, hfit, hl3, hl4⟩ := h2
      have j1 : (i : Int) < p.n := by omega
      have hcall := IH.out h' kids' p' wr (m - 1) (by omega) ⟨hfit, hl3⟩ (by omega) (by omega)
      rw [show ((m - 1 : Nat) : Int) = (m : Int) - 1 by omega] at hcall
      obtain ⟨c0, c1, c2, c3, c4, c5, c6, c7, c8, c9, c10⟩ := Tm.row hcs
      have HCK := k0_ hcall
      have HS2 := k0_ hst
      have HL := k0_ hl4
      have HPA := k0_ hpA
      have hnx : min (1 + max (max d (min (Tm.dp h' kids') (m - 1))) (Tm.dep r)) m = min (1 + max (max 0 0) (Tm.dep kids)) m := by
       exact zE8
      exact zEE
   ·simp only [if_true, Bool.false_eq_true, if_false]
    obtain ⟨q0, q1, q2, q3, q4, q5, q6, q7, q8, q9, q10, ql⟩ := zI HN.out
    go_enter Tryz.func94, Tryz.ntmps94
    go_wp2_with fail
    refine (H1.out _).mono ?_
    rintro e w2 ⟨rfl, rfl⟩
    go_wp2_with fail
    refine (H2.out _).mono ?_
    rintro e w4 ⟨rfl, rfl⟩
    go_wp2_with fail
    refine (HU.out _ hB0).mono ?_
    rintro e w5 ⟨rfl, hb⟩
    have hB2 := hB0.trans (hb.mono hB0.size)
    have R2 := kp_ hb HN
    clear q0 q1 q2 q3 q4 q5 q6 q7 q8 q9 q10 ql
    obtain ⟨q0, q1, q2, q3, q4, q5, q6, q7, q8, q9, q10, ql⟩ := zI R2.out
    clear hb
    go_wp2_with fail
    have HST := k0_ (OverT.start (HI.out _ hB2) HNE.out)
    clear q0 q1 q2 q3 q4 q5 q6 q7 q8 q9 q10
    generalize hW1 : w5 = w1 at *
    clear hW1
    go_loopw [5, 6] (fun v5 v6 wr => ∃ (i : Nat) (rest : Tm) (d : Nat), v6 = .int .i64 i ∧ v5 = .int .i64 d ∧ OverT w1 wr p.A p.n (Tm.nodes kids) i rest ∧ d ≤ 201 ∧ min (1 + max d (Tm.dep rest)) m = min (1 + max (max 0 N2) (Tm.dep kids)) m) (fun _ v _ => p.n - (intOf v).toNat)
    case atStart => exact ⟨0, kids, N2, rfl, by first | rfl | go_num, HST.out, by omega, by omega⟩
    case round =>
     obtain ⟨i, rest, d, rfl, rfl, hO, hm2, hRR⟩ := hrel
     have hbB := hB2.trans (hO.below.mono hB2.size)
     have HX := k0_ (zA hO.below (zC R2.out) R2.out)
     obtain ⟨q0, q1, q2, q3, q4, q5, q6, q7, q8, q9, q10, ql2⟩ := zI HX.out
     have HRR := k0_ hRR
     clear hRR
     have i8 : (d : Int) ≤ 201 := by omega
     cases rest with
     | nil =>
      have hi : i = p.n := by have := hO.i_eq; simpa [Tm.len] using this
      have hfin : min (1 + d) m = min (1 + max (max 0 N2) (Tm.dep kids)) m := by have := HRR.out; simp only [Tm.dep] at this; omega
      exact zEB
     | node h' kids' r =>
      have hst := fun w2 hb => OverT.step (w2 := w2) hO hb
      have h1 := hO.i_eq
      have h2 := hO.lies
      have h3 := hO.sub
      simp only [Tm.len, Tm.nodes] at h1 h3
      obtain ⟨bb, oo, p', hpA, hcs, hfit, hl3, hl4⟩ := h2
      have j1 : (i : Int) < p.n := by omega
      have hcall := IH.out h' kids' p' wr (m - 1) (by omega) ⟨hfit, hl3⟩ (by omega) (by omega)
      rw [show ((m - 1 : Nat) : Int) = (m : Int) - 1 by omega] at hcall
      obtain ⟨c0, c1, c2, c3, c4, c5, c6, c7, c8, c9, c10⟩ := Tm.row hcs
      have HCK := k0_ hcall
      have HS2 := k0_ hst
      have HL := k0_ hl4
      have HPA := k0_ hpA
      have hnx : min (1 + max (max d (min (Tm.dp h' kids') (m - 1))) (Tm.dep r)) m = min (1 + max (max 0 N2) (Tm.dep kids)) m := by
       exact zE8
      exact zEE
  ·cases b2
   ·simp only [if_true, Bool.false_eq_true, if_false]
    obtain ⟨q0, q1, q2, q3, q4, q5, q6, q7, q8, q9, q10, ql⟩ := zI HN.out
    go_enter Tryz.func94, Tryz.ntmps94
    go_wp2_with fail
    refine (H1.out _).mono ?_
    rintro e w2 ⟨rfl, rfl⟩
    go_wp2_with fail
    refine (HT.out _ hB0).mono ?_
    rintro e w3 ⟨rfl, hb⟩
    have hB1 := hB0.trans (hb.mono hB0.size)
    have R1 := kp_ hb HN
    clear q0 q1 q2 q3 q4 q5 q6 q7 q8 q9 q10 ql
    obtain ⟨q0, q1, q2, q3, q4, q5, q6, q7, q8, q9, q10, ql⟩ := zI R1.out
    clear hb
    go_wp2_with fail
    refine (H2.out _).mono ?_
    rintro e w4 ⟨rfl, rfl⟩
    go_wp2_with fail
    have HST := k0_ (OverT.start (HI.out _ hB1) HNE.out)
    clear q0 q1 q2 q3 q4 q5 q6 q7 q8 q9 q10
    generalize hW1 : w3 = w1 at *
    clear hW1
    go_loopw [5, 6] (fun v5 v6 wr => ∃ (i : Nat) (rest : Tm) (d : Nat), v6 = .int .i64 i ∧ v5 = .int .i64 d ∧ OverT w1 wr p.A p.n (Tm.nodes kids) i rest ∧ d ≤ 201 ∧ min (1 + max d (Tm.dep rest)) m = min (1 + max (max N1 0) (Tm.dep kids)) m) (fun _ v _ => p.n - (intOf v).toNat)
    case atStart => exact ⟨0, kids, N1, rfl, by first | rfl | go_num, HST.out, by omega, by omega⟩
    case round =>
     obtain ⟨i, rest, d, rfl, rfl, hO, hm2, hRR⟩ := hrel
     have hbB := hB1.trans (hO.below.mono hB1.size)
     have HX := k0_ (zA hO.below (zC R1.out) R1.out)
     obtain ⟨q0, q1, q2, q3, q4, q5, q6, q7, q8, q9, q10, ql2⟩ := zI HX.out
     have HRR := k0_ hRR
     clear hRR
     have i8 : (d : Int) ≤ 201 := by omega
     cases rest with
     | nil =>
      have hi : i = p.n := by have := hO.i_eq; simpa [Tm.len] using this
      have hfin : min (1 + d) m = min (1 + max (max N1 0) (Tm.dep kids)) m := by have := HRR.out; simp only [Tm.dep] at this; omega
      exact zEB
     | node h' kids' r =>
      have hst := fun w2 hb => OverT.step (w2 := w2) hO hb
      have h1 := hO.i_eq
      have h2 := hO.lies
      have h3 := hO.sub
      simp only [Tm.len, Tm.nodes] at h1 h3
      obtain ⟨bb, oo, p', hpA, hcs, hfit, hl3, hl4⟩ := h2
      have j1 : (i : Int) < p.n := by omega
      have hcall := IH.out h' kids' p' wr (m - 1) (by omega) ⟨hfit, hl3⟩ (by omega) (by omega)
      rw [show ((m - 1 : Nat) : Int) = (m : Int) - 1 by omega] at hcall
      obtain ⟨c0, c1, c2, c3, c4, c5, c6, c7, c8, c9, c10⟩ := Tm.row hcs
      have HCK := k0_ hcall
      have HS2 := k0_ hst
      have HL := k0_ hl4
      have HPA := k0_ hpA
      have hnx : min (1 + max (max d (min (Tm.dp h' kids') (m - 1))) (Tm.dep r)) m = min (1 + max (max N1 0) (Tm.dep kids)) m := by
       exact zE8
      exact zEE
   ·simp only [if_true]
    obtain ⟨q0, q1, q2, q3, q4, q5, q6, q7, q8, q9, q10, ql⟩ := zI HN.out
    go_enter Tryz.func94, Tryz.ntmps94
    go_wp2_with fail
    refine (H1.out _).mono ?_
    rintro e w2 ⟨rfl, rfl⟩
    go_wp2_with fail
    refine (HT.out _ hB0).mono ?_
    rintro e w3 ⟨rfl, hb⟩
    have hB1 := hB0.trans (hb.mono hB0.size)
    have R1 := kp_ hb HN
    clear q0 q1 q2 q3 q4 q5 q6 q7 q8 q9 q10 ql
    obtain ⟨q0, q1, q2, q3, q4, q5, q6, q7, q8, q9, q10, ql⟩ := zI R1.out
    clear hb
    go_wp2_with fail
    refine (H2.out _).mono ?_
    rintro e w4 ⟨rfl, rfl⟩
    go_wp2_with fail
    refine (HU.out _ hB1).mono ?_
    rintro e w5 ⟨rfl, hb⟩
    have hB2 := hB1.trans (hb.mono hB1.size)
    have R2 := kp_ hb R1
    clear q0 q1 q2 q3 q4 q5 q6 q7 q8 q9 q10 ql
    obtain ⟨q0, q1, q2, q3, q4, q5, q6, q7, q8, q9, q10, ql⟩ := zI R2.out
    clear hb
    go_wp2_with fail
    have HST := k0_ (OverT.start (HI.out _ hB2) HNE.out)
    clear q0 q1 q2 q3 q4 q5 q6 q7 q8 q9 q10
    generalize hW1 : w5 = w1 at *
    clear hW1
    go_loopw [5, 6] (fun v5 v6 wr => ∃ (i : Nat) (rest : Tm) (d : Nat), v6 = .int .i64 i ∧ v5 = .int .i64 d ∧ OverT w1 wr p.A p.n (Tm.nodes kids) i rest ∧ d ≤ 201 ∧ min (1 + max d (Tm.dep rest)) m = min (1 + max (max N1 N2) (Tm.dep kids)) m) (fun _ v _ => p.n - (intOf v).toNat)
    case atStart => exact ⟨0, kids, max N1 N2, rfl, by first | rfl | go_num, HST.out, by omega, by omega⟩
    case round =>
     obtain ⟨i, rest, d, rfl, rfl, hO, hm2, hRR⟩ := hrel
     have hbB := hB2.trans (hO.below.mono hB2.size)
     have HX := k0_ (zA hO.below (zC R2.out) R2.out)
     obtain ⟨q0, q1, q2, q3, q4, q5, q6, q7, q8, q9, q10, ql2⟩ := zI HX.out
     have HRR := k0_ hRR
     clear hRR
     have i8 : (d : Int) ≤ 201 := by omega
     cases rest with
     | nil =>
      have hi : i = p.n := by have := hO.i_eq; simpa [Tm.len] using this
      have hfin : min (1 + d) m = min (1 + max (max N1 N2) (Tm.dep kids)) m := by have := HRR.out; simp only [Tm.dep] at this; omega
      exact zEB
     | node h' kids' r =>
      have hst := fun w2 hb => OverT.step (w2 := w2) hO hb
      have h1 := hO.i_eq
      have h2 := hO.lies
      have h3 := hO.sub
      simp only [Tm.len, Tm.nodes] at h1 h3
      obtain ⟨bb, oo, p', hpA, hcs, hfit, hl3, hl4⟩ := h2
      have j1 : (i : Int) < p.n := by omega
      have hcall := IH.out h' kids' p' wr (m - 1) (by omega) ⟨hfit, hl3⟩ (by omega) (by omega)
      rw [show ((m - 1 : Nat) : Int) = (m : Int) - 1 by omega] at hcall
      obtain ⟨c0, c1, c2, c3, c4, c5, c6, c7, c8, c9, c10⟩ := Tm.row hcs
      have HCK := k0_ hcall
      have HS2 := k0_ hst
      have HL := k0_ hl4
      have HPA := k0_ hpA
      have hnx : min (1 + max (max d (min (Tm.dp h' kids') (m - 1))) (Tm.dep r)) m = min (1 + max (max N1 N2) (Tm.dep kids)) m := by
       exact zE8
      exact zEE
theorem ui (h : Hd) (kids : Tm) (p : Pl) (w : World) (hIs : Tm.Is w h kids p) :
  Calls Tryz.prog 57 #[.agg (tC_ h p)] w fun e w' => e = .returned (.int .i64 (Tm.dpt h kids)) ∧ Below w.heap.size w w' := by
 try unfold tC_
 have hB0 : Below w.heap.size w (w.alloc (.cells (tC_ h p) 28)) := (Below.refl _ _).alloc (Nat.le_refl _) _
 have HC := k0_ (kQ h kids p _ (hIs.below hB0))
 have HD := k0_ (fun (W : World) (hb : Below w.heap.size w W) => zBK (Tm.nodes kids + 1) h kids p W 201 (by omega) (hIs.below hb) (by omega) (by omega))
 have HN := k0_ (zD w (.cells (tC_ h p) 28))
 clear hIs
 by_cases hn : 8192 < Tm.nd h kids
 ·have e1 : ((Tm.nod h kids : Nat) : Int) = 8193 := by unfold Tm.nod; omega
  have e2 : ((Tm.dpt h kids : Nat) : Int) = 201 := by unfold Tm.dpt; rw [if_pos hn]; rfl
  rw [e2]
  rw [e1] at HC
  clear e1 e2 hn HD
  go_enter Tryz.func57, Tryz.ntmps57
  go_wp2_with fail
  refine HC.out.mono ?_
  exact yQ
 ·have e1 : ((Tm.nod h kids : Nat) : Int) ≤ 8192 := by unfold Tm.nod; omega
  have e2 : Tm.dpt h kids = min (Tm.dp h kids) 201 := by unfold Tm.dpt; rw [if_neg hn]
  rw [e2]
  generalize Tm.nod h kids = N at *
  generalize min (Tm.dp h kids) 201 = D at *
  clear e2 hn
  go_enter Tryz.func57, Tryz.ntmps57
  go_wp2_with fail
  refine HC.out.mono ?_
  rintro e w3 ⟨rfl, hb⟩
  have hB1 := hB0.trans (hb.mono hB0.size)
  obtain ⟨q0, q1, q2, q3, q4, q5, q6, q7, q8, q9, q10, ql⟩ := zI (zA hb (by simp) HN.out)
  clear hb
  go_wp2_with fail
  refine (HD.out _ hB1).mono ?_
  exact uY
end Go.Proofs.YtlfcbmobgbcgnaaGreatDoor
