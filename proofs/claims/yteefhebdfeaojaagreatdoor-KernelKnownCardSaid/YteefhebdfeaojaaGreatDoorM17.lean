/-
  Layers 9 and 11: what the rules tell of a term, whatever they mean by agreeing, matching and meeting. Layers 9 and 11: a set of rules: what its fields are, and what they do. Layers 9, 11 and 13: whether there is a term of a kind in a term; what keeps a term from being one that the rules speak of. Layer 9: the rules, kind by kind.
-/
import Derived.Test.YteefhebdfeaojaaGreatDoorM16
import Derived.Test.YteefhebdfeaojaaGreatDoorM11
import Derived.Test.YteefhebdfeaojaaGreatDoorM9
namespace Go.Proofs.YteefhebdfeaojaaGreatDoor
namespace Cg
open Ck
/-- what the rules mean by their words -/
structure Ops where
  ag : T2 → T2 → Bool
  asO : Int → T2 → Bool
  asl : Int → T2 → T2
  asr : Int → T2 → T2
  mt : T2 → T2 → T2
  gs : T2 → T2 → Bool
  ca : Bool
def meet (D : Ops) (h : Hd) (a b : T2) : R := if D.ag a b = true then .ok (D.mt a b) else fault h 91
/-- what stands here, over kids of these types, of a term that binds no name -/
def over (D : Ops) (h : Hd) (a b c : T2) : R :=
  if h.kind = 6 then (if D.asO 3 a = true then (if D.ag b (D.asl 3 a) = true then .ok (D.asr 3 a) else fault h 91) else fault h 90)
  else if h.kind = 8 then (if D.ag a (2, .nil) = true then meet D h b c else fault h 91)
  else if h.kind = 9 then .ok (mk2 4 a b)
  else if h.kind = 10 then (if D.asO 4 a = true then .ok (D.asl 4 a) else fault h 90)
  else if h.kind = 11 then (if D.asO 4 a = true then .ok (D.asr 4 a) else fault h 90)
  else if h.kind = 12 then (if D.asO 5 (TT h) = true then (if D.ag a (D.asl 5 (TT h)) = true then .ok (mk2 5 (D.asl 5 (TT h)) (D.asr 5 (TT h))) else fault h 91) else fault h 90)
  else if h.kind = 13 then (if D.asO 5 (TT h) = true then (if D.ag a (D.asr 5 (TT h)) = true then .ok (mk2 5 (D.asl 5 (TT h)) (D.asr 5 (TT h))) else fault h 91) else fault h 90)
  else if h.kind = 15 then (if D.ag a (1, .nil) = true then (if D.ag b (1, .nil) = true then .ok (opAns h.name) else fault h 91) else fault h 91)
  else if h.kind = 17 ∧ D.ca = true then (if D.ag a (TT h) = true then (if D.gs (TT h) (UU h) = true then .ok (UU h) else fault h 91) else fault h 91)
  else (if D.ag a (TT h) = true then .ok (TT h) else fault h 91)
/-- what stands here, F telling of the kids -/
def raw (D : Ops) (F : Hd → Tm → Env → R) (h : Hd) (kids : Tm) (l : Env) : R :=
  if h.kind = 0 then (match fnd l h.name with
    | some a => .ok a
    | none => .bad 41 h.pos h.name)
  else if h.kind = 1 then .ok (1, .nil)
  else if h.kind = 2 ∨ h.kind = 3 then .ok (2, .nil)
  else if h.kind = 4 then bnd (F (k1 kids).1 (k1 kids).2 (l ++ [(h.name, TT h)])) fun b => .ok (mk2 3 (TT h) b)
  else if h.kind = 5 then bnd (F (k1 kids).1 (k1 kids).2 (l ++ [(h.name, mk2 3 (TT h) (UU h)), (h.arg, TT h)])) fun b => if D.ag b (UU h) = true then .ok (mk2 3 (TT h) (UU h)) else fault h 91
  else if h.kind = 7 then bnd (F (k1 kids).1 (k1 kids).2 l) fun a => if D.ag a (TT h) = true then F (k2 kids).1 (k2 kids).2 (l ++ [(h.name, TT h)]) else fault h 91
  else if h.kind = 14 then bnd (F (k1 kids).1 (k1 kids).2 l) fun a => if D.asO 5 a = true then bnd (F (k2 kids).1 (k2 kids).2 (l ++ [(h.name, D.asl 5 a)])) fun b => bnd (F (k3 kids).1 (k3 kids).2 (l ++ [(h.arg, D.asr 5 a)])) fun c => meet D h b c else fault h 90
  else if h.kind = 6 ∨ h.kind = 9 ∨ h.kind = 15 then bnd (F (k1 kids).1 (k1 kids).2 l) fun a => bnd (F (k2 kids).1 (k2 kids).2 l) fun b => over D h a b (0, .nil)
  else if h.kind = 8 then bnd (F (k1 kids).1 (k1 kids).2 l) fun a => bnd (F (k2 kids).1 (k2 kids).2 l) fun b => bnd (F (k3 kids).1 (k3 kids).2 l) fun c => over D h a b c
  else bnd (F (k1 kids).1 (k1 kids).2 l) fun a => over D h a (0, .nil) (0, .nil)
/-- what the rules tell of a term -/
def ty (D : Ops) : Nat → Hd → Tm → Env → R
  | 0, h, _, _ => fault h 0
  | K + 1, h, kids, l => lift h (raw D (ty D K) h kids l)
theorem ty_succ (D : Ops) (K : Nat) (h : Hd) (kids : Tm) (l : Env) : ty D (K + 1) h kids l = lift h (raw D (ty D K) h kids l) := rfl
theorem ty_ok {D : Ops} : ∀ {K : Nat} {h : Hd} {kids : Tm} {l : Env} {a : T2}, ty D K h kids l = .ok a → chk a = 0
  | 0, _, _, _, _, e => by cases e
  | _ + 1, _, _, _, _, e => (lift_ok e).2
end Cg
end Go.Proofs.YteefhebdfeaojaaGreatDoor
namespace Go.Proofs.YteefhebdfeaojaaGreatDoor
open Go.RowKit
theorem own5 {w : World} {b : Nat} {v0 v1 v2 v3 v4 : Value} {t : TypeId} (h : w.heap[b]? = some (.cells #[v0, v1, v2, v3, v4] t (0, 0))) :
    w.cell? ⟨b, 0, none⟩ = some v0 ∧ w.cell? ⟨b, 1, none⟩ = some v1 ∧ w.cell? ⟨b, 2, none⟩ = some v2 ∧ w.cell? ⟨b, 3, none⟩ = some v3 ∧ w.cell? ⟨b, 4, none⟩ = some v4 ∧
    w.frozen? ⟨b, 0, none⟩ = false ∧ w.frozen? ⟨b, 1, none⟩ = false ∧ w.frozen? ⟨b, 2, none⟩ = false ∧ w.frozen? ⟨b, 3, none⟩ = false ∧ w.frozen? ⟨b, 4, none⟩ = false ∧ b < w.heap.size := by
  refine ⟨?_, ?_, ?_, ?_, ?_, ?_, ?_, ?_, ?_, ?_, heap_lt h⟩ <;> simp [World.cell?, World.frozen?, h]
namespace Cg
open Ck
/-- two types that are handed back, and whether they are there -/
def AsPost (Q : Nat → Prop) (w : World) (ok : Bool) (l r : T2) (e : Ending) (w' : World) : Prop :=
  ∃ G1 m1 c1 G2 m2 c2, e = .returned (.tuple #[.agg #[.int .i8 l.1, .slice G1 m1 c1], .agg #[.int .i8 r.1, .slice G2 m2 c2], .bool ok]) ∧ Ly (Cut Q w.heap.size w.heap.size) w' l G1 m1 c1 ∧ Ly (Cut Q w.heap.size w.heap.size) w' r G2 m2 c2 ∧ Below w.heap.size w w'
/-- what is refused, and where -/
def RefPost (w : World) (r : Option (Int × Int)) (e : Ending) (w' : World) : Prop := match r with
  | none => e = .returned (.pointer none) ∧ Below w.heap.size w w'
  | some x => ∃ g, e = .returned (.pointer (some ⟨g, 0, none⟩)) ∧ FltAt w' g x.1 x.2 e0 ∧ w.heap.size ≤ g ∧ Below w.heap.size w w'
/-- a set of rules: its fields, what they mean, and that they do so -/
structure Rv where
  fr : FuncId
  cpt : Array Value
  vg : Value
  fa : FuncId
  fm : FuncId
  ft : FuncId
  D : Ops
  cfr : ∀ (args : Array Value) (W : World), (callFunc fr args).run Tryz.prog W = .ok (.enter fr args) W
  cfa : ∀ (args : Array Value) (W : World), (callFunc fa args).run Tryz.prog W = .ok (.enter fa args) W
  cfm : ∀ (args : Array Value) (W : World), (callFunc fm args).run Tryz.prog W = .ok (.enter fm args) W
  cft : ∀ (args : Array Value) (W : World), (callFunc ft args).run Tryz.prog W = .ok (.enter ft args) W
  agC : ∀ (k : Int) (kids : Fo) (A : Option Addr) (n c : Nat) (k' : Int) (kids' : Fo) (A' : Option Addr) (n' c' : Nat) (w : World), Ty.Is w k kids A n c → Ty.Is w k' kids' A' n' c' → Shapes w →
    Calls Tryz.prog fa #[.agg #[.int .i8 k, .slice A n c], .agg #[.int .i8 k', .slice A' n' c']] w fun e w' => e = .returned (.bool (D.ag (k, kids) (k', kids'))) ∧ Below w.heap.size w w'
  asC : ∀ (Q : Nat → Prop) (kd : Int) (a : T2) (A : Option Addr) (n c : Nat) (w : World), 3 ≤ kd ∧ kd ≤ 5 → Ly Q w a A n c → Ty.okT a.1 a.2 = true → Shapes w →
    Calls Tryz.prog fm #[.int .i8 kd, .agg #[.int .i8 a.1, .slice A n c]] w (AsPost Q w (D.asO kd a) (D.asl kd a) (D.asr kd a))
  mtC : ∀ (Q : Nat → Prop) (a : T2) (A : Option Addr) (n c : Nat) (b : T2) (A' : Option Addr) (n' c' : Nat) (w : World), Ly Q w a A n c → Ly Q w b A' n' c' → D.ag a b = true → Shapes w →
    Calls Tryz.prog ft #[.agg #[.int .i8 a.1, .slice A n c], .agg #[.int .i8 b.1, .slice A' n' c']] w (Gives Q w (D.mt a b))
  gC : D.ca = true → ∃ fg, vg = .func (Fn.func fg) #[] #[] ∧ (∀ (args : Array Value) (W : World), (callFunc fg args).run Tryz.prog W = .ok (.enter fg args) W) ∧
    ∀ (k : Int) (kids : Fo) (A : Option Addr) (n c : Nat) (k' : Int) (kids' : Fo) (A' : Option Addr) (n' c' : Nat) (w : World), Ty.Is w k kids A n c → Ty.Is w k' kids' A' n' c' → Shapes w →
    Calls Tryz.prog fg #[.agg #[.int .i8 k, .slice A n c], .agg #[.int .i8 k', .slice A' n' c']] w fun e w' => e = .returned (.bool (D.gs (k, kids) (k', kids'))) ∧ Below w.heap.size w w'
/-- what Type tells, given what is refused -/
def tellR (D : Ops) (x : Option (Int × Int)) (h : Hd) (kids : Tm) : R := match x with
  | some x => .bad x.1 x.2 e0
  | none => ty D (Tm.nodes kids + 1) h kids []
end Cg
end Go.Proofs.YteefhebdfeaojaaGreatDoor
namespace Go.Proofs.YteefhebdfeaojaaGreatDoor
open Go.RowKit
set_option maxHeartbeats 1000000 in
set_option maxRecDepth 100000 in
theorem tm_indexc_any (f : FuncId) (g : Addr) (q : Hd → Tm → Bool) (kids : Tm) (A : Option Addr) (n c : Nat) (w : World) (hL : Tm.Lies w kids A 0) (hn : n = Tm.len kids) (hnc : n ≤ c) (hc : c ≤ maxLen)
    (hcf : ∀ (args : Array Value) (W : World), (callFunc f args).run Tryz.prog W = .ok (.enter f args) W)
    (hf : ∀ (h : Hd) (kids' : Tm) (p : Pl) (W : World), Tm.nodes kids' < Tm.nodes kids → Tm.Is W h kids' p → Below w.heap.size w W → Calls Tryz.prog f #[.agg #[.int .i8 h.kind, .string h.name, .string h.arg, .int .i64 h.num, .int .i8 h.tk, .slice p.TA p.tn p.tc, .int .i8 h.uk, .slice p.UA p.un p.uc, .int .i64 h.label, .int .i64 h.pos, .slice p.A p.n p.c], .pointer (some g)] W fun e w' => e = .returned (.bool (q h kids')) ∧ Below W.heap.size W w') :
    Calls Tryz.prog 52 #[.slice A n c, .func (Fn.func f) #[] #[.pointer (some g)]] w fun e w' => e = .returned (.int .i64 (Tm.firstI q kids 0)) ∧ Below w.heap.size w w' := by
  have hst := OverT.start hL hn
  have HF := Lib.hid hf
  have HS := Lib.hid hst
  have i5 : (n : Int) ≤ 9223372036854775807 := by unfold maxLen at hc; omega
  clear hst hn hf hL
  obtain ⟨R, hR⟩ : ∃ R, Tm.firstI q kids 0 = R := ⟨_, rfl⟩
  rw [hR]
  have HR := Lib.hid hR
  clear hR
  go_enter Tryz.func52, Tryz.ntmps52
  go_wp2_with fail
  go_loopw [8] (fun v wr => ∃ (i : Nat) (rest : Tm), v = .int .i64 i ∧ OverT w wr A n (Tm.nodes kids) i rest ∧ Tm.firstI q rest i = R) (fun v _ => n - (intOf v).toNat)
  case atStart => exact ⟨0, kids, rfl, HS.out, HR.out⟩
  case round =>
    obtain ⟨i, rest, rfl, hO, hR⟩ := hrel
    cases rest with
    | nil =>
      have hi : i = n := by have := hO.i_eq; simpa [Tm.len] using this
      have hB := hO.below
      clear hO
      simp only [Tm.firstI] at hR
      subst hi
      subst hR
      go_wp2_with fail
      go_ret
      exact ⟨rfl, hB⟩
    | node h kids' r =>
      have hst := fun w2 hb => OverT.step (w2 := w2) hO hb
      have h1 := hO.i_eq
      have h2 := hO.lies
      have h3 := hO.sub
      have h4 := hO.below
      simp only [Tm.len, Tm.nodes, Tm.firstI] at h1 h3 hR
      obtain ⟨bb, oo, p, rfl, hcs, hfit, hl3, hl4⟩ := h2
      have hcall := HF.out h kids' p wr (by omega) ⟨hfit, hl3⟩ h4
      obtain ⟨c0, c1, c2, c3, c4, c5, c6, c7, c8, c9, c10⟩ := Tm.row hcs
      have HS := Lib.hid hst
      have HL := Lib.hid hl4
      have HRR := Lib.hid hR
      have j1 : (i : Int) < n := by omega
      clear hst hl3 hl4 hO hR hcs hfit
      cases hp : q h kids'
      · have hp0 := HRR.out
        rw [hp, if_neg (by simp)] at hp0
        have HP := Lib.hid hp0
        rw [hp] at hcall
        have HC := Lib.hid hcall
        clear hp hp0 hcall
        go_wp2_with fail
        refine HC.out.mono ?_
        rintro e w2 ⟨rfl, hb⟩
        have hbb := Lib.hid (HS.out w2 hb HL.out)
        clear hb
        go_wp2_with fail
        go_roundw
        case rel => exact ⟨i + 1, r, by go_num, hbb.out, HP.out⟩
        case measure => simp [intOf]; omega
      · have hp0 : R = i := by rw [← HRR.out, hp]; rfl
        rw [hp] at hcall
        have HC := Lib.hid hcall
        clear hp hcall
        subst hp0
        go_wp2_with fail
        refine HC.out.mono ?_
        rintro e w2 ⟨rfl, hb⟩
        go_wp2_with fail
        go_ret
        exact ⟨rfl, h4.trans (hb.mono h4.size)⟩

set_option maxHeartbeats 1000000 in
set_option maxRecDepth 100000 in
theorem tm_containsc_any (f : FuncId) (g : Addr) (q : Hd → Tm → Bool) (kids : Tm) (A : Option Addr) (n c : Nat) (w : World) (hL : Tm.Lies w kids A 0) (hn : n = Tm.len kids) (hnc : n ≤ c) (hc : c ≤ maxLen)
    (hcf : ∀ (args : Array Value) (W : World), (callFunc f args).run Tryz.prog W = .ok (.enter f args) W)
    (hf : ∀ (h : Hd) (kids' : Tm) (p : Pl) (W : World), Tm.nodes kids' < Tm.nodes kids → Tm.Is W h kids' p → Below w.heap.size w W → Calls Tryz.prog f #[.agg #[.int .i8 h.kind, .string h.name, .string h.arg, .int .i64 h.num, .int .i8 h.tk, .slice p.TA p.tn p.tc, .int .i8 h.uk, .slice p.UA p.un p.uc, .int .i64 h.label, .int .i64 h.pos, .slice p.A p.n p.c], .pointer (some g)] W fun e w' => e = .returned (.bool (q h kids')) ∧ Below W.heap.size W w') :
    Calls Tryz.prog 33 #[.slice A n c, .func (Fn.func f) #[] #[.pointer (some g)]] w fun e w' => e = .returned (.bool (Tm.anyF q kids)) ∧ Below w.heap.size w w' := by
  have HI := Lib.hid (tm_indexc_any f g q kids A n c w hL hn hnc hc hcf hf)
  rw [← Tm.firstI_any q kids 0]
  clear hL hn hf hcf
  generalize Tm.firstI q kids 0 = R at *
  go_enter Tryz.func33, Tryz.ntmps33
  go_wp2_with fail
  refine HI.out.mono ?_
  rintro e w2 ⟨rfl, hb⟩
  go_wp2_with fail
  go_ret
  exact ⟨rfl, hb⟩

namespace Ck
/-- has a term one of a kind in it? -/
def hasF (kd : Int) : Tm → Bool
  | .nil => false
  | .node h kids r => (h.kind == kd) || hasF kd kids || hasF kd r
def hasT (kd : Int) (h : Hd) (kids : Tm) : Bool := (h.kind == kd) || hasF kd kids
theorem hasF_any (kd : Int) : ∀ t : Tm, hasF kd t = Tm.anyF (hasT kd) t
  | .nil => rfl
  | .node h kids r => by
    simp only [hasF, Tm.anyF, hasT]
    rw [hasF_any kd r]
/-- what keeps a term from being one without any of a kind -/
def refK (kd : Int) (h : Hd) (kids : Tm) : Int := if Tm.chk h kids ≠ 0 then Tm.chk h kids else if hasT kd h kids = true then 30 else 0
/-- what is refused, and where -/
def refKO (kd : Int) (h : Hd) (kids : Tm) : Option (Int × Int) := if refK kd h kids = 0 then none else some (refK kd h kids, 0)
end Ck
end Go.Proofs.YteefhebdfeaojaaGreatDoor
namespace Go.Proofs.YteefhebdfeaojaaGreatDoor
namespace Cg
open Ck
theorem raw_0 (D : Ops) (F : Hd → Tm → Env → R) (h : Hd) (kids : Tm) (l : Env) (hk : h.kind = 0) : raw D F h kids l = (match fnd l h.name with | some a => .ok a | none => .bad 41 h.pos h.name) := by
  unfold raw
  rw [if_pos hk]
  all_goals (cases fnd l h.name <;> rfl)
theorem raw_1 (D : Ops) (F : Hd → Tm → Env → R) (h : Hd) (kids : Tm) (l : Env) (hk : h.kind = 1) : raw D F h kids l = .ok (1, .nil) := by
  unfold raw
  simp [hk]
theorem raw_2 (D : Ops) (F : Hd → Tm → Env → R) (h : Hd) (kids : Tm) (l : Env) (hk : h.kind = 2) : raw D F h kids l = .ok (2, .nil) := by
  unfold raw
  simp [hk]
theorem raw_3 (D : Ops) (F : Hd → Tm → Env → R) (h : Hd) (kids : Tm) (l : Env) (hk : h.kind = 3) : raw D F h kids l = .ok (2, .nil) := by
  unfold raw
  simp [hk]
theorem raw_4 (D : Ops) (F : Hd → Tm → Env → R) (h : Hd) (kids : Tm) (l : Env) (hk : h.kind = 4) : raw D F h kids l = bnd (F (k1 kids).1 (k1 kids).2 (l ++ [(h.name, TT h)])) fun b => .ok (mk2 3 (TT h) b) := by
  unfold raw
  simp [hk]
theorem raw_5 (D : Ops) (F : Hd → Tm → Env → R) (h : Hd) (kids : Tm) (l : Env) (hk : h.kind = 5) : raw D F h kids l = bnd (F (k1 kids).1 (k1 kids).2 (l ++ [(h.name, mk2 3 (TT h) (UU h)), (h.arg, TT h)])) fun b => if D.ag b (UU h) = true then .ok (mk2 3 (TT h) (UU h)) else fault h 91 := by
  unfold raw
  simp [hk]
theorem raw_6 (D : Ops) (F : Hd → Tm → Env → R) (h : Hd) (kids : Tm) (l : Env) (hk : h.kind = 6) : raw D F h kids l = bnd (F (k1 kids).1 (k1 kids).2 l) fun a => bnd (F (k2 kids).1 (k2 kids).2 l) fun b => over D h a b (0, .nil) := by
  unfold raw
  simp [hk]
theorem raw_7 (D : Ops) (F : Hd → Tm → Env → R) (h : Hd) (kids : Tm) (l : Env) (hk : h.kind = 7) : raw D F h kids l = bnd (F (k1 kids).1 (k1 kids).2 l) fun a => if D.ag a (TT h) = true then F (k2 kids).1 (k2 kids).2 (l ++ [(h.name, TT h)]) else fault h 91 := by
  unfold raw
  simp [hk]
theorem raw_8 (D : Ops) (F : Hd → Tm → Env → R) (h : Hd) (kids : Tm) (l : Env) (hk : h.kind = 8) : raw D F h kids l = bnd (F (k1 kids).1 (k1 kids).2 l) fun a => bnd (F (k2 kids).1 (k2 kids).2 l) fun b => bnd (F (k3 kids).1 (k3 kids).2 l) fun c => over D h a b c := by
  unfold raw
  simp [hk]
theorem raw_9 (D : Ops) (F : Hd → Tm → Env → R) (h : Hd) (kids : Tm) (l : Env) (hk : h.kind = 9) : raw D F h kids l = bnd (F (k1 kids).1 (k1 kids).2 l) fun a => bnd (F (k2 kids).1 (k2 kids).2 l) fun b => over D h a b (0, .nil) := by
  unfold raw
  simp [hk]
theorem raw_10 (D : Ops) (F : Hd → Tm → Env → R) (h : Hd) (kids : Tm) (l : Env) (hk : h.kind = 10) : raw D F h kids l = bnd (F (k1 kids).1 (k1 kids).2 l) fun a => over D h a (0, .nil) (0, .nil) := by
  unfold raw
  simp [hk]
theorem raw_11 (D : Ops) (F : Hd → Tm → Env → R) (h : Hd) (kids : Tm) (l : Env) (hk : h.kind = 11) : raw D F h kids l = bnd (F (k1 kids).1 (k1 kids).2 l) fun a => over D h a (0, .nil) (0, .nil) := by
  unfold raw
  simp [hk]
theorem raw_12 (D : Ops) (F : Hd → Tm → Env → R) (h : Hd) (kids : Tm) (l : Env) (hk : h.kind = 12) : raw D F h kids l = bnd (F (k1 kids).1 (k1 kids).2 l) fun a => over D h a (0, .nil) (0, .nil) := by
  unfold raw
  simp [hk]
theorem raw_13 (D : Ops) (F : Hd → Tm → Env → R) (h : Hd) (kids : Tm) (l : Env) (hk : h.kind = 13) : raw D F h kids l = bnd (F (k1 kids).1 (k1 kids).2 l) fun a => over D h a (0, .nil) (0, .nil) := by
  unfold raw
  simp [hk]
theorem raw_14 (D : Ops) (F : Hd → Tm → Env → R) (h : Hd) (kids : Tm) (l : Env) (hk : h.kind = 14) : raw D F h kids l = bnd (F (k1 kids).1 (k1 kids).2 l) fun a => if D.asO 5 a = true then bnd (F (k2 kids).1 (k2 kids).2 (l ++ [(h.name, D.asl 5 a)])) fun b => bnd (F (k3 kids).1 (k3 kids).2 (l ++ [(h.arg, D.asr 5 a)])) fun c => meet D h b c else fault h 90 := by
  unfold raw
  simp [hk]
theorem raw_15 (D : Ops) (F : Hd → Tm → Env → R) (h : Hd) (kids : Tm) (l : Env) (hk : h.kind = 15) : raw D F h kids l = bnd (F (k1 kids).1 (k1 kids).2 l) fun a => bnd (F (k2 kids).1 (k2 kids).2 l) fun b => over D h a b (0, .nil) := by
  unfold raw
  simp [hk]
theorem raw_16 (D : Ops) (F : Hd → Tm → Env → R) (h : Hd) (kids : Tm) (l : Env) (hk : h.kind = 16) : raw D F h kids l = bnd (F (k1 kids).1 (k1 kids).2 l) fun a => over D h a (0, .nil) (0, .nil) := by
  unfold raw
  simp [hk]
theorem raw_17 (D : Ops) (F : Hd → Tm → Env → R) (h : Hd) (kids : Tm) (l : Env) (hk : h.kind = 17) : raw D F h kids l = bnd (F (k1 kids).1 (k1 kids).2 l) fun a => over D h a (0, .nil) (0, .nil) := by
  unfold raw
  simp [hk]
theorem over_6 (D : Ops) (h : Hd) (a b c : T2) (hk : h.kind = 6) : over D h a b c = if D.asO 3 a = true then (if D.ag b (D.asl 3 a) = true then .ok (D.asr 3 a) else fault h 91) else fault h 90 := by
  unfold over
  simp [hk]
theorem over_8 (D : Ops) (h : Hd) (a b c : T2) (hk : h.kind = 8) : over D h a b c = if D.ag a (2, .nil) = true then meet D h b c else fault h 91 := by
  unfold over
  simp [hk]
theorem over_9 (D : Ops) (h : Hd) (a b c : T2) (hk : h.kind = 9) : over D h a b c = .ok (mk2 4 a b) := by
  unfold over
  simp [hk]
theorem over_10 (D : Ops) (h : Hd) (a b c : T2) (hk : h.kind = 10) : over D h a b c = if D.asO 4 a = true then .ok (D.asl 4 a) else fault h 90 := by
  unfold over
  simp [hk]
theorem over_11 (D : Ops) (h : Hd) (a b c : T2) (hk : h.kind = 11) : over D h a b c = if D.asO 4 a = true then .ok (D.asr 4 a) else fault h 90 := by
  unfold over
  simp [hk]
theorem over_12 (D : Ops) (h : Hd) (a b c : T2) (hk : h.kind = 12) : over D h a b c = if D.asO 5 (TT h) = true then (if D.ag a (D.asl 5 (TT h)) = true then .ok (mk2 5 (D.asl 5 (TT h)) (D.asr 5 (TT h))) else fault h 91) else fault h 90 := by
  unfold over
  simp [hk]
theorem over_13 (D : Ops) (h : Hd) (a b c : T2) (hk : h.kind = 13) : over D h a b c = if D.asO 5 (TT h) = true then (if D.ag a (D.asr 5 (TT h)) = true then .ok (mk2 5 (D.asl 5 (TT h)) (D.asr 5 (TT h))) else fault h 91) else fault h 90 := by
  unfold over
  simp [hk]
theorem over_15 (D : Ops) (h : Hd) (a b c : T2) (hk : h.kind = 15) : over D h a b c = if D.ag a (1, .nil) = true then (if D.ag b (1, .nil) = true then .ok (opAns h.name) else fault h 91) else fault h 91 := by
  unfold over
  simp [hk]
theorem over_16 (D : Ops) (h : Hd) (a b c : T2) (hk : h.kind = 16) : over D h a b c = if D.ag a (TT h) = true then .ok (TT h) else fault h 91 := by
  unfold over
  simp [hk]
theorem over_17 (D : Ops) (h : Hd) (a b c : T2) (hk : h.kind = 17) (hca : D.ca = true) : over D h a b c = if D.ag a (TT h) = true then (if D.gs (TT h) (UU h) = true then .ok (UU h) else fault h 91) else fault h 91 := by
  unfold over
  simp [hk, hca]
end Cg
end Go.Proofs.YteefhebdfeaojaaGreatDoor
