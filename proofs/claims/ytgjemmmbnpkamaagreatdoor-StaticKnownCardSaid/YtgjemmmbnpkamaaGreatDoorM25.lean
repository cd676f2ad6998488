import Derived.Test.YtgjemmmbnpkamaaGreatDoorM21
namespace Go.Proofs.YtgjemmmbnpkamaaGreatDoor
namespace Cg
open Ck
structure Ops where
  ag : T2 → T2 → Bool
  asO : Int → T2 → Bool
  asl : Int → T2 → T2
  asr : Int → T2 → T2
  mt : T2 → T2 → T2
  gs : T2 → T2 → Bool
  ca : Bool
def meet (D : Ops) (h : Hd) (a b : T2) : R := if D.ag a b = true then .ok (D.mt a b) else fault h 91
def over (D : Ops) (h : Hd) (a b c : T2) : R :=
  if h.kind = 6 then (if D.asO 3 a = true then (if D.ag b (D.asl 3 a) = true then .ok (D.asr 3 a) else fault h 91) else fault h 90)
  else if h.kind = 8 then (if D.ag a (2, .nil) = true then meet D h b c else fault h 91)
  else if h.kind = 9 then .ok (mk2 4 a b)
  else if h.kind = 10 then (if D.asO 4 a = true then .ok (D.asl 4 a) else fault h 90)
  else if h.kind = 11 then (if D.asO 4 a = true then .ok (D.asr 4 a) else fault h 90)
  else if h.kind = 12 then (if D.asO 5 (TT h) = true then (if D.ag a (D.asl 5 (TT h)) = true then .ok (mk2 5 (D.asl 5 (TT h)) (D.asr 5 (TT h))) else fault h 91) else fault h 90)
  else if h.kind = 13 then (if D.asO 5 (TT h) = true then (if D.ag a (D.asr 5 (TT h)) = true then .ok (mk2 5 (D.asl 5 (TT h)) (D.asr 5 (TT h))) else fault h 91) else fault h 90)
  else if h.kind = 15 then (if D.ag a (1, .nil) = true then (if D.ag b (1, .nil) = true then .ok (opAns h.name) else fault h 91) else fault h 91)
  else if h.kind = 17 ∧ D.ca = true then (if D.ag a (TT h) = true then (if D.gs (TT h) (UU h) = true then .ok (UU h) else fault h 91) else fault h 91)
  else (if D.ag a (TT h) = true then .ok (TT h) else fault h 91)
def raw (D : Ops) (F : Hd → Tm → Env → R) (h : Hd) (kids : Tm) (l : Env) : R :=
  if h.kind = 0 then (match fnd l h.name with
    | some a => .ok a
    | none => .bad 41 h.pos h.name)
  else if h.kind = 1 then .ok (1, .nil)
  else if h.kind = 2 ∨ h.kind = 3 then .ok (2, .nil)
  else if h.kind = 4 then bnd (F (k1 kids).1 (k1 kids).2 (l ++ [(h.name, TT h)])) fun b => .ok (mk2 3 (TT h) b)
  else if h.kind = 5 then bnd (F (k1 kids).1 (k1 kids).2 (l ++ [(h.name, mk2 3 (TT h) (UU h)), (h.arg, TT h)])) fun b => if D.ag b (UU h) = true then .ok (mk2 3 (TT h) (UU h)) else fault h 91
  else if h.kind = 7 then bnd (F (k1 kids).1 (k1 kids).2 l) fun a => if D.ag a (TT h) = true then F (k2 kids).1 (k2 kids).2 (l ++ [(h.name, TT h)]) else fault h 91
  else if h.kind = 14 then bnd (F (k1 kids).1 (k1 kids).2 l) fun a => if D.asO 5 a = true then bnd (F (k2 kids).1 (k2 kids).2 (l ++ [(h.name, D.asl 5 a)])) fun b => bnd (F (k3 kids).1 (k3 kids).2 (l ++ [(h.arg, D.asr 5 a)])) fun c => meet D h b c else fault h 90
  else if h.kind = 6 ∨ h.kind = 9 ∨ h.kind = 15 then bnd (F (k1 kids).1 (k1 kids).2 l) fun a => bnd (F (k2 kids).1 (k2 kids).2 l) fun b => over D h a b (0, .nil)
  else if h.kind = 8 then bnd (F (k1 kids).1 (k1 kids).2 l) fun a => bnd (F (k2 kids).1 (k2 kids).2 l) fun b => bnd (F (k3 kids).1 (k3 kids).2 l) fun c => over D h a b c
  else bnd (F (k1 kids).1 (k1 kids).2 l) fun a => over D h a (0, .nil) (0, .nil)
def ty (D : Ops) : Nat → Hd → Tm → Env → R
  | 0, h, _, _ => fault h 0
  | K + 1, h, kids, l => lift h (raw D (ty D K) h kids l)
theorem zBb (D : Ops) (K : Nat) (h : Hd) (kids : Tm) (l : Env) : ty D (K + 1) h kids l = lift h (raw D (ty D K) h kids l) := rfl
theorem zBc {D : Ops} : ∀ {K : Nat} {h : Hd} {kids : Tm} {l : Env} {a : T2}, ty D K h kids l = .ok a → chk a = 0
  | 0, _, _, _, _, e => by cases e
  | _ + 1, _, _, _, _, e => (zBt e).2
end Cg
end Go.Proofs.YtgjemmmbnpkamaaGreatDoor
namespace Go.Proofs.YtgjemmmbnpkamaaGreatDoor
open Go.RowKit
theorem jI {w : World} {b : Nat} {v0 v1 v2 v3 v4 : Value} {t : TypeId} (h : w.heap[b]? = some (.cells #[v0, v1, v2, v3, v4] t (0, 0))) :
    w.cell? ⟨b, 0, none⟩ = some v0 ∧ w.cell? ⟨b, 1, none⟩ = some v1 ∧ w.cell? ⟨b, 2, none⟩ = some v2 ∧ w.cell? ⟨b, 3, none⟩ = some v3 ∧ w.cell? ⟨b, 4, none⟩ = some v4 ∧
    w.frozen? ⟨b, 0, none⟩ = false ∧ w.frozen? ⟨b, 1, none⟩ = false ∧ w.frozen? ⟨b, 2, none⟩ = false ∧ w.frozen? ⟨b, 3, none⟩ = false ∧ w.frozen? ⟨b, 4, none⟩ = false ∧ b < w.heap.size := by
  refine ⟨?_, ?_, ?_, ?_, ?_, ?_, ?_, ?_, ?_, ?_, zD h⟩ <;> simp [World.cell?, World.frozen?, h]
namespace Cg
open Ck
def AsPost (Q : Nat → Prop) (w : World) (ok : Bool) (l r : T2) (e : Ending) (w' : World) : Prop :=
  ∃ G1 m1 c1 G2 m2 c2, e = .returned (.tuple #[.agg #[.int .i8 l.1, .slice G1 m1 c1], .agg #[.int .i8 r.1, .slice G2 m2 c2], .bool ok]) ∧ Ly (Cut Q w.heap.size w.heap.size) w' l G1 m1 c1 ∧ Ly (Cut Q w.heap.size w.heap.size) w' r G2 m2 c2 ∧ Below w.heap.size w w'
def RefPost (w : World) (r : Option (Int × Int)) (e : Ending) (w' : World) : Prop := match r with
  | none => e = .returned (.pointer none) ∧ Below w.heap.size w w'
  | some x => ∃ g, e = .returned (.pointer (some ⟨g, 0, none⟩)) ∧ FltAt w' g x.1 x.2 e0 ∧ w.heap.size ≤ g ∧ Below w.heap.size w w'
structure Rv where
  fr : FuncId
  cpt : Array Value
  vg : Value
  fa : FuncId
  fm : FuncId
  ft : FuncId
  D : Ops
  cfr : ∀ (args : Array Value) (W : World), (callFunc fr args).run Tryz.prog W = .ok (.enter fr args) W
  cfa : ∀ (args : Array Value) (W : World), (callFunc fa args).run Tryz.prog W = .ok (.enter fa args) W
  cfm : ∀ (args : Array Value) (W : World), (callFunc fm args).run Tryz.prog W = .ok (.enter fm args) W
  cft : ∀ (args : Array Value) (W : World), (callFunc ft args).run Tryz.prog W = .ok (.enter ft args) W
  agC : ∀ (k : Int) (kids : Fo) (A : Option Addr) (n c : Nat) (k' : Int) (kids' : Fo) (A' : Option Addr) (n' c' : Nat) (w : World), Ty.Is w k kids A n c → Ty.Is w k' kids' A' n' c' → Shapes w →
    Calls Tryz.prog fa #[.agg #[.int .i8 k, .slice A n c], .agg #[.int .i8 k', .slice A' n' c']] w fun e w' => e = .returned (.bool (D.ag (k, kids) (k', kids'))) ∧ Below w.heap.size w w'
  asC : ∀ (Q : Nat → Prop) (kd : Int) (a : T2) (A : Option Addr) (n c : Nat) (w : World), 3 ≤ kd ∧ kd ≤ 5 → Ly Q w a A n c → Ty.okT a.1 a.2 = true → Shapes w →
    Calls Tryz.prog fm #[.int .i8 kd, .agg #[.int .i8 a.1, .slice A n c]] w (AsPost Q w (D.asO kd a) (D.asl kd a) (D.asr kd a))
  mtC : ∀ (Q : Nat → Prop) (a : T2) (A : Option Addr) (n c : Nat) (b : T2) (A' : Option Addr) (n' c' : Nat) (w : World), Ly Q w a A n c → Ly Q w b A' n' c' → D.ag a b = true → Shapes w →
    Calls Tryz.prog ft #[.agg #[.int .i8 a.1, .slice A n c], .agg #[.int .i8 b.1, .slice A' n' c']] w (Gives Q w (D.mt a b))
  gC : D.ca = true → ∃ fg, vg = .func (Fn.func fg) #[] #[] ∧ (∀ (args : Array Value) (W : World), (callFunc fg args).run Tryz.prog W = .ok (.enter fg args) W) ∧
    ∀ (k : Int) (kids : Fo) (A : Option Addr) (n c : Nat) (k' : Int) (kids' : Fo) (A' : Option Addr) (n' c' : Nat) (w : World), Ty.Is w k kids A n c → Ty.Is w k' kids' A' n' c' → Shapes w →
    Calls Tryz.prog fg #[.agg #[.int .i8 k, .slice A n c], .agg #[.int .i8 k', .slice A' n' c']] w fun e w' => e = .returned (.bool (D.gs (k, kids) (k', kids'))) ∧ Below w.heap.size w w'
def tellR (D : Ops) (x : Option (Int × Int)) (h : Hd) (kids : Tm) : R := match x with
  | some x => .bad x.1 x.2 e0
  | none => ty D (Tm.nodes kids + 1) h kids []
end Cg
abbrev rF_ (rv : Cg.Rv) : Array Value := #[.func (Fn.func rv.fr) #[] rv.cpt, .func (Fn.func rv.fa) #[] #[], .func (Fn.func rv.fm) #[] #[], .func (Fn.func rv.ft) #[] #[], rv.vg]
end Go.Proofs.YtgjemmmbnpkamaaGreatDoor
namespace Go.Proofs.YtgjemmmbnpkamaaGreatDoor
set_option maxHeartbeats 1000000
set_option maxRecDepth 100000
open Go.RowKit
theorem xO (f : FuncId) (g : Addr) (q : Hd → Tm → Bool) (kids : Tm) (A : Option Addr) (n c : Nat) (w : World) (hL : Tm.Lies w kids A 0) (hn : n = Tm.len kids) (hnc : n ≤ c) (hc : c ≤ maxLen)
    (hcf : ∀ (args : Array Value) (W : World), (callFunc f args).run Tryz.prog W = .ok (.enter f args) W)
    (hf : ∀ (h : Hd) (kids' : Tm) (p : Pl) (W : World), Tm.nodes kids' < Tm.nodes kids → Tm.Is W h kids' p → Below w.heap.size w W → Calls Tryz.prog f #[.agg (tC_ h p), .pointer (some g)] W fun e w' => e = .returned (.bool (q h kids')) ∧ Below W.heap.size W w') :
    Calls Tryz.prog 122 #[.slice A n c, .func (Fn.func f) #[] #[.pointer (some g)]] w fun e w' => e = .returned (.int .i64 (Tm.firstI q kids 0)) ∧ Below w.heap.size w w' := by
  try unfold tC_
  exact c6_
theorem kG (f : FuncId) (g : Addr) (q : Hd → Tm → Bool) (kids : Tm) (A : Option Addr) (n c : Nat) (w : World) (hL : Tm.Lies w kids A 0) (hn : n = Tm.len kids) (hnc : n ≤ c) (hc : c ≤ maxLen)
    (hcf : ∀ (args : Array Value) (W : World), (callFunc f args).run Tryz.prog W = .ok (.enter f args) W)
    (hf : ∀ (h : Hd) (kids' : Tm) (p : Pl) (W : World), Tm.nodes kids' < Tm.nodes kids → Tm.Is W h kids' p → Below w.heap.size w W → Calls Tryz.prog f #[.agg (tC_ h p), .pointer (some g)] W fun e w' => e = .returned (.bool (q h kids')) ∧ Below W.heap.size W w') :
    Calls Tryz.prog 90 #[.slice A n c, .func (Fn.func f) #[] #[.pointer (some g)]] w fun e w' => e = .returned (.bool (Tm.anyF q kids)) ∧ Below w.heap.size w w' := by
  try unfold tC_
  have HI := k0_ (xO f g q kids A n c w hL hn hnc hc hcf hf)
  exact zH5
namespace Ck
def hasF (kd : Int) : Tm → Bool
  | .nil => false
  | .node h kids r => (h.kind == kd) || hasF kd kids || hasF kd r
def hasT (kd : Int) (h : Hd) (kids : Tm) : Bool := (h.kind == kd) || hasF kd kids
theorem zAA (kd : Int) : ∀ t : Tm, hasF kd t = Tm.anyF (hasT kd) t
  | .nil => rfl
  | .node h kids r => by
    simp only [hasF, Tm.anyF, hasT]
    rw [zAA kd r]
theorem kP : ∀ t : Tm, castF t = hasF 17 t
  | .nil => rfl
  | .node h kids r => by
    simp only [castF, hasF]
    rw [kP kids, kP r]
theorem wH (h : Hd) (kids : Tm) : castT h kids = hasT 17 h kids := by unfold castT hasT; rw [kP]
def refK (kd : Int) (h : Hd) (kids : Tm) : Int := if Tm.chk h kids ≠ 0 then Tm.chk h kids else if hasT kd h kids = true then 30 else 0
def refKO (kd : Int) (h : Hd) (kids : Tm) : Option (Int × Int) := if refK kd h kids = 0 then none else some (refK kd h kids, 0)
def refu (h : Hd) (kids : Tm) : Int := if Tm.chk h kids ≠ 0 then Tm.chk h kids else if castT h kids = true then 30 else 0
def refO (h : Hd) (kids : Tm) : Option (Int × Int) := if refu h kids = 0 then none else some (refu h kids, 0)
theorem zDW (h : Hd) (kids : Tm) : refO h kids = refKO 17 h kids := by unfold refO refKO refu refK; rw [wH]
end Ck
set_option maxHeartbeats 2000000
set_option maxRecDepth 100000
open Go.RowKit
theorem xH (rv : Cg.Rv) (h : Hd) (p : Pl) (k : Int) (kids : Fo) (A : Option Addr) (n c : Nat) (k' : Int) (kids' : Fo) (A' : Option Addr) (n' c' : Nat) (w : World) (hIs : Ty.Is w k kids A n c) (hIs' : Ty.Is w k' kids' A' n' c') (hS : Shapes w) (hag : rv.D.ag (k, kids) (k', kids') = true) :
    Calls Tryz.prog 128 #[.agg (rF_ rv), .agg (tC_ h p), .agg #[.int .i8 k, .slice A n c], .agg #[.int .i8 k', .slice A' n' c']] w fun e w' => e = .returned (.tuple #[]) ∧ Below w.heap.size w w' := by
  try unfold tC_
  try unfold rF_
  have hcf := rv.cfa
  have CA := k0_ (fun (W : World) (hb : Below w.heap.size w W) => rv.agC k kids A n c k' kids' A' n' c' W (hIs.below hb) (hIs'.below hb) (hS.below hb))
  rw [hag] at CA
  have HB4 := k0_ (jl w (.cells (rF_ rv) 56) (.cells (tC_ h p) 28) (.cells #[.int .i8 k, .slice A n c] 25) (.cells #[.int .i8 k', .slice A' n' c'] 25))
  obtain ⟨-, h1, -, -⟩ := vZ w (.cells (rF_ rv) 56) (.cells (tC_ h p) 28) (.cells #[.int .i8 k, .slice A n c] 25) (.cells #[.int .i8 k', .slice A' n' c'] 25)
  have H1 := k0_ h1
  clear hIs hIs' hS hag h1
  go_enter Tryz.func128, Tryz.ntmps128
  go_wp2_with fail
  refine (CA.out _ HB4.out).mono ?_
  rintro e w5 ⟨rfl, hb5⟩
  have HB5 := kt_ HB4 hb5
  clear hb5
  go_wp2_with fail
  go_end0
  exact ⟨rfl, HB5.out⟩
theorem wG (rv : Cg.Rv) (h : Hd) (p : Pl) (k : Int) (kids : Fo) (A : Option Addr) (n c : Nat) (k' : Int) (kids' : Fo) (A' : Option Addr) (n' c' : Nat) (w : World) (hIs : Ty.Is w k kids A n c) (hIs' : Ty.Is w k' kids' A' n' c') (hS : Shapes w) (hag : rv.D.ag (k, kids) (k', kids') = false) :
    Calls Tryz.prog 128 #[.agg (rF_ rv), .agg (tC_ h p), .agg #[.int .i8 k, .slice A n c], .agg #[.int .i8 k', .slice A' n' c']] w (Ck.Gave w 91 h.pos Ck.e0) := by
  try unfold tC_
  try unfold rF_
  have hcf := rv.cfa
  have CA := k0_ (fun (W : World) (hb : Below w.heap.size w W) => rv.agC k kids A n c k' kids' A' n' c' W (hIs.below hb) (hIs'.below hb) (hS.below hb))
  rw [hag] at CA
  have HB4 := k0_ (jl w (.cells (rF_ rv) 56) (.cells (tC_ h p) 28) (.cells #[.int .i8 k, .slice A n c] 25) (.cells #[.int .i8 k', .slice A' n' c'] 25))
  obtain ⟨-, h1, -, -⟩ := vZ w (.cells (rF_ rv) 56) (.cells (tC_ h p) 28) (.cells #[.int .i8 k, .slice A n c] 25) (.cells #[.int .i8 k', .slice A' n' c'] 25)
  have H1 := k0_ h1
  clear hIs hIs' hS hag h1
  go_enter Tryz.func128, Tryz.ntmps128
  go_wp2_with fail
  refine (CA.out _ HB4.out).mono ?_
  rintro e w5 ⟨rfl, hb5⟩
  have HB5 := kt_ HB4 hb5
  obtain ⟨q0, q1, q2, q3, q4, q5, q6, q7, q8, q9, q10, ql⟩ := zN (zC hb5 (zD H1.out) H1.out)
  have HF := k0_ (jU h p 91 w5)
  clear hb5
  go_wp2_with fail
  refine HF.out.mono ?_
  rintro e w6 hg
  have HG := k0_ (Ck.Gave.from hg HB5.out)
  obtain ⟨g, rfl, -⟩ := hg
  go_wp2_with fail
  exact ⟨rfl, HG.out⟩
theorem zBP (rv : Cg.Rv) (h : Hd) (p : Pl) (w : World) (hca : rv.D.ca = true) (hT : Ty.Is w h.tk h.tkids p.TA p.tn p.tc) (hU : Ty.Is w h.uk h.ukids p.UA p.un p.uc) (hS : Shapes w) :
    Calls Tryz.prog 132 #[.agg (rF_ rv), .agg (tC_ h p)] w fun e w' => (rv.D.gs (Ck.TT h) (Ck.UU h) = false ∧ Ck.Gave w 91 h.pos Ck.e0 e w') ∨ (rv.D.gs (Ck.TT h) (Ck.UU h) = true ∧ e = .returned (.tuple #[]) ∧ Below w.heap.size w w') := by
  try unfold tC_
  try unfold rF_
  obtain ⟨fg, hv, hcf, hgC⟩ := rv.gC hca
  rw [hv]
  have CA := k0_ (fun (W : World) (hb : Below w.heap.size w W) => hgC h.tk h.tkids p.TA p.tn p.tc h.uk h.ukids p.UA p.un p.uc W (hT.below hb) (hU.below hb) (hS.below hb))
  have HB2 := k0_ (qg w (.cells #[.func (Fn.func rv.fr) #[] rv.cpt, .func (Fn.func rv.fa) #[] #[], .func (Fn.func rv.fm) #[] #[], .func (Fn.func rv.ft) #[] #[], .func (Fn.func fg) #[] #[]] 56) (.cells (tC_ h p) 28))
  obtain ⟨-, h1⟩ := qz w (.cells #[.func (Fn.func rv.fr) #[] rv.cpt, .func (Fn.func rv.fa) #[] #[], .func (Fn.func rv.fm) #[] #[], .func (Fn.func rv.ft) #[] #[], .func (Fn.func fg) #[] #[]] 56) (.cells (tC_ h p) 28)
  have H1 := k0_ h1
  rw [show rv.D.gs (h.tk, h.tkids) (h.uk, h.ukids) = rv.D.gs (Ck.TT h) (Ck.UU h) from rfl] at CA
  generalize rv.D.gs (Ck.TT h) (Ck.UU h) = g0 at *
  clear hT hU hS h1 hgC hv
  cases g0
  · go_enter Tryz.func132, Tryz.ntmps132
    go_wp2_with fail
    refine (CA.out _ HB2.out).mono ?_
    rintro e w5 ⟨rfl, hb5⟩
    have HB5 := kt_ HB2 hb5
    obtain ⟨q0, q1, q2, q3, q4, q5, q6, q7, q8, q9, q10, ql⟩ := zN (zC hb5 (zD H1.out) H1.out)
    have HF := k0_ (jU h p 91 w5)
    clear hb5
    go_wp2_with fail
    refine HF.out.mono ?_
    rintro e w6 hg
    have HG := k0_ (Ck.Gave.from hg HB5.out)
    obtain ⟨g, rfl, -⟩ := hg
    go_wp2_with fail
    exact ⟨rfl, .inl ⟨trivial, HG.out⟩⟩
  · go_enter Tryz.func132, Tryz.ntmps132
    go_wp2_with fail
    refine (CA.out _ HB2.out).mono ?_
    rintro e w5 ⟨rfl, hb5⟩
    have HB5 := kt_ HB2 hb5
    clear hb5
    go_wp2_with fail
    go_end0
    exact .inr ⟨trivial, rfl, HB5.out⟩
theorem zT {u : World} {X : Nat} {x0 x1 : Value} {t : TypeId} (h : u.heap[X]? = some (.cells #[x0, x1] t (0, 0))) (a b : Value) : ((u.setCell ⟨X, 0, none⟩ a).setCell ⟨X, 1, none⟩ b).heap[X]? = some (.cells #[a, b] t (0, 0)) := by
  simp [World.setCell, Array.getElem?_modify, h]
theorem zi {u : World} {X Y : Nat} {o : Obj} (h : u.heap[Y]? = some o) (hne : X ≠ Y) (a b : Value) : ((u.setCell ⟨X, 0, none⟩ a).setCell ⟨X, 1, none⟩ b).heap[Y]? = some o := by
  simp [World.setCell, Array.getElem?_modify, h, hne]
theorem zL {N X : Nat} {w u : World} (h : Below N w u) (hX : N ≤ X) (a b : Value) : Below N w ((u.setCell ⟨X, 0, none⟩ a).setCell ⟨X, 1, none⟩ b) := (h.setCell (p := ⟨X, 0, none⟩) hX _).setCell (p := ⟨X, 1, none⟩) hX _
theorem Ck.Ly.set2 {Q : Nat → Prop} {w : World} {a : Ck.T2} {G : Option Addr} {m c : Nat} (h : Ck.Ly Q w a G m c) {X : Nat} (hX : ∀ b, Q b → b ≠ X) (v0 v1 : Value) : Ck.Ly Q ((w.setCell ⟨X, 0, none⟩ v0).setCell ⟨X, 1, none⟩ v1) a G m c := (h.set hX _ _).set hX _ _
def AsPost2 (Q : Nat → Prop) (w : World) (l r : Ck.T2) (e : Ending) (w' : World) : Prop :=
  ∃ G1 m1 c1 G2 m2 c2, e = .returned (.tuple #[.agg #[.int .i8 l.1, .slice G1 m1 c1], .agg #[.int .i8 r.1, .slice G2 m2 c2]]) ∧ Ck.Ly (Ck.Cut Q w.heap.size w.heap.size) w' l G1 m1 c1 ∧ Ck.Ly (Ck.Cut Q w.heap.size w.heap.size) w' r G2 m2 c2 ∧ Below w.heap.size w w'
theorem zAI (rv : Cg.Rv) (Q : Nat → Prop) (h : Hd) (p : Pl) (kd : Int) (a : Ck.T2) (A : Option Addr) (n c : Nat) (w : World) (hkd : 3 ≤ kd ∧ kd ≤ 5) (hL : Ck.Ly Q w a A n c) (hok : Ty.okT a.1 a.2 = true) (hS : Shapes w) (hag : rv.D.asO kd a = true) :
    Calls Tryz.prog 129 #[.agg (rF_ rv), .agg (tC_ h p), .int .i8 kd, .agg #[.int .i8 a.1, .slice A n c]] w (AsPost2 Q w (rv.D.asl kd a) (rv.D.asr kd a)) := by
  try unfold tC_
  try unfold rF_
  have hcf := rv.cfm
  have CA := k0_ (fun (W : World) (hb : Below w.heap.size w W) => rv.asC (fun b => Q b ∧ b < w.heap.size) kd a A n c W hkd ((hL.weak (fun b hl hq => ⟨hq, hl⟩)).later hb) hok (hS.below hb))
  rw [hag] at CA
  have HB5 := k0_ (vk w (.cells (rF_ rv) 56) (.cells (tC_ h p) 28) (.cells #[.int .i8 a.1, .slice A n c] 25) (.cells #[.int .i8 0, .slice none 0 0] 25) (.cells #[.int .i8 0, .slice none 0 0] 25))
  obtain ⟨-, h1, -, h3, h4⟩ := uD w (.cells (rF_ rv) 56) (.cells (tC_ h p) 28) (.cells #[.int .i8 a.1, .slice A n c] 25) (.cells #[.int .i8 0, .slice none 0 0] 25) (.cells #[.int .i8 0, .slice none 0 0] 25)
  have H1 := k0_ h1
  have H3 := k0_ h3
  have H4 := k0_ h4
  clear hL hok hS hag h1 h3 h4
  go_enter Tryz.func129, Tryz.ntmps129
  go_wp2_with fail
  refine (CA.out _ HB5.out).mono ?_
  rintro e w5 ⟨G1, m1, c1, G2, m2, c2, rfl, hI1, hI2, hb5⟩
  have HB6 := kt_ HB5 hb5
  obtain ⟨q0, q1, q2, q3, q4, q5, q6, q7, q8, q9, q10, ql⟩ := zN (zC hb5 (zD H1.out) H1.out)
  obtain ⟨x0, x1, f0, f1, xl⟩ := zM (zC hb5 (zD H3.out) H3.out)
  obtain ⟨y0, y1, f2, f3, yl⟩ := zM (zC hb5 (zD H4.out) H4.out)
  have HI1 := k0_ (Ck.Ly.weak (Q' := Ck.Cut Q w.heap.size (w.heap.size + 5)) (a := rv.D.asl kd a) (w := w5) hI1 (fun b _ h => Or.elim h (fun h => .inl h.1) (fun h => .inr (by simp at h; omega))))
  have HI2 := k0_ (Ck.Ly.weak (Q' := Ck.Cut Q w.heap.size (w.heap.size + 5)) (a := rv.D.asr kd a) (w := w5) hI2 (fun b _ h => Or.elim h (fun h => .inl h.1) (fun h => .inr (by simp at h; omega))))
  have hsz := hb5.size
  simp only [World.size_alloc] at hsz
  clear hI1 hI2
  have hN3 : ∀ b, Ck.Cut Q w.heap.size (w.heap.size + 5) b → b ≠ w.heap.size + 1 + 1 + 1 := fun b h => h.ne (by omega) (by omega)
  have hN4 : ∀ b, Ck.Cut Q w.heap.size (w.heap.size + 5) b → b ≠ w.heap.size + 1 + 1 + 1 + 1 := fun b h => h.ne (by omega) (by omega)
  have hW : ∀ b, Ck.Cut Q w.heap.size (w.heap.size + 5) b → Ck.Cut Q w.heap.size w.heap.size b := fun b h => h.out (by omega)
  have HNN := k0_ (And.intro hN3 (And.intro hN4 hW))
  clear hN3 hN4 hW
  have H3 := k0_ (zi (zT (zC hb5 (zD H3.out) H3.out) (.int .i8 (rv.D.asl kd a).1) (.slice G1 m1 c1)) (show w.heap.size + 1 + 1 + 1 + 1 ≠ w.heap.size + 1 + 1 + 1 by omega) (.int .i8 (rv.D.asr kd a).1) (.slice G2 m2 c2))
  have H4 := k0_ (zT (zi (zC hb5 (zD H4.out) H4.out) (show w.heap.size + 1 + 1 + 1 ≠ w.heap.size + 1 + 1 + 1 + 1 by omega) (.int .i8 (rv.D.asl kd a).1) (.slice G1 m1 c1)) (.int .i8 (rv.D.asr kd a).1) (.slice G2 m2 c2))
  have HJ1 := k0_ ((HI1.out.set2 HNN.out.1 (.int .i8 (rv.D.asl kd a).1) (.slice G1 m1 c1)).set2 HNN.out.2.1 (.int .i8 (rv.D.asr kd a).1) (.slice G2 m2 c2))
  have HJ2 := k0_ ((HI2.out.set2 HNN.out.1 (.int .i8 (rv.D.asl kd a).1) (.slice G1 m1 c1)).set2 HNN.out.2.1 (.int .i8 (rv.D.asr kd a).1) (.slice G2 m2 c2))
  have HB7 := k0_ (zL (zL HB6.out (show w.heap.size ≤ w.heap.size + 1 + 1 + 1 by omega) (.int .i8 (rv.D.asl kd a).1) (.slice G1 m1 c1)) (show w.heap.size ≤ w.heap.size + 1 + 1 + 1 + 1 by omega) (.int .i8 (rv.D.asr kd a).1) (.slice G2 m2 c2))
  clear hb5
  go_upto_region 2 with fail
  generalize (((w5.setCell ⟨w.heap.size + 1 + 1 + 1, 0, none⟩ (.int .i8 (rv.D.asl kd a).1)).setCell ⟨w.heap.size + 1 + 1 + 1, 1, none⟩ (.slice G1 m1 c1)).setCell ⟨w.heap.size + 1 + 1 + 1 + 1, 0, none⟩ (.int .i8 (rv.D.asr kd a).1)).setCell ⟨w.heap.size + 1 + 1 + 1 + 1, 1, none⟩ (.slice G2 m2 c2) = w6 at *
  clear x0 x1 f0 f1 xl y0 y1 f2 f3 yl q0 q1 q2 q3 q4 q5 q6 q7 q8 q9 q10 ql HI1 HI2 HB6
  obtain ⟨x0, x1, f0, f1, xl⟩ := zM H3.out
  obtain ⟨y0, y1, f2, f3, yl⟩ := zM H4.out
  go_wp2_with fail
  go_region
  have H3 : Hid ((((((w6.setCell ⟨w.heap.size + 1 + 1 + 1, 0, none⟩ (.int .i8 (rv.D.asl kd a).1)).setCell ⟨w.heap.size + 1 + 1 + 1, 1, none⟩ (.slice G1 m1 c1)).setCell ⟨w.heap.size + 1 + 1 + 1 + 1, 0, none⟩ (.int .i8 (rv.D.asr kd a).1)).setCell ⟨w.heap.size + 1 + 1 + 1 + 1, 1, none⟩ (.slice G2 m2 c2)).drew).heap[w.heap.size + 1 + 1 + 1]? = some (.cells #[.int .i8 (rv.D.asl kd a).1, .slice G1 m1 c1] 25 (0, 0))) := k0_ (zi (zT H3.out _ _) (by omega) _ _)
  have H4 : Hid ((((((w6.setCell ⟨w.heap.size + 1 + 1 + 1, 0, none⟩ (.int .i8 (rv.D.asl kd a).1)).setCell ⟨w.heap.size + 1 + 1 + 1, 1, none⟩ (.slice G1 m1 c1)).setCell ⟨w.heap.size + 1 + 1 + 1 + 1, 0, none⟩ (.int .i8 (rv.D.asr kd a).1)).setCell ⟨w.heap.size + 1 + 1 + 1 + 1, 1, none⟩ (.slice G2 m2 c2)).drew).heap[w.heap.size + 1 + 1 + 1 + 1]? = some (.cells #[.int .i8 (rv.D.asr kd a).1, .slice G2 m2 c2] 25 (0, 0))) := k0_ (zT (zi H4.out (by omega) _ _) _ _)
  have HJ1 : Hid (Ck.Ly (Ck.Cut Q w.heap.size (w.heap.size + 5)) (((((w6.setCell ⟨w.heap.size + 1 + 1 + 1, 0, none⟩ (.int .i8 (rv.D.asl kd a).1)).setCell ⟨w.heap.size + 1 + 1 + 1, 1, none⟩ (.slice G1 m1 c1)).setCell ⟨w.heap.size + 1 + 1 + 1 + 1, 0, none⟩ (.int .i8 (rv.D.asr kd a).1)).setCell ⟨w.heap.size + 1 + 1 + 1 + 1, 1, none⟩ (.slice G2 m2 c2)).drew) (rv.D.asl kd a) G1 m1 c1) := k0_ (((HJ1.out.set2 HNN.out.1 _ _).set2 HNN.out.2.1 _ _).later (Below.refl _ _).drew)
  have HJ2 : Hid (Ck.Ly (Ck.Cut Q w.heap.size (w.heap.size + 5)) (((((w6.setCell ⟨w.heap.size + 1 + 1 + 1, 0, none⟩ (.int .i8 (rv.D.asl kd a).1)).setCell ⟨w.heap.size + 1 + 1 + 1, 1, none⟩ (.slice G1 m1 c1)).setCell ⟨w.heap.size + 1 + 1 + 1 + 1, 0, none⟩ (.int .i8 (rv.D.asr kd a).1)).setCell ⟨w.heap.size + 1 + 1 + 1 + 1, 1, none⟩ (.slice G2 m2 c2)).drew) (rv.D.asr kd a) G2 m2 c2) := k0_ (((HJ2.out.set2 HNN.out.1 _ _).set2 HNN.out.2.1 _ _).later (Below.refl _ _).drew)
  have HB7 : Hid (Below w.heap.size w (((((w6.setCell ⟨w.heap.size + 1 + 1 + 1, 0, none⟩ (.int .i8 (rv.D.asl kd a).1)).setCell ⟨w.heap.size + 1 + 1 + 1, 1, none⟩ (.slice G1 m1 c1)).setCell ⟨w.heap.size + 1 + 1 + 1 + 1, 0, none⟩ (.int .i8 (rv.D.asr kd a).1)).setCell ⟨w.heap.size + 1 + 1 + 1 + 1, 1, none⟩ (.slice G2 m2 c2)).drew)) := k0_ ((zL (zL HB7.out (show w.heap.size ≤ w.heap.size + 1 + 1 + 1 by omega) _ _) (show w.heap.size ≤ w.heap.size + 1 + 1 + 1 + 1 by omega) _ _).drew)
  generalize ((((w6.setCell ⟨w.heap.size + 1 + 1 + 1, 0, none⟩ (.int .i8 (rv.D.asl kd a).1)).setCell ⟨w.heap.size + 1 + 1 + 1, 1, none⟩ (.slice G1 m1 c1)).setCell ⟨w.heap.size + 1 + 1 + 1 + 1, 0, none⟩ (.int .i8 (rv.D.asr kd a).1)).setCell ⟨w.heap.size + 1 + 1 + 1 + 1, 1, none⟩ (.slice G2 m2 c2)).drew = w7 at *
  clear x0 x1 f0 f1 xl y0 y1 f2 f3 yl
  obtain ⟨x0, x1, f0, f1, xl⟩ := zM H3.out
  obtain ⟨y0, y1, f2, f3, yl⟩ := zM H4.out
  go_wp2_with fail
  refine bodyPost_ret (v := .tuple #[.agg #[.int .i8 (rv.D.asl kd a).1, .slice G1 m1 c1], .agg #[.int .i8 (rv.D.asr kd a).1, .slice G2 m2 c2]]) (by simp [results, Tryz.results129, go_sem, *]) rfl ⟨G1, m1, c1, G2, m2, c2, rfl, HJ1.out.weak (fun b _ h => HNN.out.2.2 b h), HJ2.out.weak (fun b _ h => HNN.out.2.2 b h), HB7.out⟩
theorem zBK (rv : Cg.Rv) (Q : Nat → Prop) (h : Hd) (p : Pl) (kd : Int) (a : Ck.T2) (A : Option Addr) (n c : Nat) (w : World) (hkd : 3 ≤ kd ∧ kd ≤ 5) (hL : Ck.Ly Q w a A n c) (hok : Ty.okT a.1 a.2 = true) (hS : Shapes w) (hag : rv.D.asO kd a = false) :
    Calls Tryz.prog 129 #[.agg (rF_ rv), .agg (tC_ h p), .int .i8 kd, .agg #[.int .i8 a.1, .slice A n c]] w (Ck.Gave w 90 h.pos Ck.e0) := by
  try unfold tC_
  try unfold rF_
  have hcf := rv.cfm
  have CA := k0_ (fun (W : World) (hb : Below w.heap.size w W) => rv.asC (fun b => Q b ∧ b < w.heap.size) kd a A n c W hkd ((hL.weak (fun b hl hq => ⟨hq, hl⟩)).later hb) hok (hS.below hb))
  rw [hag] at CA
  have HB5 := k0_ (vk w (.cells (rF_ rv) 56) (.cells (tC_ h p) 28) (.cells #[.int .i8 a.1, .slice A n c] 25) (.cells #[.int .i8 0, .slice none 0 0] 25) (.cells #[.int .i8 0, .slice none 0 0] 25))
  obtain ⟨-, h1, -, h3, h4⟩ := uD w (.cells (rF_ rv) 56) (.cells (tC_ h p) 28) (.cells #[.int .i8 a.1, .slice A n c] 25) (.cells #[.int .i8 0, .slice none 0 0] 25) (.cells #[.int .i8 0, .slice none 0 0] 25)
  have H1 := k0_ h1
  have H3 := k0_ h3
  have H4 := k0_ h4
  clear hL hok hS hag h1 h3 h4
  go_enter Tryz.func129, Tryz.ntmps129
  go_wp2_with fail
  refine (CA.out _ HB5.out).mono ?_
  rintro e w5 ⟨G1, m1, c1, G2, m2, c2, rfl, hI1, hI2, hb5⟩
  have HB6 := kt_ HB5 hb5
  obtain ⟨q0, q1, q2, q3, q4, q5, q6, q7, q8, q9, q10, ql⟩ := zN (zC hb5 (zD H1.out) H1.out)
  obtain ⟨x0, x1, f0, f1, xl⟩ := zM (zC hb5 (zD H3.out) H3.out)
  obtain ⟨y0, y1, f2, f3, yl⟩ := zM (zC hb5 (zD H4.out) H4.out)
  have HI1 := k0_ (Ck.Ly.weak (Q' := Ck.Cut Q w.heap.size (w.heap.size + 5)) (a := rv.D.asl kd a) (w := w5) hI1 (fun b _ h => Or.elim h (fun h => .inl h.1) (fun h => .inr (by simp at h; omega))))
  have HI2 := k0_ (Ck.Ly.weak (Q' := Ck.Cut Q w.heap.size (w.heap.size + 5)) (a := rv.D.asr kd a) (w := w5) hI2 (fun b _ h => Or.elim h (fun h => .inl h.1) (fun h => .inr (by simp at h; omega))))
  have hsz := hb5.size
  simp only [World.size_alloc] at hsz
  clear hI1 hI2
  have HF := k0_ (jU h p 90)
  clear hb5
  go_wp2_with fail
  refine (HF.out _).mono ?_
  rintro e w6 hg
  have HG := k0_ (Ck.Gave.from (w := w) hg (by repeat' (first | exact HB6.out | refine Below.setCell ?_ (by simp; omega) _)))
  obtain ⟨g, rfl, -⟩ := hg
  go_wp2_with fail
  exact ⟨rfl, HG.out⟩
set_option maxHeartbeats 4000000
set_option maxRecDepth 100000
open Go.RowKit
theorem zFA (args : Array Value) (W : World) : (callFunc 91 args).run Tryz.prog W = .ok (.enter 91 args) W := by simp [go_sem]
theorem zCx (kd : Int) (g : Addr) (h : Hd) (p : Pl) (w : World) (R : Bool) (hg : ∀ W : World, Below w.heap.size w W → W.cell? g = some (.int .i8 kd))
    (hC : ∀ W : World, Below w.heap.size w W → Calls Tryz.prog 59 #[.agg (tC_ h p), .int .i8 kd] W fun e w' => e = .returned (.bool R) ∧ Below W.heap.size W w') :
    Calls Tryz.prog 91 #[.agg (tC_ h p), .pointer (some g)] w fun e w' => e = .returned (.bool R) ∧ Below w.heap.size w w' := by
  try unfold tC_
  have HB1 := k0_ (za w (.cells (tC_ h p) 28))
  have HX := k0_ (zF w (.cells (tC_ h p) 28))
  have hgg := hg _ HB1.out
  have HC := k0_ (hC _ HB1.out)
  clear hg hC
  go_enter Tryz.func91, Tryz.ntmps91
  go_upto_region 1 with fail
  generalize w.alloc (.cells (tC_ h p) 28) = w1 at *
  obtain ⟨q0, q1, q2, q3, q4, q5, q6, q7, q8, q9, q10, ql⟩ := zN HX.out
  go_wp2_with fail
  refine HC.out.mono ?_
  rintro e w2 ⟨rfl, hb⟩
  have HB2 := kt_ HB1 hb
  clear hb
  go_wp2_with fail
  go_ret
  exact ⟨rfl, HB2.out⟩
theorem zCw (kd : Int) (K : Nat) : ∀ (h : Hd) (kids : Tm) (p : Pl) (w : World), Tm.nodes kids < K → Tm.Is w h kids p →
    Calls Tryz.prog 59 #[.agg (tC_ h p), .int .i8 kd] w fun e w' => e = .returned (.bool (Ck.hasT kd h kids)) ∧ Below w.heap.size w w' := by
  try unfold tC_
  induction K with
  | zero => intro _ _ _ _ hK; omega
  | succ K ih =>
    intro h kids p w hK hIs
    have hB0 := qg w (.cells (tC_ h p) 28) (.cells #[.int .i8 kd] 22)
    obtain ⟨h0, h1⟩ := qz w (.cells (tC_ h p) 28) (.cells #[.int .i8 kd] 22)
    have HX := k0_ h0
    have HY := k0_ h1
    have hI := hIs.below hB0
    have CC := k0_ (kG 91 ⟨w.heap.size + 1, 0, none⟩ (Ck.hasT kd) kids p.A p.n p.c _ hI.lies hI.fit.n_eq hI.fit.n_le hI.fit.c_le zFA
      (fun h1 k1 q W h2 h3 h4 => zCx kd _ h1 q W (Ck.hasT kd h1 k1) (fun U hU => (qR (zC (h4.trans (hU.mono h4.size)) (zD HY.out) HY.out)).1) (fun U hU => ih h1 k1 q U (by omega) (h3.below hU))))
    rw [← Ck.zAA] at CC
    obtain ⟨b0, hb0⟩ : ∃ b, (h.kind == kd) = b := ⟨_, rfl⟩
    obtain ⟨R, hR⟩ : ∃ b, Ck.hasF kd kids = b := ⟨_, rfl⟩
    have hres : Ck.hasT kd h kids = (b0 || R) := by unfold Ck.hasT; rw [hb0, hR]
    rw [hres]
    rw [hR] at CC
    have HB0 := k0_ hB0
    clear ih hIs hI hres hR h0 h1 hB0
    cases b0
    all_goals
      go_enter Tryz.func59, Tryz.ntmps59
      go_upto_region 1 with fail
      generalize (w.alloc (.cells (tC_ h p) 28)).alloc (.cells #[.int .i8 kd] 22) = w1 at *
      obtain ⟨q0, q1, q2, q3, q4, q5, q6, q7, q8, q9, q10, ql⟩ := zN HX.out
      obtain ⟨y0, -, yl⟩ := qR HY.out
      go_wp2_with fail
      first
        | (go_ret
           exact ⟨rfl, HB0.out⟩)
        | (refine CC.out.mono ?_
           rintro e w2 ⟨rfl, hb⟩
           have HB2 := kt_ HB0 hb
           clear hb
           go_wp2_with fail
           go_ret
           exact ⟨rfl, HB2.out⟩)
theorem vK (kd : Int) (w : World) : Calls Tryz.prog 24 #[.int .i8 kd] w fun e w' => ∃ g, e = .returned (.func (Fn.func 58) #[] #[.pointer (some ⟨g, 0, none⟩)]) ∧ w'.heap[g]? = some (.cells #[.int .i8 kd] 22 (0, 0)) ∧ w.heap.size ≤ g ∧ Below w.heap.size w w' := by
  have HB := k0_ (za w (.cells #[.int .i8 kd] 22))
  have HX := k0_ (zF w (.cells #[.int .i8 kd] 22))
  go_enter Tryz.func24, Tryz.ntmps24
  go_wp2_with fail
  go_ret
  exact ⟨w.heap.size, rfl, HX.out, Nat.le_refl _, HB.out⟩
theorem xG (kd : Int) (g : Nat) (h : Hd) (kids : Tm) (p : Pl) (w : World) (hIs : Tm.Is w h kids p) (hG : TGlob w) (hg : w.heap[g]? = some (.cells #[.int .i8 kd] 22 (0, 0))) :
    Calls Tryz.prog 58 #[.agg (tC_ h p), .pointer (some ⟨g, 0, none⟩)] w (Cg.RefPost w (Ck.refKO kd h kids)) := by
  try unfold tC_
  have HB0 := k0_ (za w (.cells (tC_ h p) 28))
  have HC := k0_ (fun (W : World) (hb : Below w.heap.size w W) => yG h kids p W (hIs.below hb) (hG.below hb))
  have HH := k0_ (fun (W : World) (hb : Below w.heap.size w W) => zCw kd (Tm.nodes kids + 1) h kids p W (Nat.lt_succ_self _) (hIs.below hb))
  have HKG := k0_ (fun (W : World) (hb : Below w.heap.size w W) => (qR (zC hb (zD hg) hg)).1)
  have HX := k0_ (zF w (.cells (tC_ h p) 28))
  clear hIs hG hg
  by_cases h0 : Tm.chk h kids = 0
  · rw [h0] at HC
    cases hc : Ck.hasT kd h kids
    all_goals rw [hc] at HH
    · have hr : Ck.refKO kd h kids = none := by
        have hu : Ck.refK kd h kids = 0 := by unfold Ck.refK; rw [if_neg (by simpa using h0), if_neg (by rw [hc]; decide)]
        unfold Ck.refKO; rw [if_pos hu]
      rw [hr]
      clear hc hr h0
      go_enter Tryz.func58, Tryz.ntmps58
      go_upto_region 1 with fail
      generalize w.alloc (.cells (tC_ h p) 28) = w1 at *
      obtain ⟨q0, q1, q2, q3, q4, q5, q6, q7, q8, q9, q10, ql⟩ := zN HX.out
      go_wp2_with fail
      refine (HC.out _ HB0.out).mono ?_
      rintro e w2 ⟨rfl, hb2⟩
      have HB2 := kt_ HB0 hb2
      have HX2 := kp_ hb2 HX
      clear q0 q1 q2 q3 q4 q5 q6 q7 q8 q9 q10 ql
      obtain ⟨q0, q1, q2, q3, q4, q5, q6, q7, q8, q9, q10, ql⟩ := zN HX2.out
      have hk := HKG.out _ HB2.out
      clear hb2
      go_wp2_with fail
      refine (HH.out _ HB2.out).mono ?_
      rintro e w3 ⟨rfl, hb3⟩
      have HB3 := kt_ HB2 hb3
      clear hb3 hk q0 q1 q2 q3 q4 q5 q6 q7 q8 q9 q10 ql
      go_wp2_with fail
      go_ret
      exact ⟨rfl, HB3.out⟩
    · have hr : Ck.refKO kd h kids = some (30, 0) := by
        have hu : Ck.refK kd h kids = 30 := by unfold Ck.refK; rw [if_neg (by simpa using h0), if_pos hc]
        unfold Ck.refKO; rw [hu]; rfl
      rw [hr]
      clear hc hr h0
      go_enter Tryz.func58, Tryz.ntmps58
      go_upto_region 1 with fail
      generalize w.alloc (.cells (tC_ h p) 28) = w1 at *
      obtain ⟨q0, q1, q2, q3, q4, q5, q6, q7, q8, q9, q10, ql⟩ := zN HX.out
      go_wp2_with fail
      refine (HC.out _ HB0.out).mono ?_
      rintro e w2 ⟨rfl, hb2⟩
      have HB2 := kt_ HB0 hb2
      have HX2 := kp_ hb2 HX
      clear q0 q1 q2 q3 q4 q5 q6 q7 q8 q9 q10 ql
      obtain ⟨q0, q1, q2, q3, q4, q5, q6, q7, q8, q9, q10, ql⟩ := zN HX2.out
      have hk := HKG.out _ HB2.out
      clear hb2
      go_wp2_with fail
      refine (HH.out _ HB2.out).mono ?_
      rintro e w3 ⟨rfl, hb3⟩
      have HB3 := kt_ HB2 hb3
      have HB4 := k0_ (HB3.out.alloc HB3.out.size (.cells #[.int .i64 30, .int .i64 0, .string ⟨#[]⟩] 61))
      have HF := k0_ (zF w3 (.cells #[.int .i64 30, .int .i64 0, .string ⟨#[]⟩] 61))
      clear hb3 hk q0 q1 q2 q3 q4 q5 q6 q7 q8 q9 q10 ql
      go_wp2_with fail
      go_ret
      exact ⟨w3.heap.size, rfl, HF.out, HB3.out.size, HB4.out⟩
  · have hr : Ck.refKO kd h kids = some (((Tm.chk h kids : Nat) : Int), 0) := by
      have hu : Ck.refK kd h kids = Tm.chk h kids := by unfold Ck.refK; rw [if_pos (by simpa using h0)]
      unfold Ck.refKO; rw [hu, if_neg (by omega)]
    rw [hr]
    have hcn : (((Tm.chk h kids : Nat) : Int) == 0) = false := by simp; omega
    generalize Tm.chk h kids = C at *
    clear hr h0 HH
    go_enter Tryz.func58, Tryz.ntmps58
    go_upto_region 1 with fail
    generalize w.alloc (.cells (tC_ h p) 28) = w1 at *
    obtain ⟨q0, q1, q2, q3, q4, q5, q6, q7, q8, q9, q10, ql⟩ := zN HX.out
    go_wp2_with fail
    refine (HC.out _ HB0.out).mono ?_
    rintro e w2 ⟨rfl, hb2⟩
    have HB2 := kt_ HB0 hb2
    have HB4 := k0_ (HB2.out.alloc HB2.out.size (.cells #[.int .i64 C, .int .i64 0, .string ⟨#[]⟩] 61))
    have HF := k0_ (zF w2 (.cells #[.int .i64 C, .int .i64 0, .string ⟨#[]⟩] 61))
    clear hb2 q0 q1 q2 q3 q4 q5 q6 q7 q8 q9 q10 ql
    go_wp2_with fail
    go_ret
    exact ⟨w2.heap.size, rfl, HF.out, HB2.out.size, HB4.out⟩
theorem zCy (p : Option Addr) (w : World) : (Instr.typeAssert (.iface 49 (.pointer p)) 20 49 true).run Tryz.prog w = .ok (.tuple #[.pointer p, .bool true]) w := by kernel_rfl
theorem zED (w : World) : (Instr.typeAssert .nilIface 20 49 true).run Tryz.prog w = .ok (.tuple #[.pointer none, .bool false]) w := by kernel_rfl
theorem xS (P R : Nat) (g : Addr) (x0 x1 z : Value) (w : World) (h0 : w.cell? ⟨P, 0, none⟩ = some x0) (h1 : w.cell? ⟨P, 1, none⟩ = some x1) (hr : w.cell? ⟨R, 0, none⟩ = some z)
    (hPR : P ≠ R) (f0 : w.frozen? ⟨P, 0, none⟩ = false) (f1 : w.frozen? ⟨P, 1, none⟩ = false) (fr : w.frozen? ⟨R, 0, none⟩ = false) :
    CallsD Tryz.prog 29 #[.pointer (some ⟨P, 0, none⟩), .pointer (some ⟨R, 0, none⟩)] (.panicking [{ v := .iface 49 (.pointer (some g)), recovered := false }]) w fun e u' w' =>
      e = .returned (.tuple #[]) ∧ u' = .panicking [{ v := .iface 49 (.pointer (some g)), recovered := true }] ∧ w' = ((w.setCell ⟨P, 0, none⟩ (.int .i8 0)).setCell ⟨P, 1, none⟩ (.slice none 0 0)).setCell ⟨R, 0, none⟩ (.iface 49 (.pointer (some g))) := by
  have e1 := zCy
  have k1 : (w.setCell ⟨P, 0, none⟩ (.int .i8 0)).cell? ⟨P, 1, none⟩ = some x1 := by
    rw [World.cell?_setCell_other _ _ _ _ (fun e => by injection e with e1 e2; omega)]; exact h1
  have kr : ((w.setCell ⟨P, 0, none⟩ (.int .i8 0)).setCell ⟨P, 1, none⟩ (.slice none 0 0)).cell? ⟨R, 0, none⟩ = some z := by
    rw [World.cell?_setCell_other _ _ _ _ (fun e => by injection e with e1 e2; omega), World.cell?_setCell_other _ _ _ _ (fun e => by injection e with e1 e2; omega)]; exact hr
  refine callsD_of_wpS Tryz.func29 rfl fun c₀ cs hu => ?_
  apply wpS_seq
  apply wpS_region
  simp [wpOpsS, go_sem, recoverD, hu, Tryz.ntmps29, Exit.thenS]
  refine wpS_of_wp ?_
  change Code.wp _ _ _ { tmps := #[.pointer (some ⟨P, 0, none⟩), .pointer (some ⟨R, 0, none⟩), .iface 49 (.pointer (some g)), undef, undef, .iface 49 (.pointer (some g)), undef, undef, undef, undef, undef, undef, undef, undef, undef, undef, undef, undef], defers := [] } w
  clear hu
  go_wp2_with fail
  exact ⟨rfl, _, rfl, .tuple #[], by simp [results, Tryz.results29], rfl, rfl, rfl⟩
theorem uL (p r : Addr) (w : World) :
    CallsD Tryz.prog 29 #[.pointer (some p), .pointer (some r)] .returning w fun e u' w' => e = .returned (.tuple #[]) ∧ u' = .returning ∧ w' = w := by
  have e1 := zED
  have e2 := yC
  refine callsD_of_wpS Tryz.func29 rfl fun c₀ cs hu => ?_
  apply wpS_seq
  apply wpS_region
  simp [wpOpsS, go_sem, recoverD, hu, Tryz.ntmps29, Exit.thenS]
  refine wpS_of_wp ?_
  change Code.wp _ _ _ { tmps := #[.pointer (some p), .pointer (some r), .nilIface, undef, undef, .nilIface, undef, undef, undef, undef, undef, undef, undef, undef, undef, undef, undef, undef], defers := [] } w
  go_wp2_with fail
  exact ⟨rfl, .returning, by cases c₀; simp_all, .tuple #[], by simp [results, Tryz.results29], rfl, rfl, rfl⟩
namespace Cg
open Ck
theorem zFX (D : Ops) (F : Hd → Tm → Env → R) (h : Hd) (kids : Tm) (l : Env) (hk : h.kind = 0) : raw D F h kids l = (match fnd l h.name with | some a => .ok a | none => .bad 41 h.pos h.name) := by
  unfold raw
  rw [if_pos hk]
  all_goals (cases fnd l h.name <;> rfl)
theorem zFW (D : Ops) (F : Hd → Tm → Env → R) (h : Hd) (kids : Tm) (l : Env) (hk : h.kind = 1) : raw D F h kids l = .ok (1, .nil) := by
  unfold raw
  simp [hk]
theorem zFV (D : Ops) (F : Hd → Tm → Env → R) (h : Hd) (kids : Tm) (l : Env) (hk : h.kind = 2) : raw D F h kids l = .ok (2, .nil) := by
  unfold raw
  simp [hk]
theorem zFU (D : Ops) (F : Hd → Tm → Env → R) (h : Hd) (kids : Tm) (l : Env) (hk : h.kind = 3) : raw D F h kids l = .ok (2, .nil) := by
  unfold raw
  simp [hk]
theorem zFT (D : Ops) (F : Hd → Tm → Env → R) (h : Hd) (kids : Tm) (l : Env) (hk : h.kind = 4) : raw D F h kids l = bnd (F (k1 kids).1 (k1 kids).2 (l ++ [(h.name, TT h)])) fun b => .ok (mk2 3 (TT h) b) := by
  unfold raw
  simp [hk]
theorem zFS (D : Ops) (F : Hd → Tm → Env → R) (h : Hd) (kids : Tm) (l : Env) (hk : h.kind = 5) : raw D F h kids l = bnd (F (k1 kids).1 (k1 kids).2 (l ++ [(h.name, mk2 3 (TT h) (UU h)), (h.arg, TT h)])) fun b => if D.ag b (UU h) = true then .ok (mk2 3 (TT h) (UU h)) else fault h 91 := by
  unfold raw
  simp [hk]
theorem zFR (D : Ops) (F : Hd → Tm → Env → R) (h : Hd) (kids : Tm) (l : Env) (hk : h.kind = 6) : raw D F h kids l = bnd (F (k1 kids).1 (k1 kids).2 l) fun a => bnd (F (k2 kids).1 (k2 kids).2 l) fun b => over D h a b (0, .nil) := by
  unfold raw
  simp [hk]
theorem zFQ (D : Ops) (F : Hd → Tm → Env → R) (h : Hd) (kids : Tm) (l : Env) (hk : h.kind = 7) : raw D F h kids l = bnd (F (k1 kids).1 (k1 kids).2 l) fun a => if D.ag a (TT h) = true then F (k2 kids).1 (k2 kids).2 (l ++ [(h.name, TT h)]) else fault h 91 := by
  unfold raw
  simp [hk]
theorem zFP (D : Ops) (F : Hd → Tm → Env → R) (h : Hd) (kids : Tm) (l : Env) (hk : h.kind = 8) : raw D F h kids l = bnd (F (k1 kids).1 (k1 kids).2 l) fun a => bnd (F (k2 kids).1 (k2 kids).2 l) fun b => bnd (F (k3 kids).1 (k3 kids).2 l) fun c => over D h a b c := by
  unfold raw
  simp [hk]
theorem zFO (D : Ops) (F : Hd → Tm → Env → R) (h : Hd) (kids : Tm) (l : Env) (hk : h.kind = 9) : raw D F h kids l = bnd (F (k1 kids).1 (k1 kids).2 l) fun a => bnd (F (k2 kids).1 (k2 kids).2 l) fun b => over D h a b (0, .nil) := by
  unfold raw
  simp [hk]
theorem zDg (D : Ops) (F : Hd → Tm → Env → R) (h : Hd) (kids : Tm) (l : Env) (hk : h.kind = 10) : raw D F h kids l = bnd (F (k1 kids).1 (k1 kids).2 l) fun a => over D h a (0, .nil) (0, .nil) := by
  unfold raw
  simp [hk]
theorem zDf (D : Ops) (F : Hd → Tm → Env → R) (h : Hd) (kids : Tm) (l : Env) (hk : h.kind = 11) : raw D F h kids l = bnd (F (k1 kids).1 (k1 kids).2 l) fun a => over D h a (0, .nil) (0, .nil) := by
  unfold raw
  simp [hk]
theorem zDe (D : Ops) (F : Hd → Tm → Env → R) (h : Hd) (kids : Tm) (l : Env) (hk : h.kind = 12) : raw D F h kids l = bnd (F (k1 kids).1 (k1 kids).2 l) fun a => over D h a (0, .nil) (0, .nil) := by
  unfold raw
  simp [hk]
theorem zDd (D : Ops) (F : Hd → Tm → Env → R) (h : Hd) (kids : Tm) (l : Env) (hk : h.kind = 13) : raw D F h kids l = bnd (F (k1 kids).1 (k1 kids).2 l) fun a => over D h a (0, .nil) (0, .nil) := by
  unfold raw
  simp [hk]
theorem zDc (D : Ops) (F : Hd → Tm → Env → R) (h : Hd) (kids : Tm) (l : Env) (hk : h.kind = 14) : raw D F h kids l = bnd (F (k1 kids).1 (k1 kids).2 l) fun a => if D.asO 5 a = true then bnd (F (k2 kids).1 (k2 kids).2 (l ++ [(h.name, D.asl 5 a)])) fun b => bnd (F (k3 kids).1 (k3 kids).2 (l ++ [(h.arg, D.asr 5 a)])) fun c => meet D h b c else fault h 90 := by
  unfold raw
  simp [hk]
theorem zDb (D : Ops) (F : Hd → Tm → Env → R) (h : Hd) (kids : Tm) (l : Env) (hk : h.kind = 15) : raw D F h kids l = bnd (F (k1 kids).1 (k1 kids).2 l) fun a => bnd (F (k2 kids).1 (k2 kids).2 l) fun b => over D h a b (0, .nil) := by
  unfold raw
  simp [hk]
theorem zDa (D : Ops) (F : Hd → Tm → Env → R) (h : Hd) (kids : Tm) (l : Env) (hk : h.kind = 16) : raw D F h kids l = bnd (F (k1 kids).1 (k1 kids).2 l) fun a => over D h a (0, .nil) (0, .nil) := by
  unfold raw
  simp [hk]
theorem zDZ (D : Ops) (F : Hd → Tm → Env → R) (h : Hd) (kids : Tm) (l : Env) (hk : h.kind = 17) : raw D F h kids l = bnd (F (k1 kids).1 (k1 kids).2 l) fun a => over D h a (0, .nil) (0, .nil) := by
  unfold raw
  simp [hk]
theorem zDm (D : Ops) (h : Hd) (a b c : T2) (hk : h.kind = 6) : over D h a b c = if D.asO 3 a = true then (if D.ag b (D.asl 3 a) = true then .ok (D.asr 3 a) else fault h 91) else fault h 90 := by
  unfold over
  simp [hk]
theorem zDl (D : Ops) (h : Hd) (a b c : T2) (hk : h.kind = 8) : over D h a b c = if D.ag a (2, .nil) = true then meet D h b c else fault h 91 := by
  unfold over
  simp [hk]
theorem zDk (D : Ops) (h : Hd) (a b c : T2) (hk : h.kind = 9) : over D h a b c = .ok (mk2 4 a b) := by
  unfold over
  simp [hk]
theorem zBn (D : Ops) (h : Hd) (a b c : T2) (hk : h.kind = 10) : over D h a b c = if D.asO 4 a = true then .ok (D.asl 4 a) else fault h 90 := by
  unfold over
  simp [hk]
theorem zBm (D : Ops) (h : Hd) (a b c : T2) (hk : h.kind = 11) : over D h a b c = if D.asO 4 a = true then .ok (D.asr 4 a) else fault h 90 := by
  unfold over
  simp [hk]
theorem zBl (D : Ops) (h : Hd) (a b c : T2) (hk : h.kind = 12) : over D h a b c = if D.asO 5 (TT h) = true then (if D.ag a (D.asl 5 (TT h)) = true then .ok (mk2 5 (D.asl 5 (TT h)) (D.asr 5 (TT h))) else fault h 91) else fault h 90 := by
  unfold over
  simp [hk]
theorem zBk (D : Ops) (h : Hd) (a b c : T2) (hk : h.kind = 13) : over D h a b c = if D.asO 5 (TT h) = true then (if D.ag a (D.asr 5 (TT h)) = true then .ok (mk2 5 (D.asl 5 (TT h)) (D.asr 5 (TT h))) else fault h 91) else fault h 90 := by
  unfold over
  simp [hk]
theorem zBj (D : Ops) (h : Hd) (a b c : T2) (hk : h.kind = 15) : over D h a b c = if D.ag a (1, .nil) = true then (if D.ag b (1, .nil) = true then .ok (opAns h.name) else fault h 91) else fault h 91 := by
  unfold over
  simp [hk]
theorem zBi (D : Ops) (h : Hd) (a b c : T2) (hk : h.kind = 16) : over D h a b c = if D.ag a (TT h) = true then .ok (TT h) else fault h 91 := by
  unfold over
  simp [hk]
theorem zBh (D : Ops) (h : Hd) (a b c : T2) (hk : h.kind = 17) (hca : D.ca = true) : over D h a b c = if D.ag a (TT h) = true then (if D.gs (TT h) (UU h) = true then .ok (UU h) else fault h 91) else fault h 91 := by
  unfold over
  simp [hk, hca]
end Cg
namespace Ck
theorem zFX (F : Hd → Tm → Env → R) (h : Hd) (kids : Tm) (l : Env) (hk : h.kind = 0) : raw F h kids l = (match fnd l h.name with | some a => .ok a | none => .bad 41 h.pos h.name) := by
  unfold raw
  rw [if_pos hk]
  all_goals (cases fnd l h.name <;> rfl)
theorem zFW (F : Hd → Tm → Env → R) (h : Hd) (kids : Tm) (l : Env) (hk : h.kind = 1) : raw F h kids l = .ok (1, .nil) := by
  unfold raw
  simp [hk]
theorem zFV (F : Hd → Tm → Env → R) (h : Hd) (kids : Tm) (l : Env) (hk : h.kind = 2) : raw F h kids l = .ok (2, .nil) := by
  unfold raw
  simp [hk]
theorem zFU (F : Hd → Tm → Env → R) (h : Hd) (kids : Tm) (l : Env) (hk : h.kind = 3) : raw F h kids l = .ok (2, .nil) := by
  unfold raw
  simp [hk]
theorem zFT (F : Hd → Tm → Env → R) (h : Hd) (kids : Tm) (l : Env) (hk : h.kind = 4) : raw F h kids l = bnd (F (k1 kids).1 (k1 kids).2 (l ++ [(h.name, TT h)])) fun b => .ok (mk2 3 (TT h) b) := by
  unfold raw
  simp [hk]
theorem zFS (F : Hd → Tm → Env → R) (h : Hd) (kids : Tm) (l : Env) (hk : h.kind = 5) : raw F h kids l = bnd (F (k1 kids).1 (k1 kids).2 (l ++ [(h.name, mk2 3 (TT h) (UU h)), (h.arg, TT h)])) fun b => if ag b (UU h) = true then .ok (mk2 3 (TT h) (UU h)) else fault h 91 := by
  unfold raw
  simp [hk]
theorem zFR (F : Hd → Tm → Env → R) (h : Hd) (kids : Tm) (l : Env) (hk : h.kind = 6) : raw F h kids l = bnd (F (k1 kids).1 (k1 kids).2 l) fun a => bnd (F (k2 kids).1 (k2 kids).2 l) fun b => over h a b (0, .nil) := by
  unfold raw
  simp [hk]
theorem zFQ (F : Hd → Tm → Env → R) (h : Hd) (kids : Tm) (l : Env) (hk : h.kind = 7) : raw F h kids l = bnd (F (k1 kids).1 (k1 kids).2 l) fun a => if ag a (TT h) = true then F (k2 kids).1 (k2 kids).2 (l ++ [(h.name, TT h)]) else fault h 91 := by
  unfold raw
  simp [hk]
theorem zFP (F : Hd → Tm → Env → R) (h : Hd) (kids : Tm) (l : Env) (hk : h.kind = 8) : raw F h kids l = bnd (F (k1 kids).1 (k1 kids).2 l) fun a => bnd (F (k2 kids).1 (k2 kids).2 l) fun b => bnd (F (k3 kids).1 (k3 kids).2 l) fun c => over h a b c := by
  unfold raw
  simp [hk]
theorem zFO (F : Hd → Tm → Env → R) (h : Hd) (kids : Tm) (l : Env) (hk : h.kind = 9) : raw F h kids l = bnd (F (k1 kids).1 (k1 kids).2 l) fun a => bnd (F (k2 kids).1 (k2 kids).2 l) fun b => over h a b (0, .nil) := by
  unfold raw
  simp [hk]
theorem zDg (F : Hd → Tm → Env → R) (h : Hd) (kids : Tm) (l : Env) (hk : h.kind = 10) : raw F h kids l = bnd (F (k1 kids).1 (k1 kids).2 l) fun a => over h a (0, .nil) (0, .nil) := by
  unfold raw
  simp [hk]
theorem zDf (F : Hd → Tm → Env → R) (h : Hd) (kids : Tm) (l : Env) (hk : h.kind = 11) : raw F h kids l = bnd (F (k1 kids).1 (k1 kids).2 l) fun a => over h a (0, .nil) (0, .nil) := by
  unfold raw
  simp [hk]
theorem zDe (F : Hd → Tm → Env → R) (h : Hd) (kids : Tm) (l : Env) (hk : h.kind = 12) : raw F h kids l = bnd (F (k1 kids).1 (k1 kids).2 l) fun a => over h a (0, .nil) (0, .nil) := by
  unfold raw
  simp [hk]
theorem zDd (F : Hd → Tm → Env → R) (h : Hd) (kids : Tm) (l : Env) (hk : h.kind = 13) : raw F h kids l = bnd (F (k1 kids).1 (k1 kids).2 l) fun a => over h a (0, .nil) (0, .nil) := by
  unfold raw
  simp [hk]
theorem zDc (F : Hd → Tm → Env → R) (h : Hd) (kids : Tm) (l : Env) (hk : h.kind = 14) : raw F h kids l = bnd (F (k1 kids).1 (k1 kids).2 l) fun a => if asO 5 a = true then bnd (F (k2 kids).1 (k2 kids).2 (l ++ [(h.name, asl 5 a)])) fun b => bnd (F (k3 kids).1 (k3 kids).2 (l ++ [(h.arg, asr 5 a)])) fun c => meet h b c else fault h 90 := by
  unfold raw
  simp [hk]
theorem zDb (F : Hd → Tm → Env → R) (h : Hd) (kids : Tm) (l : Env) (hk : h.kind = 15) : raw F h kids l = bnd (F (k1 kids).1 (k1 kids).2 l) fun a => bnd (F (k2 kids).1 (k2 kids).2 l) fun b => over h a b (0, .nil) := by
  unfold raw
  simp [hk]
theorem zDa (F : Hd → Tm → Env → R) (h : Hd) (kids : Tm) (l : Env) (hk : h.kind = 16) : raw F h kids l = bnd (F (k1 kids).1 (k1 kids).2 l) fun a => over h a (0, .nil) (0, .nil) := by
  unfold raw
  simp [hk]
theorem zDZ (F : Hd → Tm → Env → R) (h : Hd) (kids : Tm) (l : Env) (hk : h.kind = 17) : raw F h kids l = bnd (F (k1 kids).1 (k1 kids).2 l) fun a => over h a (0, .nil) (0, .nil) := by
  unfold raw
  simp [hk]
theorem zDm (h : Hd) (a b c : T2) (hk : h.kind = 6) : over h a b c = if asO 3 a = true then (if ag b (asl 3 a) = true then .ok (asr 3 a) else fault h 91) else fault h 90 := by
  unfold over
  simp [hk]
theorem zDl (h : Hd) (a b c : T2) (hk : h.kind = 8) : over h a b c = if ag a (2, .nil) = true then meet h b c else fault h 91 := by
  unfold over
  simp [hk]
theorem zDk (h : Hd) (a b c : T2) (hk : h.kind = 9) : over h a b c = .ok (mk2 4 a b) := by
  unfold over
  simp [hk]
theorem zBn (h : Hd) (a b c : T2) (hk : h.kind = 10) : over h a b c = if asO 4 a = true then .ok (asl 4 a) else fault h 90 := by
  unfold over
  simp [hk]
theorem zBm (h : Hd) (a b c : T2) (hk : h.kind = 11) : over h a b c = if asO 4 a = true then .ok (asr 4 a) else fault h 90 := by
  unfold over
  simp [hk]
theorem zBl (h : Hd) (a b c : T2) (hk : h.kind = 12) : over h a b c = if asO 5 (TT h) = true then (if ag a (asl 5 (TT h)) = true then .ok (mk2 5 (asl 5 (TT h)) (asr 5 (TT h))) else fault h 91) else fault h 90 := by
  unfold over
  simp [hk]
theorem zBk (h : Hd) (a b c : T2) (hk : h.kind = 13) : over h a b c = if asO 5 (TT h) = true then (if ag a (asr 5 (TT h)) = true then .ok (mk2 5 (asl 5 (TT h)) (asr 5 (TT h))) else fault h 91) else fault h 90 := by
  unfold over
  simp [hk]
theorem zBj (h : Hd) (a b c : T2) (hk : h.kind = 15) : over h a b c = if ag a (1, .nil) = true then (if ag b (1, .nil) = true then .ok (opAns h.name) else fault h 91) else fault h 91 := by
  unfold over
  simp [hk]
theorem zBi (h : Hd) (a b c : T2) (hk : h.kind = 16) : over h a b c = if ag a (TT h) = true then .ok (TT h) else fault h 91 := by
  unfold over
  simp [hk]
theorem zBh (h : Hd) (a b c : T2) (hk : h.kind = 17) : over h a b c = if ag a (TT h) = true then .ok (TT h) else fault h 91 := by
  unfold over
  simp [hk]
end Ck
namespace Ck
theorem qO {h : Hd} {k r : Tm} (h0 : Tm.okF (.node h k r) = true) : Tm.okT h k = true ∧ Tm.okF r = true := by
  simp only [Tm.okF, Bool.and_eq_true] at h0
  exact ⟨by unfold Tm.okT; rw [h0.1.1, h0.1.2]; rfl, h0.2⟩
theorem xn {h : Hd} {kids : Tm} (h0 : Tm.okT h kids = true) : Tm.isKind h.kind = true ∧ Tm.len kids = Tm.kidsN h.kind ∧ Tm.okF kids = true := by
  unfold Tm.okT Tm.headOk at h0
  simp only [Bool.and_eq_true, decide_eq_true_eq] at h0
  exact ⟨h0.1.1.1.1.1, h0.1.1.1.1.2, h0.2⟩
theorem jk {h : Hd} {kids : Tm} (h0 : castT h kids = false) : h.kind ≠ 17 ∧ castF kids = false := by
  unfold castT at h0
  simp only [Bool.or_eq_false_iff, beq_eq_false_iff_ne] at h0
  exact h0
theorem zCz {h : Hd} {kids : Tm} (h0 : Tm.chk h kids = 0) : Tm.nd h kids ≤ 8192 ∧ Tm.dp h kids ≤ 200 ∧ Tm.okT h kids = true := by
  unfold Tm.chk at h0
  split at h0
  · cases h0
  · split at h0
    · cases h0
    · split at h0
      · exact ⟨by omega, by omega, by assumption⟩
      · cases h0
def two (h : Hd) (k : Tm) (h' : Hd) (k' : Tm) : Tm := .node h k (.node h' k' .nil)
end Ck
end Go.Proofs.YtgjemmmbnpkamaaGreatDoor
namespace Go.Proofs.YtgjemmmbnpkamaaGreatDoor
open Go.RowKit
namespace Tm
end Tm
attribute [local go_sem ↓] Go.wp_at_zero Go.wp_at_succ
end Go.Proofs.YtgjemmmbnpkamaaGreatDoor
