/-
  Layers 9 and 11: a set of rules: what its fields are, and what they do. Layers 9, 11 and 13: whether there is a term of a kind in a term; what keeps a term from being one that the rules speak of. slices.EqualFunc over terms; terms.alike, Same. A world with some blocks struck out: where a type, a term lies. terms.each over types; terms.copied. terms.each over terms. terms.alike. The law's kind and Whole, where both are the same. A block of five cells that is written whole.
-/
import Derived.Test.YtknhoagicdfikaaGreatDoorM15
import Derived.Test.YtknhoagicdfikaaGreatDoorM10
import Derived.Test.YtknhoagicdfikaaGreatDoorM8
import Derived.Deep.RegionLaw
import Derived.Deep.DeepCutAuto
import Derived.Test.YtknhoagicdfikaaGreatDoorM4
import Derived.Maps.AppendAt
import Derived.Test.YtknhoagicdfikaaGreatDoorM6
import Derived.Deep.RegionHeld3
import Derived.Deep.DrawnRows
import Derived.StillTailTactics
namespace Go.Proofs.YtknhoagicdfikaaGreatDoor
open Go.RowKit
theorem own5 {w : World} {b : Nat} {v0 v1 v2 v3 v4 : Value} {t : TypeId} (h : w.heap[b]? = some (.cells #[v0, v1, v2, v3, v4] t (0, 0))) :
    w.cell? ⟨b, 0, none⟩ = some v0 ∧ w.cell? ⟨b, 1, none⟩ = some v1 ∧ w.cell? ⟨b, 2, none⟩ = some v2 ∧ w.cell? ⟨b, 3, none⟩ = some v3 ∧ w.cell? ⟨b, 4, none⟩ = some v4 ∧
    w.frozen? ⟨b, 0, none⟩ = false ∧ w.frozen? ⟨b, 1, none⟩ = false ∧ w.frozen? ⟨b, 2, none⟩ = false ∧ w.frozen? ⟨b, 3, none⟩ = false ∧ w.frozen? ⟨b, 4, none⟩ = false ∧ b < w.heap.size := by
  refine ⟨?_, ?_, ?_, ?_, ?_, ?_, ?_, ?_, ?_, ?_, heap_lt h⟩ <;> simp [World.cell?, World.frozen?, h]
namespace Cg
open Ck
/-- two types that are handed back, and whether they are there -/
def AsPost (Q : Nat → Prop) (w : World) (ok : Bool) (l r : T2) (e : Ending) (w' : World) : Prop :=
  ∃ G1 m1 c1 G2 m2 c2, e = .returned (.tuple #[.agg #[.int .i8 l.1, .slice G1 m1 c1], .agg #[.int .i8 r.1, .slice G2 m2 c2], .bool ok]) ∧ Ly (Cut Q w.heap.size w.heap.size) w' l G1 m1 c1 ∧ Ly (Cut Q w.heap.size w.heap.size) w' r G2 m2 c2 ∧ Below w.heap.size w w'
/-- what is refused, and where -/
def RefPost (w : World) (r : Option (Int × Int)) (e : Ending) (w' : World) : Prop := match r with
  | none => e = .returned (.pointer none) ∧ Below w.heap.size w w'
  | some x => ∃ g, e = .returned (.pointer (some ⟨g, 0, none⟩)) ∧ FltAt w' g x.1 x.2 e0 ∧ w.heap.size ≤ g ∧ Below w.heap.size w w'
/-- a set of rules: its fields, what they mean, and that they do so -/
structure Rv where
  fr : FuncId
  cpt : Array Value
  vg : Value
  fa : FuncId
  fm : FuncId
  ft : FuncId
  D : Ops
  cfr : ∀ (args : Array Value) (W : World), (callFunc fr args).run Tryz.prog W = .ok (.enter fr args) W
  cfa : ∀ (args : Array Value) (W : World), (callFunc fa args).run Tryz.prog W = .ok (.enter fa args) W
  cfm : ∀ (args : Array Value) (W : World), (callFunc fm args).run Tryz.prog W = .ok (.enter fm args) W
  cft : ∀ (args : Array Value) (W : World), (callFunc ft args).run Tryz.prog W = .ok (.enter ft args) W
  agC : ∀ (k : Int) (kids : Fo) (A : Option Addr) (n c : Nat) (k' : Int) (kids' : Fo) (A' : Option Addr) (n' c' : Nat) (w : World), Ty.Is w k kids A n c → Ty.Is w k' kids' A' n' c' → Shapes w →
    Calls Tryz.prog fa #[.agg #[.int .i8 k, .slice A n c], .agg #[.int .i8 k', .slice A' n' c']] w fun e w' => e = .returned (.bool (D.ag (k, kids) (k', kids'))) ∧ Below w.heap.size w w'
  asC : ∀ (Q : Nat → Prop) (kd : Int) (a : T2) (A : Option Addr) (n c : Nat) (w : World), 3 ≤ kd ∧ kd ≤ 5 → Ly Q w a A n c → Ty.okT a.1 a.2 = true → Shapes w →
    Calls Tryz.prog fm #[.int .i8 kd, .agg #[.int .i8 a.1, .slice A n c]] w (AsPost Q w (D.asO kd a) (D.asl kd a) (D.asr kd a))
  mtC : ∀ (Q : Nat → Prop) (a : T2) (A : Option Addr) (n c : Nat) (b : T2) (A' : Option Addr) (n' c' : Nat) (w : World), Ly Q w a A n c → Ly Q w b A' n' c' → D.ag a b = true → Shapes w →
    Calls Tryz.prog ft #[.agg #[.int .i8 a.1, .slice A n c], .agg #[.int .i8 b.1, .slice A' n' c']] w (Gives Q w (D.mt a b))
  gC : D.ca = true → ∃ fg, vg = .func (Fn.func fg) #[] #[] ∧ (∀ (args : Array Value) (W : World), (callFunc fg args).run Tryz.prog W = .ok (.enter fg args) W) ∧
    ∀ (k : Int) (kids : Fo) (A : Option Addr) (n c : Nat) (k' : Int) (kids' : Fo) (A' : Option Addr) (n' c' : Nat) (w : World), Ty.Is w k kids A n c → Ty.Is w k' kids' A' n' c' → Shapes w →
    Calls Tryz.prog fg #[.agg #[.int .i8 k, .slice A n c], .agg #[.int .i8 k', .slice A' n' c']] w fun e w' => e = .returned (.bool (D.gs (k, kids) (k', kids'))) ∧ Below w.heap.size w w'
/-- what Type tells, given what is refused -/
def tellR (D : Ops) (x : Option (Int × Int)) (h : Hd) (kids : Tm) : R := match x with
  | some x => .bad x.1 x.2 e0
  | none => ty D (Tm.nodes kids + 1) h kids []
end Cg
end Go.Proofs.YtknhoagicdfikaaGreatDoor
namespace Go.Proofs.YtknhoagicdfikaaGreatDoor
open Go.RowKit
set_option maxHeartbeats 1000000 in
set_option maxRecDepth 100000 in
theorem tm_indexc_any (f : FuncId) (g : Addr) (q : Hd → Tm → Bool) (kids : Tm) (A : Option Addr) (n c : Nat) (w : World) (hL : Tm.Lies w kids A 0) (hn : n = Tm.len kids) (hnc : n ≤ c) (hc : c ≤ maxLen)
    (hcf : ∀ (args : Array Value) (W : World), (callFunc f args).run Tryz.prog W = .ok (.enter f args) W)
    (hf : ∀ (h : Hd) (kids' : Tm) (p : Pl) (W : World), Tm.nodes kids' < Tm.nodes kids → Tm.Is W h kids' p → Below w.heap.size w W → Calls Tryz.prog f #[.agg #[.int .i8 h.kind, .string h.name, .string h.arg, .int .i64 h.num, .int .i8 h.tk, .slice p.TA p.tn p.tc, .int .i8 h.uk, .slice p.UA p.un p.uc, .int .i64 h.label, .int .i64 h.pos, .slice p.A p.n p.c], .pointer (some g)] W fun e w' => e = .returned (.bool (q h kids')) ∧ Below W.heap.size W w') :
    Calls Tryz.prog 84 #[.slice A n c, .func (Fn.func f) #[] #[.pointer (some g)]] w fun e w' => e = .returned (.int .i64 (Tm.firstI q kids 0)) ∧ Below w.heap.size w w' := by
  have hst := OverT.start hL hn
  have HF := Lib.hid hf
  have HS := Lib.hid hst
  have i5 : (n : Int) ≤ 9223372036854775807 := by unfold maxLen at hc; omega
  clear hst hn hf hL
  obtain ⟨R, hR⟩ : ∃ R, Tm.firstI q kids 0 = R := ⟨_, rfl⟩
  rw [hR]
  have HR := Lib.hid hR
  clear hR
  go_enter Tryz.func84, Tryz.ntmps84
  go_wp2_with fail
  go_loopw [8] (fun v wr => ∃ (i : Nat) (rest : Tm), v = .int .i64 i ∧ OverT w wr A n (Tm.nodes kids) i rest ∧ Tm.firstI q rest i = R) (fun v _ => n - (intOf v).toNat)
  case atStart => exact ⟨0, kids, rfl, HS.out, HR.out⟩
  case round =>
    obtain ⟨i, rest, rfl, hO, hR⟩ := hrel
    cases rest with
    | nil =>
      have hi : i = n := by have := hO.i_eq; simpa [Tm.len] using this
      have hB := hO.below
      clear hO
      simp only [Tm.firstI] at hR
      subst hi
      subst hR
      go_wp2_with fail
      go_ret
      exact ⟨rfl, hB⟩
    | node h kids' r =>
      have hst := fun w2 hb => OverT.step (w2 := w2) hO hb
      have h1 := hO.i_eq
      have h2 := hO.lies
      have h3 := hO.sub
      have h4 := hO.below
      simp only [Tm.len, Tm.nodes, Tm.firstI] at h1 h3 hR
      obtain ⟨bb, oo, p, rfl, hcs, hfit, hl3, hl4⟩ := h2
      have hcall := HF.out h kids' p wr (by omega) ⟨hfit, hl3⟩ h4
      obtain ⟨c0, c1, c2, c3, c4, c5, c6, c7, c8, c9, c10⟩ := Tm.row hcs
      have HS := Lib.hid hst
      have HL := Lib.hid hl4
      have HRR := Lib.hid hR
      have j1 : (i : Int) < n := by omega
      clear hst hl3 hl4 hO hR hcs hfit
      cases hp : q h kids'
      · have hp0 := HRR.out
        rw [hp, if_neg (by simp)] at hp0
        have HP := Lib.hid hp0
        rw [hp] at hcall
        have HC := Lib.hid hcall
        clear hp hp0 hcall
        go_wp2_with fail
        refine HC.out.mono ?_
        rintro e w2 ⟨rfl, hb⟩
        have hbb := Lib.hid (HS.out w2 hb HL.out)
        clear hb
        go_wp2_with fail
        go_roundw
        case rel => exact ⟨i + 1, r, by go_num, hbb.out, HP.out⟩
        case measure => simp [intOf]; omega
      · have hp0 : R = i := by rw [← HRR.out, hp]; rfl
        rw [hp] at hcall
        have HC := Lib.hid hcall
        clear hp hcall
        subst hp0
        go_wp2_with fail
        refine HC.out.mono ?_
        rintro e w2 ⟨rfl, hb⟩
        go_wp2_with fail
        go_ret
        exact ⟨rfl, h4.trans (hb.mono h4.size)⟩

set_option maxHeartbeats 1000000 in
set_option maxRecDepth 100000 in
theorem tm_containsc_any (f : FuncId) (g : Addr) (q : Hd → Tm → Bool) (kids : Tm) (A : Option Addr) (n c : Nat) (w : World) (hL : Tm.Lies w kids A 0) (hn : n = Tm.len kids) (hnc : n ≤ c) (hc : c ≤ maxLen)
    (hcf : ∀ (args : Array Value) (W : World), (callFunc f args).run Tryz.prog W = .ok (.enter f args) W)
    (hf : ∀ (h : Hd) (kids' : Tm) (p : Pl) (W : World), Tm.nodes kids' < Tm.nodes kids → Tm.Is W h kids' p → Below w.heap.size w W → Calls Tryz.prog f #[.agg #[.int .i8 h.kind, .string h.name, .string h.arg, .int .i64 h.num, .int .i8 h.tk, .slice p.TA p.tn p.tc, .int .i8 h.uk, .slice p.UA p.un p.uc, .int .i64 h.label, .int .i64 h.pos, .slice p.A p.n p.c], .pointer (some g)] W fun e w' => e = .returned (.bool (q h kids')) ∧ Below W.heap.size W w') :
    Calls Tryz.prog 59 #[.slice A n c, .func (Fn.func f) #[] #[.pointer (some g)]] w fun e w' => e = .returned (.bool (Tm.anyF q kids)) ∧ Below w.heap.size w w' := by
  have HI := Lib.hid (tm_indexc_any f g q kids A n c w hL hn hnc hc hcf hf)
  rw [← Tm.firstI_any q kids 0]
  clear hL hn hf hcf
  generalize Tm.firstI q kids 0 = R at *
  go_enter Tryz.func59, Tryz.ntmps59
  go_wp2_with fail
  refine HI.out.mono ?_
  rintro e w2 ⟨rfl, hb⟩
  go_wp2_with fail
  go_ret
  exact ⟨rfl, hb⟩

namespace Ck
/-- has a term one of a kind in it? -/
def hasF (kd : Int) : Tm → Bool
  | .nil => false
  | .node h kids r => (h.kind == kd) || hasF kd kids || hasF kd r
def hasT (kd : Int) (h : Hd) (kids : Tm) : Bool := (h.kind == kd) || hasF kd kids
theorem hasF_any (kd : Int) : ∀ t : Tm, hasF kd t = Tm.anyF (hasT kd) t
  | .nil => rfl
  | .node h kids r => by
    simp only [hasF, Tm.anyF, hasT]
    rw [hasF_any kd r]
theorem castF_has : ∀ t : Tm, castF t = hasF 17 t
  | .nil => rfl
  | .node h kids r => by
    simp only [castF, hasF]
    rw [castF_has kids, castF_has r]
theorem castT_has (h : Hd) (kids : Tm) : castT h kids = hasT 17 h kids := by unfold castT hasT; rw [castF_has]
/-- what keeps a term from being one without any of a kind -/
def refK (kd : Int) (h : Hd) (kids : Tm) : Int := if Tm.chk h kids ≠ 0 then Tm.chk h kids else if hasT kd h kids = true then 30 else 0
/-- what is refused, and where -/
def refKO (kd : Int) (h : Hd) (kids : Tm) : Option (Int × Int) := if refK kd h kids = 0 then none else some (refK kd h kids, 0)
/-- what keeps a term from being one that the rules speak of -/
def refu (h : Hd) (kids : Tm) : Int := if Tm.chk h kids ≠ 0 then Tm.chk h kids else if castT h kids = true then 30 else 0
def refO (h : Hd) (kids : Tm) : Option (Int × Int) := if refu h kids = 0 then none else some (refu h kids, 0)
theorem refO_K (h : Hd) (kids : Tm) : refO h kids = refKO 17 h kids := by unfold refO refKO refu refK; rw [castT_has]
end Ck
end Go.Proofs.YtknhoagicdfikaaGreatDoor
namespace Go.Proofs.YtknhoagicdfikaaGreatDoor
open Go.RowKit

namespace Tm
end Tm

end Go.Proofs.YtknhoagicdfikaaGreatDoor
namespace Go.Proofs.YtknhoagicdfikaaGreatDoor
open Go.RowKit

/-- the world with those blocks alone of which P holds -/
def mask (P : Nat → Bool) (w : World) : World := { w with heap := w.heap.mapIdx fun i o => if P i then o else .cells #[] 0 (0, 0) }
theorem mask_of {P : Nat → Bool} {w : World} {b o : Nat} {v : Value} (hP : P b = true) (h : w.cell? ⟨b, o, none⟩ = some v) : (mask P w).cell? ⟨b, o, none⟩ = some v := by
  unfold mask
  simp only [World.cell?, Array.getElem?_mapIdx] at h ⊢
  cases hb : w.heap[b]? with
  | none => simp [hb] at h
  | some x => rw [hb] at h; simpa [hP] using h
theorem mask_at {P : Nat → Bool} {w : World} {b o : Nat} {v : Value} (h : (mask P w).cell? ⟨b, o, none⟩ = some v) : P b = true ∧ w.cell? ⟨b, o, none⟩ = some v := by
  unfold mask at h
  simp only [World.cell?, Array.getElem?_mapIdx] at h ⊢
  cases hb : w.heap[b]? with
  | none => simp [hb] at h
  | some x =>
    rw [hb] at h
    cases hp : P b
    · simp [hp] at h
    · exact ⟨rfl, by simpa [hp] using h⟩
/-- what keeps the blocks that are looked into -/
theorem kept_mask {P P' : Nat → Bool} {w w' : World} (hk : ∀ b o v, P b = true → w.cell? ⟨b, o, none⟩ = some v → P' b = true ∧ w'.cell? ⟨b, o, none⟩ = some v) : Tm.Kept (mask P w) (mask P' w') := fun b _ o v h => by
  obtain ⟨h1, h2⟩ := mask_at h
  obtain ⟨h3, h4⟩ := hk b o v h1 h2
  exact mask_of h3 h4
namespace Ty
def app : Fo → Fo → Fo
  | .nil, g => g
  | .node a b k kids r, g => .node a b k kids (app r g)
theorem app_snoc : ∀ (f : Fo) (a b : Nat) (k : Int) (kids r : Fo), app (app f (.node a b k kids .nil)) r = app f (.node a b k kids r)
  | .nil, _, _, _, _, _ => rfl
  | .node _ _ _ _ q, a, b, k, kids, r => by simp only [app]; rw [app_snoc q]
theorem len_snoc : ∀ (f : Fo) (a b : Nat) (k : Int) (kids : Fo), len (app f (.node a b k kids .nil)) = len f + 1
  | .nil, _, _, _, _ => rfl
  | .node _ _ _ _ q, a, b, k, kids => by simp only [app, len]; rw [len_snoc q]
/-- the cells of a list of types, each of which lies in the world -/
def Flat (w : World) : Fo → List Value → Prop
  | .nil, xs => xs = []
  | .node _ _ k kids r, xs => ∃ A m c ys, xs = .int .i8 k :: .slice A m c :: ys ∧ Is w k kids A m c ∧ Flat w r ys
theorem Flat.snoc {w : World} {a b : Nat} {k : Int} {kids : Fo} {A : Option Addr} {m c : Nat} (hI : Is w k kids A m c) : ∀ (f : Fo) (xs : List Value), Flat w f xs → Flat w (app f (.node a b k kids .nil)) (xs ++ [.int .i8 k, .slice A m c])
  | .nil, xs, h => by cases h; exact ⟨A, m, c, [], rfl, hI, rfl⟩
  | .node _ _ _ _ q, xs, h => by
    obtain ⟨A', m', c', ys, rfl, h1, h2⟩ := h
    exact ⟨A', m', c', _, rfl, h1, Flat.snoc hI q ys h2⟩
theorem Flat.kept {w w' : World} (hk : Tm.Kept w w') : ∀ (f : Fo) (xs : List Value), Flat w f xs → Flat w' f xs
  | .nil, _, h => h
  | .node _ _ _ _ q, _, h => by
    obtain ⟨A', m', c', ys, rfl, h1, h2⟩ := h
    exact ⟨A', m', c', ys, rfl, h1.kept hk, Flat.kept hk q ys h2⟩
theorem Flat.lies {w : World} {g : Nat} : ∀ (f : Fo) (xs : List Value) (i : Nat), Flat w f xs → (∀ j u, xs[j]? = some u → w.cell? ⟨g, i * 2 + j, none⟩ = some u) → Lies w f (some ⟨g, 0, none⟩) i
  | .nil, _, _, _, _ => trivial
  | .node _ _ k kids r, _, i, h, hc => by
    obtain ⟨A', m', c', ys, rfl, h1, h2⟩ := h
    refine ⟨g, 0, A', c', rfl, ⟨h1.lo, h1.hi⟩, by rw [Nat.zero_add]; exact hc 0 _ rfl, by rw [Nat.zero_add, ← h1.n_eq]; exact hc 1 _ rfl, by rw [← h1.n_eq]; exact h1.n_le, h1.c_le, h1.lies, ?_⟩
    exact Flat.lies r ys (i + 1) h2 fun j u hu => by
      have := hc (j + 2) u (by simpa using hu)
      rwa [show i * 2 + (j + 2) = (i + 1) * 2 + j by omega] at this
end Ty
end Go.Proofs.YtknhoagicdfikaaGreatDoor
namespace Go.Proofs.YtknhoagicdfikaaGreatDoor
open Go.RowKit

/-- a round's state -/
structure EachRel (w wr : World) (A : Option Addr) (kids : Fo) (v : Value) (n i : Nat) (done rest : Fo) (xs : List Value) : Prop where
  eq : Ty.app done rest = kids
  len : Ty.len done = i
  i_eq : i + Ty.len rest = n
  lies : Ty.Lies w rest A i
  below : Below w.heap.size w wr
  own : wr.ownsRow w.heap.size 25 2 v i xs
  flat : Ty.Flat (mask (fun b => decide (w.heap.size ≤ b) && decide (v.ownBlock ≠ some b)) wr) done xs
  sub : Ty.nodes rest ≤ Ty.nodes kids

theorem EachRel.step {w wr u w3 : World} {A : Option Addr} {kids : Fo} {v v' : Value} {n i a b : Nat} {done r kd : Fo} {k : Int} {xs : List Value} {G : Option Addr} {m c : Nat} {o1 o2 : Obj}
    (h : EachRel w wr A kids v n i done (.node a b k kd r) xs) (hb : Below (wr.alloc o1).heap.size (wr.alloc o1) u) (hI : Ty.Is (mask (fun b => decide ((wr.alloc o1).heap.size ≤ b)) u) k kd G m c)
    (hown : w3.ownsRow w.heap.size 25 2 v' (i + 1) (xs ++ [.int .i8 k, .slice G m c])) (hg : (u.alloc o2).grownBy w3 v.ownBlock) (hat : v'.ownBlock = v.ownBlock ∨ v'.ownBlock = some (u.alloc o2).heap.size) (hl : Ty.Lies w r A (i + 1)) :
    EachRel w w3 A kids v' n (i + 1) (Ty.app done (.node a b k kd .nil)) r (xs ++ [.int .i8 k, .slice G m c]) := by
  obtain ⟨h1, h2, h3, h4, h5, h6, h7, h8⟩ := h
  simp only [Ty.len, Ty.nodes] at h3 h8
  have hlt := h6.lt
  have hs1 : wr.heap.size < (wr.alloc o1).heap.size := by simp
  have hs2 := hb.size
  have hs3 : u.heap.size < (u.alloc o2).heap.size := by simp
  have hwu : Below wr.heap.size wr (u.alloc o2) := (((Below.refl _ _).alloc (Nat.le_refl _) o1).trans (hb.mono (by omega))).alloc (by omega) o2
  refine ⟨by rw [Ty.app_snoc]; exact h1, by rw [Ty.len_snoc]; omega, by omega, hl, ?_, hown, ?_, by omega⟩
  · exact (h5.trans (hwu.mono h5.size)).grown hg (Nat.le_trans h5.size hwu.size) fun q hq => (hlt q hq).1
  · refine Ty.Flat.snoc (hI.kept (kept_mask fun b' o' x hP hx => ?_)) done xs (h7.kept (kept_mask fun b' o' x hP hx => ?_))
    · have hP' : (wr.alloc o1).heap.size ≤ b' := by simpa using hP
      have hbl := Ty.cell_lt hx
      have hne : some b' ≠ v.ownBlock := fun e => by have := (hlt b' e.symm).2; omega
      refine ⟨?_, ?_⟩
      · simp only [Bool.and_eq_true, decide_eq_true_eq]
        refine ⟨by have := h5.size; omega, fun e => ?_⟩
        rcases hat with q | q
        · exact hne (by rw [← q, e])
        · rw [q] at e; injection e with e; omega
      · rw [World.cell?_of_block (hg.block b' (by omega) hne), ((Below.refl u.heap.size u).alloc (Nat.le_refl _) o2).cell (p := ⟨b', o', none⟩) hbl]; exact hx
    · simp only [Bool.and_eq_true, decide_eq_true_eq] at hP
      have hbl := Ty.cell_lt hx
      have hne : some b' ≠ v.ownBlock := fun e => hP.2 e.symm
      refine ⟨?_, ?_⟩
      · simp only [Bool.and_eq_true, decide_eq_true_eq]
        refine ⟨hP.1, fun e => ?_⟩
        rcases hat with q | q
        · exact hP.2 (by rw [← q, e])
        · rw [q] at e; injection e with e; have := hwu.size; omega
      · rw [World.cell?_of_block (hg.block b' (Nat.lt_of_lt_of_le hbl hwu.size) hne), hwu.cell (p := ⟨b', o', none⟩) hbl]; exact hx

attribute [local go_sem ↓] Go.wp_at_zero Go.wp_at_succ
end Go.Proofs.YtknhoagicdfikaaGreatDoor
namespace Go.Proofs.YtknhoagicdfikaaGreatDoor
open Go.RowKit

namespace Tm
/-- what counts of a list of terms -/
def bF : Tm → Tm
  | .nil => .nil
  | .node h kids r => .node (cnt h) (bF kids) (bF r)
def app : Tm → Tm → Tm
  | .nil, g => g
  | .node h kids r, g => .node h kids (app r g)
theorem app_snoc : ∀ (f : Tm) (h : Hd) (kids r : Tm), app (app f (.node h kids .nil)) r = app f (.node h kids r)
  | .nil, _, _, _ => rfl
  | .node _ _ q, h, kids, r => by simp only [app]; rw [app_snoc q]
theorem len_snoc : ∀ (f : Tm) (h : Hd) (kids : Tm), len (app f (.node h kids .nil)) = len f + 1
  | .nil, _, _ => rfl
  | .node _ _ q, h, kids => by simp only [app, len]; rw [len_snoc q]
/-- the cells of a list of terms, each of which lies in the world -/
def Flat (w : World) : Tm → List Value → Prop
  | .nil, xs => xs = []
  | .node h kids r, xs => ∃ p ys, xs = h.cells p ++ ys ∧ Is w h kids p ∧ Flat w r ys
theorem Flat.snoc {w : World} {h : Hd} {kids : Tm} {p : Pl} (hI : Is w h kids p) : ∀ (f : Tm) (xs : List Value), Flat w f xs → Flat w (app f (.node h kids .nil)) (xs ++ h.cells p)
  | .nil, xs, e => by cases e; exact ⟨p, [], by simp, hI, rfl⟩
  | .node _ _ q, xs, e => by
    obtain ⟨p', ys, rfl, h1, h2⟩ := e
    exact ⟨p', ys ++ h.cells p, by rw [List.append_assoc], h1, Flat.snoc hI q ys h2⟩
theorem Flat.kept {w w' : World} (hk : Kept w w') : ∀ (f : Tm) (xs : List Value), Flat w f xs → Flat w' f xs
  | .nil, _, e => e
  | .node _ _ q, _, e => by
    obtain ⟨p', ys, rfl, h1, h2⟩ := e
    exact ⟨p', ys, rfl, h1.kept hk, Flat.kept hk q ys h2⟩
theorem Flat.lies {w : World} {g : Nat} : ∀ (f : Tm) (xs : List Value) (i : Nat), Flat w f xs → (∀ j u, xs[j]? = some u → w.cell? ⟨g, i * 11 + j, none⟩ = some u) → Lies w f (some ⟨g, 0, none⟩) i
  | .nil, _, _, _, _ => trivial
  | .node h kids r, _, i, e, hc => by
    obtain ⟨p, ys, rfl, h1, h2⟩ := e
    have hlen : (h.cells p).length = 11 := rfl
    refine ⟨g, 0, p, rfl, fun j v hv => ?_, h1.fit, h1.lies, ?_⟩
    · have hj : j < (h.cells p).length := by
        rcases Nat.lt_or_ge j (h.cells p).length with q | q
        · exact q
        · rw [List.getElem?_eq_none q] at hv; cases hv
      rw [Nat.zero_add]
      exact hc j v (by rw [List.getElem?_append_left hj]; exact hv)
    · exact Flat.lies r ys (i + 1) h2 fun j u hu => by
        have := hc (j + 11) u (by rw [List.getElem?_append_right (by rw [hlen]; omega), hlen, show j + 11 - 11 = j by omega]; exact hu)
        rwa [show i * 11 + (j + 11) = (i + 1) * 11 + j by omega] at this
end Tm

/-- a round's state -/
structure EachRelT (w wr : World) (A : Option Addr) (kids : Tm) (v : Value) (n i : Nat) (done rest : Tm) (xs : List Value) : Prop where
  eq : Tm.app done (Tm.bF rest) = Tm.bF kids
  len : Tm.len done = i
  i_eq : i + Tm.len rest = n
  lies : Tm.Lies w rest A i
  below : Below w.heap.size w wr
  own : wr.ownsRow w.heap.size 28 11 v i xs
  flat : Tm.Flat (mask (fun b => decide (w.heap.size ≤ b) && decide (v.ownBlock ≠ some b)) wr) done xs
  sub : Tm.nodes rest ≤ Tm.nodes kids

theorem EachRelT.step {w wr u w3 : World} {A : Option Addr} {kids : Tm} {v v' : Value} {n i : Nat} {done r kd : Tm} {h : Hd} {xs : List Value} {p : Pl} {o1 o2 : Obj}
    (e : EachRelT w wr A kids v n i done (.node h kd r) xs) (hb : Below (wr.alloc o1).heap.size (wr.alloc o1) u) (hI : Tm.Is (mask (fun b => decide ((wr.alloc o1).heap.size ≤ b)) u) (Tm.cnt h) (Tm.bF kd) p)
    (hown : w3.ownsRow w.heap.size 28 11 v' (i + 1) (xs ++ (Tm.cnt h).cells p)) (hg : (u.alloc o2).grownBy w3 v.ownBlock) (hat : v'.ownBlock = v.ownBlock ∨ v'.ownBlock = some (u.alloc o2).heap.size) (hl : Tm.Lies w r A (i + 1)) :
    EachRelT w w3 A kids v' n (i + 1) (Tm.app done (.node (Tm.cnt h) (Tm.bF kd) .nil)) r (xs ++ (Tm.cnt h).cells p) := by
  obtain ⟨h1, h2, h3, h4, h5, h6, h7, h8⟩ := e
  simp only [Tm.len, Tm.nodes, Tm.bF] at h1 h3 h8
  have hlt := h6.lt
  have hs1 : wr.heap.size < (wr.alloc o1).heap.size := by simp
  have hs2 := hb.size
  have hs3 : u.heap.size < (u.alloc o2).heap.size := by simp
  have hwu : Below wr.heap.size wr (u.alloc o2) := (((Below.refl _ _).alloc (Nat.le_refl _) o1).trans (hb.mono (by omega))).alloc (by omega) o2
  refine ⟨by rw [Tm.app_snoc]; exact h1, by rw [Tm.len_snoc]; omega, by omega, hl, ?_, hown, ?_, by omega⟩
  · exact (h5.trans (hwu.mono h5.size)).grown hg (Nat.le_trans h5.size hwu.size) fun q hq => (hlt q hq).1
  · refine Tm.Flat.snoc (hI.kept (kept_mask fun b' o' x hP hx => ?_)) done xs (h7.kept (kept_mask fun b' o' x hP hx => ?_))
    · have hP' : (wr.alloc o1).heap.size ≤ b' := by simpa using hP
      have hbl := Ty.cell_lt hx
      have hne : some b' ≠ v.ownBlock := fun e => by have := (hlt b' e.symm).2; omega
      refine ⟨?_, ?_⟩
      · simp only [Bool.and_eq_true, decide_eq_true_eq]
        refine ⟨by have := h5.size; omega, fun e => ?_⟩
        rcases hat with q | q
        · exact hne (by rw [← q, e])
        · rw [q] at e; injection e with e; omega
      · rw [World.cell?_of_block (hg.block b' (by omega) hne), ((Below.refl u.heap.size u).alloc (Nat.le_refl _) o2).cell (p := ⟨b', o', none⟩) hbl]; exact hx
    · simp only [Bool.and_eq_true, decide_eq_true_eq] at hP
      have hbl := Ty.cell_lt hx
      have hne : some b' ≠ v.ownBlock := fun e => hP.2 e.symm
      refine ⟨?_, ?_⟩
      · simp only [Bool.and_eq_true, decide_eq_true_eq]
        refine ⟨hP.1, fun e => ?_⟩
        rcases hat with q | q
        · exact hP.2 (by rw [← q, e])
        · rw [q] at e; injection e with e; have := hwu.size; omega
      · rw [World.cell?_of_block (hg.block b' (Nat.lt_of_lt_of_le hbl hwu.size) hne), hwu.cell (p := ⟨b', o', none⟩) hbl]; exact hx

end Go.Proofs.YtknhoagicdfikaaGreatDoor
namespace Go.Proofs.YtknhoagicdfikaaGreatDoor
open Go.RowKit

attribute [local go_sem ↓] Go.wp_at_zero Go.wp_at_succ
end Go.Proofs.YtknhoagicdfikaaGreatDoor
namespace Go.Proofs.YtknhoagicdfikaaGreatDoor
open Go.RowKit

end Go.Proofs.YtknhoagicdfikaaGreatDoor
namespace Go.Proofs.YtknhoagicdfikaaGreatDoor
open Go.RowKit
theorem set_five {u : World} {X : Nat} {x0 x1 x2 x3 x4 : Value} {t : TypeId} (h : u.heap[X]? = some (.cells #[x0, x1, x2, x3, x4] t (0, 0))) (a b c d e : Value) : (((((u.setCell ⟨X, 0, none⟩ a).setCell ⟨X, 1, none⟩ b).setCell ⟨X, 2, none⟩ c).setCell ⟨X, 3, none⟩ d).setCell ⟨X, 4, none⟩ e).heap[X]? = some (.cells #[a, b, c, d, e] t (0, 0)) := by
  simp [World.setCell, Array.getElem?_modify, h]
theorem set_five_ne {u : World} {X Y : Nat} {o : Obj} (h : u.heap[Y]? = some o) (hne : X ≠ Y) (a b c d e : Value) : (((((u.setCell ⟨X, 0, none⟩ a).setCell ⟨X, 1, none⟩ b).setCell ⟨X, 2, none⟩ c).setCell ⟨X, 3, none⟩ d).setCell ⟨X, 4, none⟩ e).heap[Y]? = some o := by
  simp [World.setCell, Array.getElem?_modify, h, hne]
theorem below_set5 {N X : Nat} {w u : World} (h : Below N w u) (hX : N ≤ X) (a b c d e : Value) : Below N w (((((u.setCell ⟨X, 0, none⟩ a).setCell ⟨X, 1, none⟩ b).setCell ⟨X, 2, none⟩ c).setCell ⟨X, 3, none⟩ d).setCell ⟨X, 4, none⟩ e) := ((((h.setCell (p := ⟨X, 0, none⟩) hX _).setCell (p := ⟨X, 1, none⟩) hX _).setCell (p := ⟨X, 2, none⟩) hX _).setCell (p := ⟨X, 3, none⟩) hX _).setCell (p := ⟨X, 4, none⟩) hX _
end Go.Proofs.YtknhoagicdfikaaGreatDoor
