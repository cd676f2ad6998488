/-
  Layer 9: what the rules tell of a term, as a plain function over what is around it. Layer 9: what is around a term, as it lies in memory; fail, of, answerOf, with, named. Layers 9 and 11: what the rules tell of a term, whatever they mean by agreeing, matching and meeting. Layer 9: the rules, kind by kind.
-/
import Derived.Test.YtknhoagicdfikaaGreatDoorM10
import Derived.Test.YtknhoagicdfikaaGreatDoorM11
import Derived.Test.YtknhoagicdfikaaGreatDoorM14
import Derived.ArgAppend
import Derived.Deep.DeepCutAuto
namespace Go.Proofs.YtknhoagicdfikaaGreatDoor
namespace Ck
/-- a type -/
abbrev T2 := Int × Fo
/-- what is around: the last one stands last -/
abbrev Env := List (ByteArray × T2)
/-- what is told: a type; or an error, its place, its word -/
inductive R where
  | ok (a : T2)
  | bad (E p : Int) (x : ByteArray)
def e0 : ByteArray := ⟨#[]⟩
def fnd : Env → ByteArray → Option T2
  | [], _ => none
  | b :: l, x => match fnd l x with
    | some a => some a
    | none => if (b.1.toList == x.toList) = true then some b.2 else none
def mk2 (k : Int) (a b : T2) : T2 := (k, .node 0 0 a.1 a.2 (.node 0 0 b.1 b.2 .nil))
def hd0 : Hd := ⟨0, e0, e0, 0, 0, .nil, 0, .nil, 0, 0⟩
def k1 : Tm → Hd × Tm
  | .node h k _ => (h, k)
  | .nil => (hd0, .nil)
def k2 : Tm → Hd × Tm
  | .node _ _ r => k1 r
  | .nil => (hd0, .nil)
def k3 : Tm → Hd × Tm
  | .node _ _ r => k2 r
  | .nil => (hd0, .nil)
def TT (h : Hd) : T2 := (h.tk, h.tkids)
def UU (h : Hd) : T2 := (h.uk, h.ukids)
def chk (a : T2) : Nat := Ty.chk a.1 a.2
def ag (a b : T2) : Bool := Ty.agreeT a.1 a.2 b.1 b.2
def asO (k : Int) (a : T2) : Bool := Ty.asOk k a.1 a.2
def asl (k : Int) (a : T2) : T2 := Ty.asL k a.1 a.2
def asr (k : Int) (a : T2) : T2 := Ty.asR k a.1 a.2
def mt (a b : T2) : T2 := (Ty.mK a.1 b.1, Ty.mT a.1 a.2 b.1 b.2)
def lift (h : Hd) : R → R
  | .ok a => if chk a = 0 then .ok a else .bad (chk a) h.pos e0
  | .bad E p x => .bad E p x
def bnd (r : R) (f : T2 → R) : R := match r with
  | .ok a => f a
  | .bad E p x => .bad E p x
def fault (h : Hd) (E : Int) : R := .bad E h.pos e0
def meet (h : Hd) (a b : T2) : R := if ag a b = true then .ok (mt a b) else fault h 91
def opAns (s : ByteArray) : T2 := if (s.toList == [60] || s.toList == [61]) = true then (2, .nil) else (1, .nil)
/-- what stands here, over kids of these types, of a term that binds no name -/
def over (h : Hd) (a b c : T2) : R :=
  if h.kind = 6 then (if asO 3 a = true then (if ag b (asl 3 a) = true then .ok (asr 3 a) else fault h 91) else fault h 90)
  else if h.kind = 8 then (if ag a (2, .nil) = true then meet h b c else fault h 91)
  else if h.kind = 9 then .ok (mk2 4 a b)
  else if h.kind = 10 then (if asO 4 a = true then .ok (asl 4 a) else fault h 90)
  else if h.kind = 11 then (if asO 4 a = true then .ok (asr 4 a) else fault h 90)
  else if h.kind = 12 then (if asO 5 (TT h) = true then (if ag a (asl 5 (TT h)) = true then .ok (mk2 5 (asl 5 (TT h)) (asr 5 (TT h))) else fault h 91) else fault h 90)
  else if h.kind = 13 then (if asO 5 (TT h) = true then (if ag a (asr 5 (TT h)) = true then .ok (mk2 5 (asl 5 (TT h)) (asr 5 (TT h))) else fault h 91) else fault h 90)
  else if h.kind = 15 then (if ag a (1, .nil) = true then (if ag b (1, .nil) = true then .ok (opAns h.name) else fault h 91) else fault h 91)
  else (if ag a (TT h) = true then .ok (TT h) else fault h 91)
/-- what stands here, F telling of the kids -/
def raw (F : Hd → Tm → Env → R) (h : Hd) (kids : Tm) (l : Env) : R :=
  if h.kind = 0 then (match fnd l h.name with
    | some a => .ok a
    | none => .bad 41 h.pos h.name)
  else if h.kind = 1 then .ok (1, .nil)
  else if h.kind = 2 ∨ h.kind = 3 then .ok (2, .nil)
  else if h.kind = 4 then bnd (F (k1 kids).1 (k1 kids).2 (l ++ [(h.name, TT h)])) fun b => .ok (mk2 3 (TT h) b)
  else if h.kind = 5 then bnd (F (k1 kids).1 (k1 kids).2 (l ++ [(h.name, mk2 3 (TT h) (UU h)), (h.arg, TT h)])) fun b => if ag b (UU h) = true then .ok (mk2 3 (TT h) (UU h)) else fault h 91
  else if h.kind = 7 then bnd (F (k1 kids).1 (k1 kids).2 l) fun a => if ag a (TT h) = true then F (k2 kids).1 (k2 kids).2 (l ++ [(h.name, TT h)]) else fault h 91
  else if h.kind = 14 then bnd (F (k1 kids).1 (k1 kids).2 l) fun a => if asO 5 a = true then bnd (F (k2 kids).1 (k2 kids).2 (l ++ [(h.name, asl 5 a)])) fun b => bnd (F (k3 kids).1 (k3 kids).2 (l ++ [(h.arg, asr 5 a)])) fun c => meet h b c else fault h 90
  else if h.kind = 6 ∨ h.kind = 9 ∨ h.kind = 15 then bnd (F (k1 kids).1 (k1 kids).2 l) fun a => bnd (F (k2 kids).1 (k2 kids).2 l) fun b => over h a b (0, .nil)
  else if h.kind = 8 then bnd (F (k1 kids).1 (k1 kids).2 l) fun a => bnd (F (k2 kids).1 (k2 kids).2 l) fun b => bnd (F (k3 kids).1 (k3 kids).2 l) fun c => over h a b c
  else bnd (F (k1 kids).1 (k1 kids).2 l) fun a => over h a (0, .nil) (0, .nil)
/-- what the rules tell of a term -/
def ty : Nat → Hd → Tm → Env → R
  | 0, h, _, _ => fault h 0
  | K + 1, h, kids, l => lift h (raw (ty K) h kids l)
theorem ty_succ (K : Nat) (h : Hd) (kids : Tm) (l : Env) : ty (K + 1) h kids l = lift h (raw (ty K) h kids l) := rfl
/-- has a term a Cast in it? -/
def castF : Tm → Bool
  | .nil => false
  | .node h kids r => (h.kind == 17) || castF kids || castF r
def castT (h : Hd) (kids : Tm) : Bool := (h.kind == 17) || castF kids
/-- what Type tells -/
def tell (h : Hd) (kids : Tm) : R :=
  if Tm.chk h kids ≠ 0 then .bad (Tm.chk h kids) 0 e0 else if castT h kids = true then .bad 30 0 e0 else ty (Tm.nodes kids + 1) h kids []
/-- whatever is told is a right type -/
theorem lift_ok {h : Hd} {r : R} {a : T2} (e : lift h r = .ok a) : r = .ok a ∧ chk a = 0 := by
  cases r with
  | ok b =>
    simp only [lift] at e
    split at e
    · injection e with e; subst e; exact ⟨rfl, by assumption⟩
    · cases e
  | bad _ _ _ => cases e
theorem ty_ok : ∀ {K : Nat} {h : Hd} {kids : Tm} {l : Env} {a : T2}, ty K h kids l = .ok a → chk a = 0
  | 0, _, _, _, _, e => by cases e
  | _ + 1, _, _, _, _, e => (lift_ok e).2
end Ck
end Go.Proofs.YtknhoagicdfikaaGreatDoor
namespace Go.Proofs.YtknhoagicdfikaaGreatDoor
open Go.RowKit
namespace Ck
/-- a fault in new memory -/
def FltAt (w : World) (g : Nat) (E p : Int) (x : ByteArray) : Prop := w.heap[g]? = some (.cells #[.int .i64 E, .int .i64 p, .string x] 56 (0, 0))
/-- giving up -/
def Gave (w : World) (E p : Int) (x : ByteArray) (e : Ending) (w' : World) : Prop :=
  ∃ g, e = .panicked [{ v := .iface 52 (.pointer (some ⟨g, 0, none⟩)), recovered := false }] ∧ FltAt w' g E p x ∧ w.heap.size ≤ g ∧ Below w.heap.size w w'
theorem Gave.from {w u w' : World} {E p : Int} {x : ByteArray} {e : Ending} (h : Gave u E p x e w') (hb : Below w.heap.size w u) : Gave w E p x e w' := by
  obtain ⟨g, h1, h2, h3, h4⟩ := h
  exact ⟨g, h1, h2, Nat.le_trans hb.size h3, hb.trans (h4.mono hb.size)⟩
/-- blocks of which Q holds, ahead of N, and those from M on -/
def Cut (Q : Nat → Prop) (N M : Nat) (b : Nat) : Prop := (Q b ∧ b < N) ∨ M ≤ b
theorem Cut.in {Q : Nat → Prop} {N M S b : Nat} (hS : M ≤ S) (h : Cut (Cut Q N M) S S b) : Cut Q N M b := by
  rcases h with ⟨h, -⟩ | h
  · exact h
  · exact .inr (by omega)
theorem Cut.out {Q : Nat → Prop} {N M b : Nat} (hM : N ≤ M) (h : Cut Q N M b) : Cut Q N N b := by
  rcases h with h | h
  · exact .inl h
  · exact .inr (by omega)
theorem Cut.ne {Q : Nat → Prop} {N M b X : Nat} (h : Cut Q N M b) (h1 : N ≤ X) (h2 : X < M) : b ≠ X := by
  rcases h with h | h <;> omega
/-- a type that lies in blocks of which Q holds -/
abbrev Ly (Q : Nat → Prop) (w : World) (a : T2) (G : Option Addr) (m c : Nat) : Prop := Lone Q w a.1 a.2 G m c
theorem Ly.later {Q : Nat → Prop} {w w' : World} {a : T2} {G : Option Addr} {m c : Nat} (h : Ly Q w a G m c) (hb : Below w.heap.size w w') : Ly Q w' a G m c :=
  Lone.to h fun _ _ _ hQ hc => ⟨hQ, by rw [hb.cell (p := ⟨_, _, none⟩) (Ty.cell_lt hc)]; exact hc⟩
theorem Ly.weak {Q Q' : Nat → Prop} {w : World} {a : T2} {G : Option Addr} {m c : Nat} (h : Ly Q w a G m c) (hq : ∀ b, b < w.heap.size → Q b → Q' b) : Ly Q' w a G m c :=
  Lone.to h fun _ _ _ hQ hc => ⟨hq _ (Ty.cell_lt hc) hQ, hc⟩
theorem Ly.set {Q : Nat → Prop} {w : World} {a : T2} {G : Option Addr} {m c : Nat} (h : Ly Q w a G m c) {X : Nat} (hX : ∀ b, Q b → b ≠ X) (o : Nat) (v : Value) : Ly Q (w.setCell ⟨X, o, none⟩ v) a G m c :=
  Lone.to h fun b o' v' hQ hc => ⟨hQ, by rw [World.cell?_setCell_other _ _ _ _ (fun e => hX b hQ (by injection e with e; exact e.symm))]; exact hc⟩
theorem Ly.is {Q : Nat → Prop} {w : World} {a : T2} {G : Option Addr} {m c : Nat} (h : Ly Q w a G m c) : Ty.Is w a.1 a.2 G m c := Lone.is h
theorem Ly.of {w : World} {a : T2} {G : Option Addr} {m c : Nat} (h : Ty.Is w a.1 a.2 G m c) : Ly (fun b => b < w.heap.size) w a G m c :=
  fun _ hu => (h.inP.to (P' := fun _ => True) fun b o v hP hc => ⟨trivial, hu b o v hP hc⟩).is
theorem Ly.zero (Q : Nat → Prop) (w : World) : Ly Q w (0, .nil) none 0 0 := fun _ _ => Ty.zero_is _
/-- a type that is handed back -/
def Gives (Q : Nat → Prop) (w : World) (a : T2) (e : Ending) (w' : World) : Prop :=
  ∃ G m c, e = .returned (.agg #[.int .i8 a.1, .slice G m c]) ∧ Ly (Cut Q w.heap.size w.heap.size) w' a G m c ∧ Below w.heap.size w w'
/-- what a rule leaves -/
def Post (Q : Nat → Prop) (w : World) (r : R) (e : Ending) (w' : World) : Prop := match r with
  | .ok a => Gives Q w a e w'
  | .bad E p x => Gave w E p x e w'
/-- names and types, as cells -/
def EFlat (Q : Nat → Prop) (w : World) : Env → List Value → Prop
  | [], [] => True
  | x :: l, a :: b :: c :: xs => (a = .string x.1 ∧ b = .int .i8 x.2.1 ∧ ∃ G m k, c = .slice G m k ∧ Ly Q w x.2 G m k) ∧ EFlat Q w l xs
  | _, _ => False
theorem EFlat.below {Q : Nat → Prop} {w w' : World} (hb : Below w.heap.size w w') : ∀ {l : Env} {xs : List Value}, EFlat Q w l xs → EFlat Q w' l xs
  | [], [], _ => trivial
  | _ :: _, _ :: _ :: _ :: _, ⟨⟨h1, h2, G, m, k, h3, h4⟩, h5⟩ => ⟨⟨h1, h2, G, m, k, h3, h4.later hb⟩, EFlat.below hb h5⟩
  | [], _ :: _, h => h.elim
  | _ :: _, [], h => h.elim
  | _ :: _, [_], h => h.elim
  | _ :: _, [_, _], h => h.elim
theorem EFlat.weak {Q Q' : Nat → Prop} {w : World} (hq : ∀ b, b < w.heap.size → Q b → Q' b) : ∀ {l : Env} {xs : List Value}, EFlat Q w l xs → EFlat Q' w l xs
  | [], [], _ => trivial
  | _ :: _, _ :: _ :: _ :: _, ⟨⟨h1, h2, G, m, k, h3, h4⟩, h5⟩ => ⟨⟨h1, h2, G, m, k, h3, h4.weak hq⟩, EFlat.weak hq h5⟩
  | [], _ :: _, h => h.elim
  | _ :: _, [], h => h.elim
  | _ :: _, [_], h => h.elim
  | _ :: _, [_, _], h => h.elim
theorem EFlat.app {Q : Nat → Prop} {w : World} : ∀ {l : Env} {xs : List Value} {l' : Env} {xs' : List Value}, EFlat Q w l xs → EFlat Q w l' xs' → EFlat Q w (l ++ l') (xs ++ xs')
  | [], [], _, _, _, h => h
  | _ :: _, _ :: _ :: _ :: _, _, _, ⟨h1, h5⟩, h => ⟨h1, EFlat.app h5 h⟩
  | [], _ :: _, _, _, h, _ => h.elim
  | _ :: _, [], _, _, h, _ => h.elim
  | _ :: _, [_], _, _, h, _ => h.elim
  | _ :: _, [_, _], _, _, h, _ => h.elim
theorem EFlat.len {Q : Nat → Prop} {w : World} : ∀ {l : Env} {xs : List Value}, EFlat Q w l xs → xs.length = l.length * 3
  | [], [], _ => rfl
  | _ :: _, _ :: _ :: _ :: _, ⟨_, h5⟩ => by have := EFlat.len h5; simp only [List.length_cons]; omega
  | [], _ :: _, h => h.elim
  | _ :: _, [], h => h.elim
  | _ :: _, [_], h => h.elim
  | _ :: _, [_, _], h => h.elim
theorem EFlat.at {Q : Nat → Prop} {w : World} : ∀ {l : Env} {xs : List Value}, EFlat Q w l xs → ∀ (i : Nat) (x : ByteArray × T2), l[i]? = some x → xs[i * 3]? = some (.string x.1) ∧ xs[i * 3 + 1]? = some (.int .i8 x.2.1) ∧ ∃ G m k, xs[i * 3 + 2]? = some (.slice G m k) ∧ Ly Q w x.2 G m k
  | [], [], _, i, x, h => by simp at h
  | y :: _, _ :: _ :: _ :: _, ⟨⟨h1, h2, G, m, k, h3, h4⟩, h5⟩, i, x, h => by
    cases i with
    | zero =>
      rw [List.getElem?_cons_zero] at h
      injection h with h; subst h
      exact ⟨by simp [h1], by simp [h2], G, m, k, by simp [h3], h4⟩
    | succ i =>
      rw [List.getElem?_cons_succ] at h
      have q := EFlat.at h5 i x h
      rw [show (i + 1) * 3 = i * 3 + 3 by omega, show i * 3 + 3 + 1 = i * 3 + 1 + 3 by omega, show i * 3 + 3 + 2 = i * 3 + 2 + 3 by omega]
      simpa using q
  | [], _ :: _, h, _, _, _ => h.elim
  | _ :: _, [], h, _, _, _ => h.elim
  | _ :: _, [_], h, _, _, _ => h.elim
  | _ :: _, [_, _], h, _, _, _ => h.elim
theorem EFlat.one {Q : Nat → Prop} {w : World} : ∀ {l : Env} {xs : List Value}, EFlat Q w l xs → ∀ u ∈ xs, u.oneCell' = true
  | [], [], _, u, hu => by cases hu
  | _ :: _, _ :: _ :: _ :: _, ⟨⟨h1, h2, G, m, k, h3, _⟩, h5⟩, u, hu => by
    simp only [List.mem_cons] at hu
    rcases hu with rfl | rfl | rfl | hu
    · rw [h1]; rfl
    · rw [h2]; rfl
    · rw [h3]; rfl
    · exact EFlat.one h5 u hu
  | [], _ :: _, h, _, _ => h.elim
  | _ :: _, [], h, _, _ => h.elim
  | _ :: _, [_], h, _, _ => h.elim
  | _ :: _, [_, _], h, _, _ => h.elim
/-- what is around lies in a slice -/
structure EAt (Q : Nat → Prop) (w : World) (l : Env) (A : Option Addr) (n c : Nat) : Prop where
  n_eq : n = l.length
  n_le : n ≤ c
  c_le : c ≤ maxLen
  nil : A = none → n = 0 ∧ c = 0
  row : ∃ xs, EFlat Q w l xs ∧ ∀ a, A = some a → ∃ b o, a = ⟨b, o, none⟩ ∧ b < w.heap.size ∧ ∀ j u, xs[j]? = some u → w.cell? ⟨b, o + j, none⟩ = some u
theorem EAt.empty (Q : Nat → Prop) (w : World) : EAt Q w [] none 0 0 := ⟨rfl, Nat.le_refl _, Nat.zero_le _, fun _ => ⟨rfl, rfl⟩, [], trivial, fun _ h => by cases h⟩
theorem EAt.weak {Q Q' : Nat → Prop} {w : World} {l : Env} {A : Option Addr} {n c : Nat} (h : EAt Q w l A n c) (hq : ∀ b, b < w.heap.size → Q b → Q' b) : EAt Q' w l A n c := by
  obtain ⟨h1, h2, h3, h4, xs, h5, h6⟩ := h
  exact ⟨h1, h2, h3, h4, xs, h5.weak hq, h6⟩
theorem EAt.below {Q : Nat → Prop} {w w' : World} {l : Env} {A : Option Addr} {n c : Nat} (h : EAt Q w l A n c) (hb : Below w.heap.size w w') : EAt Q w' l A n c := by
  obtain ⟨h1, h2, h3, h4, xs, h5, h6⟩ := h
  refine ⟨h1, h2, h3, h4, xs, h5.below hb, fun a ha => ?_⟩
  obtain ⟨b, o, e, hl, hc⟩ := h6 a ha
  exact ⟨b, o, e, Nat.lt_of_lt_of_le hl hb.size, fun j u hu => by rw [hb.cell (p := ⟨b, o + j, none⟩) hl]; exact hc j u hu⟩
theorem EAt.at {Q : Nat → Prop} {w : World} {l : Env} {A : Option Addr} {n c : Nat} (h : EAt Q w l A n c) {i : Nat} {x : ByteArray × T2} (hx : l[i]? = some x) : ∃ b o G m k, A = some ⟨b, o, none⟩ ∧ w.cell? ⟨b, o + i * 3, none⟩ = some (.string x.1) ∧ w.cell? ⟨b, o + i * 3 + 1, none⟩ = some (.int .i8 x.2.1) ∧ w.cell? ⟨b, o + i * 3 + 2, none⟩ = some (.slice G m k) ∧ Ly Q w x.2 G m k := by
  obtain ⟨h1, h2, h3, h4, xs, h5, h6⟩ := h
  cases A with
  | none =>
    have := (h4 rfl).1
    have hl : i < l.length := by
      rcases Nat.lt_or_ge i l.length with q | q
      · exact q
      · rw [List.getElem?_eq_none q] at hx; cases hx
    omega
  | some a =>
    obtain ⟨b, o, rfl, hl, hc⟩ := h6 a rfl
    obtain ⟨q1, q2, G, m, k, q3, q4⟩ := h5.at i x hx
    exact ⟨b, o, G, m, k, rfl, hc _ _ q1, by have := hc _ _ q2; rwa [show o + (i * 3 + 1) = o + i * 3 + 1 by omega] at this, by have := hc _ _ q3; rwa [show o + (i * 3 + 2) = o + i * 3 + 2 by omega] at this, q4⟩
end Ck

set_option maxHeartbeats 1000000 in
set_option maxRecDepth 100000 in
theorem ckfail_any (h : Hd) (p : Pl) (E : Int) (w : World) : Calls Tryz.prog 50 #[.agg #[.int .i8 h.kind, .string h.name, .string h.arg, .int .i64 h.num, .int .i8 h.tk, .slice p.TA p.tn p.tc, .int .i8 h.uk, .slice p.UA p.un p.uc, .int .i64 h.label, .int .i64 h.pos, .slice p.A p.n p.c], .int .i64 E] w (Ck.Gave w E h.pos Ck.e0) := by
  have hb1 : Below w.heap.size w (w.alloc (.cells #[.int .i8 h.kind, .string h.name, .string h.arg, .int .i64 h.num, .int .i8 h.tk, .slice p.TA p.tn p.tc, .int .i8 h.uk, .slice p.UA p.un p.uc, .int .i64 h.label, .int .i64 h.pos, .slice p.A p.n p.c] 28)) := (Below.refl _ _).alloc (Nat.le_refl _) _
  have hb2 := hb1.alloc hb1.size (.cells #[.int .i64 E, .int .i64 h.pos, .string Ck.e0] 56)
  obtain ⟨q0, q1, q2, q3, q4, q5, q6, q7, q8, q9, q10, ql⟩ := own11 (heap_new w (.cells #[.int .i8 h.kind, .string h.name, .string h.arg, .int .i64 h.num, .int .i8 h.tk, .slice p.TA p.tn p.tc, .int .i8 h.uk, .slice p.UA p.un p.uc, .int .i64 h.label, .int .i64 h.pos, .slice p.A p.n p.c] 28))
  have HP := Lib.hid (show Ck.Gave w E h.pos Ck.e0 (.panicked [{ v := .iface 52 (.pointer (some ⟨w.heap.size + 1, 0, none⟩)), recovered := false }]) _ from ⟨w.heap.size + 1, rfl, heap_new2 w _ _, by omega, hb2⟩)
  clear hb1 hb2
  go_enter Tryz.func50, Tryz.ntmps50
  go_wp2_with fail
  exact ⟨rfl, HP.out⟩

set_option maxHeartbeats 1000000 in
set_option maxRecDepth 100000 in
theorem ckof_any (k : Int) (A : Option Addr) (n c : Nat) (w : World) : Calls Tryz.prog 71 #[.int .i8 k, .slice A n c] w fun e w' => e = .returned (.agg #[.int .i8 k, .slice A n c]) ∧ Below w.heap.size w w' := by
  have HB := Lib.hid ((Below.refl w.heap.size w).alloc (Nat.le_refl _) (.cells #[.int .i8 k, .slice A n c] 25))
  go_enter Tryz.func71, Tryz.ntmps71
  go_wp2_with fail
  refine bodyPost_ret (v := .agg #[.int .i8 k, .slice A n c]) (by simp [results, Tryz.results71, go_sem, *]) rfl ⟨rfl, HB.out⟩

set_option maxHeartbeats 1000000 in
set_option maxRecDepth 100000 in
theorem ckbind_any (s : ByteArray) (k : Int) (A : Option Addr) (n c : Nat) (w : World) : Calls Tryz.prog 73 #[.string s, .agg #[.int .i8 k, .slice A n c]] w fun e w' => e = .returned (.agg #[.string s, .int .i8 k, .slice A n c]) ∧ Below w.heap.size w w' := by
  have HB := Lib.hid (((Below.refl w.heap.size w).alloc (Nat.le_refl _) (.cells #[.int .i8 k, .slice A n c] 25)).alloc (by simp) (.cells #[.string s, .int .i8 k, .slice A n c] 133))
  go_enter Tryz.func73, Tryz.ntmps73
  go_wp2_with fail
  refine bodyPost_ret (v := .agg #[.string s, .int .i8 k, .slice A n c]) (by simp [results, Tryz.results73, go_sem, *]) rfl ⟨rfl, HB.out⟩

theorem append_two {P : Program} {t t' e : TypeId} (ht : P.underlying t = some (.slice e)) (ht' : P.underlying t' = some (.slice e)) (ty : TypeId) (args : Array Value) (w : World) : (Builtin.append_ #[t, t'] ty args).run P w = (Builtin.append_ #[t, t] ty args).run P w := by
  simp only [Builtin.append_, List.getElem?_toArray, List.getElem?_cons_zero, List.getElem?_cons_succ]
  cases h0 : args[0]? with
  | none => rfl
  | some s =>
    cases h1 : args[1]? with
    | none => rfl
    | some x => cases s <;> simp [run_underlying ht, run_underlying ht']
/-- append over two types of rows of one sort -/
theorem wpList_append_grows2 {P : Program} (w : World) {ops : Array Oper} {rest : List Oper} {o : Oper} {a : Act} {Q : Exit → Act → World → Prop}
    (hg : o.guard = none) (s x : Operand) (t t' : TypeId) (hop : o.op = Op.call { callee := Callee.builtin Builtin.append, args := #[s, x], argTypes := #[t, t'] })
    (e : TypeId) (i : TypeInfo) (z : Value) (size bytes : Nat) (h1 : P.underlying t = some (.slice e)) (h1' : P.underlying t' = some (.slice e)) (h2 : P.info? e = some i) (h3 : i.zero = some z) (h4 : i.size = size) (h5 : i.bytes = bytes) (h6 : z.cells.size = size) (h7 : 0 < size)
    (ao : Option Addr) (n cap : Nat) (olds : List Value) (hs : a.eval s = .slice ao n cap) (hnone : ao = none → n = 0 ∧ cap = 0) (hlo : olds.length = n * size) (holds : ∀ b, ao = some b → ∀ j u, olds[j]? = some u → w.cell? (b.add j) = some u)
    (ad : Addr) (m c : Nat) (news : List Value) (hx : a.eval x = .slice (some ad) m c) (hn : news.length = m * size) (hc : ∀ j u, news[j]? = some u → w.cell? (ad.add j) = some u) (h1c : ∀ u ∈ news, u.oneCell' = true)
    (hfull : cap < n + m) (b1 : n + m ≤ maxLen) (b2 : (n + m) * bytes ≤ 140737488355328)
    (hK : ∀ v' w', w'.ownsRow w.heap.size e size v' (n + m) (olds ++ news) → w.grownBy w' none → wpList P ops Q rest (a.put o.dst v') w') :
    wpList P ops Q (o :: rest) a w := by
  refine wpList_plain hg fun K hK' => ?_
  cases ao with
  | some b =>
    obtain ⟨v', w', hrun, r1, r2⟩ := run_append_arg_grows (P := P) w t o.type e i z size bytes h1 h2 h3 h4 h5 h6 h7 b n cap olds hlo (holds b rfl) ad m c news hn hc hfull b1 b2
    rw [← append_two h1 h1'] at hrun
    unfold Oper.wp
    simp [execOp, hop, resolve, invoke, builtin, hs, hx, hrun, Result.andThen]
    exact hK' _ _ (hK v' w' r1 r2)
  | none =>
    obtain ⟨rfl, rfl⟩ := hnone rfl
    obtain rfl : olds = [] := List.eq_nil_of_length_eq_zero (by simpa using hlo)
    obtain ⟨v', w', hrun, r1, r2, _⟩ := run_append_own (P := P) w w.heap.size t o.type e i z size bytes h1 h2 h3 h4 h5 h6 h7 (.slice none 0 0) 0 [] (World.ownsRow_nil w _ e size) ad m c news hn hc h1c b1 b2 (Nat.le_refl _)
    rw [← append_two h1 h1'] at hrun
    unfold Oper.wp
    simp [execOp, hop, resolve, invoke, builtin, hs, hx, hrun, Result.andThen]
    exact hK' _ _ (hK v' w' r1 r2)

theorem info_binding : (Tryz.prog.info? 133).map (fun i => (i.zero, i.size, i.bytes)) = some (some (.agg #[.string ⟨#[]⟩, .int .i8 0, .slice none 0 0]), 3, 48) := by kernel_rfl

theorem Ck.EAt.end {Q : Nat → Prop} {w w1 : World} {l : Ck.Env} {xs : List Value} {base : Nat} {v : Value} {n : Nat} (hn : n = l.length) (hn0 : 0 < n) (hE : Ck.EFlat Q w l xs) (hw : Below w.heap.size w w1) (hown : w1.ownsRow base 133 3 v n xs) :
    ∃ G k, v = .slice G n k ∧ Ck.EAt Q w1 l G n k := by
  rcases hown.2 with ⟨-, h0⟩ | ⟨g, cap, cur, hv, -, hg, h1, h2, -, -⟩
  · omega
  · refine ⟨some ⟨g, 0, none⟩, cap, hv, hn, h1, h2, (fun h => by cases h), xs, hE.below hw, fun a ha => ?_⟩
    injection ha with ha
    subst ha
    refine ⟨g, 0, rfl, heap_lt hg, fun j u hu => ?_⟩
    have := hown.cells (g := g) (by rw [hv]; rfl) j u hu
    rw [show (⟨g, 0, none⟩ : Addr).add j = ⟨g, j, none⟩ by unfold Addr.add; by_cases h : j = 0 <;> simp [h]] at this
    rw [Nat.zero_add]; exact this

set_option maxHeartbeats 2000000 in
set_option maxRecDepth 100000 in
theorem ckwith_any (Q : Nat → Prop) (l l' : Ck.Env) (A : Option Addr) (n c : Nat) (Y m c' : Nat) (w : World) (hE : Ck.EAt Q w l A n c) (hE' : Ck.EAt Q w l' (some ⟨Y, 0, none⟩) m c') (hm : 0 < m) (hb : n + m ≤ 20000) :
    Calls Tryz.prog 72 #[.slice A n c, .slice (some ⟨Y, 0, none⟩) m c'] w fun e w' => ∃ G k, e = .returned (.slice G (n + m) k) ∧ Ck.EAt Q w' (l ++ l') G (n + m) k ∧ Below w.heap.size w w' := by
  obtain ⟨e1, e2, e3, e4, xs, e5, e6⟩ := hE
  obtain ⟨d1, d2, d3, -, ys, d5, d6⟩ := hE'
  obtain ⟨b', o', he, hlt', hc'⟩ := d6 _ rfl
  injection he with he1 he2 he3
  subst he1 he2
  obtain ⟨i0, hi, hz1, hz2, hz3⟩ := info_parts info_binding
  have hlx := e5.len
  have hly := d5.len
  rw [← e1] at hlx
  rw [← d1] at hly
  have hcy : ∀ j u, ys[j]? = some u → w.cell? ((⟨Y, 0, none⟩ : Addr).add j) = some u := fun j u hu => by
    have : (⟨Y, 0, none⟩ : Addr).add j = ⟨Y, 0 + j, none⟩ := by unfold Addr.add; by_cases h : j = 0 <;> simp [h]
    rw [this]; exact hc' j u hu
  have h1c := d5.one
  have HFIN := Lib.hid (fun (v : Value) (w1 : World) (hown : w1.ownsRow w.heap.size 133 3 v (n + m) (xs ++ ys)) (hg : w.grownBy w1 none) => (show ∃ G k, v = .slice G (n + m) k ∧ Ck.EAt Q w1 (l ++ l') G (n + m) k ∧ Below w.heap.size w w1 by
    have hbw : Below w.heap.size w w1 := (Below.refl _ _).grown hg (Nat.le_refl _) fun k hk => by cases hk
    obtain ⟨G, k, h1, h2⟩ := Ck.EAt.end (by rw [List.length_append, ← e1, ← d1]) (by omega) (e5.app d5) hbw hown
    exact ⟨G, k, h1, h2, hbw⟩))
  cases A with
  | none =>
    obtain ⟨h0, h00⟩ := e4 rfl
    clear e1 d1 e5 d5 e6 hc' e4 d6
    subst h0 h00
    go_enter Tryz.func72, Tryz.ntmps72
    go_wp2_with (first | (at_builtin; refine wpList_append_grows2 _ rfl (.tmp 10) (.tmp 11) 89 88 rfl 133 i0 (.agg #[.string ⟨#[]⟩, .int .i8 0, .slice none 0 0]) 3 48 Tryz.underlying89 Tryz.underlying88 hi hz1 hz2 hz3 rfl (by decide) none 0 0 xs rfl (fun _ => ⟨rfl, rfl⟩) hlx (fun _ h => by cases h) ⟨Y, 0, none⟩ m c' ys rfl hly hcy h1c ?_ ?_ ?_ ?_))
    · unfold maxLen; omega
    · omega
    · intro v' w' hown hg
      have hfin := HFIN.out v' w' (by simpa using hown) hg
      obtain ⟨G, k, rfl, h1, h2⟩ := hfin
      have HF := Lib.hid (And.intro h1 h2)
      clear h1 h2 hown hg
      go_wp2_with fail
      go_ret
      exact ⟨G, k, rfl, HF.out.1, HF.out.2⟩
  | some a =>
    obtain ⟨b, o, rfl, hbl, hcx0⟩ := e6 a rfl
    have hcx : ∀ b', some (⟨b, o, none⟩ : Addr) = some b' → ∀ j u, xs[j]? = some u → w.cell? (b'.add j) = some u := fun b' hb' j u hu => by
      injection hb' with hb'
      subst hb'
      have : (⟨b, o, none⟩ : Addr).add j = ⟨b, o + j, none⟩ := by unfold Addr.add; by_cases h : j = 0 <;> simp [h]
      rw [this]; exact hcx0 j u hu
    have hnc : (n : Int) ≤ c := by omega
    have hnn : (0 : Int) ≤ n := by omega
    clear e1 d1 e5 d5 e6 hc' e4 d6 hcx0
    go_enter Tryz.func72, Tryz.ntmps72
    go_wp2_with (first | (at_builtin; refine wpList_append_grows2 _ rfl (.tmp 10) (.tmp 11) 89 88 rfl 133 i0 (.agg #[.string ⟨#[]⟩, .int .i8 0, .slice none 0 0]) 3 48 Tryz.underlying89 Tryz.underlying88 hi hz1 hz2 hz3 rfl (by decide) (some ⟨b, o, none⟩) n n xs rfl (fun h => by cases h) hlx hcx ⟨Y, 0, none⟩ m c' ys rfl hly hcy h1c ?_ ?_ ?_ ?_))
    · unfold maxLen; omega
    · omega
    · intro v' w' hown hg
      have hfin := HFIN.out v' w' (by simpa using hown) hg
      obtain ⟨G, k, rfl, h1, h2⟩ := hfin
      have HF := Lib.hid (And.intro h1 h2)
      clear h1 h2 hown hg
      go_wp2_with fail
      go_ret
      exact ⟨G, k, rfl, HF.out.1, HF.out.2⟩
end Go.Proofs.YtknhoagicdfikaaGreatDoor
namespace Go.Proofs.YtknhoagicdfikaaGreatDoor
namespace Cg
open Ck
/-- what the rules mean by their words -/
structure Ops where
  ag : T2 → T2 → Bool
  asO : Int → T2 → Bool
  asl : Int → T2 → T2
  asr : Int → T2 → T2
  mt : T2 → T2 → T2
  gs : T2 → T2 → Bool
  ca : Bool
def meet (D : Ops) (h : Hd) (a b : T2) : R := if D.ag a b = true then .ok (D.mt a b) else fault h 91
/-- what stands here, over kids of these types, of a term that binds no name -/
def over (D : Ops) (h : Hd) (a b c : T2) : R :=
  if h.kind = 6 then (if D.asO 3 a = true then (if D.ag b (D.asl 3 a) = true then .ok (D.asr 3 a) else fault h 91) else fault h 90)
  else if h.kind = 8 then (if D.ag a (2, .nil) = true then meet D h b c else fault h 91)
  else if h.kind = 9 then .ok (mk2 4 a b)
  else if h.kind = 10 then (if D.asO 4 a = true then .ok (D.asl 4 a) else fault h 90)
  else if h.kind = 11 then (if D.asO 4 a = true then .ok (D.asr 4 a) else fault h 90)
  else if h.kind = 12 then (if D.asO 5 (TT h) = true then (if D.ag a (D.asl 5 (TT h)) = true then .ok (mk2 5 (D.asl 5 (TT h)) (D.asr 5 (TT h))) else fault h 91) else fault h 90)
  else if h.kind = 13 then (if D.asO 5 (TT h) = true then (if D.ag a (D.asr 5 (TT h)) = true then .ok (mk2 5 (D.asl 5 (TT h)) (D.asr 5 (TT h))) else fault h 91) else fault h 90)
  else if h.kind = 15 then (if D.ag a (1, .nil) = true then (if D.ag b (1, .nil) = true then .ok (opAns h.name) else fault h 91) else fault h 91)
  else if h.kind = 17 ∧ D.ca = true then (if D.ag a (TT h) = true then (if D.gs (TT h) (UU h) = true then .ok (UU h) else fault h 91) else fault h 91)
  else (if D.ag a (TT h) = true then .ok (TT h) else fault h 91)
/-- what stands here, F telling of the kids -/
def raw (D : Ops) (F : Hd → Tm → Env → R) (h : Hd) (kids : Tm) (l : Env) : R :=
  if h.kind = 0 then (match fnd l h.name with
    | some a => .ok a
    | none => .bad 41 h.pos h.name)
  else if h.kind = 1 then .ok (1, .nil)
  else if h.kind = 2 ∨ h.kind = 3 then .ok (2, .nil)
  else if h.kind = 4 then bnd (F (k1 kids).1 (k1 kids).2 (l ++ [(h.name, TT h)])) fun b => .ok (mk2 3 (TT h) b)
  else if h.kind = 5 then bnd (F (k1 kids).1 (k1 kids).2 (l ++ [(h.name, mk2 3 (TT h) (UU h)), (h.arg, TT h)])) fun b => if D.ag b (UU h) = true then .ok (mk2 3 (TT h) (UU h)) else fault h 91
  else if h.kind = 7 then bnd (F (k1 kids).1 (k1 kids).2 l) fun a => if D.ag a (TT h) = true then F (k2 kids).1 (k2 kids).2 (l ++ [(h.name, TT h)]) else fault h 91
  else if h.kind = 14 then bnd (F (k1 kids).1 (k1 kids).2 l) fun a => if D.asO 5 a = true then bnd (F (k2 kids).1 (k2 kids).2 (l ++ [(h.name, D.asl 5 a)])) fun b => bnd (F (k3 kids).1 (k3 kids).2 (l ++ [(h.arg, D.asr 5 a)])) fun c => meet D h b c else fault h 90
  else if h.kind = 6 ∨ h.kind = 9 ∨ h.kind = 15 then bnd (F (k1 kids).1 (k1 kids).2 l) fun a => bnd (F (k2 kids).1 (k2 kids).2 l) fun b => over D h a b (0, .nil)
  else if h.kind = 8 then bnd (F (k1 kids).1 (k1 kids).2 l) fun a => bnd (F (k2 kids).1 (k2 kids).2 l) fun b => bnd (F (k3 kids).1 (k3 kids).2 l) fun c => over D h a b c
  else bnd (F (k1 kids).1 (k1 kids).2 l) fun a => over D h a (0, .nil) (0, .nil)
/-- what the rules tell of a term -/
def ty (D : Ops) : Nat → Hd → Tm → Env → R
  | 0, h, _, _ => fault h 0
  | K + 1, h, kids, l => lift h (raw D (ty D K) h kids l)
theorem ty_succ (D : Ops) (K : Nat) (h : Hd) (kids : Tm) (l : Env) : ty D (K + 1) h kids l = lift h (raw D (ty D K) h kids l) := rfl
theorem ty_ok {D : Ops} : ∀ {K : Nat} {h : Hd} {kids : Tm} {l : Env} {a : T2}, ty D K h kids l = .ok a → chk a = 0
  | 0, _, _, _, _, e => by cases e
  | _ + 1, _, _, _, _, e => (lift_ok e).2
/-- the gradual rules' words -/
def grad : Ops := ⟨ag, asO, asl, asr, mt, fun _ _ => false, false⟩
theorem over_grad (h : Hd) (a b c : T2) : over grad h a b c = Ck.over h a b c := by
  have q : ¬ (h.kind = 17 ∧ grad.ca = true) := fun q => by cases q.2
  unfold over
  rw [if_neg q]
  rfl
theorem raw_grad (F : Hd → Tm → Env → R) (h : Hd) (kids : Tm) (l : Env) : raw grad F h kids l = Ck.raw F h kids l := by
  unfold raw
  simp only [over_grad]
  rfl
theorem ty_grad : ∀ K : Nat, ty grad K = Ck.ty K
  | 0 => rfl
  | K + 1 => by
    funext h kids l
    show lift h (raw grad (ty grad K) h kids l) = lift h (Ck.raw (Ck.ty K) h kids l)
    rw [ty_grad K, raw_grad]
end Cg
end Go.Proofs.YtknhoagicdfikaaGreatDoor
namespace Go.Proofs.YtknhoagicdfikaaGreatDoor
namespace Cg
open Ck
theorem raw_0 (D : Ops) (F : Hd → Tm → Env → R) (h : Hd) (kids : Tm) (l : Env) (hk : h.kind = 0) : raw D F h kids l = (match fnd l h.name with | some a => .ok a | none => .bad 41 h.pos h.name) := by
  unfold raw
  rw [if_pos hk]
  all_goals (cases fnd l h.name <;> rfl)
theorem raw_1 (D : Ops) (F : Hd → Tm → Env → R) (h : Hd) (kids : Tm) (l : Env) (hk : h.kind = 1) : raw D F h kids l = .ok (1, .nil) := by
  unfold raw
  simp [hk]
theorem raw_2 (D : Ops) (F : Hd → Tm → Env → R) (h : Hd) (kids : Tm) (l : Env) (hk : h.kind = 2) : raw D F h kids l = .ok (2, .nil) := by
  unfold raw
  simp [hk]
theorem raw_3 (D : Ops) (F : Hd → Tm → Env → R) (h : Hd) (kids : Tm) (l : Env) (hk : h.kind = 3) : raw D F h kids l = .ok (2, .nil) := by
  unfold raw
  simp [hk]
theorem raw_4 (D : Ops) (F : Hd → Tm → Env → R) (h : Hd) (kids : Tm) (l : Env) (hk : h.kind = 4) : raw D F h kids l = bnd (F (k1 kids).1 (k1 kids).2 (l ++ [(h.name, TT h)])) fun b => .ok (mk2 3 (TT h) b) := by
  unfold raw
  simp [hk]
theorem raw_5 (D : Ops) (F : Hd → Tm → Env → R) (h : Hd) (kids : Tm) (l : Env) (hk : h.kind = 5) : raw D F h kids l = bnd (F (k1 kids).1 (k1 kids).2 (l ++ [(h.name, mk2 3 (TT h) (UU h)), (h.arg, TT h)])) fun b => if D.ag b (UU h) = true then .ok (mk2 3 (TT h) (UU h)) else fault h 91 := by
  unfold raw
  simp [hk]
theorem raw_6 (D : Ops) (F : Hd → Tm → Env → R) (h : Hd) (kids : Tm) (l : Env) (hk : h.kind = 6) : raw D F h kids l = bnd (F (k1 kids).1 (k1 kids).2 l) fun a => bnd (F (k2 kids).1 (k2 kids).2 l) fun b => over D h a b (0, .nil) := by
  unfold raw
  simp [hk]
theorem raw_7 (D : Ops) (F : Hd → Tm → Env → R) (h : Hd) (kids : Tm) (l : Env) (hk : h.kind = 7) : raw D F h kids l = bnd (F (k1 kids).1 (k1 kids).2 l) fun a => if D.ag a (TT h) = true then F (k2 kids).1 (k2 kids).2 (l ++ [(h.name, TT h)]) else fault h 91 := by
  unfold raw
  simp [hk]
theorem raw_8 (D : Ops) (F : Hd → Tm → Env → R) (h : Hd) (kids : Tm) (l : Env) (hk : h.kind = 8) : raw D F h kids l = bnd (F (k1 kids).1 (k1 kids).2 l) fun a => bnd (F (k2 kids).1 (k2 kids).2 l) fun b => bnd (F (k3 kids).1 (k3 kids).2 l) fun c => over D h a b c := by
  unfold raw
  simp [hk]
theorem raw_9 (D : Ops) (F : Hd → Tm → Env → R) (h : Hd) (kids : Tm) (l : Env) (hk : h.kind = 9) : raw D F h kids l = bnd (F (k1 kids).1 (k1 kids).2 l) fun a => bnd (F (k2 kids).1 (k2 kids).2 l) fun b => over D h a b (0, .nil) := by
  unfold raw
  simp [hk]
theorem raw_10 (D : Ops) (F : Hd → Tm → Env → R) (h : Hd) (kids : Tm) (l : Env) (hk : h.kind = 10) : raw D F h kids l = bnd (F (k1 kids).1 (k1 kids).2 l) fun a => over D h a (0, .nil) (0, .nil) := by
  unfold raw
  simp [hk]
theorem raw_11 (D : Ops) (F : Hd → Tm → Env → R) (h : Hd) (kids : Tm) (l : Env) (hk : h.kind = 11) : raw D F h kids l = bnd (F (k1 kids).1 (k1 kids).2 l) fun a => over D h a (0, .nil) (0, .nil) := by
  unfold raw
  simp [hk]
theorem raw_12 (D : Ops) (F : Hd → Tm → Env → R) (h : Hd) (kids : Tm) (l : Env) (hk : h.kind = 12) : raw D F h kids l = bnd (F (k1 kids).1 (k1 kids).2 l) fun a => over D h a (0, .nil) (0, .nil) := by
  unfold raw
  simp [hk]
theorem raw_13 (D : Ops) (F : Hd → Tm → Env → R) (h : Hd) (kids : Tm) (l : Env) (hk : h.kind = 13) : raw D F h kids l = bnd (F (k1 kids).1 (k1 kids).2 l) fun a => over D h a (0, .nil) (0, .nil) := by
  unfold raw
  simp [hk]
theorem raw_14 (D : Ops) (F : Hd → Tm → Env → R) (h : Hd) (kids : Tm) (l : Env) (hk : h.kind = 14) : raw D F h kids l = bnd (F (k1 kids).1 (k1 kids).2 l) fun a => if D.asO 5 a = true then bnd (F (k2 kids).1 (k2 kids).2 (l ++ [(h.name, D.asl 5 a)])) fun b => bnd (F (k3 kids).1 (k3 kids).2 (l ++ [(h.arg, D.asr 5 a)])) fun c => meet D h b c else fault h 90 := by
  unfold raw
  simp [hk]
theorem raw_15 (D : Ops) (F : Hd → Tm → Env → R) (h : Hd) (kids : Tm) (l : Env) (hk : h.kind = 15) : raw D F h kids l = bnd (F (k1 kids).1 (k1 kids).2 l) fun a => bnd (F (k2 kids).1 (k2 kids).2 l) fun b => over D h a b (0, .nil) := by
  unfold raw
  simp [hk]
theorem raw_16 (D : Ops) (F : Hd → Tm → Env → R) (h : Hd) (kids : Tm) (l : Env) (hk : h.kind = 16) : raw D F h kids l = bnd (F (k1 kids).1 (k1 kids).2 l) fun a => over D h a (0, .nil) (0, .nil) := by
  unfold raw
  simp [hk]
theorem raw_17 (D : Ops) (F : Hd → Tm → Env → R) (h : Hd) (kids : Tm) (l : Env) (hk : h.kind = 17) : raw D F h kids l = bnd (F (k1 kids).1 (k1 kids).2 l) fun a => over D h a (0, .nil) (0, .nil) := by
  unfold raw
  simp [hk]
theorem over_6 (D : Ops) (h : Hd) (a b c : T2) (hk : h.kind = 6) : over D h a b c = if D.asO 3 a = true then (if D.ag b (D.asl 3 a) = true then .ok (D.asr 3 a) else fault h 91) else fault h 90 := by
  unfold over
  simp [hk]
theorem over_8 (D : Ops) (h : Hd) (a b c : T2) (hk : h.kind = 8) : over D h a b c = if D.ag a (2, .nil) = true then meet D h b c else fault h 91 := by
  unfold over
  simp [hk]
theorem over_9 (D : Ops) (h : Hd) (a b c : T2) (hk : h.kind = 9) : over D h a b c = .ok (mk2 4 a b) := by
  unfold over
  simp [hk]
theorem over_10 (D : Ops) (h : Hd) (a b c : T2) (hk : h.kind = 10) : over D h a b c = if D.asO 4 a = true then .ok (D.asl 4 a) else fault h 90 := by
  unfold over
  simp [hk]
theorem over_11 (D : Ops) (h : Hd) (a b c : T2) (hk : h.kind = 11) : over D h a b c = if D.asO 4 a = true then .ok (D.asr 4 a) else fault h 90 := by
  unfold over
  simp [hk]
theorem over_12 (D : Ops) (h : Hd) (a b c : T2) (hk : h.kind = 12) : over D h a b c = if D.asO 5 (TT h) = true then (if D.ag a (D.asl 5 (TT h)) = true then .ok (mk2 5 (D.asl 5 (TT h)) (D.asr 5 (TT h))) else fault h 91) else fault h 90 := by
  unfold over
  simp [hk]
theorem over_13 (D : Ops) (h : Hd) (a b c : T2) (hk : h.kind = 13) : over D h a b c = if D.asO 5 (TT h) = true then (if D.ag a (D.asr 5 (TT h)) = true then .ok (mk2 5 (D.asl 5 (TT h)) (D.asr 5 (TT h))) else fault h 91) else fault h 90 := by
  unfold over
  simp [hk]
theorem over_15 (D : Ops) (h : Hd) (a b c : T2) (hk : h.kind = 15) : over D h a b c = if D.ag a (1, .nil) = true then (if D.ag b (1, .nil) = true then .ok (opAns h.name) else fault h 91) else fault h 91 := by
  unfold over
  simp [hk]
theorem over_16 (D : Ops) (h : Hd) (a b c : T2) (hk : h.kind = 16) : over D h a b c = if D.ag a (TT h) = true then .ok (TT h) else fault h 91 := by
  unfold over
  simp [hk]
theorem over_17 (D : Ops) (h : Hd) (a b c : T2) (hk : h.kind = 17) (hca : D.ca = true) : over D h a b c = if D.ag a (TT h) = true then (if D.gs (TT h) (UU h) = true then .ok (UU h) else fault h 91) else fault h 91 := by
  unfold over
  simp [hk, hca]
end Cg
end Go.Proofs.YtknhoagicdfikaaGreatDoor
