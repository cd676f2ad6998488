import Derived.Test.YtlfcbmobgbcgnaaGreatDoorM12
import Derived.Test.YtlfcbmobgbcgnaaGreatDoorM13
import Derived.Test.YtlfcbmobgbcgnaaGreatDoorM15
import Derived.Test.YtlfcbmobgbcgnaaGreatDoorDd2
import Derived.ArgAppend
import Derived.Deep.DeepCutAuto
import Derived.Deep.QuietTactic
import Derived.BigQuiet
import Derived.Deep.RegionLaw
import Derived.StillTailTactics
namespace Go.Proofs.YtlfcbmobgbcgnaaGreatDoor
namespace Ck
abbrev T2 := Int × Fo
abbrev Env := List (ByteArray × T2)
inductive R where
 | ok (a : T2)
 | bad (E p : Int) (x : ByteArray)
def e0 : ByteArray := ⟨#[]⟩
def fnd : Env → ByteArray → Option T2
 | [], _ => none
 | b :: l, x => match fnd l x with
  | some a => some a
  | none => if (b.1.toList == x.toList) = true then some b.2 else none
def mk2 (k : Int) (a b : T2) : T2 := (k, .node 0 0 a.1 a.2 (.node 0 0 b.1 b.2 .nil))
def hd0 : Hd := ⟨0, e0, e0, 0, 0, .nil, 0, .nil, 0, 0⟩
def k1 : Tm → Hd × Tm
 | .node h k _ => (h, k)
 | .nil => (hd0, .nil)
def k2 : Tm → Hd × Tm
 | .node _ _ r => k1 r
 | .nil => (hd0, .nil)
def k3 : Tm → Hd × Tm
 | .node _ _ r => k2 r
 | .nil => (hd0, .nil)
def TT (h : Hd) : T2 := (h.tk, h.tkids)
def UU (h : Hd) : T2 := (h.uk, h.ukids)
def chk (a : T2) : Nat := Ty.chk a.1 a.2
def ag (a b : T2) : Bool := Ty.agreeT a.1 a.2 b.1 b.2
def asO (k : Int) (a : T2) : Bool := Ty.asOk k a.1 a.2
def asl (k : Int) (a : T2) : T2 := Ty.asL k a.1 a.2
def asr (k : Int) (a : T2) : T2 := Ty.asR k a.1 a.2
def mt (a b : T2) : T2 := (Ty.mK a.1 b.1, Ty.mT a.1 a.2 b.1 b.2)
def lift (h : Hd) : R → R
 | .ok a => if chk a = 0 then .ok a else .bad (chk a) h.pos e0
 | .bad E p x => .bad E p x
def bnd (r : R) (f : T2 → R) : R := match r with
 | .ok a => f a
 | .bad E p x => .bad E p x
def fault (h : Hd) (E : Int) : R := .bad E h.pos e0
def meet (h : Hd) (a b : T2) : R := if ag a b = true then .ok (mt a b) else fault h 91
def opAns (s : ByteArray) : T2 := if (s.toList == [60] || s.toList == [61]) = true then (2, .nil) else (1, .nil)
def over (h : Hd) (a b c : T2) : R :=
 if h.kind = 6 then (if asO 3 a = true then (if ag b (asl 3 a) = true then .ok (asr 3 a) else fault h 91) else fault h 90)
 else if h.kind = 8 then (if ag a (2, .nil) = true then meet h b c else fault h 91)
 else if h.kind = 9 then .ok (mk2 4 a b)
 else if h.kind = 10 then (if asO 4 a = true then .ok (asl 4 a) else fault h 90)
 else if h.kind = 11 then (if asO 4 a = true then .ok (asr 4 a) else fault h 90)
 else if h.kind = 12 then (if asO 5 (TT h) = true then (if ag a (asl 5 (TT h)) = true then .ok (mk2 5 (asl 5 (TT h)) (asr 5 (TT h))) else fault h 91) else fault h 90)
 else if h.kind = 13 then (if asO 5 (TT h) = true then (if ag a (asr 5 (TT h)) = true then .ok (mk2 5 (asl 5 (TT h)) (asr 5 (TT h))) else fault h 91) else fault h 90)
 else if h.kind = 15 then (if ag a (1, .nil) = true then (if ag b (1, .nil) = true then .ok (opAns h.name) else fault h 91) else fault h 91)
 else (if ag a (TT h) = true then .ok (TT h) else fault h 91)
def raw (F : Hd → Tm → Env → R) (h : Hd) (kids : Tm) (l : Env) : R :=
 if h.kind = 0 then (match fnd l h.name with
  | some a => .ok a
  | none => .bad 41 h.pos h.name)
 else if h.kind = 1 then .ok (1, .nil)
 else if h.kind = 2 ∨ h.kind = 3 then .ok (2, .nil)
 else if h.kind = 4 then bnd (F (k1 kids).1 (k1 kids).2 (l ++ [(h.name, TT h)])) fun b => .ok (mk2 3 (TT h) b)
 else if h.kind = 5 then bnd (F (k1 kids).1 (k1 kids).2 (l ++ [(h.name, mk2 3 (TT h) (UU h)), (h.arg, TT h)])) fun b => if ag b (UU h) = true then .ok (mk2 3 (TT h) (UU h)) else fault h 91
 else if h.kind = 7 then bnd (F (k1 kids).1 (k1 kids).2 l) fun a => if ag a (TT h) = true then F (k2 kids).1 (k2 kids).2 (l ++ [(h.name, TT h)]) else fault h 91
 else if h.kind = 14 then bnd (F (k1 kids).1 (k1 kids).2 l) fun a => if asO 5 a = true then bnd (F (k2 kids).1 (k2 kids).2 (l ++ [(h.name, asl 5 a)])) fun b => bnd (F (k3 kids).1 (k3 kids).2 (l ++ [(h.arg, asr 5 a)])) fun c => meet h b c else fault h 90
 else if h.kind = 6 ∨ h.kind = 9 ∨ h.kind = 15 then bnd (F (k1 kids).1 (k1 kids).2 l) fun a => bnd (F (k2 kids).1 (k2 kids).2 l) fun b => over h a b (0, .nil)
 else if h.kind = 8 then bnd (F (k1 kids).1 (k1 kids).2 l) fun a => bnd (F (k2 kids).1 (k2 kids).2 l) fun b => bnd (F (k3 kids).1 (k3 kids).2 l) fun c => over h a b c
 else bnd (F (k1 kids).1 (k1 kids).2 l) fun a => over h a (0, .nil) (0, .nil)
def ty : Nat → Hd → Tm → Env → R
 | 0, h, _, _ => fault h 0
 | K + 1, h, kids, l => lift h (raw (ty K) h kids l)
theorem qc (K : Nat) (h : Hd) (kids : Tm) (l : Env) : ty (K + 1) h kids l = lift h (raw (ty K) h kids l) := rfl
def castF : Tm → Bool
 | .nil => false
 | .node h kids r => (h.kind == 17) || castF kids || castF r
def castT (h : Hd) (kids : Tm) : Bool := (h.kind == 17) || castF kids
def tell (h : Hd) (kids : Tm) : R :=
 if Tm.chk h kids ≠ 0 then .bad (Tm.chk h kids) 0 e0 else if castT h kids = true then .bad 30 0 e0 else ty (Tm.nodes kids + 1) h kids []
theorem zB6 {h : Hd} {r : R} {a : T2} (e : lift h r = .ok a) : r = .ok a ∧ chk a = 0 := by
 cases r with
 | ok b =>
  simp only [lift] at e
  split at e
  ·injection e with e; subst e; exact ⟨rfl, by assumption⟩
  ·cases e
 | bad _ _ _ => cases e
theorem jY : ∀ {K : Nat} {h : Hd} {kids : Tm} {l : Env} {a : T2}, ty K h kids l = .ok a → chk a = 0
 | 0, _, _, _, _, e => by cases e
 | _ + 1, _, _, _, _, e => (zB6 e).2
end Ck
end Go.Proofs.YtlfcbmobgbcgnaaGreatDoor
namespace Go.Proofs.YtlfcbmobgbcgnaaGreatDoor
set_option maxHeartbeats 2000000
set_option maxRecDepth 100000
open Go.RowKit
namespace Ck
def FltAt (w : World) (g : Nat) (E p : Int) (x : ByteArray) : Prop := w.heap[g]? = some (.cells #[.int .i64 E, .int .i64 p, .string x] 72 (0, 0))
def Gave (w : World) (E p : Int) (x : ByteArray) (e : Ending) (w' : World) : Prop :=
 ∃ g, e = .panicked [{ v := .iface 53 (.pointer (some ⟨g, 0, none⟩)), recovered := false }] ∧ FltAt w' g E p x ∧ w.heap.size ≤ g ∧ Below w.heap.size w w'
theorem Gave.from {w u w' : World} {E p : Int} {x : ByteArray} {e : Ending} (h : Gave u E p x e w') (hb : Below w.heap.size w u) : Gave w E p x e w' := by
 obtain ⟨g, h1, h2, h3, h4⟩ := h
 exact ⟨g, h1, h2, Nat.le_trans hb.size h3, hb.trans (h4.mono hb.size)⟩
def Cut (Q : Nat → Prop) (N M : Nat) (b : Nat) : Prop := (Q b ∧ b < N) ∨ M ≤ b
theorem Cut.in {Q : Nat → Prop} {N M S b : Nat} (hS : M ≤ S) (h : Cut (Cut Q N M) S S b) : Cut Q N M b := by
 rcases h with ⟨h, -⟩ | h
 ·exact h
 ·exact .inr (by omega)
theorem Cut.out {Q : Nat → Prop} {N M b : Nat} (hM : N ≤ M) (h : Cut Q N M b) : Cut Q N N b := by
 rcases h with h | h
 ·exact .inl h
 ·exact .inr (by omega)
theorem Cut.ne {Q : Nat → Prop} {N M b X : Nat} (h : Cut Q N M b) (h1 : N ≤ X) (h2 : X < M) : b ≠ X := by
 rcases h with h | h <;> omega
abbrev Ly (Q : Nat → Prop) (w : World) (a : T2) (G : Option Addr) (m c : Nat) : Prop := Lone Q w a.1 a.2 G m c
theorem Ly.later {Q : Nat → Prop} {w w' : World} {a : T2} {G : Option Addr} {m c : Nat} (h : Ly Q w a G m c) (hb : Below w.heap.size w w') : Ly Q w' a G m c :=
 Lone.to h fun _ _ _ hQ hc => ⟨hQ, by rw [hb.cell (p := ⟨_, _, none⟩) (Ty.zY hc)]; exact hc⟩
theorem Ly.weak {Q Q' : Nat → Prop} {w : World} {a : T2} {G : Option Addr} {m c : Nat} (h : Ly Q w a G m c) (hq : ∀ b, b < w.heap.size → Q b → Q' b) : Ly Q' w a G m c :=
 Lone.to h fun _ _ _ hQ hc => ⟨hq _ (Ty.zY hc) hQ, hc⟩
theorem Ly.set {Q : Nat → Prop} {w : World} {a : T2} {G : Option Addr} {m c : Nat} (h : Ly Q w a G m c) {X : Nat} (hX : ∀ b, Q b → b ≠ X) (o : Nat) (v : Value) : Ly Q (w.setCell ⟨X, o, none⟩ v) a G m c :=
 Lone.to h fun b o' v' hQ hc => ⟨hQ, by rw [World.cell?_setCell_other _ _ _ _ (fun e => hX b hQ (by injection e with e; exact e.symm))]; exact hc⟩
theorem Ly.is {Q : Nat → Prop} {w : World} {a : T2} {G : Option Addr} {m c : Nat} (h : Ly Q w a G m c) : Ty.Is w a.1 a.2 G m c := Lone.is h
theorem Ly.of {w : World} {a : T2} {G : Option Addr} {m c : Nat} (h : Ty.Is w a.1 a.2 G m c) : Ly (fun b => b < w.heap.size) w a G m c :=
 fun _ hu => (h.inP.to (P' := fun _ => True) fun b o v hP hc => ⟨trivial, hu b o v hP hc⟩).is
theorem Ly.zero (Q : Nat → Prop) (w : World) : Ly Q w (0, .nil) none 0 0 := fun _ _ => Ty.zDY _
def Gives (Q : Nat → Prop) (w : World) (a : T2) (e : Ending) (w' : World) : Prop :=
 ∃ G m c, e = .returned (.agg #[.int .i8 a.1, .slice G m c]) ∧ Ly (Cut Q w.heap.size w.heap.size) w' a G m c ∧ Below w.heap.size w w'
def Post (Q : Nat → Prop) (w : World) (r : R) (e : Ending) (w' : World) : Prop := match r with
 | .ok a => Gives Q w a e w'
 | .bad E p x => Gave w E p x e w'
def EFlat (Q : Nat → Prop) (w : World) : Env → List Value → Prop
 | [], [] => True
 | x :: l, a :: b :: c :: xs => (a = .string x.1 ∧ b = .int .i8 x.2.1 ∧ ∃ G m k, c = .slice G m k ∧ Ly Q w x.2 G m k) ∧ EFlat Q w l xs
 | _, _ => False
theorem EFlat.below {Q : Nat → Prop} {w w' : World} (hb : Below w.heap.size w w') : ∀ {l : Env} {xs : List Value}, EFlat Q w l xs → EFlat Q w' l xs
 | [], [], _ => trivial
 | _ :: _, _ :: _ :: _ :: _, ⟨⟨h1, h2, G, m, k, h3, h4⟩, h5⟩ => ⟨⟨h1, h2, G, m, k, h3, h4.later hb⟩, EFlat.below hb h5⟩
 | [], _ :: _, h => h.elim
 | _ :: _, [], h => h.elim
 | _ :: _, [_], h => h.elim
 | _ :: _, [_, _], h => h.elim
theorem EFlat.weak {Q Q' : Nat → Prop} {w : World} (hq : ∀ b, b < w.heap.size → Q b → Q' b) : ∀ {l : Env} {xs : List Value}, EFlat Q w l xs → EFlat Q' w l xs
 | [], [], _ => trivial
 | _ :: _, _ :: _ :: _ :: _, ⟨⟨h1, h2, G, m, k, h3, h4⟩, h5⟩ => ⟨⟨h1, h2, G, m, k, h3, h4.weak hq⟩, EFlat.weak hq h5⟩
 | [], _ :: _, h => h.elim
 | _ :: _, [], h => h.elim
 | _ :: _, [_], h => h.elim
 | _ :: _, [_, _], h => h.elim
theorem EFlat.app {Q : Nat → Prop} {w : World} : ∀ {l : Env} {xs : List Value} {l' : Env} {xs' : List Value}, EFlat Q w l xs → EFlat Q w l' xs' → EFlat Q w (l ++ l') (xs ++ xs')
 | [], [], _, _, _, h => h
 | _ :: _, _ :: _ :: _ :: _, _, _, ⟨h1, h5⟩, h => ⟨h1, EFlat.app h5 h⟩
 | [], _ :: _, _, _, h, _ => h.elim
 | _ :: _, [], _, _, h, _ => h.elim
 | _ :: _, [_], _, _, h, _ => h.elim
 | _ :: _, [_, _], _, _, h, _ => h.elim
theorem EFlat.len {Q : Nat → Prop} {w : World} : ∀ {l : Env} {xs : List Value}, EFlat Q w l xs → xs.length = l.length * 3
 | [], [], _ => rfl
 | _ :: _, _ :: _ :: _ :: _, ⟨_, h5⟩ => by have := EFlat.len h5; simp only [List.length_cons]; omega
 | [], _ :: _, h => h.elim
 | _ :: _, [], h => h.elim
 | _ :: _, [_], h => h.elim
 | _ :: _, [_, _], h => h.elim
theorem EFlat.at {Q : Nat → Prop} {w : World} : ∀ {l : Env} {xs : List Value}, EFlat Q w l xs → ∀ (i : Nat) (x : ByteArray × T2), l[i]? = some x → xs[i * 3]? = some (.string x.1) ∧ xs[i * 3 + 1]? = some (.int .i8 x.2.1) ∧ ∃ G m k, xs[i * 3 + 2]? = some (.slice G m k) ∧ Ly Q w x.2 G m k
 | [], [], _, i, x, h => by simp at h
 | y :: _, _ :: _ :: _ :: _, ⟨⟨h1, h2, G, m, k, h3, h4⟩, h5⟩, i, x, h => by
  cases i with
  | zero =>
   rw [List.getElem?_cons_zero] at h
   injection h with h; subst h
   exact ⟨by simp [h1], by simp [h2], G, m, k, by simp [h3], h4⟩
  | succ i =>
   rw [List.getElem?_cons_succ] at h
   have q := EFlat.at h5 i x h
   rw [show (i + 1) * 3 = i * 3 + 3 by omega, show i * 3 + 3 + 1 = i * 3 + 1 + 3 by omega, show i * 3 + 3 + 2 = i * 3 + 2 + 3 by omega]
   simpa using q
 | [], _ :: _, h, _, _, _ => h.elim
 | _ :: _, [], h, _, _, _ => h.elim
 | _ :: _, [_], h, _, _, _ => h.elim
 | _ :: _, [_, _], h, _, _, _ => h.elim
theorem EFlat.one {Q : Nat → Prop} {w : World} : ∀ {l : Env} {xs : List Value}, EFlat Q w l xs → ∀ u ∈ xs, u.oneCell' = true
 | [], [], _, u, hu => by cases hu
 | _ :: _, _ :: _ :: _ :: _, ⟨⟨h1, h2, G, m, k, h3, _⟩, h5⟩, u, hu => by
  simp only [List.mem_cons] at hu
  rcases hu with rfl | rfl | rfl | hu
  ·rw [h1]; rfl
  ·rw [h2]; rfl
  ·rw [h3]; rfl
  ·exact EFlat.one h5 u hu
 | [], _ :: _, h, _, _ => h.elim
 | _ :: _, [], h, _, _ => h.elim
 | _ :: _, [_], h, _, _ => h.elim
 | _ :: _, [_, _], h, _, _ => h.elim
structure EAt (Q : Nat → Prop) (w : World) (l : Env) (A : Option Addr) (n c : Nat) : Prop where
 n_eq : n = l.length
 n_le : n ≤ c
 c_le : c ≤ maxLen
 nil : A = none → n = 0 ∧ c = 0
 row : ∃ xs, EFlat Q w l xs ∧ ∀ a, A = some a → ∃ b o, a = ⟨b, o, none⟩ ∧ b < w.heap.size ∧ ∀ j u, xs[j]? = some u → w.cell? ⟨b, o + j, none⟩ = some u
theorem EAt.empty (Q : Nat → Prop) (w : World) : EAt Q w [] none 0 0 := ⟨rfl, Nat.le_refl _, Nat.zero_le _, fun _ => ⟨rfl, rfl⟩, [], trivial, fun _ h => by cases h⟩
theorem EAt.weak {Q Q' : Nat → Prop} {w : World} {l : Env} {A : Option Addr} {n c : Nat} (h : EAt Q w l A n c) (hq : ∀ b, b < w.heap.size → Q b → Q' b) : EAt Q' w l A n c := by
 obtain ⟨h1, h2, h3, h4, xs, h5, h6⟩ := h
 exact ⟨h1, h2, h3, h4, xs, h5.weak hq, h6⟩
theorem EAt.below {Q : Nat → Prop} {w w' : World} {l : Env} {A : Option Addr} {n c : Nat} (h : EAt Q w l A n c) (hb : Below w.heap.size w w') : EAt Q w' l A n c := by
 obtain ⟨h1, h2, h3, h4, xs, h5, h6⟩ := h
 refine ⟨h1, h2, h3, h4, xs, h5.below hb, fun a ha => ?_⟩
 obtain ⟨b, o, e, hl, hc⟩ := h6 a ha
 exact ⟨b, o, e, Nat.lt_of_lt_of_le hl hb.size, fun j u hu => by rw [hb.cell (p := ⟨b, o + j, none⟩) hl]; exact hc j u hu⟩
theorem EAt.at {Q : Nat → Prop} {w : World} {l : Env} {A : Option Addr} {n c : Nat} (h : EAt Q w l A n c) {i : Nat} {x : ByteArray × T2} (hx : l[i]? = some x) : ∃ b o G m k, A = some ⟨b, o, none⟩ ∧ w.cell? ⟨b, o + i * 3, none⟩ = some (.string x.1) ∧ w.cell? ⟨b, o + i * 3 + 1, none⟩ = some (.int .i8 x.2.1) ∧ w.cell? ⟨b, o + i * 3 + 2, none⟩ = some (.slice G m k) ∧ Ly Q w x.2 G m k := by
 obtain ⟨h1, h2, h3, h4, xs, h5, h6⟩ := h
 cases A with
 | none =>
  have := (h4 rfl).1
  have hl : i < l.length := by
   rcases Nat.lt_or_ge i l.length with q | q
   ·exact q
   ·rw [List.getElem?_eq_none q] at hx; cases hx
  omega
 | some a =>
  obtain ⟨b, o, rfl, hl, hc⟩ := h6 a rfl
  obtain ⟨q1, q2, G, m, k, q3, q4⟩ := h5.at i x hx
  exact ⟨b, o, G, m, k, rfl, hc _ _ q1, by have := hc _ _ q2; rwa [show o + (i * 3 + 1) = o + i * 3 + 1 by omega] at this, by have := hc _ _ q3; rwa [show o + (i * 3 + 2) = o + i * 3 + 2 by omega] at this, q4⟩
theorem kl_ {Q : Nat → Prop} {w w' : World} {a : T2} {G : Option Addr} {m c : Nat} (h : Hid (Ly Q w a G m c)) (hb : Below w.heap.size w w') : Hid (Ly Q w' a G m c) := Lib.hid (h.out.later hb)
end Ck
theorem vJ (h : Hd) (p : Pl) (E : Int) (w : World) : Calls Tryz.prog 55 #[.agg (tC_ h p), .int .i64 E] w (Ck.Gave w E h.pos Ck.e0) := by
 try unfold tC_
 have hb1 : Below w.heap.size w (w.alloc (.cells (tC_ h p) 28)) := (Below.refl _ _).alloc (Nat.le_refl _) _
 have hb2 := hb1.alloc hb1.size (.cells #[.int .i64 E, .int .i64 h.pos, .string Ck.e0] 72)
 obtain ⟨q0, q1, q2, q3, q4, q5, q6, q7, q8, q9, q10, ql⟩ := zI (zD w (.cells (tC_ h p) 28))
 have HP := k0_ (show Ck.Gave w E h.pos Ck.e0 (.panicked [{ v := .iface 53 (.pointer (some ⟨w.heap.size + 1, 0, none⟩)), recovered := false }]) _ from ⟨w.heap.size + 1, rfl, jr w _ _, by omega, hb2⟩)
 clear hb1 hb2
 go_enter Tryz.func55, Tryz.ntmps55
 go_wp2_with fail
 exact ⟨rfl, HP.out⟩
theorem qM (k : Int) (A : Option Addr) (n c : Nat) (w : World) : Calls Tryz.prog 53 #[.int .i8 k, .slice A n c] w fun e w' => e = .returned (.agg #[.int .i8 k, .slice A n c]) ∧ Below w.heap.size w w' := by
 have HB := k0_ ((Below.refl w.heap.size w).alloc (Nat.le_refl _) (.cells #[.int .i8 k, .slice A n c] 25))
 go_enter Tryz.func53, Tryz.ntmps53
 go_wp2_with fail
 refine bodyPost_ret (v := .agg #[.int .i8 k, .slice A n c]) (by simp [results, Tryz.results53, go_sem, *]) rfl ⟨rfl, HB.out⟩
theorem wB : (Tryz.prog.info? 119).map (fun i => (i.zero, i.size, i.bytes)) = some (some (.agg #[.string ⟨#[]⟩, .int .i8 0, .slice none 0 0]), 3, 48) := by kernel_rfl
theorem Ck.EAt.end {Q : Nat → Prop} {w w1 : World} {l : Ck.Env} {xs : List Value} {base : Nat} {v : Value} {n : Nat} (hn : n = l.length) (hn0 : 0 < n) (hE : Ck.EFlat Q w l xs) (hw : Below w.heap.size w w1) (hown : w1.ownsRow base 119 3 v n xs) :
  ∃ G k, v = .slice G n k ∧ Ck.EAt Q w1 l G n k := by
 exact zFh
theorem jI (Q : Nat → Prop) (l l' : Ck.Env) (A : Option Addr) (n c : Nat) (Y m c' : Nat) (w : World) (hE : Ck.EAt Q w l A n c) (hE' : Ck.EAt Q w l' (some ⟨Y, 0, none⟩) m c') (hm : 0 < m) (hb : n + m ≤ 20000) :
  Calls Tryz.prog 88 #[.slice A n c, .slice (some ⟨Y, 0, none⟩) m c'] w fun e w' => ∃ G k, e = .returned (.slice G (n + m) k) ∧ Ck.EAt Q w' (l ++ l') G (n + m) k ∧ Below w.heap.size w w' := by
 obtain ⟨e1, e2, e3, e4, xs, e5, e6⟩ := hE
 obtain ⟨d1, d2, d3, -, ys, d5, d6⟩ := hE'
 obtain ⟨b', o', he, hlt', hc'⟩ := d6 _ rfl
 injection he with he1 he2 he3
 subst he1 he2
 obtain ⟨i0, hi, hz1, hz2, hz3⟩ := info_parts wB
 have hlx := e5.len
 have hly := d5.len
 rw [← e1] at hlx
 rw [← d1] at hly
 have hcy : ∀ j u, ys[j]? = some u → w.cell? ((⟨Y, 0, none⟩ : Addr).add j) = some u := fun j u hu => by
  have : (⟨Y, 0, none⟩ : Addr).add j = ⟨Y, 0 + j, none⟩ := by unfold Addr.add; by_cases h : j = 0 <;> simp [h]
  rw [this]; exact hc' j u hu
 have h1c := d5.one
 have HFIN := k0_ (fun (v : Value) (w1 : World) (hown : w1.ownsRow w.heap.size 119 3 v (n + m) (xs ++ ys)) (hg : w.grownBy w1 none) => (show ∃ G k, v = .slice G (n + m) k ∧ Ck.EAt Q w1 (l ++ l') G (n + m) k ∧ Below w.heap.size w w1 by
  have hbw : Below w.heap.size w w1 := (Below.refl _ _).grown hg (Nat.le_refl _) fun k hk => by cases hk
  obtain ⟨G, k, h1, h2⟩ := Ck.EAt.end (by rw [List.length_append, ← e1, ← d1]) (by omega) (e5.app d5) hbw hown
  exact ⟨G, k, h1, h2, hbw⟩))
 cases A with
 | none =>
  obtain ⟨h0, h00⟩ := e4 rfl
  clear e1 d1 e5 d5 e6 hc' e4 d6
  subst h0 h00
  go_enter Tryz.func88, Tryz.ntmps88
  go_wp2_with (first | (at_builtin; refine wpList_append_grows _ rfl (.tmp 10) (.tmp 11) 80 rfl 119 i0 (.agg #[.string ⟨#[]⟩, .int .i8 0, .slice none 0 0]) 3 48 Tryz.underlying80 hi hz1 hz2 hz3 rfl (by decide) none 0 0 xs rfl (fun _ => ⟨rfl, rfl⟩) hlx (fun _ h => by cases h) ⟨Y, 0, none⟩ m c' ys rfl hly hcy h1c ?_ ?_ ?_ ?_))
  ·unfold maxLen; omega
  ·omega
  ·exact zFW
 | some a =>
  obtain ⟨b, o, rfl, hbl, hcx0⟩ := e6 a rfl
  have hcx : ∀ b', some (⟨b, o, none⟩ : Addr) = some b' → ∀ j u, xs[j]? = some u → w.cell? (b'.add j) = some u := fun b' hb' j u hu => by
   injection hb' with hb'
   subst hb'
   have : (⟨b, o, none⟩ : Addr).add j = ⟨b, o + j, none⟩ := by unfold Addr.add; by_cases h : j = 0 <;> simp [h]
   rw [this]; exact hcx0 j u hu
  have hnc : (n : Int) ≤ c := by omega
  have hnn : (0 : Int) ≤ n := by omega
  clear e1 d1 e5 d5 e6 hc' e4 d6 hcx0
  go_enter Tryz.func88, Tryz.ntmps88
  go_wp2_with (first | (at_builtin; refine wpList_append_grows _ rfl (.tmp 10) (.tmp 11) 80 rfl 119 i0 (.agg #[.string ⟨#[]⟩, .int .i8 0, .slice none 0 0]) 3 48 Tryz.underlying80 hi hz1 hz2 hz3 rfl (by decide) (some ⟨b, o, none⟩) n n xs rfl (fun h => by cases h) hlx hcx ⟨Y, 0, none⟩ m c' ys rfl hly hcy h1c ?_ ?_ ?_ ?_))
  ·unfold maxLen; omega
  ·omega
  ·exact zFW
end Go.Proofs.YtlfcbmobgbcgnaaGreatDoor
namespace Go.Proofs.YtlfcbmobgbcgnaaGreatDoor
namespace Cg
open Ck
structure Ops where
 ag : T2 → T2 → Bool
 asO : Int → T2 → Bool
 asl : Int → T2 → T2
 asr : Int → T2 → T2
 mt : T2 → T2 → T2
def meet (D : Ops) (h : Hd) (a b : T2) : R := if D.ag a b = true then .ok (D.mt a b) else fault h 91
def over (D : Ops) (h : Hd) (a b c : T2) : R :=
 if h.kind = 6 then (if D.asO 3 a = true then (if D.ag b (D.asl 3 a) = true then .ok (D.asr 3 a) else fault h 91) else fault h 90)
 else if h.kind = 8 then (if D.ag a (2, .nil) = true then meet D h b c else fault h 91)
 else if h.kind = 9 then .ok (mk2 4 a b)
 else if h.kind = 10 then (if D.asO 4 a = true then .ok (D.asl 4 a) else fault h 90)
 else if h.kind = 11 then (if D.asO 4 a = true then .ok (D.asr 4 a) else fault h 90)
 else if h.kind = 12 then (if D.asO 5 (TT h) = true then (if D.ag a (D.asl 5 (TT h)) = true then .ok (mk2 5 (D.asl 5 (TT h)) (D.asr 5 (TT h))) else fault h 91) else fault h 90)
 else if h.kind = 13 then (if D.asO 5 (TT h) = true then (if D.ag a (D.asr 5 (TT h)) = true then .ok (mk2 5 (D.asl 5 (TT h)) (D.asr 5 (TT h))) else fault h 91) else fault h 90)
 else if h.kind = 15 then (if D.ag a (1, .nil) = true then (if D.ag b (1, .nil) = true then .ok (opAns h.name) else fault h 91) else fault h 91)
 else (if D.ag a (TT h) = true then .ok (TT h) else fault h 91)
def raw (D : Ops) (F : Hd → Tm → Env → R) (h : Hd) (kids : Tm) (l : Env) : R :=
 if h.kind = 0 then (match fnd l h.name with
  | some a => .ok a
  | none => .bad 41 h.pos h.name)
 else if h.kind = 1 then .ok (1, .nil)
 else if h.kind = 2 ∨ h.kind = 3 then .ok (2, .nil)
 else if h.kind = 4 then bnd (F (k1 kids).1 (k1 kids).2 (l ++ [(h.name, TT h)])) fun b => .ok (mk2 3 (TT h) b)
 else if h.kind = 5 then bnd (F (k1 kids).1 (k1 kids).2 (l ++ [(h.name, mk2 3 (TT h) (UU h)), (h.arg, TT h)])) fun b => if D.ag b (UU h) = true then .ok (mk2 3 (TT h) (UU h)) else fault h 91
 else if h.kind = 7 then bnd (F (k1 kids).1 (k1 kids).2 l) fun a => if D.ag a (TT h) = true then F (k2 kids).1 (k2 kids).2 (l ++ [(h.name, TT h)]) else fault h 91
 else if h.kind = 14 then bnd (F (k1 kids).1 (k1 kids).2 l) fun a => if D.asO 5 a = true then bnd (F (k2 kids).1 (k2 kids).2 (l ++ [(h.name, D.asl 5 a)])) fun b => bnd (F (k3 kids).1 (k3 kids).2 (l ++ [(h.arg, D.asr 5 a)])) fun c => meet D h b c else fault h 90
 else if h.kind = 6 ∨ h.kind = 9 ∨ h.kind = 15 then bnd (F (k1 kids).1 (k1 kids).2 l) fun a => bnd (F (k2 kids).1 (k2 kids).2 l) fun b => over D h a b (0, .nil)
 else if h.kind = 8 then bnd (F (k1 kids).1 (k1 kids).2 l) fun a => bnd (F (k2 kids).1 (k2 kids).2 l) fun b => bnd (F (k3 kids).1 (k3 kids).2 l) fun c => over D h a b c
 else bnd (F (k1 kids).1 (k1 kids).2 l) fun a => over D h a (0, .nil) (0, .nil)
def ty (D : Ops) : Nat → Hd → Tm → Env → R
 | 0, h, _, _ => fault h 0
 | K + 1, h, kids, l => lift h (raw D (ty D K) h kids l)
theorem qc (D : Ops) (K : Nat) (h : Hd) (kids : Tm) (l : Env) : ty D (K + 1) h kids l = lift h (raw D (ty D K) h kids l) := rfl
theorem jY {D : Ops} : ∀ {K : Nat} {h : Hd} {kids : Tm} {l : Env} {a : T2}, ty D K h kids l = .ok a → chk a = 0
 | 0, _, _, _, _, e => by cases e
 | _ + 1, _, _, _, _, e => (zB6 e).2
end Cg
end Go.Proofs.YtlfcbmobgbcgnaaGreatDoor
namespace Go.Proofs.YtlfcbmobgbcgnaaGreatDoor
open Go.RowKit
namespace Cg
open Ck
def AsPost (Q : Nat → Prop) (w : World) (ok : Bool) (l r : T2) (e : Ending) (w' : World) : Prop :=
 ∃ G1 m1 c1 G2 m2 c2, e = .returned (.tuple #[.agg #[.int .i8 l.1, .slice G1 m1 c1], .agg #[.int .i8 r.1, .slice G2 m2 c2], .bool ok]) ∧ Ly (Cut Q w.heap.size w.heap.size) w' l G1 m1 c1 ∧ Ly (Cut Q w.heap.size w.heap.size) w' r G2 m2 c2 ∧ Below w.heap.size w w'
def RefPost (w : World) (r : Option (Int × Int)) (e : Ending) (w' : World) : Prop := match r with
 | none => e = .returned (.pointer none) ∧ Below w.heap.size w w'
 | some x => ∃ g, e = .returned (.pointer (some ⟨g, 0, none⟩)) ∧ FltAt w' g x.1 x.2 e0 ∧ w.heap.size ≤ g ∧ Below w.heap.size w w'
structure Rv where
 fr : FuncId
 fa : FuncId
 fm : FuncId
 ft : FuncId
 D : Ops
 ref : Hd → Tm → Option (Int × Int)
 cfr : ∀ (args : Array Value) (W : World), (callFunc fr args).run Tryz.prog W = .ok (.enter fr args) W
 cfa : ∀ (args : Array Value) (W : World), (callFunc fa args).run Tryz.prog W = .ok (.enter fa args) W
 cfm : ∀ (args : Array Value) (W : World), (callFunc fm args).run Tryz.prog W = .ok (.enter fm args) W
 cft : ∀ (args : Array Value) (W : World), (callFunc ft args).run Tryz.prog W = .ok (.enter ft args) W
 agC : ∀ (k : Int) (kids : Fo) (A : Option Addr) (n c : Nat) (k' : Int) (kids' : Fo) (A' : Option Addr) (n' c' : Nat) (w : World), Ty.Is w k kids A n c → Ty.Is w k' kids' A' n' c' → Shapes w →
  Calls Tryz.prog fa #[.agg #[.int .i8 k, .slice A n c], .agg #[.int .i8 k', .slice A' n' c']] w fun e w' => e = .returned (.bool (D.ag (k, kids) (k', kids'))) ∧ Below w.heap.size w w'
 asC : ∀ (Q : Nat → Prop) (kd : Int) (a : T2) (A : Option Addr) (n c : Nat) (w : World), 3 ≤ kd ∧ kd ≤ 5 → Ly Q w a A n c → Ty.okT a.1 a.2 = true → Shapes w →
  Calls Tryz.prog fm #[.int .i8 kd, .agg #[.int .i8 a.1, .slice A n c]] w (AsPost Q w (D.asO kd a) (D.asl kd a) (D.asr kd a))
 mtC : ∀ (Q : Nat → Prop) (a : T2) (A : Option Addr) (n c : Nat) (b : T2) (A' : Option Addr) (n' c' : Nat) (w : World), Ly Q w a A n c → Ly Q w b A' n' c' → D.ag a b = true → Shapes w →
  Calls Tryz.prog ft #[.agg #[.int .i8 a.1, .slice A n c], .agg #[.int .i8 b.1, .slice A' n' c']] w (Gives Q w (D.mt a b))
 refC : ∀ (h : Hd) (kids : Tm) (p : Pl) (w : World), Tm.Is w h kids p → TGlob w →
  Calls Tryz.prog fr #[.agg (tC_ h p)] w (RefPost w (ref h kids))
end Cg
abbrev rF_ (rv : Cg.Rv) : Array Value := #[.func (Fn.func rv.fr) #[] #[], .func (Fn.func rv.fa) #[] #[], .func (Fn.func rv.fm) #[] #[], .func (Fn.func rv.ft) #[] #[]]
end Go.Proofs.YtlfcbmobgbcgnaaGreatDoor
namespace Go.Proofs.YtlfcbmobgbcgnaaGreatDoor
set_option maxHeartbeats 2000000
set_option maxRecDepth 100000
open Go.RowKit
theorem zS (w : World) (a : Obj) : Below w.heap.size w (w.alloc a) := (Below.refl _ _).alloc (Nat.le_refl _) _
theorem zX (w : World) (a b : Obj) : Below w.heap.size w ((w.alloc a).alloc b) := (zS w a).alloc (by simp) _
theorem qV (w : World) (a b c : Obj) : Below w.heap.size w (((w.alloc a).alloc b).alloc c) := (zX w a b).alloc (by simp; omega) _
theorem jT (w : World) (a b c d : Obj) : Below w.heap.size w ((((w.alloc a).alloc b).alloc c).alloc d) := (qV w a b c).alloc (by simp; omega) _
theorem vU (w : World) (a b c d e : Obj) : Below w.heap.size w (((((w.alloc a).alloc b).alloc c).alloc d).alloc e) := (jT w a b c d).alloc (by simp; omega) _
theorem zT (w : World) (a b : Obj) : ((w.alloc a).alloc b).heap[w.heap.size]? = some a ∧ ((w.alloc a).alloc b).heap[w.heap.size + 1]? = some b := ⟨zH (zD w a) b, jr w a b⟩
theorem qi (w : World) (a b c : Obj) : (((w.alloc a).alloc b).alloc c).heap[w.heap.size]? = some a ∧ (((w.alloc a).alloc b).alloc c).heap[w.heap.size + 1]? = some b ∧ (((w.alloc a).alloc b).alloc c).heap[w.heap.size + 1 + 1]? = some c := by
 obtain ⟨h1, h2⟩ := zT w a b
 refine ⟨zH h1 c, zH h2 c, ?_⟩
 have := zD ((w.alloc a).alloc b) c
 simpa using this
theorem jv (w : World) (a b c d : Obj) : ((((w.alloc a).alloc b).alloc c).alloc d).heap[w.heap.size]? = some a ∧ ((((w.alloc a).alloc b).alloc c).alloc d).heap[w.heap.size + 1]? = some b ∧ ((((w.alloc a).alloc b).alloc c).alloc d).heap[w.heap.size + 1 + 1]? = some c ∧ ((((w.alloc a).alloc b).alloc c).alloc d).heap[w.heap.size + 1 + 1 + 1]? = some d := by
 obtain ⟨h1, h2, h3⟩ := qi w a b c
 refine ⟨zH h1 d, zH h2 d, zH h3 d, ?_⟩
 have := zD (((w.alloc a).alloc b).alloc c) d
 simpa using this
theorem wC (w : World) (a b c d e : Obj) : (((((w.alloc a).alloc b).alloc c).alloc d).alloc e).heap[w.heap.size]? = some a ∧ (((((w.alloc a).alloc b).alloc c).alloc d).alloc e).heap[w.heap.size + 1]? = some b ∧ (((((w.alloc a).alloc b).alloc c).alloc d).alloc e).heap[w.heap.size + 1 + 1]? = some c ∧ (((((w.alloc a).alloc b).alloc c).alloc d).alloc e).heap[w.heap.size + 1 + 1 + 1]? = some d ∧ (((((w.alloc a).alloc b).alloc c).alloc d).alloc e).heap[w.heap.size + 1 + 1 + 1 + 1]? = some e := by
 obtain ⟨h1, h2, h3, h4⟩ := jv w a b c d
 refine ⟨zH h1 e, zH h2 e, zH h3 e, zH h4 e, ?_⟩
 have := zD ((((w.alloc a).alloc b).alloc c).alloc d) e
 simpa using this
theorem qP (w : World) (a b c : Obj) : ∃ w1, w1 = ((w.alloc a).alloc b).alloc c ∧ Below w.heap.size w w1 ∧ w1.heap[w.heap.size]? = some a ∧ w1.heap[w.heap.size + 1]? = some b ∧ w1.heap[w.heap.size + 1 + 1]? = some c ∧ w1.heap.size = w.heap.size + 3 :=
 ⟨_, rfl, qV w a b c, (qi w a b c).1, (qi w a b c).2.1, (qi w a b c).2.2, by simp⟩
theorem yN (rv : Cg.Rv) (h : Hd) (p : Pl) (k : Int) (kids : Fo) (A : Option Addr) (n c : Nat) (k' : Int) (kids' : Fo) (A' : Option Addr) (n' c' : Nat) (w : World) (hIs : Ty.Is w k kids A n c) (hIs' : Ty.Is w k' kids' A' n' c') (hS : Shapes w) (hag : rv.D.ag (k, kids) (k', kids') = true) :
  Calls Tryz.prog 125 #[.agg (rF_ rv), .agg (tC_ h p), .agg #[.int .i8 k, .slice A n c], .agg #[.int .i8 k', .slice A' n' c']] w fun e w' => e = .returned (.tuple #[]) ∧ Below w.heap.size w w' := by
 try unfold tC_
 try unfold rF_
 have hcf := rv.cfa
 have CA := k0_ (fun (W : World) (hb : Below w.heap.size w W) => rv.agC k kids A n c k' kids' A' n' c' W (hIs.below hb) (hIs'.below hb) (hS.below hb))
 rw [hag] at CA
 have HB4 := k0_ (jT w (.cells (rF_ rv) 45) (.cells (tC_ h p) 28) (.cells #[.int .i8 k, .slice A n c] 25) (.cells #[.int .i8 k', .slice A' n' c'] 25))
 obtain ⟨-, h1, -, -⟩ := jv w (.cells (rF_ rv) 45) (.cells (tC_ h p) 28) (.cells #[.int .i8 k, .slice A n c] 25) (.cells #[.int .i8 k', .slice A' n' c'] 25)
 have H1 := k0_ h1
 clear hIs hIs' hS hag h1
 go_enter Tryz.func125, Tryz.ntmps125
 go_wp2_with fail
 refine (CA.out _ HB4.out).mono ?_
 rintro e w5 ⟨rfl, hb5⟩
 have HB5 := kt_ HB4 hb5
 clear hb5
 go_wp2_with fail
 go_end0
 exact ⟨rfl, HB5.out⟩
theorem xD (rv : Cg.Rv) (h : Hd) (p : Pl) (k : Int) (kids : Fo) (A : Option Addr) (n c : Nat) (k' : Int) (kids' : Fo) (A' : Option Addr) (n' c' : Nat) (w : World) (hIs : Ty.Is w k kids A n c) (hIs' : Ty.Is w k' kids' A' n' c') (hS : Shapes w) (hag : rv.D.ag (k, kids) (k', kids') = false) :
  Calls Tryz.prog 125 #[.agg (rF_ rv), .agg (tC_ h p), .agg #[.int .i8 k, .slice A n c], .agg #[.int .i8 k', .slice A' n' c']] w (Ck.Gave w 91 h.pos Ck.e0) := by
 try unfold tC_
 try unfold rF_
 have hcf := rv.cfa
 have CA := k0_ (fun (W : World) (hb : Below w.heap.size w W) => rv.agC k kids A n c k' kids' A' n' c' W (hIs.below hb) (hIs'.below hb) (hS.below hb))
 rw [hag] at CA
 have HB4 := k0_ (jT w (.cells (rF_ rv) 45) (.cells (tC_ h p) 28) (.cells #[.int .i8 k, .slice A n c] 25) (.cells #[.int .i8 k', .slice A' n' c'] 25))
 obtain ⟨-, h1, -, -⟩ := jv w (.cells (rF_ rv) 45) (.cells (tC_ h p) 28) (.cells #[.int .i8 k, .slice A n c] 25) (.cells #[.int .i8 k', .slice A' n' c'] 25)
 have H1 := k0_ h1
 clear hIs hIs' hS hag h1
 go_enter Tryz.func125, Tryz.ntmps125
 go_wp2_with fail
 refine (CA.out _ HB4.out).mono ?_
 rintro e w5 ⟨rfl, hb5⟩
 have HB5 := kt_ HB4 hb5
 obtain ⟨q0, q1, q2, q3, q4, q5, q6, q7, q8, q9, q10, ql⟩ := zI (zA hb5 (zC H1.out) H1.out)
 have HF := k0_ (vJ h p 91 w5)
 clear hb5
 go_wp2_with fail
 refine HF.out.mono ?_
 rintro e w6 hg
 have HG := k0_ (Ck.Gave.from hg HB5.out)
 obtain ⟨g, rfl, -⟩ := hg
 go_wp2_with fail
 exact ⟨rfl, HG.out⟩
theorem zM {u : World} {X : Nat} {x0 x1 : Value} {t : TypeId} (h : u.heap[X]? = some (.cells #[x0, x1] t (0, 0))) (a b : Value) : ((u.setCell ⟨X, 0, none⟩ a).setCell ⟨X, 1, none⟩ b).heap[X]? = some (.cells #[a, b] t (0, 0)) := by
 simp [World.setCell, Array.getElem?_modify, h]
theorem zK {u : World} {X Y : Nat} {o : Obj} (h : u.heap[Y]? = some o) (hne : X ≠ Y) (a b : Value) : ((u.setCell ⟨X, 0, none⟩ a).setCell ⟨X, 1, none⟩ b).heap[Y]? = some o := by
 simp [World.setCell, Array.getElem?_modify, h, hne]
theorem zG {N X : Nat} {w u : World} (h : Below N w u) (hX : N ≤ X) (a b : Value) : Below N w ((u.setCell ⟨X, 0, none⟩ a).setCell ⟨X, 1, none⟩ b) := (h.setCell (p := ⟨X, 0, none⟩) hX _).setCell (p := ⟨X, 1, none⟩) hX _
theorem Ck.Ly.set2 {Q : Nat → Prop} {w : World} {a : Ck.T2} {G : Option Addr} {m c : Nat} (h : Ck.Ly Q w a G m c) {X : Nat} (hX : ∀ b, Q b → b ≠ X) (v0 v1 : Value) : Ck.Ly Q ((w.setCell ⟨X, 0, none⟩ v0).setCell ⟨X, 1, none⟩ v1) a G m c := (h.set hX _ _).set hX _ _
def AsPost2 (Q : Nat → Prop) (w : World) (l r : Ck.T2) (e : Ending) (w' : World) : Prop :=
 ∃ G1 m1 c1 G2 m2 c2, e = .returned (.tuple #[.agg #[.int .i8 l.1, .slice G1 m1 c1], .agg #[.int .i8 r.1, .slice G2 m2 c2]]) ∧ Ck.Ly (Ck.Cut Q w.heap.size w.heap.size) w' l G1 m1 c1 ∧ Ck.Ly (Ck.Cut Q w.heap.size w.heap.size) w' r G2 m2 c2 ∧ Below w.heap.size w w'
theorem uQ (rv : Cg.Rv) (Q : Nat → Prop) (h : Hd) (p : Pl) (kd : Int) (a : Ck.T2) (A : Option Addr) (n c : Nat) (w : World) (hkd : 3 ≤ kd ∧ kd ≤ 5) (hL : Ck.Ly Q w a A n c) (hok : Ty.okT a.1 a.2 = true) (hS : Shapes w) (hag : rv.D.asO kd a = true) :
  Calls Tryz.prog 126 #[.agg (rF_ rv), .agg (tC_ h p), .int .i8 kd, .agg #[.int .i8 a.1, .slice A n c]] w (AsPost2 Q w (rv.D.asl kd a) (rv.D.asr kd a)) := by
 try unfold tC_
 try unfold rF_
 have hcf := rv.cfm
 have CA := k0_ (fun (W : World) (hb : Below w.heap.size w W) => rv.asC (fun b => Q b ∧ b < w.heap.size) kd a A n c W hkd ((hL.weak (fun b hl hq => ⟨hq, hl⟩)).later hb) hok (hS.below hb))
 rw [hag] at CA
 have HB5 := k0_ (vU w (.cells (rF_ rv) 45) (.cells (tC_ h p) 28) (.cells #[.int .i8 a.1, .slice A n c] 25) (.cells #[.int .i8 0, .slice none 0 0] 25) (.cells #[.int .i8 0, .slice none 0 0] 25))
 obtain ⟨-, h1, -, h3, h4⟩ := wC w (.cells (rF_ rv) 45) (.cells (tC_ h p) 28) (.cells #[.int .i8 a.1, .slice A n c] 25) (.cells #[.int .i8 0, .slice none 0 0] 25) (.cells #[.int .i8 0, .slice none 0 0] 25)
 have H1 := k0_ h1
 have H3 := k0_ h3
 have H4 := k0_ h4
 clear hL hok hS hag h1 h3 h4
 go_enter Tryz.func126, Tryz.ntmps126
 go_wp2_with fail
 refine (CA.out _ HB5.out).mono ?_
 rintro e w5 ⟨G1, m1, c1, G2, m2, c2, rfl, hI1, hI2, hb5⟩
 have HB6 := kt_ HB5 hb5
 obtain ⟨q0, q1, q2, q3, q4, q5, q6, q7, q8, q9, q10, ql⟩ := zI (zA hb5 (zC H1.out) H1.out)
 obtain ⟨x0, x1, f0, f1, xl⟩ := zF (zA hb5 (zC H3.out) H3.out)
 obtain ⟨y0, y1, f2, f3, yl⟩ := zF (zA hb5 (zC H4.out) H4.out)
 have HI1 := k0_ (Ck.Ly.weak (Q' := Ck.Cut Q w.heap.size (w.heap.size + 5)) (a := rv.D.asl kd a) (w := w5) hI1 (fun b _ h => Or.elim h (fun h => .inl h.1) (fun h => .inr (by simp at h; omega))))
 have HI2 := k0_ (Ck.Ly.weak (Q' := Ck.Cut Q w.heap.size (w.heap.size + 5)) (a := rv.D.asr kd a) (w := w5) hI2 (fun b _ h => Or.elim h (fun h => .inl h.1) (fun h => .inr (by simp at h; omega))))
 have hsz := hb5.size
 simp only [World.size_alloc] at hsz
 clear hI1 hI2
 have hN3 : ∀ b, Ck.Cut Q w.heap.size (w.heap.size + 5) b → b ≠ w.heap.size + 1 + 1 + 1 := fun b h => h.ne (by omega) (by omega)
 have hN4 : ∀ b, Ck.Cut Q w.heap.size (w.heap.size + 5) b → b ≠ w.heap.size + 1 + 1 + 1 + 1 := fun b h => h.ne (by omega) (by omega)
 have hW : ∀ b, Ck.Cut Q w.heap.size (w.heap.size + 5) b → Ck.Cut Q w.heap.size w.heap.size b := fun b h => h.out (by omega)
 have HNN := k0_ (And.intro hN3 (And.intro hN4 hW))
 clear hN3 hN4 hW
 have H3 := k0_ (zK (zM (zA hb5 (zC H3.out) H3.out) (.int .i8 (rv.D.asl kd a).1) (.slice G1 m1 c1)) (show w.heap.size + 1 + 1 + 1 + 1 ≠ w.heap.size + 1 + 1 + 1 by omega) (.int .i8 (rv.D.asr kd a).1) (.slice G2 m2 c2))
 have H4 := k0_ (zM (zK (zA hb5 (zC H4.out) H4.out) (show w.heap.size + 1 + 1 + 1 ≠ w.heap.size + 1 + 1 + 1 + 1 by omega) (.int .i8 (rv.D.asl kd a).1) (.slice G1 m1 c1)) (.int .i8 (rv.D.asr kd a).1) (.slice G2 m2 c2))
 have HJ1 := k0_ ((HI1.out.set2 HNN.out.1 (.int .i8 (rv.D.asl kd a).1) (.slice G1 m1 c1)).set2 HNN.out.2.1 (.int .i8 (rv.D.asr kd a).1) (.slice G2 m2 c2))
 have HJ2 := k0_ ((HI2.out.set2 HNN.out.1 (.int .i8 (rv.D.asl kd a).1) (.slice G1 m1 c1)).set2 HNN.out.2.1 (.int .i8 (rv.D.asr kd a).1) (.slice G2 m2 c2))
 have HB7 := k0_ (zG (zG HB6.out (show w.heap.size ≤ w.heap.size + 1 + 1 + 1 by omega) (.int .i8 (rv.D.asl kd a).1) (.slice G1 m1 c1)) (show w.heap.size ≤ w.heap.size + 1 + 1 + 1 + 1 by omega) (.int .i8 (rv.D.asr kd a).1) (.slice G2 m2 c2))
 clear hb5
 go_upto_region 2 with fail
 generalize (((w5.setCell ⟨w.heap.size + 1 + 1 + 1, 0, none⟩ (.int .i8 (rv.D.asl kd a).1)).setCell ⟨w.heap.size + 1 + 1 + 1, 1, none⟩ (.slice G1 m1 c1)).setCell ⟨w.heap.size + 1 + 1 + 1 + 1, 0, none⟩ (.int .i8 (rv.D.asr kd a).1)).setCell ⟨w.heap.size + 1 + 1 + 1 + 1, 1, none⟩ (.slice G2 m2 c2) = w6 at *
 clear x0 x1 f0 f1 xl y0 y1 f2 f3 yl q0 q1 q2 q3 q4 q5 q6 q7 q8 q9 q10 ql HI1 HI2 HB6
 obtain ⟨x0, x1, f0, f1, xl⟩ := zF H3.out
 obtain ⟨y0, y1, f2, f3, yl⟩ := zF H4.out
 go_wp2_with fail
 go_region
 have H3 : Hid ((((((w6.setCell ⟨w.heap.size + 1 + 1 + 1, 0, none⟩ (.int .i8 (rv.D.asl kd a).1)).setCell ⟨w.heap.size + 1 + 1 + 1, 1, none⟩ (.slice G1 m1 c1)).setCell ⟨w.heap.size + 1 + 1 + 1 + 1, 0, none⟩ (.int .i8 (rv.D.asr kd a).1)).setCell ⟨w.heap.size + 1 + 1 + 1 + 1, 1, none⟩ (.slice G2 m2 c2)).drew).heap[w.heap.size + 1 + 1 + 1]? = some (.cells #[.int .i8 (rv.D.asl kd a).1, .slice G1 m1 c1] 25 (0, 0))) := k0_ (zK (zM H3.out _ _) (by omega) _ _)
 have H4 : Hid ((((((w6.setCell ⟨w.heap.size + 1 + 1 + 1, 0, none⟩ (.int .i8 (rv.D.asl kd a).1)).setCell ⟨w.heap.size + 1 + 1 + 1, 1, none⟩ (.slice G1 m1 c1)).setCell ⟨w.heap.size + 1 + 1 + 1 + 1, 0, none⟩ (.int .i8 (rv.D.asr kd a).1)).setCell ⟨w.heap.size + 1 + 1 + 1 + 1, 1, none⟩ (.slice G2 m2 c2)).drew).heap[w.heap.size + 1 + 1 + 1 + 1]? = some (.cells #[.int .i8 (rv.D.asr kd a).1, .slice G2 m2 c2] 25 (0, 0))) := k0_ (zM (zK H4.out (by omega) _ _) _ _)
 have HJ1 : Hid (Ck.Ly (Ck.Cut Q w.heap.size (w.heap.size + 5)) (((((w6.setCell ⟨w.heap.size + 1 + 1 + 1, 0, none⟩ (.int .i8 (rv.D.asl kd a).1)).setCell ⟨w.heap.size + 1 + 1 + 1, 1, none⟩ (.slice G1 m1 c1)).setCell ⟨w.heap.size + 1 + 1 + 1 + 1, 0, none⟩ (.int .i8 (rv.D.asr kd a).1)).setCell ⟨w.heap.size + 1 + 1 + 1 + 1, 1, none⟩ (.slice G2 m2 c2)).drew) (rv.D.asl kd a) G1 m1 c1) := k0_ (((HJ1.out.set2 HNN.out.1 _ _).set2 HNN.out.2.1 _ _).later (Below.refl _ _).drew)
 have HJ2 : Hid (Ck.Ly (Ck.Cut Q w.heap.size (w.heap.size + 5)) (((((w6.setCell ⟨w.heap.size + 1 + 1 + 1, 0, none⟩ (.int .i8 (rv.D.asl kd a).1)).setCell ⟨w.heap.size + 1 + 1 + 1, 1, none⟩ (.slice G1 m1 c1)).setCell ⟨w.heap.size + 1 + 1 + 1 + 1, 0, none⟩ (.int .i8 (rv.D.asr kd a).1)).setCell ⟨w.heap.size + 1 + 1 + 1 + 1, 1, none⟩ (.slice G2 m2 c2)).drew) (rv.D.asr kd a) G2 m2 c2) := k0_ (((HJ2.out.set2 HNN.out.1 _ _).set2 HNN.out.2.1 _ _).later (Below.refl _ _).drew)
 have HB7 : Hid (Below w.heap.size w (((((w6.setCell ⟨w.heap.size + 1 + 1 + 1, 0, none⟩ (.int .i8 (rv.D.asl kd a).1)).setCell ⟨w.heap.size + 1 + 1 + 1, 1, none⟩ (.slice G1 m1 c1)).setCell ⟨w.heap.size + 1 + 1 + 1 + 1, 0, none⟩ (.int .i8 (rv.D.asr kd a).1)).setCell ⟨w.heap.size + 1 + 1 + 1 + 1, 1, none⟩ (.slice G2 m2 c2)).drew)) := k0_ ((zG (zG HB7.out (show w.heap.size ≤ w.heap.size + 1 + 1 + 1 by omega) _ _) (show w.heap.size ≤ w.heap.size + 1 + 1 + 1 + 1 by omega) _ _).drew)
 generalize ((((w6.setCell ⟨w.heap.size + 1 + 1 + 1, 0, none⟩ (.int .i8 (rv.D.asl kd a).1)).setCell ⟨w.heap.size + 1 + 1 + 1, 1, none⟩ (.slice G1 m1 c1)).setCell ⟨w.heap.size + 1 + 1 + 1 + 1, 0, none⟩ (.int .i8 (rv.D.asr kd a).1)).setCell ⟨w.heap.size + 1 + 1 + 1 + 1, 1, none⟩ (.slice G2 m2 c2)).drew = w7 at *
 clear x0 x1 f0 f1 xl y0 y1 f2 f3 yl
 obtain ⟨x0, x1, f0, f1, xl⟩ := zF H3.out
 obtain ⟨y0, y1, f2, f3, yl⟩ := zF H4.out
 go_wp2_with fail
 refine bodyPost_ret (v := .tuple #[.agg #[.int .i8 (rv.D.asl kd a).1, .slice G1 m1 c1], .agg #[.int .i8 (rv.D.asr kd a).1, .slice G2 m2 c2]]) (by simp [results, Tryz.results126, go_sem, *]) rfl ⟨G1, m1, c1, G2, m2, c2, rfl, HJ1.out.weak (fun b _ h => HNN.out.2.2 b h), HJ2.out.weak (fun b _ h => HNN.out.2.2 b h), HB7.out⟩
theorem zAn (rv : Cg.Rv) (Q : Nat → Prop) (h : Hd) (p : Pl) (kd : Int) (a : Ck.T2) (A : Option Addr) (n c : Nat) (w : World) (hkd : 3 ≤ kd ∧ kd ≤ 5) (hL : Ck.Ly Q w a A n c) (hok : Ty.okT a.1 a.2 = true) (hS : Shapes w) (hag : rv.D.asO kd a = false) :
  Calls Tryz.prog 126 #[.agg (rF_ rv), .agg (tC_ h p), .int .i8 kd, .agg #[.int .i8 a.1, .slice A n c]] w (Ck.Gave w 90 h.pos Ck.e0) := by
 try unfold tC_
 try unfold rF_
 have hcf := rv.cfm
 have CA := k0_ (fun (W : World) (hb : Below w.heap.size w W) => rv.asC (fun b => Q b ∧ b < w.heap.size) kd a A n c W hkd ((hL.weak (fun b hl hq => ⟨hq, hl⟩)).later hb) hok (hS.below hb))
 rw [hag] at CA
 have HB5 := k0_ (vU w (.cells (rF_ rv) 45) (.cells (tC_ h p) 28) (.cells #[.int .i8 a.1, .slice A n c] 25) (.cells #[.int .i8 0, .slice none 0 0] 25) (.cells #[.int .i8 0, .slice none 0 0] 25))
 obtain ⟨-, h1, -, h3, h4⟩ := wC w (.cells (rF_ rv) 45) (.cells (tC_ h p) 28) (.cells #[.int .i8 a.1, .slice A n c] 25) (.cells #[.int .i8 0, .slice none 0 0] 25) (.cells #[.int .i8 0, .slice none 0 0] 25)
 have H1 := k0_ h1
 have H3 := k0_ h3
 have H4 := k0_ h4
 clear hL hok hS hag h1 h3 h4
 go_enter Tryz.func126, Tryz.ntmps126
 go_wp2_with fail
 refine (CA.out _ HB5.out).mono ?_
 rintro e w5 ⟨G1, m1, c1, G2, m2, c2, rfl, hI1, hI2, hb5⟩
 have HB6 := kt_ HB5 hb5
 obtain ⟨q0, q1, q2, q3, q4, q5, q6, q7, q8, q9, q10, ql⟩ := zI (zA hb5 (zC H1.out) H1.out)
 obtain ⟨x0, x1, f0, f1, xl⟩ := zF (zA hb5 (zC H3.out) H3.out)
 obtain ⟨y0, y1, f2, f3, yl⟩ := zF (zA hb5 (zC H4.out) H4.out)
 have HI1 := k0_ (Ck.Ly.weak (Q' := Ck.Cut Q w.heap.size (w.heap.size + 5)) (a := rv.D.asl kd a) (w := w5) hI1 (fun b _ h => Or.elim h (fun h => .inl h.1) (fun h => .inr (by simp at h; omega))))
 have HI2 := k0_ (Ck.Ly.weak (Q' := Ck.Cut Q w.heap.size (w.heap.size + 5)) (a := rv.D.asr kd a) (w := w5) hI2 (fun b _ h => Or.elim h (fun h => .inl h.1) (fun h => .inr (by simp at h; omega))))
 have hsz := hb5.size
 simp only [World.size_alloc] at hsz
 clear hI1 hI2
 have HF := k0_ (vJ h p 90)
 clear hb5
 go_wp2_with fail
 refine (HF.out _).mono ?_
 rintro e w6 hg
 have HG := k0_ (Ck.Gave.from (w := w) hg (by repeat' (first | exact HB6.out | refine Below.setCell ?_ (by simp; omega) _)))
 obtain ⟨g, rfl, -⟩ := hg
 go_wp2_with fail
 exact ⟨rfl, HG.out⟩
end Go.Proofs.YtlfcbmobgbcgnaaGreatDoor
namespace Go.Proofs.YtlfcbmobgbcgnaaGreatDoor
namespace Cg
open Ck
theorem zCq (D : Ops) (F : Hd → Tm → Env → R) (h : Hd) (kids : Tm) (l : Env) (hk : h.kind = 0) : raw D F h kids l = (match fnd l h.name with | some a => .ok a | none => .bad 41 h.pos h.name) := by
 unfold raw
 rw [if_pos hk]
 all_goals (cases fnd l h.name <;> rfl)
theorem zCp (D : Ops) (F : Hd → Tm → Env → R) (h : Hd) (kids : Tm) (l : Env) (hk : h.kind = 1) : raw D F h kids l = .ok (1, .nil) := by
 unfold raw
 simp [hk]
theorem zCi (D : Ops) (F : Hd → Tm → Env → R) (h : Hd) (kids : Tm) (l : Env) (hk : h.kind = 2) : raw D F h kids l = .ok (2, .nil) := by
 unfold raw
 simp [hk]
theorem zCh (D : Ops) (F : Hd → Tm → Env → R) (h : Hd) (kids : Tm) (l : Env) (hk : h.kind = 3) : raw D F h kids l = .ok (2, .nil) := by
 unfold raw
 simp [hk]
theorem zCg (D : Ops) (F : Hd → Tm → Env → R) (h : Hd) (kids : Tm) (l : Env) (hk : h.kind = 4) : raw D F h kids l = bnd (F (k1 kids).1 (k1 kids).2 (l ++ [(h.name, TT h)])) fun b => .ok (mk2 3 (TT h) b) := by
 unfold raw
 simp [hk]
theorem zCf (D : Ops) (F : Hd → Tm → Env → R) (h : Hd) (kids : Tm) (l : Env) (hk : h.kind = 5) : raw D F h kids l = bnd (F (k1 kids).1 (k1 kids).2 (l ++ [(h.name, mk2 3 (TT h) (UU h)), (h.arg, TT h)])) fun b => if D.ag b (UU h) = true then .ok (mk2 3 (TT h) (UU h)) else fault h 91 := by
 unfold raw
 simp [hk]
theorem zEM (D : Ops) (F : Hd → Tm → Env → R) (h : Hd) (kids : Tm) (l : Env) (hk : h.kind = 6) : raw D F h kids l = bnd (F (k1 kids).1 (k1 kids).2 l) fun a => bnd (F (k2 kids).1 (k2 kids).2 l) fun b => over D h a b (0, .nil) := by
 unfold raw
 simp [hk]
theorem zCe (D : Ops) (F : Hd → Tm → Env → R) (h : Hd) (kids : Tm) (l : Env) (hk : h.kind = 7) : raw D F h kids l = bnd (F (k1 kids).1 (k1 kids).2 l) fun a => if D.ag a (TT h) = true then F (k2 kids).1 (k2 kids).2 (l ++ [(h.name, TT h)]) else fault h 91 := by
 unfold raw
 simp [hk]
theorem zEL (D : Ops) (F : Hd → Tm → Env → R) (h : Hd) (kids : Tm) (l : Env) (hk : h.kind = 8) : raw D F h kids l = bnd (F (k1 kids).1 (k1 kids).2 l) fun a => bnd (F (k2 kids).1 (k2 kids).2 l) fun b => bnd (F (k3 kids).1 (k3 kids).2 l) fun c => over D h a b c := by
 unfold raw
 simp [hk]
theorem zEK (D : Ops) (F : Hd → Tm → Env → R) (h : Hd) (kids : Tm) (l : Env) (hk : h.kind = 9) : raw D F h kids l = bnd (F (k1 kids).1 (k1 kids).2 l) fun a => bnd (F (k2 kids).1 (k2 kids).2 l) fun b => over D h a b (0, .nil) := by
 unfold raw
 simp [hk]
theorem zCo (D : Ops) (F : Hd → Tm → Env → R) (h : Hd) (kids : Tm) (l : Env) (hk : h.kind = 10) : raw D F h kids l = bnd (F (k1 kids).1 (k1 kids).2 l) fun a => over D h a (0, .nil) (0, .nil) := by
 unfold raw
 simp [hk]
theorem zCn (D : Ops) (F : Hd → Tm → Env → R) (h : Hd) (kids : Tm) (l : Env) (hk : h.kind = 11) : raw D F h kids l = bnd (F (k1 kids).1 (k1 kids).2 l) fun a => over D h a (0, .nil) (0, .nil) := by
 unfold raw
 simp [hk]
theorem zCm (D : Ops) (F : Hd → Tm → Env → R) (h : Hd) (kids : Tm) (l : Env) (hk : h.kind = 12) : raw D F h kids l = bnd (F (k1 kids).1 (k1 kids).2 l) fun a => over D h a (0, .nil) (0, .nil) := by
 unfold raw
 simp [hk]
theorem zCl (D : Ops) (F : Hd → Tm → Env → R) (h : Hd) (kids : Tm) (l : Env) (hk : h.kind = 13) : raw D F h kids l = bnd (F (k1 kids).1 (k1 kids).2 l) fun a => over D h a (0, .nil) (0, .nil) := by
 unfold raw
 simp [hk]
theorem zAC (D : Ops) (F : Hd → Tm → Env → R) (h : Hd) (kids : Tm) (l : Env) (hk : h.kind = 14) : raw D F h kids l = bnd (F (k1 kids).1 (k1 kids).2 l) fun a => if D.asO 5 a = true then bnd (F (k2 kids).1 (k2 kids).2 (l ++ [(h.name, D.asl 5 a)])) fun b => bnd (F (k3 kids).1 (k3 kids).2 (l ++ [(h.arg, D.asr 5 a)])) fun c => meet D h b c else fault h 90 := by
 unfold raw
 simp [hk]
theorem zCk (D : Ops) (F : Hd → Tm → Env → R) (h : Hd) (kids : Tm) (l : Env) (hk : h.kind = 15) : raw D F h kids l = bnd (F (k1 kids).1 (k1 kids).2 l) fun a => bnd (F (k2 kids).1 (k2 kids).2 l) fun b => over D h a b (0, .nil) := by
 unfold raw
 simp [hk]
theorem zCj (D : Ops) (F : Hd → Tm → Env → R) (h : Hd) (kids : Tm) (l : Env) (hk : h.kind = 16) : raw D F h kids l = bnd (F (k1 kids).1 (k1 kids).2 l) fun a => over D h a (0, .nil) (0, .nil) := by
 unfold raw
 simp [hk]
theorem zAO (D : Ops) (h : Hd) (a b c : T2) (hk : h.kind = 6) : over D h a b c = if D.asO 3 a = true then (if D.ag b (D.asl 3 a) = true then .ok (D.asr 3 a) else fault h 91) else fault h 90 := by
 unfold over
 simp [hk]
theorem zAN (D : Ops) (h : Hd) (a b c : T2) (hk : h.kind = 8) : over D h a b c = if D.ag a (2, .nil) = true then meet D h b c else fault h 91 := by
 unfold over
 simp [hk]
theorem zAM (D : Ops) (h : Hd) (a b c : T2) (hk : h.kind = 9) : over D h a b c = .ok (mk2 4 a b) := by
 unfold over
 simp [hk]
theorem xe (D : Ops) (h : Hd) (a b c : T2) (hk : h.kind = 10) : over D h a b c = if D.asO 4 a = true then .ok (D.asl 4 a) else fault h 90 := by
 unfold over
 simp [hk]
theorem xc (D : Ops) (h : Hd) (a b c : T2) (hk : h.kind = 11) : over D h a b c = if D.asO 4 a = true then .ok (D.asr 4 a) else fault h 90 := by
 unfold over
 simp [hk]
theorem xZ (D : Ops) (h : Hd) (a b c : T2) (hk : h.kind = 12) : over D h a b c = if D.asO 5 (TT h) = true then (if D.ag a (D.asl 5 (TT h)) = true then .ok (mk2 5 (D.asl 5 (TT h)) (D.asr 5 (TT h))) else fault h 91) else fault h 90 := by
 unfold over
 simp [hk]
theorem xY (D : Ops) (h : Hd) (a b c : T2) (hk : h.kind = 13) : over D h a b c = if D.asO 5 (TT h) = true then (if D.ag a (D.asr 5 (TT h)) = true then .ok (mk2 5 (D.asl 5 (TT h)) (D.asr 5 (TT h))) else fault h 91) else fault h 90 := by
 unfold over
 simp [hk]
theorem xX (D : Ops) (h : Hd) (a b c : T2) (hk : h.kind = 15) : over D h a b c = if D.ag a (1, .nil) = true then (if D.ag b (1, .nil) = true then .ok (opAns h.name) else fault h 91) else fault h 91 := by
 unfold over
 simp [hk]
theorem xW (D : Ops) (h : Hd) (a b c : T2) (hk : h.kind = 16) : over D h a b c = if D.ag a (TT h) = true then .ok (TT h) else fault h 91 := by
 unfold over
 simp [hk]
end Cg
end Go.Proofs.YtlfcbmobgbcgnaaGreatDoor
namespace Go.Proofs.YtlfcbmobgbcgnaaGreatDoor
namespace Ck
theorem zCq (F : Hd → Tm → Env → R) (h : Hd) (kids : Tm) (l : Env) (hk : h.kind = 0) : raw F h kids l = (match fnd l h.name with | some a => .ok a | none => .bad 41 h.pos h.name) := by
 unfold raw
 rw [if_pos hk]
 all_goals (cases fnd l h.name <;> rfl)
theorem zCp (F : Hd → Tm → Env → R) (h : Hd) (kids : Tm) (l : Env) (hk : h.kind = 1) : raw F h kids l = .ok (1, .nil) := by
 unfold raw
 simp [hk]
theorem zCi (F : Hd → Tm → Env → R) (h : Hd) (kids : Tm) (l : Env) (hk : h.kind = 2) : raw F h kids l = .ok (2, .nil) := by
 unfold raw
 simp [hk]
theorem zCh (F : Hd → Tm → Env → R) (h : Hd) (kids : Tm) (l : Env) (hk : h.kind = 3) : raw F h kids l = .ok (2, .nil) := by
 unfold raw
 simp [hk]
theorem zCg (F : Hd → Tm → Env → R) (h : Hd) (kids : Tm) (l : Env) (hk : h.kind = 4) : raw F h kids l = bnd (F (k1 kids).1 (k1 kids).2 (l ++ [(h.name, TT h)])) fun b => .ok (mk2 3 (TT h) b) := by
 unfold raw
 simp [hk]
theorem zCf (F : Hd → Tm → Env → R) (h : Hd) (kids : Tm) (l : Env) (hk : h.kind = 5) : raw F h kids l = bnd (F (k1 kids).1 (k1 kids).2 (l ++ [(h.name, mk2 3 (TT h) (UU h)), (h.arg, TT h)])) fun b => if ag b (UU h) = true then .ok (mk2 3 (TT h) (UU h)) else fault h 91 := by
 unfold raw
 simp [hk]
theorem zEM (F : Hd → Tm → Env → R) (h : Hd) (kids : Tm) (l : Env) (hk : h.kind = 6) : raw F h kids l = bnd (F (k1 kids).1 (k1 kids).2 l) fun a => bnd (F (k2 kids).1 (k2 kids).2 l) fun b => over h a b (0, .nil) := by
 unfold raw
 simp [hk]
theorem zCe (F : Hd → Tm → Env → R) (h : Hd) (kids : Tm) (l : Env) (hk : h.kind = 7) : raw F h kids l = bnd (F (k1 kids).1 (k1 kids).2 l) fun a => if ag a (TT h) = true then F (k2 kids).1 (k2 kids).2 (l ++ [(h.name, TT h)]) else fault h 91 := by
 unfold raw
 simp [hk]
theorem zEL (F : Hd → Tm → Env → R) (h : Hd) (kids : Tm) (l : Env) (hk : h.kind = 8) : raw F h kids l = bnd (F (k1 kids).1 (k1 kids).2 l) fun a => bnd (F (k2 kids).1 (k2 kids).2 l) fun b => bnd (F (k3 kids).1 (k3 kids).2 l) fun c => over h a b c := by
 unfold raw
 simp [hk]
theorem zEK (F : Hd → Tm → Env → R) (h : Hd) (kids : Tm) (l : Env) (hk : h.kind = 9) : raw F h kids l = bnd (F (k1 kids).1 (k1 kids).2 l) fun a => bnd (F (k2 kids).1 (k2 kids).2 l) fun b => over h a b (0, .nil) := by
 unfold raw
 simp [hk]
theorem zCo (F : Hd → Tm → Env → R) (h : Hd) (kids : Tm) (l : Env) (hk : h.kind = 10) : raw F h kids l = bnd (F (k1 kids).1 (k1 kids).2 l) fun a => over h a (0, .nil) (0, .nil) := by
 unfold raw
 simp [hk]
theorem zCn (F : Hd → Tm → Env → R) (h : Hd) (kids : Tm) (l : Env) (hk : h.kind = 11) : raw F h kids l = bnd (F (k1 kids).1 (k1 kids).2 l) fun a => over h a (0, .nil) (0, .nil) := by
 unfold raw
 simp [hk]
theorem zCm (F : Hd → Tm → Env → R) (h : Hd) (kids : Tm) (l : Env) (hk : h.kind = 12) : raw F h kids l = bnd (F (k1 kids).1 (k1 kids).2 l) fun a => over h a (0, .nil) (0, .nil) := by
 unfold raw
 simp [hk]
theorem zCl (F : Hd → Tm → Env → R) (h : Hd) (kids : Tm) (l : Env) (hk : h.kind = 13) : raw F h kids l = bnd (F (k1 kids).1 (k1 kids).2 l) fun a => over h a (0, .nil) (0, .nil) := by
 unfold raw
 simp [hk]
theorem zAC (F : Hd → Tm → Env → R) (h : Hd) (kids : Tm) (l : Env) (hk : h.kind = 14) : raw F h kids l = bnd (F (k1 kids).1 (k1 kids).2 l) fun a => if asO 5 a = true then bnd (F (k2 kids).1 (k2 kids).2 (l ++ [(h.name, asl 5 a)])) fun b => bnd (F (k3 kids).1 (k3 kids).2 (l ++ [(h.arg, asr 5 a)])) fun c => meet h b c else fault h 90 := by
 unfold raw
 simp [hk]
theorem zCk (F : Hd → Tm → Env → R) (h : Hd) (kids : Tm) (l : Env) (hk : h.kind = 15) : raw F h kids l = bnd (F (k1 kids).1 (k1 kids).2 l) fun a => bnd (F (k2 kids).1 (k2 kids).2 l) fun b => over h a b (0, .nil) := by
 unfold raw
 simp [hk]
theorem zCj (F : Hd → Tm → Env → R) (h : Hd) (kids : Tm) (l : Env) (hk : h.kind = 16) : raw F h kids l = bnd (F (k1 kids).1 (k1 kids).2 l) fun a => over h a (0, .nil) (0, .nil) := by
 unfold raw
 simp [hk]
theorem zAO (h : Hd) (a b c : T2) (hk : h.kind = 6) : over h a b c = if asO 3 a = true then (if ag b (asl 3 a) = true then .ok (asr 3 a) else fault h 91) else fault h 90 := by
 unfold over
 simp [hk]
theorem zAN (h : Hd) (a b c : T2) (hk : h.kind = 8) : over h a b c = if ag a (2, .nil) = true then meet h b c else fault h 91 := by
 unfold over
 simp [hk]
theorem zAM (h : Hd) (a b c : T2) (hk : h.kind = 9) : over h a b c = .ok (mk2 4 a b) := by
 unfold over
 simp [hk]
theorem xe (h : Hd) (a b c : T2) (hk : h.kind = 10) : over h a b c = if asO 4 a = true then .ok (asl 4 a) else fault h 90 := by
 unfold over
 simp [hk]
theorem xc (h : Hd) (a b c : T2) (hk : h.kind = 11) : over h a b c = if asO 4 a = true then .ok (asr 4 a) else fault h 90 := by
 unfold over
 simp [hk]
theorem xZ (h : Hd) (a b c : T2) (hk : h.kind = 12) : over h a b c = if asO 5 (TT h) = true then (if ag a (asl 5 (TT h)) = true then .ok (mk2 5 (asl 5 (TT h)) (asr 5 (TT h))) else fault h 91) else fault h 90 := by
 unfold over
 simp [hk]
theorem xY (h : Hd) (a b c : T2) (hk : h.kind = 13) : over h a b c = if asO 5 (TT h) = true then (if ag a (asr 5 (TT h)) = true then .ok (mk2 5 (asl 5 (TT h)) (asr 5 (TT h))) else fault h 91) else fault h 90 := by
 unfold over
 simp [hk]
theorem xX (h : Hd) (a b c : T2) (hk : h.kind = 15) : over h a b c = if ag a (1, .nil) = true then (if ag b (1, .nil) = true then .ok (opAns h.name) else fault h 91) else fault h 91 := by
 unfold over
 simp [hk]
theorem xW (h : Hd) (a b c : T2) (hk : h.kind = 16) : over h a b c = if ag a (TT h) = true then .ok (TT h) else fault h 91 := by
 unfold over
 simp [hk]
end Ck
end Go.Proofs.YtlfcbmobgbcgnaaGreatDoor
namespace Go.Proofs.YtlfcbmobgbcgnaaGreatDoor
namespace Ck
theorem qI {h : Hd} {k r : Tm} (h0 : Tm.okF (.node h k r) = true) : Tm.okT h k = true ∧ Tm.okF r = true := by
 simp only [Tm.okF, Bool.and_eq_true] at h0
 exact ⟨by unfold Tm.okT; rw [h0.1.1, h0.1.2]; rfl, h0.2⟩
theorem jQ {h : Hd} {kids : Tm} (h0 : Tm.okT h kids = true) : Tm.isKind h.kind = true ∧ Tm.len kids = Tm.kidsN h.kind ∧ Tm.okF kids = true := by
 unfold Tm.okT Tm.headOk at h0
 simp only [Bool.and_eq_true, decide_eq_true_eq] at h0
 exact ⟨h0.1.1.1.1.1, h0.1.1.1.1.2, h0.2⟩
theorem qx {h : Hd} {kids : Tm} (h0 : castT h kids = false) : h.kind ≠ 17 ∧ castF kids = false := by
 unfold castT at h0
 simp only [Bool.or_eq_false_iff, beq_eq_false_iff_ne] at h0
 exact h0
theorem jy {h : Hd} {kids : Tm} (h0 : Tm.chk h kids = 0) : Tm.nd h kids ≤ 8192 ∧ Tm.dp h kids ≤ 200 ∧ Tm.okT h kids = true := by
 unfold Tm.chk at h0
 split at h0
 ·cases h0
 ·split at h0
  ·cases h0
  ·split at h0
   ·exact ⟨by omega, by omega, by assumption⟩
   ·cases h0
def two (h : Hd) (k : Tm) (h' : Hd) (k' : Tm) : Tm := .node h k (.node h' k' .nil)
end Ck
end Go.Proofs.YtlfcbmobgbcgnaaGreatDoor
namespace Go.Proofs.YtlfcbmobgbcgnaaGreatDoor
open Go.RowKit
namespace Tm
end Tm
end Go.Proofs.YtlfcbmobgbcgnaaGreatDoor
namespace Go.Proofs.YtlfcbmobgbcgnaaGreatDoor
open Go.RowKit
attribute [local go_sem ↓] Go.wp_at_zero Go.wp_at_succ
end Go.Proofs.YtlfcbmobgbcgnaaGreatDoor
namespace Go.Proofs.YtlfcbmobgbcgnaaGreatDoor
open Go.RowKit
end Go.Proofs.YtlfcbmobgbcgnaaGreatDoor
