import Derived.Test.YtkdnnleanoompaaGreatDoorM12
import Derived.Test.YtkdnnleanoompaaGreatDoorM13
import Derived.Test.YtkdnnleanoompaaGreatDoorDd2
import Derived.ArgAppend
namespace Go.Proofs.YtkdnnleanoompaaGreatDoor
namespace Ck
abbrev T2 := Int × Fo
abbrev Env := List (ByteArray × T2)
inductive R where
 | ok (a : T2)
 | bad (E p : Int) (x : ByteArray)
def e0 : ByteArray := ⟨#[]⟩
def fnd : Env -> ByteArray -> Option T2
 | [], _ => none
 | b :: l, x => match fnd l x with
  | some a => some a
  | none => if (b.1.toList == x.toList) = true then some b.2 else none
def mk2 (k : Int) (a b : T2) : T2 := (k, .node 0 0 a.1 a.2 (.node 0 0 b.1 b.2 .nil))
def hd0 : Hd := ⟨0, e0, e0, 0, 0, .nil, 0, .nil, 0, 0⟩
def k1 : Tm -> Hd × Tm
 | .node h k _ => (h, k)
 | .nil => (hd0, .nil)
def k2 : Tm -> Hd × Tm
 | .node _ _ r => k1 r
 | .nil => (hd0, .nil)
def k3 : Tm -> Hd × Tm
 | .node _ _ r => k2 r
 | .nil => (hd0, .nil)
def TT (h : Hd) : T2 := (h.tk, h.tkids)
def UU (h : Hd) : T2 := (h.uk, h.ukids)
def chk (a : T2) : Nat := Ty.chk a.1 a.2
def ag (a b : T2) : Bool := Ty.agreeT a.1 a.2 b.1 b.2
def asO (k : Int) (a : T2) : Bool := Ty.asOk k a.1 a.2
def asl (k : Int) (a : T2) : T2 := Ty.asL k a.1 a.2
def asr (k : Int) (a : T2) : T2 := Ty.asR k a.1 a.2
def mt (a b : T2) : T2 := (Ty.mK a.1 b.1, Ty.mT a.1 a.2 b.1 b.2)
def lift (h : Hd) : R -> R
 | .ok a => if chk a = 0 then .ok a else .bad (chk a) h.pos e0
 | .bad E p x => .bad E p x
def bnd (r : R) (f : T2 -> R) : R := match r with
 | .ok a => f a
 | .bad E p x => .bad E p x
def fault (h : Hd) (E : Int) : R := .bad E h.pos e0
def meet (h : Hd) (a b : T2) : R := if ag a b = true then .ok (mt a b) else fault h 91
def opAns (s : ByteArray) : T2 := if (s.toList == [60] || s.toList == [61]) = true then (2, .nil) else (1, .nil)
def over (h : Hd) (a b c : T2) : R :=
 if h.kind = 6 then (if asO 3 a = true then (if ag b (asl 3 a) = true then .ok (asr 3 a) else fault h 91) else fault h 90)
 else if h.kind = 8 then (if ag a (2, .nil) = true then meet h b c else fault h 91)
 else if h.kind = 9 then .ok (mk2 4 a b)
 else if h.kind = 10 then (if asO 4 a = true then .ok (asl 4 a) else fault h 90)
 else if h.kind = 11 then (if asO 4 a = true then .ok (asr 4 a) else fault h 90)
 else if h.kind = 12 then (if asO 5 (TT h) = true then (if ag a (asl 5 (TT h)) = true then .ok (mk2 5 (asl 5 (TT h)) (asr 5 (TT h))) else fault h 91) else fault h 90)
 else if h.kind = 13 then (if asO 5 (TT h) = true then (if ag a (asr 5 (TT h)) = true then .ok (mk2 5 (asl 5 (TT h)) (asr 5 (TT h))) else fault h 91) else fault h 90)
 else if h.kind = 15 then (if ag a (1, .nil) = true then (if ag b (1, .nil) = true then .ok (opAns h.name) else fault h 91) else fault h 91)
 else (if ag a (TT h) = true then .ok (TT h) else fault h 91)
def raw (F : Hd -> Tm -> Env -> R) (h : Hd) (kids : Tm) (l : Env) : R :=
 if h.kind = 0 then (match fnd l h.name with
  | some a => .ok a
  | none => .bad 41 h.pos h.name)
 else if h.kind = 1 then .ok (1, .nil)
 else if h.kind = 2 \/ h.kind = 3 then .ok (2, .nil)
 else if h.kind = 4 then bnd (F (k1 kids).1 (k1 kids).2 (l ++ [(h.name, TT h)])) fun b => .ok (mk2 3 (TT h) b)
 else if h.kind = 5 then bnd (F (k1 kids).1 (k1 kids).2 (l ++ [(h.name, mk2 3 (TT h) (UU h)), (h.arg, TT h)])) fun b => if ag b (UU h) = true then .ok (mk2 3 (TT h) (UU h)) else fault h 91
 else if h.kind = 7 then bnd (F (k1 kids).1 (k1 kids).2 l) fun a => if ag a (TT h) = true then F (k2 kids).1 (k2 kids).2 (l ++ [(h.name, TT h)]) else fault h 91
 else if h.kind = 14 then bnd (F (k1 kids).1 (k1 kids).2 l) fun a => if asO 5 a = true then bnd (F (k2 kids).1 (k2 kids).2 (l ++ [(h.name, asl 5 a)])) fun b => bnd (F (k3 kids).1 (k3 kids).2 (l ++ [(h.arg, asr 5 a)])) fun c => meet h b c else fault h 90
 else if h.kind = 6 \/ h.kind = 9 \/ h.kind = 15 then bnd (F (k1 kids).1 (k1 kids).2 l) fun a => bnd (F (k2 kids).1 (k2 kids).2 l) fun b => over h a b (0, .nil)
 else if h.kind = 8 then bnd (F (k1 kids).1 (k1 kids).2 l) fun a => bnd (F (k2 kids).1 (k2 kids).2 l) fun b => bnd (F (k3 kids).1 (k3 kids).2 l) fun c => over h a b c
 else bnd (F (k1 kids).1 (k1 kids).2 l) fun a => over h a (0, .nil) (0, .nil)
def ty : Nat -> Hd -> Tm -> Env -> R
 | 0, h, _, _ => fault h 0
 | K + 1, h, kids, l => lift h (raw (ty K) h kids l)
theorem qd (K : Nat) (h : Hd) (kids : Tm) (l : Env) : ty (K + 1) h kids l = lift h (raw (ty K) h kids l) := rfl
def castF : Tm -> Bool
 | .nil => false
 | .node h kids r => (h.kind == 17) || castF kids || castF r
def castT (h : Hd) (kids : Tm) : Bool := (h.kind == 17) || castF kids
def tell (h : Hd) (kids : Tm) : R :=
 if Tm.chk h kids ≠ 0 then .bad (Tm.chk h kids) 0 e0 else if castT h kids = true then .bad 30 0 e0 else ty (Tm.nodes kids + 1) h kids []
theorem zBh {h : Hd} {r : R} {a : T2} (e : lift h r = .ok a) : r = .ok a /\ chk a = 0 := by
 cases r with
 | ok b =>
  simp only [lift] at e
  split at e
  ·injection e with e; subst e; exact ⟨rfl, by assumption⟩
  ·cases e
 | bad _ _ _ => cases e
theorem jq : ∀ {K : Nat} {h : Hd} {kids : Tm} {l : Env} {a : T2}, ty K h kids l = .ok a -> chk a = 0
 | 0, _, _, _, _, e => by cases e
 | _ + 1, _, _, _, _, e => (zBh e).2
end Ck
set_option maxHeartbeats 2000000
set_option maxRecDepth 100000
open Go.RowKit
namespace Ck
def FltAt (w : World) (g : Nat) (E p : Int) (x : ByteArray) : Prop := w.heap[g]? = some (.cells #[.int .i64 E, .int .i64 p, .string x] 71 (0, 0))
def Gave (w : World) (E p : Int) (x : ByteArray) (e : Ending) (w' : World) : Prop :=
 ∃ g, e = .panicked [{ v := .iface 54 (.pointer (some ⟨g, 0, none⟩)), recovered := false }] /\ FltAt w' g E p x /\ w.heap.size <= g /\ Below w.heap.size w w'
theorem Gave.from {w u w' : World} {E p : Int} {x : ByteArray} {e : Ending} (h : Gave u E p x e w') (hb : Below w.heap.size w u) : Gave w E p x e w' := by
 obtain ⟨g, h1, h2, h3, h4⟩ := h;exact ⟨g, h1, h2, Nat.le_trans hb.size h3, hb.trans (h4.mono hb.size)⟩
def Cut (Q : Nat -> Prop) (N M : Nat) (b : Nat) : Prop := (Q b /\ b < N) \/ M <= b
theorem Cut.in {Q : Nat -> Prop} {N M S b : Nat} (hS : M <= S) (h : Cut (Cut Q N M) S S b) : Cut Q N M b := by
 rcases h with ⟨h, -⟩ | h
 ·exact h
 ·exact .inr (by omega)
theorem Cut.out {Q : Nat -> Prop} {N M b : Nat} (hM : N <= M) (h : Cut Q N M b) : Cut Q N N b := by
 rcases h with h | h
 ·exact .inl h
 ·exact .inr (by omega)
theorem Cut.ne {Q : Nat -> Prop} {N M b X : Nat} (h : Cut Q N M b) (h1 : N <= X) (h2 : X < M) : b ≠ X := by
 rcases h with h | h <;> omega
abbrev Ly (Q : Nat -> Prop) (w : World) (a : T2) (G : Option Addr) (m c : Nat) : Prop := Lone Q w a.1 a.2 G m c
theorem Ly.later {Q : Nat -> Prop} {w w' : World} {a : T2} {G : Option Addr} {m c : Nat} (h : Ly Q w a G m c) (hb : Below w.heap.size w w') : Ly Q w' a G m c :=
 Lone.to h fun _ _ _ hQ hc => ⟨hQ, by rw [hb.cell (p := ⟨_, _, none⟩) (Ty.zR hc)]; exact hc⟩
theorem Ly.weak {Q Q' : Nat -> Prop} {w : World} {a : T2} {G : Option Addr} {m c : Nat} (h : Ly Q w a G m c) (hq : ∀ b, b < w.heap.size -> Q b -> Q' b) : Ly Q' w a G m c :=
 Lone.to h fun _ _ _ hQ hc => ⟨hq _ (Ty.zR hc) hQ, hc⟩
theorem Ly.set {Q : Nat -> Prop} {w : World} {a : T2} {G : Option Addr} {m c : Nat} (h : Ly Q w a G m c) {X : Nat} (hX : ∀ b, Q b -> b ≠ X) (o : Nat) (v : Value) : Ly Q (w.setCell ⟨X, o, none⟩ v) a G m c :=
 Lone.to h fun b o' v' hQ hc => ⟨hQ, by rw [World.cell?_setCell_other _ _ _ _ (fun e => hX b hQ (by injection e with e; exact e.symm))]; exact hc⟩
theorem Ly.is {Q : Nat -> Prop} {w : World} {a : T2} {G : Option Addr} {m c : Nat} (h : Ly Q w a G m c) : Ty.Is w a.1 a.2 G m c := Lone.is h
theorem Ly.of {w : World} {a : T2} {G : Option Addr} {m c : Nat} (h : Ty.Is w a.1 a.2 G m c) : Ly (fun b => b < w.heap.size) w a G m c :=
 fun _ hu => (h.inP.to (P' := fun _ => True) fun b o v hP hc => ⟨trivial, hu b o v hP hc⟩).is
theorem Ly.zero (Q : Nat -> Prop) (w : World) : Ly Q w (0, .nil) none 0 0 := fun _ _ => Ty.kD _
def Gives (Q : Nat -> Prop) (w : World) (a : T2) (e : Ending) (w' : World) : Prop :=
 ∃ G m c, e = .returned (.agg #[.int .i8 a.1, .slice G m c]) /\ Ly (Cut Q w.heap.size w.heap.size) w' a G m c /\ Below w.heap.size w w'
def Post (Q : Nat -> Prop) (w : World) (r : R) (e : Ending) (w' : World) : Prop := match r with
 | .ok a => Gives Q w a e w'
 | .bad E p x => Gave w E p x e w'
def EFlat (Q : Nat -> Prop) (w : World) : Env -> List Value -> Prop
 | [], [] => True
 | x :: l, a :: b :: c :: xs => (a = .string x.1 /\ b = .int .i8 x.2.1 /\ ∃ G m k, c = .slice G m k /\ Ly Q w x.2 G m k) /\ EFlat Q w l xs
 | _, _ => False
theorem EFlat.below {Q : Nat -> Prop} {w w' : World} (hb : Below w.heap.size w w') : ∀ {l : Env} {xs : List Value}, EFlat Q w l xs -> EFlat Q w' l xs
 | [], [], _ => trivial
 | _ :: _, _ :: _ :: _ :: _, ⟨⟨h1, h2, G, m, k, h3, h4⟩, h5⟩ => ⟨⟨h1, h2, G, m, k, h3, h4.later hb⟩, EFlat.below hb h5⟩
 | [], _ :: _, h => h.elim
 | _ :: _, [], h => h.elim
 | _ :: _, [_], h => h.elim
 | _ :: _, [_, _], h => h.elim
theorem EFlat.weak {Q Q' : Nat -> Prop} {w : World} (hq : ∀ b, b < w.heap.size -> Q b -> Q' b) : ∀ {l : Env} {xs : List Value}, EFlat Q w l xs -> EFlat Q' w l xs
 | [], [], _ => trivial
 | _ :: _, _ :: _ :: _ :: _, ⟨⟨h1, h2, G, m, k, h3, h4⟩, h5⟩ => ⟨⟨h1, h2, G, m, k, h3, h4.weak hq⟩, EFlat.weak hq h5⟩
 | [], _ :: _, h => h.elim
 | _ :: _, [], h => h.elim
 | _ :: _, [_], h => h.elim
 | _ :: _, [_, _], h => h.elim
theorem EFlat.app {Q : Nat -> Prop} {w : World} : ∀ {l : Env} {xs : List Value} {l' : Env} {xs' : List Value}, EFlat Q w l xs -> EFlat Q w l' xs' -> EFlat Q w (l ++ l') (xs ++ xs')
 | [], [], _, _, _, h => h
 | _ :: _, _ :: _ :: _ :: _, _, _, ⟨h1, h5⟩, h => ⟨h1, EFlat.app h5 h⟩
 | [], _ :: _, _, _, h, _ => h.elim
 | _ :: _, [], _, _, h, _ => h.elim
 | _ :: _, [_], _, _, h, _ => h.elim
 | _ :: _, [_, _], _, _, h, _ => h.elim
theorem EFlat.len {Q : Nat -> Prop} {w : World} : ∀ {l : Env} {xs : List Value}, EFlat Q w l xs -> xs.length = l.length * 3
 | [], [], _ => rfl
 | _ :: _, _ :: _ :: _ :: _, ⟨_, h5⟩ => by have := EFlat.len h5; simp only [List.length_cons]; omega
 | [], _ :: _, h => h.elim
 | _ :: _, [], h => h.elim
 | _ :: _, [_], h => h.elim
 | _ :: _, [_, _], h => h.elim
theorem EFlat.at {Q : Nat -> Prop} {w : World} : ∀ {l : Env} {xs : List Value}, EFlat Q w l xs -> ∀ (i : Nat) (x : ByteArray × T2), l[i]? = some x -> xs[i * 3]? = some (.string x.1) /\ xs[i * 3 + 1]? = some (.int .i8 x.2.1) /\ ∃ G m k, xs[i * 3 + 2]? = some (.slice G m k) /\ Ly Q w x.2 G m k
 | [], [], _, i, x, h => by simp at h
 | y :: _, _ :: _ :: _ :: _, ⟨⟨h1, h2, G, m, k, h3, h4⟩, h5⟩, i, x, h => by
  cases i with
  | zero =>
   rw [List.getElem?_cons_zero] at h;injection h with h; subst h
   exact ⟨by simp [h1], by simp [h2], G, m, k, by simp [h3], h4⟩
  | succ i =>
   rw [List.getElem?_cons_succ] at h;have q := EFlat.at h5 i x h;rw [show (i + 1) * 3 = i * 3 + 3 by omega, show i * 3 + 3 + 1 = i * 3 + 1 + 3 by omega, show i * 3 + 3 + 2 = i * 3 + 2 + 3 by omega]
   simpa using q
 | [], _ :: _, h, _, _, _ => h.elim
 | _ :: _, [], h, _, _, _ => h.elim
 | _ :: _, [_], h, _, _, _ => h.elim
 | _ :: _, [_, _], h, _, _, _ => h.elim
theorem EFlat.one {Q : Nat -> Prop} {w : World} : ∀ {l : Env} {xs : List Value}, EFlat Q w l xs -> ∀ u ∈ xs, u.oneCell' = true
 | [], [], _, u, hu => by cases hu
 | _ :: _, _ :: _ :: _ :: _, ⟨⟨h1, h2, G, m, k, h3, _⟩, h5⟩, u, hu => by
  simp only [List.mem_cons] at hu;rcases hu with rfl | rfl | rfl | hu
  ·rw [h1]; rfl
  ·rw [h2]; rfl
  ·rw [h3]; rfl
  ·exact EFlat.one h5 u hu
 | [], _ :: _, h, _, _ => h.elim
 | _ :: _, [], h, _, _ => h.elim
 | _ :: _, [_], h, _, _ => h.elim
 | _ :: _, [_, _], h, _, _ => h.elim
structure EAt (Q : Nat -> Prop) (w : World) (l : Env) (A : Option Addr) (n c : Nat) : Prop where
 n_eq : n = l.length
 n_le : n <= c
 c_le : c <= maxLen
 nil : A = none -> n = 0 /\ c = 0
 row : ∃ xs, EFlat Q w l xs /\ ∀ a, A = some a -> ∃ b o, a = ⟨b, o, none⟩ /\ b < w.heap.size /\ ∀ j u, xs[j]? = some u -> w.cell? ⟨b, o + j, none⟩ = some u
theorem EAt.empty (Q : Nat -> Prop) (w : World) : EAt Q w [] none 0 0 := ⟨rfl, Nat.le_refl _, Nat.zero_le _, fun _ => ⟨rfl, rfl⟩, [], trivial, fun _ h => by cases h⟩
theorem EAt.weak {Q Q' : Nat -> Prop} {w : World} {l : Env} {A : Option Addr} {n c : Nat} (h : EAt Q w l A n c) (hq : ∀ b, b < w.heap.size -> Q b -> Q' b) : EAt Q' w l A n c := by
 obtain ⟨h1, h2, h3, h4, xs, h5, h6⟩ := h;exact ⟨h1, h2, h3, h4, xs, h5.weak hq, h6⟩
theorem EAt.below {Q : Nat -> Prop} {w w' : World} {l : Env} {A : Option Addr} {n c : Nat} (h : EAt Q w l A n c) (hb : Below w.heap.size w w') : EAt Q w' l A n c := by
 obtain ⟨h1, h2, h3, h4, xs, h5, h6⟩ := h;refine ⟨h1, h2, h3, h4, xs, h5.below hb, fun a ha => ?_⟩;obtain ⟨b, o, e, hl, hc⟩ := h6 a ha;exact ⟨b, o, e, Nat.lt_of_lt_of_le hl hb.size, fun j u hu => by rw [hb.cell (p := ⟨b, o + j, none⟩) hl]; exact hc j u hu⟩
theorem EAt.at {Q : Nat -> Prop} {w : World} {l : Env} {A : Option Addr} {n c : Nat} (h : EAt Q w l A n c) {i : Nat} {x : ByteArray × T2} (hx : l[i]? = some x) : ∃ b o G m k, A = some ⟨b, o, none⟩ /\ w.cell? ⟨b, o + i * 3, none⟩ = some (.string x.1) /\ w.cell? ⟨b, o + i * 3 + 1, none⟩ = some (.int .i8 x.2.1) /\ w.cell? ⟨b, o + i * 3 + 2, none⟩ = some (.slice G m k) /\ Ly Q w x.2 G m k := by
 obtain ⟨h1, h2, h3, h4, xs, h5, h6⟩ := h
 cases A with
 | none =>
  have := (h4 rfl).1
  have hl : i < l.length := by
   rcases Nat.lt_or_ge i l.length with q | q
   ·exact q
   ·rw [List.getElem?_eq_none q] at hx; cases hx
  omega
 | some a =>
  obtain ⟨b, o, rfl, hl, hc⟩ := h6 a rfl;obtain ⟨q1, q2, G, m, k, q3, q4⟩ := h5.at i x hx;exact ⟨b, o, G, m, k, rfl, hc _ _ q1, by have := hc _ _ q2; rwa [show o + (i * 3 + 1) = o + i * 3 + 1 by omega] at this, by have := hc _ _ q3; rwa [show o + (i * 3 + 2) = o + i * 3 + 2 by omega] at this, q4⟩
theorem kl_ {Q : Nat -> Prop} {w w' : World} {a : T2} {G : Option Addr} {m c : Nat} (h : Hid (Ly Q w a G m c)) (hb : Below w.heap.size w w') : Hid (Ly Q w' a G m c) := Lib.hid (h.out.later hb)
end Ck
theorem jo (h : Hd) (p : Pl) (E : Int) (w : World) : Calls Tryz.prog 43 #[.agg (tC_ h p), .int .i64 E] w (Ck.Gave w E h.pos Ck.e0) := by
 try unfold tC_
 have hb1 : Below w.heap.size w (w.alloc (.cells (tC_ h p) 28)) := (Below.refl _ _).alloc (Nat.le_refl _) _;have hb2 := hb1.alloc hb1.size (.cells #[.int .i64 E, .int .i64 h.pos, .string Ck.e0] 71);obtain ⟨q0, q1, q2, q3, q4, q5, q6, q7, q8, q9, q10, ql⟩ := zJ (zD w (.cells (tC_ h p) 28));have HP := k0_ (show Ck.Gave w E h.pos Ck.e0 (.panicked [{ v := .iface 54 (.pointer (some ⟨w.heap.size + 1, 0, none⟩)), recovered := false }]) _ from ⟨w.heap.size + 1, rfl, vM w _ _, by omega, hb2⟩);clear hb1 hb2
 go_enter Tryz.func43, Tryz.ntmps43
 go_wp2_with fail
 exact ⟨rfl, HP.out⟩
theorem qQ (k : Int) (A : Option Addr) (n c : Nat) (w : World) : Calls Tryz.prog 41 #[.int .i8 k, .slice A n c] w fun e w' => e = .returned (.agg #[.int .i8 k, .slice A n c]) /\ Below w.heap.size w w' := by
 have HB := k0_ ((Below.refl w.heap.size w).alloc (Nat.le_refl _) (.cells #[.int .i8 k, .slice A n c] 25))
 go_enter Tryz.func41, Tryz.ntmps41
 go_wp2_with fail
 refine bodyPost_ret (v := .agg #[.int .i8 k, .slice A n c]) (by simp [results, Tryz.results41, go_sem, *]) rfl ⟨rfl, HB.out⟩
theorem qw (s : ByteArray) (k : Int) (A : Option Addr) (n c : Nat) (w : World) : Calls Tryz.prog 71 #[.string s, .agg #[.int .i8 k, .slice A n c]] w fun e w' => e = .returned (.agg #[.string s, .int .i8 k, .slice A n c]) /\ Below w.heap.size w w' := by
 have HB := k0_ (((Below.refl w.heap.size w).alloc (Nat.le_refl _) (.cells #[.int .i8 k, .slice A n c] 25)).alloc (by simp) (.cells #[.string s, .int .i8 k, .slice A n c] 114))
 go_enter Tryz.func71, Tryz.ntmps71
 go_wp2_with fail
 refine bodyPost_ret (v := .agg #[.string s, .int .i8 k, .slice A n c]) (by simp [results, Tryz.results71, go_sem, *]) rfl ⟨rfl, HB.out⟩
theorem zBX {P : Program} {t t' e : TypeId} (ht : P.underlying t = some (.slice e)) (ht' : P.underlying t' = some (.slice e)) (ty : TypeId) (args : Array Value) (w : World) : (Builtin.append_ #[t, t'] ty args).run P w = (Builtin.append_ #[t, t] ty args).run P w := by
 simp only [Builtin.append_, List.getElem?_toArray, List.getElem?_cons_zero, List.getElem?_cons_succ]
 cases h0 : args[0]? with
 | none => rfl
 | some s =>
  cases h1 : args[1]? with
  | none => rfl
  | some x => cases s <;> simp [run_underlying ht, run_underlying ht']
theorem qy {P : Program} (w : World) {ops : Array Oper} {rest : List Oper} {o : Oper} {a : Act} {Q : Exit -> Act -> World -> Prop}
  (hg : o.guard = none) (s x : Operand) (t t' : TypeId) (hop : o.op = Op.call { callee := Callee.builtin Builtin.append, args := #[s, x], argTypes := #[t, t'] })
  (e : TypeId) (i : TypeInfo) (z : Value) (size bytes : Nat) (h1 : P.underlying t = some (.slice e)) (h1' : P.underlying t' = some (.slice e)) (h2 : P.info? e = some i) (h3 : i.zero = some z) (h4 : i.size = size) (h5 : i.bytes = bytes) (h6 : z.cells.size = size) (h7 : 0 < size)
  (ao : Option Addr) (n cap : Nat) (olds : List Value) (hs : a.eval s = .slice ao n cap) (hnone : ao = none -> n = 0 /\ cap = 0) (hlo : olds.length = n * size) (holds : ∀ b, ao = some b -> ∀ j u, olds[j]? = some u -> w.cell? (b.add j) = some u)
  (ad : Addr) (m c : Nat) (news : List Value) (hx : a.eval x = .slice (some ad) m c) (hn : news.length = m * size) (hc : ∀ j u, news[j]? = some u -> w.cell? (ad.add j) = some u) (h1c : ∀ u ∈ news, u.oneCell' = true)
  (hfull : cap < n + m) (b1 : n + m <= maxLen) (b2 : (n + m) * bytes <= 140737488355328)
  (hK : ∀ v' w', w'.ownsRow w.heap.size e size v' (n + m) (olds ++ news) -> w.grownBy w' none -> wpList P ops Q rest (a.put o.dst v') w') :
  wpList P ops Q (o :: rest) a w := by
 refine wpList_plain hg fun K hK' => ?_
 cases ao with
 | some b =>
  obtain ⟨v', w', hrun, r1, r2⟩ := run_append_arg_grows (P := P) w t o.type e i z size bytes h1 h2 h3 h4 h5 h6 h7 b n cap olds hlo (holds b rfl) ad m c news hn hc hfull b1 b2;exact zFJ
 | none =>
  obtain ⟨rfl, rfl⟩ := hnone rfl;obtain rfl : olds = [] := List.eq_nil_of_length_eq_zero (by simpa using hlo);obtain ⟨v', w', hrun, r1, r2, _⟩ := run_append_own (P := P) w w.heap.size t o.type e i z size bytes h1 h2 h3 h4 h5 h6 h7 (.slice none 0 0) 0 [] (World.ownsRow_nil w _ e size) ad m c news hn hc h1c b1 b2 (Nat.le_refl _);exact zFJ
theorem ww : (Tryz.prog.info? 114).map (fun i => (i.zero, i.size, i.bytes)) = some (some (.agg #[.string ⟨#[]⟩, .int .i8 0, .slice none 0 0]), 3, 48) := by kernel_rfl
theorem Ck.EAt.end {Q : Nat -> Prop} {w w1 : World} {l : Ck.Env} {xs : List Value} {base : Nat} {v : Value} {n : Nat} (hn : n = l.length) (hn0 : 0 < n) (hE : Ck.EFlat Q w l xs) (hw : Below w.heap.size w w1) (hown : w1.ownsRow base 114 3 v n xs) :
  ∃ G k, v = .slice G n k /\ Ck.EAt Q w1 l G n k := by
 exact zGc
theorem jS (Q : Nat -> Prop) (l l' : Ck.Env) (A : Option Addr) (n c : Nat) (Y m c' : Nat) (w : World) (hE : Ck.EAt Q w l A n c) (hE' : Ck.EAt Q w l' (some ⟨Y, 0, none⟩) m c') (hm : 0 < m) (hb : n + m <= 20000) :
  Calls Tryz.prog 70 #[.slice A n c, .slice (some ⟨Y, 0, none⟩) m c'] w fun e w' => ∃ G k, e = .returned (.slice G (n + m) k) /\ Ck.EAt Q w' (l ++ l') G (n + m) k /\ Below w.heap.size w w' := by
 obtain ⟨e1, e2, e3, e4, xs, e5, e6⟩ := hE;obtain ⟨d1, d2, d3, -, ys, d5, d6⟩ := hE';obtain ⟨b', o', he, hlt', hc'⟩ := d6 _ rfl;injection he with he1 he2 he3
 subst he1 he2;obtain ⟨i0, hi, hz1, hz2, hz3⟩ := info_parts ww;have hlx := e5.len;have hly := d5.len;rw [← e1] at hlx;rw [← d1] at hly
 have hcy : ∀ j u, ys[j]? = some u -> w.cell? ((⟨Y, 0, none⟩ : Addr).add j) = some u := fun j u hu => by
  have : (⟨Y, 0, none⟩ : Addr).add j = ⟨Y, 0 + j, none⟩ := by unfold Addr.add; by_cases h : j = 0 <;> simp [h]
  rw [this]; exact hc' j u hu
 have h1c := d5.one
 have HFIN := k0_ (fun (v : Value) (w1 : World) (hown : w1.ownsRow w.heap.size 114 3 v (n + m) (xs ++ ys)) (hg : w.grownBy w1 none) => (show ∃ G k, v = .slice G (n + m) k /\ Ck.EAt Q w1 (l ++ l') G (n + m) k /\ Below w.heap.size w w1 by
  have hbw : Below w.heap.size w w1 := (Below.refl _ _).grown hg (Nat.le_refl _) fun k hk => by cases hk
  obtain ⟨G, k, h1, h2⟩ := Ck.EAt.end (by rw [List.length_append, ← e1, ← d1]) (by omega) (e5.app d5) hbw hown
  exact ⟨G, k, h1, h2, hbw⟩))
 cases A with
 | none =>
  obtain ⟨h0, h00⟩ := e4 rfl;clear e1 d1 e5 d5 e6 hc' e4 d6;subst h0 h00
  go_enter Tryz.func70, Tryz.ntmps70
  go_wp2_with (first | (at_builtin; refine qy _ rfl (.tmp 10) (.tmp 11) 78 77 rfl 114 i0 (.agg #[.string ⟨#[]⟩, .int .i8 0, .slice none 0 0]) 3 48 Tryz.underlying78 Tryz.underlying77 hi hz1 hz2 hz3 rfl (by decide) none 0 0 xs rfl (fun _ => ⟨rfl, rfl⟩) hlx (fun _ h => by cases h) ⟨Y, 0, none⟩ m c' ys rfl hly hcy h1c ?_ ?_ ?_ ?_))
  ·unfold maxLen; omega
  ·omega
  ·exact zGS
 | some a =>
  obtain ⟨b, o, rfl, hbl, hcx0⟩ := e6 a rfl
  have hcx : ∀ b', some (⟨b, o, none⟩ : Addr) = some b' -> ∀ j u, xs[j]? = some u -> w.cell? (b'.add j) = some u := fun b' hb' j u hu => by
   injection hb' with hb'
   subst hb';have : (⟨b, o, none⟩ : Addr).add j = ⟨b, o + j, none⟩ := by unfold Addr.add; by_cases h : j = 0 <;> simp [h]
   rw [this]; exact hcx0 j u hu
  have hnc : (n : Int) <= c := by omega
  have hnn : (0 : Int) <= n := by omega
  clear e1 d1 e5 d5 e6 hc' e4 d6 hcx0
  go_enter Tryz.func70, Tryz.ntmps70
  go_wp2_with (first | (at_builtin; refine qy _ rfl (.tmp 10) (.tmp 11) 78 77 rfl 114 i0 (.agg #[.string ⟨#[]⟩, .int .i8 0, .slice none 0 0]) 3 48 Tryz.underlying78 Tryz.underlying77 hi hz1 hz2 hz3 rfl (by decide) (some ⟨b, o, none⟩) n n xs rfl (fun h => by cases h) hlx hcx ⟨Y, 0, none⟩ m c' ys rfl hly hcy h1c ?_ ?_ ?_ ?_))
  ·unfold maxLen; omega
  ·omega
  ·exact zGS
namespace Cg
open Ck
structure Ops where
 ag : T2 -> T2 -> Bool
 asO : Int -> T2 -> Bool
 asl : Int -> T2 -> T2
 asr : Int -> T2 -> T2
 mt : T2 -> T2 -> T2
 gs : T2 -> T2 -> Bool
 ca : Bool
def meet (D : Ops) (h : Hd) (a b : T2) : R := if D.ag a b = true then .ok (D.mt a b) else fault h 91
def over (D : Ops) (h : Hd) (a b c : T2) : R :=
 if h.kind = 6 then (if D.asO 3 a = true then (if D.ag b (D.asl 3 a) = true then .ok (D.asr 3 a) else fault h 91) else fault h 90)
 else if h.kind = 8 then (if D.ag a (2, .nil) = true then meet D h b c else fault h 91)
 else if h.kind = 9 then .ok (mk2 4 a b)
 else if h.kind = 10 then (if D.asO 4 a = true then .ok (D.asl 4 a) else fault h 90)
 else if h.kind = 11 then (if D.asO 4 a = true then .ok (D.asr 4 a) else fault h 90)
 else if h.kind = 12 then (if D.asO 5 (TT h) = true then (if D.ag a (D.asl 5 (TT h)) = true then .ok (mk2 5 (D.asl 5 (TT h)) (D.asr 5 (TT h))) else fault h 91) else fault h 90)
 else if h.kind = 13 then (if D.asO 5 (TT h) = true then (if D.ag a (D.asr 5 (TT h)) = true then .ok (mk2 5 (D.asl 5 (TT h)) (D.asr 5 (TT h))) else fault h 91) else fault h 90)
 else if h.kind = 15 then (if D.ag a (1, .nil) = true then (if D.ag b (1, .nil) = true then .ok (opAns h.name) else fault h 91) else fault h 91)
 else if h.kind = 17 /\ D.ca = true then (if D.ag a (TT h) = true then (if D.gs (TT h) (UU h) = true then .ok (UU h) else fault h 91) else fault h 91)
 else (if D.ag a (TT h) = true then .ok (TT h) else fault h 91)
def raw (D : Ops) (F : Hd -> Tm -> Env -> R) (h : Hd) (kids : Tm) (l : Env) : R :=
 if h.kind = 0 then (match fnd l h.name with
  | some a => .ok a
  | none => .bad 41 h.pos h.name)
 else if h.kind = 1 then .ok (1, .nil)
 else if h.kind = 2 \/ h.kind = 3 then .ok (2, .nil)
 else if h.kind = 4 then bnd (F (k1 kids).1 (k1 kids).2 (l ++ [(h.name, TT h)])) fun b => .ok (mk2 3 (TT h) b)
 else if h.kind = 5 then bnd (F (k1 kids).1 (k1 kids).2 (l ++ [(h.name, mk2 3 (TT h) (UU h)), (h.arg, TT h)])) fun b => if D.ag b (UU h) = true then .ok (mk2 3 (TT h) (UU h)) else fault h 91
 else if h.kind = 7 then bnd (F (k1 kids).1 (k1 kids).2 l) fun a => if D.ag a (TT h) = true then F (k2 kids).1 (k2 kids).2 (l ++ [(h.name, TT h)]) else fault h 91
 else if h.kind = 14 then bnd (F (k1 kids).1 (k1 kids).2 l) fun a => if D.asO 5 a = true then bnd (F (k2 kids).1 (k2 kids).2 (l ++ [(h.name, D.asl 5 a)])) fun b => bnd (F (k3 kids).1 (k3 kids).2 (l ++ [(h.arg, D.asr 5 a)])) fun c => meet D h b c else fault h 90
 else if h.kind = 6 \/ h.kind = 9 \/ h.kind = 15 then bnd (F (k1 kids).1 (k1 kids).2 l) fun a => bnd (F (k2 kids).1 (k2 kids).2 l) fun b => over D h a b (0, .nil)
 else if h.kind = 8 then bnd (F (k1 kids).1 (k1 kids).2 l) fun a => bnd (F (k2 kids).1 (k2 kids).2 l) fun b => bnd (F (k3 kids).1 (k3 kids).2 l) fun c => over D h a b c
 else bnd (F (k1 kids).1 (k1 kids).2 l) fun a => over D h a (0, .nil) (0, .nil)
def ty (D : Ops) : Nat -> Hd -> Tm -> Env -> R
 | 0, h, _, _ => fault h 0
 | K + 1, h, kids, l => lift h (raw D (ty D K) h kids l)
theorem qd (D : Ops) (K : Nat) (h : Hd) (kids : Tm) (l : Env) : ty D (K + 1) h kids l = lift h (raw D (ty D K) h kids l) := rfl
theorem jq {D : Ops} : ∀ {K : Nat} {h : Hd} {kids : Tm} {l : Env} {a : T2}, ty D K h kids l = .ok a -> chk a = 0
 | 0, _, _, _, _, e => by cases e
 | _ + 1, _, _, _, _, e => (zBh e).2
def grad : Ops := ⟨ag, asO, asl, asr, mt, fun _ _ => false, false⟩
theorem zCG (h : Hd) (a b c : T2) : over grad h a b c = Ck.over h a b c := by
 have q : ¬ (h.kind = 17 /\ grad.ca = true) := fun q => by cases q.2
 unfold over;rw [if_neg q]
 rfl
theorem zDO (F : Hd -> Tm -> Env -> R) (h : Hd) (kids : Tm) (l : Env) : raw grad F h kids l = Ck.raw F h kids l := by
 unfold raw;simp only [zCG]
 rfl
theorem wC : ∀ K : Nat, ty grad K = Ck.ty K
 | 0 => rfl
 | K + 1 => by
  funext h kids l
  show lift h (raw grad (ty grad K) h kids l) = lift h (Ck.raw (Ck.ty K) h kids l);rw [wC K, zDO]
end Cg
end Go.Proofs.YtkdnnleanoompaaGreatDoor
namespace Go.Proofs.YtkdnnleanoompaaGreatDoor
open Go.RowKit
theorem jG {w : World} {b : Nat} {v0 v1 v2 v3 v4 : Value} {t : TypeId} (h : w.heap[b]? = some (.cells #[v0, v1, v2, v3, v4] t (0, 0))) :
  w.cell? ⟨b, 0, none⟩ = some v0 /\ w.cell? ⟨b, 1, none⟩ = some v1 /\ w.cell? ⟨b, 2, none⟩ = some v2 /\ w.cell? ⟨b, 3, none⟩ = some v3 /\ w.cell? ⟨b, 4, none⟩ = some v4 /\
  w.frozen? ⟨b, 0, none⟩ = false /\ w.frozen? ⟨b, 1, none⟩ = false /\ w.frozen? ⟨b, 2, none⟩ = false /\ w.frozen? ⟨b, 3, none⟩ = false /\ w.frozen? ⟨b, 4, none⟩ = false /\ b < w.heap.size := by
 refine ⟨?_, ?_, ?_, ?_, ?_, ?_, ?_, ?_, ?_, ?_, zC h⟩ <;> simp [World.cell?, World.frozen?, h]
namespace Cg
open Ck
def AsPost (Q : Nat -> Prop) (w : World) (ok : Bool) (l r : T2) (e : Ending) (w' : World) : Prop :=
 ∃ G1 m1 c1 G2 m2 c2, e = .returned (.tuple #[.agg #[.int .i8 l.1, .slice G1 m1 c1], .agg #[.int .i8 r.1, .slice G2 m2 c2], .bool ok]) /\ Ly (Cut Q w.heap.size w.heap.size) w' l G1 m1 c1 /\ Ly (Cut Q w.heap.size w.heap.size) w' r G2 m2 c2 /\ Below w.heap.size w w'
def RefPost (w : World) (r : Option (Int × Int)) (e : Ending) (w' : World) : Prop := match r with
 | none => e = .returned (.pointer none) /\ Below w.heap.size w w'
 | some x => ∃ g, e = .returned (.pointer (some ⟨g, 0, none⟩)) /\ FltAt w' g x.1 x.2 e0 /\ w.heap.size <= g /\ Below w.heap.size w w'
structure Rv where
 fr : FuncId
 cpt : Array Value
 vg : Value
 fa : FuncId
 fm : FuncId
 ft : FuncId
 D : Ops
 cfr : ∀ (args : Array Value) (W : World), (callFunc fr args).run Tryz.prog W = .ok (.enter fr args) W
 cfa : ∀ (args : Array Value) (W : World), (callFunc fa args).run Tryz.prog W = .ok (.enter fa args) W
 cfm : ∀ (args : Array Value) (W : World), (callFunc fm args).run Tryz.prog W = .ok (.enter fm args) W
 cft : ∀ (args : Array Value) (W : World), (callFunc ft args).run Tryz.prog W = .ok (.enter ft args) W
 agC : ∀ (k : Int) (kids : Fo) (A : Option Addr) (n c : Nat) (k' : Int) (kids' : Fo) (A' : Option Addr) (n' c' : Nat) (w : World), Ty.Is w k kids A n c -> Ty.Is w k' kids' A' n' c' -> Shapes w ->
  Calls Tryz.prog fa #[.agg #[.int .i8 k, .slice A n c], .agg #[.int .i8 k', .slice A' n' c']] w fun e w' => e = .returned (.bool (D.ag (k, kids) (k', kids'))) /\ Below w.heap.size w w'
 asC : ∀ (Q : Nat -> Prop) (kd : Int) (a : T2) (A : Option Addr) (n c : Nat) (w : World), 3 <= kd /\ kd <= 5 -> Ly Q w a A n c -> Ty.okT a.1 a.2 = true -> Shapes w ->
  Calls Tryz.prog fm #[.int .i8 kd, .agg #[.int .i8 a.1, .slice A n c]] w (AsPost Q w (D.asO kd a) (D.asl kd a) (D.asr kd a))
 mtC : ∀ (Q : Nat -> Prop) (a : T2) (A : Option Addr) (n c : Nat) (b : T2) (A' : Option Addr) (n' c' : Nat) (w : World), Ly Q w a A n c -> Ly Q w b A' n' c' -> D.ag a b = true -> Shapes w ->
  Calls Tryz.prog ft #[.agg #[.int .i8 a.1, .slice A n c], .agg #[.int .i8 b.1, .slice A' n' c']] w (Gives Q w (D.mt a b))
 gC : D.ca = true -> ∃ fg, vg = .func (Fn.func fg) #[] #[] /\ (∀ (args : Array Value) (W : World), (callFunc fg args).run Tryz.prog W = .ok (.enter fg args) W) /\
  ∀ (k : Int) (kids : Fo) (A : Option Addr) (n c : Nat) (k' : Int) (kids' : Fo) (A' : Option Addr) (n' c' : Nat) (w : World), Ty.Is w k kids A n c -> Ty.Is w k' kids' A' n' c' -> Shapes w ->
  Calls Tryz.prog fg #[.agg #[.int .i8 k, .slice A n c], .agg #[.int .i8 k', .slice A' n' c']] w fun e w' => e = .returned (.bool (D.gs (k, kids) (k', kids'))) /\ Below w.heap.size w w'
def tellR (D : Ops) (x : Option (Int × Int)) (h : Hd) (kids : Tm) : R := match x with
 | some x => .bad x.1 x.2 e0
 | none => ty D (Tm.nodes kids + 1) h kids []
end Cg
abbrev rF_ (rv : Cg.Rv) : Array Value := #[.func (Fn.func rv.fr) #[] rv.cpt, .func (Fn.func rv.fa) #[] #[], .func (Fn.func rv.fm) #[] #[], .func (Fn.func rv.ft) #[] #[], rv.vg]
end Go.Proofs.YtkdnnleanoompaaGreatDoor
namespace Go.Proofs.YtkdnnleanoompaaGreatDoor
namespace Ck
theorem zDc (F : Hd -> Tm -> Env -> R) (h : Hd) (kids : Tm) (l : Env) (hk : h.kind = 0) : raw F h kids l = (match fnd l h.name with | some a => .ok a | none => .bad 41 h.pos h.name) := by
 unfold raw;rw [if_pos hk]
 all_goals (cases fnd l h.name <;> rfl)
theorem zDb (F : Hd -> Tm -> Env -> R) (h : Hd) (kids : Tm) (l : Env) (hk : h.kind = 1) : raw F h kids l = .ok (1, .nil) := by
 unfold raw
 simp [hk]
theorem zDT (F : Hd -> Tm -> Env -> R) (h : Hd) (kids : Tm) (l : Env) (hk : h.kind = 2) : raw F h kids l = .ok (2, .nil) := by
 unfold raw
 simp [hk]
theorem zDS (F : Hd -> Tm -> Env -> R) (h : Hd) (kids : Tm) (l : Env) (hk : h.kind = 3) : raw F h kids l = .ok (2, .nil) := by
 unfold raw
 simp [hk]
theorem zDR (F : Hd -> Tm -> Env -> R) (h : Hd) (kids : Tm) (l : Env) (hk : h.kind = 4) : raw F h kids l = bnd (F (k1 kids).1 (k1 kids).2 (l ++ [(h.name, TT h)])) fun b => .ok (mk2 3 (TT h) b) := by
 unfold raw
 simp [hk]
theorem zDQ (F : Hd -> Tm -> Env -> R) (h : Hd) (kids : Tm) (l : Env) (hk : h.kind = 5) : raw F h kids l = bnd (F (k1 kids).1 (k1 kids).2 (l ++ [(h.name, mk2 3 (TT h) (UU h)), (h.arg, TT h)])) fun b => if ag b (UU h) = true then .ok (mk2 3 (TT h) (UU h)) else fault h 91 := by
 unfold raw
 simp [hk]
theorem zF9 (F : Hd -> Tm -> Env -> R) (h : Hd) (kids : Tm) (l : Env) (hk : h.kind = 6) : raw F h kids l = bnd (F (k1 kids).1 (k1 kids).2 l) fun a => bnd (F (k2 kids).1 (k2 kids).2 l) fun b => over h a b (0, .nil) := by
 unfold raw
 simp [hk]
theorem zDP (F : Hd -> Tm -> Env -> R) (h : Hd) (kids : Tm) (l : Env) (hk : h.kind = 7) : raw F h kids l = bnd (F (k1 kids).1 (k1 kids).2 l) fun a => if ag a (TT h) = true then F (k2 kids).1 (k2 kids).2 (l ++ [(h.name, TT h)]) else fault h 91 := by
 unfold raw
 simp [hk]
theorem zF8 (F : Hd -> Tm -> Env -> R) (h : Hd) (kids : Tm) (l : Env) (hk : h.kind = 8) : raw F h kids l = bnd (F (k1 kids).1 (k1 kids).2 l) fun a => bnd (F (k2 kids).1 (k2 kids).2 l) fun b => bnd (F (k3 kids).1 (k3 kids).2 l) fun c => over h a b c := by
 unfold raw
 simp [hk]
theorem zF7 (F : Hd -> Tm -> Env -> R) (h : Hd) (kids : Tm) (l : Env) (hk : h.kind = 9) : raw F h kids l = bnd (F (k1 kids).1 (k1 kids).2 l) fun a => bnd (F (k2 kids).1 (k2 kids).2 l) fun b => over h a b (0, .nil) := by
 unfold raw
 simp [hk]
theorem zDa (F : Hd -> Tm -> Env -> R) (h : Hd) (kids : Tm) (l : Env) (hk : h.kind = 10) : raw F h kids l = bnd (F (k1 kids).1 (k1 kids).2 l) fun a => over h a (0, .nil) (0, .nil) := by
 unfold raw
 simp [hk]
theorem zDZ (F : Hd -> Tm -> Env -> R) (h : Hd) (kids : Tm) (l : Env) (hk : h.kind = 11) : raw F h kids l = bnd (F (k1 kids).1 (k1 kids).2 l) fun a => over h a (0, .nil) (0, .nil) := by
 unfold raw
 simp [hk]
theorem zDY (F : Hd -> Tm -> Env -> R) (h : Hd) (kids : Tm) (l : Env) (hk : h.kind = 12) : raw F h kids l = bnd (F (k1 kids).1 (k1 kids).2 l) fun a => over h a (0, .nil) (0, .nil) := by
 unfold raw
 simp [hk]
theorem zDX (F : Hd -> Tm -> Env -> R) (h : Hd) (kids : Tm) (l : Env) (hk : h.kind = 13) : raw F h kids l = bnd (F (k1 kids).1 (k1 kids).2 l) fun a => over h a (0, .nil) (0, .nil) := by
 unfold raw
 simp [hk]
theorem zAd (F : Hd -> Tm -> Env -> R) (h : Hd) (kids : Tm) (l : Env) (hk : h.kind = 14) : raw F h kids l = bnd (F (k1 kids).1 (k1 kids).2 l) fun a => if asO 5 a = true then bnd (F (k2 kids).1 (k2 kids).2 (l ++ [(h.name, asl 5 a)])) fun b => bnd (F (k3 kids).1 (k3 kids).2 (l ++ [(h.arg, asr 5 a)])) fun c => meet h b c else fault h 90 := by
 unfold raw
 simp [hk]
theorem zDW (F : Hd -> Tm -> Env -> R) (h : Hd) (kids : Tm) (l : Env) (hk : h.kind = 15) : raw F h kids l = bnd (F (k1 kids).1 (k1 kids).2 l) fun a => bnd (F (k2 kids).1 (k2 kids).2 l) fun b => over h a b (0, .nil) := by
 unfold raw
 simp [hk]
theorem zDV (F : Hd -> Tm -> Env -> R) (h : Hd) (kids : Tm) (l : Env) (hk : h.kind = 16) : raw F h kids l = bnd (F (k1 kids).1 (k1 kids).2 l) fun a => over h a (0, .nil) (0, .nil) := by
 unfold raw
 simp [hk]
theorem zDU (F : Hd -> Tm -> Env -> R) (h : Hd) (kids : Tm) (l : Env) (hk : h.kind = 17) : raw F h kids l = bnd (F (k1 kids).1 (k1 kids).2 l) fun a => over h a (0, .nil) (0, .nil) := by
 unfold raw
 simp [hk]
theorem zAs (h : Hd) (a b c : T2) (hk : h.kind = 6) : over h a b c = if asO 3 a = true then (if ag b (asl 3 a) = true then .ok (asr 3 a) else fault h 91) else fault h 90 := by
 unfold over
 simp [hk]
theorem zAr (h : Hd) (a b c : T2) (hk : h.kind = 8) : over h a b c = if ag a (2, .nil) = true then meet h b c else fault h 91 := by
 unfold over
 simp [hk]
theorem zAq (h : Hd) (a b c : T2) (hk : h.kind = 9) : over h a b c = .ok (mk2 4 a b) := by
 unfold over
 simp [hk]
theorem wT (h : Hd) (a b c : T2) (hk : h.kind = 10) : over h a b c = if asO 4 a = true then .ok (asl 4 a) else fault h 90 := by
 unfold over
 simp [hk]
theorem wS (h : Hd) (a b c : T2) (hk : h.kind = 11) : over h a b c = if asO 4 a = true then .ok (asr 4 a) else fault h 90 := by
 unfold over
 simp [hk]
theorem wR (h : Hd) (a b c : T2) (hk : h.kind = 12) : over h a b c = if asO 5 (TT h) = true then (if ag a (asl 5 (TT h)) = true then .ok (mk2 5 (asl 5 (TT h)) (asr 5 (TT h))) else fault h 91) else fault h 90 := by
 unfold over
 simp [hk]
theorem wQ (h : Hd) (a b c : T2) (hk : h.kind = 13) : over h a b c = if asO 5 (TT h) = true then (if ag a (asr 5 (TT h)) = true then .ok (mk2 5 (asl 5 (TT h)) (asr 5 (TT h))) else fault h 91) else fault h 90 := by
 unfold over
 simp [hk]
theorem wP (h : Hd) (a b c : T2) (hk : h.kind = 15) : over h a b c = if ag a (1, .nil) = true then (if ag b (1, .nil) = true then .ok (opAns h.name) else fault h 91) else fault h 91 := by
 unfold over
 simp [hk]
theorem wO (h : Hd) (a b c : T2) (hk : h.kind = 16) : over h a b c = if ag a (TT h) = true then .ok (TT h) else fault h 91 := by
 unfold over
 simp [hk]
theorem wN (h : Hd) (a b c : T2) (hk : h.kind = 17) : over h a b c = if ag a (TT h) = true then .ok (TT h) else fault h 91 := by
 unfold over
 simp [hk]
end Ck
namespace Ck
theorem qO {h : Hd} {k r : Tm} (h0 : Tm.okF (.node h k r) = true) : Tm.okT h k = true /\ Tm.okF r = true := by
 simp only [Tm.okF, Bool.and_eq_true] at h0;exact ⟨by unfold Tm.okT; rw [h0.1.1, h0.1.2]; rfl, h0.2⟩
theorem jd {h : Hd} {kids : Tm} (h0 : Tm.okT h kids = true) : Tm.isKind h.kind = true /\ Tm.len kids = Tm.kidsN h.kind /\ Tm.okF kids = true := by
 unfold Tm.okT Tm.headOk at h0;simp only [Bool.and_eq_true, decide_eq_true_eq] at h0;exact ⟨h0.1.1.1.1.1, h0.1.1.1.1.2, h0.2⟩
theorem jB {h : Hd} {kids : Tm} (h0 : castT h kids = false) : h.kind ≠ 17 /\ castF kids = false := by
 unfold castT at h0;simp only [Bool.or_eq_false_iff, beq_eq_false_iff_ne] at h0;exact h0
theorem vQ {h : Hd} {kids : Tm} (h0 : Tm.chk h kids = 0) : Tm.nd h kids <= 8192 /\ Tm.dp h kids <= 200 /\ Tm.okT h kids = true := by
 unfold Tm.chk at h0
 split at h0
 ·cases h0
 ·split at h0
  ·cases h0
  ·split at h0
   ·exact ⟨by omega, by omega, by assumption⟩
   ·cases h0
def two (h : Hd) (k : Tm) (h' : Hd) (k' : Tm) : Tm := .node h k (.node h' k' .nil)
end Ck
end Go.Proofs.YtkdnnleanoompaaGreatDoor
namespace Go.Proofs.YtkdnnleanoompaaGreatDoor
open Go.RowKit
namespace Tm
end Tm
def mask (P : Nat -> Bool) (w : World) : World := { w with heap := w.heap.mapIdx fun i o => if P i then o else .cells #[] 0 (0, 0) }
theorem zEX {P : Nat -> Bool} {w : World} {b o : Nat} {v : Value} (hP : P b = true) (h : w.cell? ⟨b, o, none⟩ = some v) : (mask P w).cell? ⟨b, o, none⟩ = some v := by
 unfold mask;simp only [World.cell?, Array.getElem?_mapIdx] at h ⊢
 cases hb : w.heap[b]? with
 | none => simp [hb] at h
 | some x => rw [hb] at h; simpa [hP] using h
theorem zEY {P : Nat -> Bool} {w : World} {b o : Nat} {v : Value} (h : (mask P w).cell? ⟨b, o, none⟩ = some v) : P b = true /\ w.cell? ⟨b, o, none⟩ = some v := by
 unfold mask at h;simp only [World.cell?, Array.getElem?_mapIdx] at h ⊢
 cases hb : w.heap[b]? with
 | none => simp [hb] at h
 | some x =>
  rw [hb] at h;cases hp : P b
  ·simp [hp] at h
  ·exact ⟨rfl, by simpa [hp] using h⟩
theorem jM {P P' : Nat -> Bool} {w w' : World} (hk : ∀ b o v, P b = true -> w.cell? ⟨b, o, none⟩ = some v -> P' b = true /\ w'.cell? ⟨b, o, none⟩ = some v) : Tm.Kept (mask P w) (mask P' w') := fun b _ o v h => by
 obtain ⟨h1, h2⟩ := zEY h;obtain ⟨h3, h4⟩ := hk b o v h1 h2;exact zEX h3 h4
namespace Ty
def app : Fo -> Fo -> Fo
 | .nil, g => g
 | .node a b k kids r, g => .node a b k kids (app r g)
theorem vF : ∀ (f : Fo) (a b : Nat) (k : Int) (kids r : Fo), app (app f (.node a b k kids .nil)) r = app f (.node a b k kids r)
 | .nil, _, _, _, _, _ => rfl
 | .node _ _ _ _ q, a, b, k, kids, r => by simp only [app]; rw [vF q]
theorem vC : ∀ (f : Fo) (a b : Nat) (k : Int) (kids : Fo), len (app f (.node a b k kids .nil)) = len f + 1
 | .nil, _, _, _, _ => rfl
 | .node _ _ _ _ q, a, b, k, kids => by simp only [app, len]; rw [vC q]
def Flat (w : World) : Fo -> List Value -> Prop
 | .nil, xs => xs = []
 | .node _ _ k kids r, xs => ∃ A m c ys, xs = .int .i8 k :: .slice A m c :: ys /\ Is w k kids A m c /\ Flat w r ys
theorem Flat.snoc {w : World} {a b : Nat} {k : Int} {kids : Fo} {A : Option Addr} {m c : Nat} (hI : Is w k kids A m c) : ∀ (f : Fo) (xs : List Value), Flat w f xs -> Flat w (app f (.node a b k kids .nil)) (xs ++ [.int .i8 k, .slice A m c])
 | .nil, xs, h => by cases h; exact ⟨A, m, c, [], rfl, hI, rfl⟩
 | .node _ _ _ _ q, xs, h => by
  obtain ⟨A', m', c', ys, rfl, h1, h2⟩ := h;exact ⟨A', m', c', _, rfl, h1, Flat.snoc hI q ys h2⟩
theorem Flat.kept {w w' : World} (hk : Tm.Kept w w') : ∀ (f : Fo) (xs : List Value), Flat w f xs -> Flat w' f xs
 | .nil, _, h => h
 | .node _ _ _ _ q, _, h => by
  obtain ⟨A', m', c', ys, rfl, h1, h2⟩ := h;exact ⟨A', m', c', ys, rfl, h1.kept hk, Flat.kept hk q ys h2⟩
theorem Flat.lies {w : World} {g : Nat} : ∀ (f : Fo) (xs : List Value) (i : Nat), Flat w f xs -> (∀ j u, xs[j]? = some u -> w.cell? ⟨g, i * 2 + j, none⟩ = some u) -> Lies w f (some ⟨g, 0, none⟩) i
 | .nil, _, _, _, _ => trivial
 | .node _ _ k kids r, _, i, h, hc => by
  obtain ⟨A', m', c', ys, rfl, h1, h2⟩ := h;refine ⟨g, 0, A', c', rfl, ⟨h1.lo, h1.hi⟩, by rw [Nat.zero_add]; exact hc 0 _ rfl, by rw [Nat.zero_add, ← h1.n_eq]; exact hc 1 _ rfl, by rw [← h1.n_eq]; exact h1.n_le, h1.c_le, h1.lies, ?_⟩
  exact Flat.lies r ys (i + 1) h2 fun j u hu => by
   have := hc (j + 2) u (by simpa using hu)
   rwa [show i * 2 + (j + 2) = (i + 1) * 2 + j by omega] at this
end Ty
structure EachRel (w wr : World) (A : Option Addr) (kids : Fo) (v : Value) (n i : Nat) (done rest : Fo) (xs : List Value) : Prop where
 eq : Ty.app done rest = kids
 len : Ty.len done = i
 i_eq : i + Ty.len rest = n
 lies : Ty.Lies w rest A i
 below : Below w.heap.size w wr
 own : wr.ownsRow w.heap.size 25 2 v i xs
 flat : Ty.Flat (mask (fun b => decide (w.heap.size <= b) && decide (v.ownBlock ≠ some b)) wr) done xs
 sub : Ty.nodes rest <= Ty.nodes kids
theorem EachRel.step {w wr u w3 : World} {A : Option Addr} {kids : Fo} {v v' : Value} {n i a b : Nat} {done r kd : Fo} {k : Int} {xs : List Value} {G : Option Addr} {m c : Nat} {o1 o2 : Obj}
  (h : EachRel w wr A kids v n i done (.node a b k kd r) xs) (hb : Below (wr.alloc o1).heap.size (wr.alloc o1) u) (hI : Ty.Is (mask (fun b => decide ((wr.alloc o1).heap.size <= b)) u) k kd G m c)
  (hown : w3.ownsRow w.heap.size 25 2 v' (i + 1) (xs ++ [.int .i8 k, .slice G m c])) (hg : (u.alloc o2).grownBy w3 v.ownBlock) (hat : v'.ownBlock = v.ownBlock \/ v'.ownBlock = some (u.alloc o2).heap.size) (hl : Ty.Lies w r A (i + 1)) :
  EachRel w w3 A kids v' n (i + 1) (Ty.app done (.node a b k kd .nil)) r (xs ++ [.int .i8 k, .slice G m c]) := by
 obtain ⟨h1, h2, h3, h4, h5, h6, h7, h8⟩ := h;simp only [Ty.len, Ty.nodes] at h3 h8;have hlt := h6.lt;have hs1 : wr.heap.size < (wr.alloc o1).heap.size := by simp
 have hs2 := hb.size;have hs3 : u.heap.size < (u.alloc o2).heap.size := by simp
 have hwu : Below wr.heap.size wr (u.alloc o2) := (((Below.refl _ _).alloc (Nat.le_refl _) o1).trans (hb.mono (by omega))).alloc (by omega) o2;refine ⟨by rw [Ty.vF]; exact h1, by rw [Ty.vC]; omega, by omega, hl, ?_, hown, ?_, by omega⟩
 ·exact zFZ
 ·refine Ty.Flat.snoc (hI.kept (jM fun b' o' x hP hx => ?_)) done xs (h7.kept (jM fun b' o' x hP hx => ?_))
  ·exact zGm
  ·exact zGk
attribute [local go_sem ↓] Go.wp_at_zero Go.wp_at_succ
namespace Tm
def bF : Tm -> Tm
 | .nil => .nil
 | .node h kids r => .node (cnt h) (bF kids) (bF r)
def app : Tm -> Tm -> Tm
 | .nil, g => g
 | .node h kids r, g => .node h kids (app r g)
theorem vF : ∀ (f : Tm) (h : Hd) (kids r : Tm), app (app f (.node h kids .nil)) r = app f (.node h kids r)
 | .nil, _, _, _ => rfl
 | .node _ _ q, h, kids, r => by simp only [app]; rw [vF q]
theorem vC : ∀ (f : Tm) (h : Hd) (kids : Tm), len (app f (.node h kids .nil)) = len f + 1
 | .nil, _, _ => rfl
 | .node _ _ q, h, kids => by simp only [app, len]; rw [vC q]
def Flat (w : World) : Tm -> List Value -> Prop
 | .nil, xs => xs = []
 | .node h kids r, xs => ∃ p ys, xs = h.cells p ++ ys /\ Is w h kids p /\ Flat w r ys
theorem Flat.snoc {w : World} {h : Hd} {kids : Tm} {p : Pl} (hI : Is w h kids p) : ∀ (f : Tm) (xs : List Value), Flat w f xs -> Flat w (app f (.node h kids .nil)) (xs ++ h.cells p)
 | .nil, xs, e => by cases e; exact ⟨p, [], by simp, hI, rfl⟩
 | .node _ _ q, xs, e => by
  obtain ⟨p', ys, rfl, h1, h2⟩ := e;exact ⟨p', ys ++ h.cells p, by rw [List.append_assoc], h1, Flat.snoc hI q ys h2⟩
theorem Flat.kept {w w' : World} (hk : Kept w w') : ∀ (f : Tm) (xs : List Value), Flat w f xs -> Flat w' f xs
 | .nil, _, e => e
 | .node _ _ q, _, e => by
  obtain ⟨p', ys, rfl, h1, h2⟩ := e;exact ⟨p', ys, rfl, h1.kept hk, Flat.kept hk q ys h2⟩
theorem Flat.lies {w : World} {g : Nat} : ∀ (f : Tm) (xs : List Value) (i : Nat), Flat w f xs -> (∀ j u, xs[j]? = some u -> w.cell? ⟨g, i * 11 + j, none⟩ = some u) -> Lies w f (some ⟨g, 0, none⟩) i
 | .nil, _, _, _, _ => trivial
 | .node h kids r, _, i, e, hc => by
  obtain ⟨p, ys, rfl, h1, h2⟩ := e;have hlen : (h.cells p).length = 11 := rfl;refine ⟨g, 0, p, rfl, fun j v hv => ?_, h1.fit, h1.lies, ?_⟩
  ·have hj : j < (h.cells p).length := by
    rcases Nat.lt_or_ge j (h.cells p).length with q | q
    ·exact q
    ·rw [List.getElem?_eq_none q] at hv; cases hv
   rw [Nat.zero_add];exact hc j v (by rw [List.getElem?_append_left hj]; exact hv)
  ·exact Flat.lies r ys (i + 1) h2 fun j u hu => by
    have := hc (j + 11) u (by rw [List.getElem?_append_right (by rw [hlen]; omega), hlen, show j + 11 - 11 = j by omega]; exact hu)
    rwa [show i * 11 + (j + 11) = (i + 1) * 11 + j by omega] at this
end Tm
structure EachRelT (w wr : World) (A : Option Addr) (kids : Tm) (v : Value) (n i : Nat) (done rest : Tm) (xs : List Value) : Prop where
 eq : Tm.app done (Tm.bF rest) = Tm.bF kids
 len : Tm.len done = i
 i_eq : i + Tm.len rest = n
 lies : Tm.Lies w rest A i
 below : Below w.heap.size w wr
 own : wr.ownsRow w.heap.size 28 11 v i xs
 flat : Tm.Flat (mask (fun b => decide (w.heap.size <= b) && decide (v.ownBlock ≠ some b)) wr) done xs
 sub : Tm.nodes rest <= Tm.nodes kids
theorem EachRelT.step {w wr u w3 : World} {A : Option Addr} {kids : Tm} {v v' : Value} {n i : Nat} {done r kd : Tm} {h : Hd} {xs : List Value} {p : Pl} {o1 o2 : Obj}
  (e : EachRelT w wr A kids v n i done (.node h kd r) xs) (hb : Below (wr.alloc o1).heap.size (wr.alloc o1) u) (hI : Tm.Is (mask (fun b => decide ((wr.alloc o1).heap.size <= b)) u) (Tm.cnt h) (Tm.bF kd) p)
  (hown : w3.ownsRow w.heap.size 28 11 v' (i + 1) (xs ++ (Tm.cnt h).cells p)) (hg : (u.alloc o2).grownBy w3 v.ownBlock) (hat : v'.ownBlock = v.ownBlock \/ v'.ownBlock = some (u.alloc o2).heap.size) (hl : Tm.Lies w r A (i + 1)) :
  EachRelT w w3 A kids v' n (i + 1) (Tm.app done (.node (Tm.cnt h) (Tm.bF kd) .nil)) r (xs ++ (Tm.cnt h).cells p) := by
 obtain ⟨h1, h2, h3, h4, h5, h6, h7, h8⟩ := e;simp only [Tm.len, Tm.nodes, Tm.bF] at h1 h3 h8;have hlt := h6.lt;have hs1 : wr.heap.size < (wr.alloc o1).heap.size := by simp
 have hs2 := hb.size;have hs3 : u.heap.size < (u.alloc o2).heap.size := by simp
 have hwu : Below wr.heap.size wr (u.alloc o2) := (((Below.refl _ _).alloc (Nat.le_refl _) o1).trans (hb.mono (by omega))).alloc (by omega) o2;refine ⟨by rw [Tm.vF]; exact h1, by rw [Tm.vC]; omega, by omega, hl, ?_, hown, ?_, by omega⟩
 ·exact zFZ
 ·refine Tm.Flat.snoc (hI.kept (jM fun b' o' x hP hx => ?_)) done xs (h7.kept (jM fun b' o' x hP hx => ?_))
  ·exact zGm
  ·exact zGk
attribute [local go_sem ↓] Go.wp_at_zero Go.wp_at_succ
structure BareRel (w wx : World) (B R : Nat) (a : Hd) (q : Pl) : Prop where
 bx : wx.heap[B]? = some (.cells (tC_ a q) 28 (0, 0))
 rx : wx.heap[R]? = some (.cells #[.int .i8 0, .string ⟨#[]⟩, .string ⟨#[]⟩, .int .i64 0, .int .i8 0, .slice none 0 0, .int .i8 0, .slice none 0 0, .int .i64 0, .int .i64 0, .slice none 0 0] 28 (0, 0))
 below : Below w.heap.size w wx
 gt : w.heap.size < B
 ne : R ≠ B
structure BareRel2 (w wx : World) (B R : Nat) (a : Hd) (q q2 : Pl) : Prop where
 rel : BareRel w wx B R a q2
 ty : Ty.Is (mask (fun b => decide (B < b)) wx) a.tk a.tkids q2.TA q2.tn q2.tc
 tu : Ty.Is (mask (fun b => decide (B < b)) wx) a.uk a.ukids q2.UA q2.un q2.uc
 A : q2.A = q.A
 n : q2.n = q.n
 c : q2.c = q.c
theorem BareRel.names {w u : World} {B R : Nat} {a : Hd} {q : Pl} (hB : u.heap[B]? = some (.cells (tC_ a q) 28 (0, 0))) (hR : u.heap[R]? = some (.cells #[.int .i8 0, .string ⟨#[]⟩, .string ⟨#[]⟩, .int .i64 0, .int .i8 0, .slice none 0 0, .int .i8 0, .slice none 0 0, .int .i64 0, .int .i64 0, .slice none 0 0] 28 (0, 0))) (hb : Below w.heap.size w u) (hg : w.heap.size < B) (hne : R ≠ B) :
  BareRel w ((u.setCell ⟨B, 1, none⟩ (.string a.name)).setCell ⟨B, 2, none⟩ (.string a.arg)) B R a q := by
 try unfold tC_
 refine ⟨?_, ?_, (hb.setCell (p := ⟨B, 1, none⟩) (Nat.le_of_lt hg) _).setCell (p := ⟨B, 2, none⟩) (Nat.le_of_lt hg) _, hg, hne⟩
 ·simp [World.setCell, Array.getElem?_modify, hB]
 ·rw [Below.heap_setCell _ _ _ R hne, Below.heap_setCell _ _ _ R hne]; exact hR
theorem BareRel.types {w u v : World} {B R : Nat} {a : Hd} {q : Pl} {G1 G2 : Option Addr} {m1 c1 m2 c2 n1 n2 : Nat} (hB : v.heap[B]? = some (.cells (tC_ a q) 28 (0, 0))) (hR : v.heap[R]? = some (.cells #[.int .i8 0, .string ⟨#[]⟩, .string ⟨#[]⟩, .int .i64 0, .int .i8 0, .slice none 0 0, .int .i8 0, .slice none 0 0, .int .i64 0, .int .i64 0, .slice none 0 0] 28 (0, 0))) (hb : Below w.heap.size w v) (hg : w.heap.size < B) (hne : R ≠ B)
  (h1 : Ty.Is (mask (fun b => decide (n1 <= b)) u) a.tk a.tkids G1 m1 c1) (hn1 : B < n1) (huv : Below u.heap.size u v) (h2 : Ty.Is (mask (fun b => decide (n2 <= b)) v) a.uk a.ukids G2 m2 c2) (hn2 : B < n2) :
  BareRel2 w ((((v.setCell ⟨B, 4, none⟩ (.int .i8 a.tk)).setCell ⟨B, 5, none⟩ (.slice G1 m1 c1)).setCell ⟨B, 6, none⟩ (.int .i8 a.uk)).setCell ⟨B, 7, none⟩ (.slice G2 m2 c2)) B R a q ⟨G1, m1, c1, G2, m2, c2, q.A, q.n, q.c⟩ := by
 try unfold tC_
 have hoth : ∀ (b o : Nat) (x : Value), b ≠ B -> v.cell? ⟨b, o, none⟩ = some x -> ((((v.setCell ⟨B, 4, none⟩ (.int .i8 a.tk)).setCell ⟨B, 5, none⟩ (.slice G1 m1 c1)).setCell ⟨B, 6, none⟩ (.int .i8 a.uk)).setCell ⟨B, 7, none⟩ (.slice G2 m2 c2)).cell? ⟨b, o, none⟩ = some x := by
  intro b o x hbB hx;rw [World.cell?_setCell_other _ _ _ _ (fun e => hbB (by injection e with e; exact e.symm)), World.cell?_setCell_other _ _ _ _ (fun e => hbB (by injection e with e; exact e.symm)), World.cell?_setCell_other _ _ _ _ (fun e => hbB (by injection e with e; exact e.symm)), World.cell?_setCell_other _ _ _ _ (fun e => hbB (by injection e with e; exact e.symm))];exact hx
 refine ⟨⟨?_, ?_, (((hb.setCell (p := ⟨B, 4, none⟩) (Nat.le_of_lt hg) _).setCell (p := ⟨B, 5, none⟩) (Nat.le_of_lt hg) _).setCell (p := ⟨B, 6, none⟩) (Nat.le_of_lt hg) _).setCell (p := ⟨B, 7, none⟩) (Nat.le_of_lt hg) _, hg, hne⟩, ?_, ?_, rfl, rfl, rfl⟩
 ·simp [World.setCell, Array.getElem?_modify, hB]
 ·rw [Below.heap_setCell _ _ _ R hne, Below.heap_setCell _ _ _ R hne, Below.heap_setCell _ _ _ R hne, Below.heap_setCell _ _ _ R hne]; exact hR
 ·refine h1.kept (jM fun b o x hP hx => ?_)
  have hP' : n1 <= b := by simpa using hP
  exact ⟨by simp; omega, hoth b o x (by omega) (by rw [huv.cell (p := ⟨b, o, none⟩) (Ty.zR hx)]; exact hx)⟩
 ·refine h2.kept (jM fun b o x hP hx => ?_)
  have hP' : n2 <= b := by simpa using hP
  exact ⟨by simp; omega, hoth b o x (by omega) hx⟩
attribute [local go_sem ↓] Go.wp_at_zero Go.wp_at_succ
def Tm.zero : Hd := ⟨0, ⟨#[]⟩, ⟨#[]⟩, 0, 0, .nil, 0, .nil, 0, 0⟩
def RowEl (w : World) (g : Nat) (h : Hd) (p : Pl) : Prop :=
 w.cell? ⟨g, 0, none⟩ = some (.int .i8 h.kind) /\ w.cell? ⟨g, 1, none⟩ = some (.string h.name) /\ w.cell? ⟨g, 2, none⟩ = some (.string h.arg) /\ w.cell? ⟨g, 3, none⟩ = some (.int .i64 h.num) /\ w.cell? ⟨g, 4, none⟩ = some (.int .i8 h.tk) /\
 w.cell? ⟨g, 5, none⟩ = some (.slice p.TA p.tn p.tc) /\ w.cell? ⟨g, 6, none⟩ = some (.int .i8 h.uk) /\ w.cell? ⟨g, 7, none⟩ = some (.slice p.UA p.un p.uc) /\ w.cell? ⟨g, 8, none⟩ = some (.int .i64 h.label) /\ w.cell? ⟨g, 9, none⟩ = some (.int .i64 h.pos) /\
 w.cell? ⟨g, 10, none⟩ = some (.slice p.A p.n p.c)
theorem RowEl.below {w w' : World} {g : Nat} {h : Hd} {p : Pl} (hr : RowEl w g h p) (hb : Below w.heap.size w w') : RowEl w' g h p := by
 have hl := Ty.zR hr.1;have hc := fun o => (vZ hb).1 g o hl
 unfold RowEl at *;rw [hc, hc, hc, hc, hc, hc, hc, hc, hc, hc, hc];exact hr
namespace Tm
def reH (h h' : Hd) : Bool := (h.kind == h'.kind) && ((!hasName h.kind || (h.name.toList == h'.name.toList)) && ((!hasArg h.kind || (h.arg.toList == h'.arg.toList)) && ((!hasNum h.kind || (h.num == h'.num)) &&
  ((!hasType h.kind || Ty.leT h.tk h.tkids h'.tk h'.tkids) && (!hasTo h.kind || Ty.leT h.uk h.ukids h'.uk h'.ukids)))))
theorem yo {h : Hd} {n : Nat} (ho : headOk h n = true) : tysOk h = true := by
 unfold headOk at ho;rw [Bool.and_eq_true] at ho;exact ho.2
end Tm
end Go.Proofs.YtkdnnleanoompaaGreatDoor
namespace Go.Proofs.YtkdnnleanoompaaGreatDoor
namespace Ty
theorem zBb {k : Int} {n m : Nat} (h : okK k n = true) (h' : okK k m = true) : n = m := by
 unfold okK at h h'
 split at h
 ·rename_i e; rw [if_pos e] at h'; simp at h h'; omega
 ·rename_i e
  rw [if_neg e] at h'
  split at h
  ·rename_i e2; rw [if_pos e2] at h'; simp at h h'; omega
  ·cases h
theorem zBR {k : Int} {kids : Fo} (h : okT k kids = true) (h1 : nodes kids + 1 <= 8192) (h2 : dep kids + 1 <= 200) : chk k kids = 0 := by
 unfold okT at h;unfold chk;rw [if_neg (by omega), if_neg (by omega), if_pos h]
theorem zDq : ∀ f g : Fo, okF f = true -> okF g = true -> len f = len g -> agF f g = true -> okF (mF f g) = true /\ len (mF f g) = len f
 | .nil, _, _, _, _, _ => ⟨rfl, rfl⟩
 | .node _ _ _ _ _, .nil, _, _, h, _ => by simp only [len] at h; omega
 | .node _ _ k kids r, .node _ _ m mids s, h1, h2, h3, h4 => by
  simp only [okF, Bool.and_eq_true, len] at h1 h2 h3;simp only [agF, Bool.and_eq_true, Bool.or_eq_true, beq_iff_eq] at h4;obtain ⟨a, b⟩ := zDq r s h1.2 h2.2 (by omega) h4.2;simp only [mF, okF, Bool.and_eq_true, len, b, and_true];refine ⟨?_, a⟩
  by_cases z1 : k = 0
  ·rw [if_pos z1, if_pos z1]; exact h2.1
  by_cases z2 : m = 0
  ·rw [if_neg z1, if_neg z1, if_pos z2]; exact h1.1
  rw [if_neg z1, if_neg z1, if_neg z2];rcases h4.1 with (q | q) | ⟨q, c⟩
  ·exact absurd q z1
  ·exact absurd q z2
  subst q;obtain ⟨x, y⟩ := zDq kids mids h1.1.2 h2.1.2 (zBb h1.1.1 h2.1.1) c;exact ⟨by rw [y]; exact h1.1.1, x⟩
theorem zFy {k : Int} {kids : Fo} {m : Int} {mids : Fo} (h : okT k kids = true) (h' : okT m mids = true) (ha : agT k kids m mids = true) : okT (mK k m) (mT k kids m mids) = true := by
 unfold mK mT
 by_cases z1 : k = 0
 ·rw [if_pos z1, if_pos z1]; exact h'
 by_cases z2 : m = 0
 ·rw [if_neg z1, if_neg z1, if_pos z2]; exact h
 rw [if_neg z1, if_neg z1, if_neg z2];unfold agT at ha;simp only [Bool.or_eq_true, Bool.and_eq_true, beq_iff_eq] at ha;rcases ha with (q | q) | ⟨q, c⟩
 ·exact absurd q z1
 ·exact absurd q z2
 subst q;unfold okT at h h' ⊢;rw [Bool.and_eq_true] at h h' ⊢;obtain ⟨x, y⟩ := zDq kids mids h.2 h'.2 (zBb h.1 h'.1) c;exact ⟨by rw [y]; exact h.1, x⟩
end Ty
end Go.Proofs.YtkdnnleanoompaaGreatDoor
namespace Go.Proofs.YtkdnnleanoompaaGreatDoor
open Go.RowKit
theorem zDK {u : World} {X : Nat} {x0 x1 x2 x3 x4 : Value} {t : TypeId} (h : u.heap[X]? = some (.cells #[x0, x1, x2, x3, x4] t (0, 0))) (a b c d e : Value) : (((((u.setCell ⟨X, 0, none⟩ a).setCell ⟨X, 1, none⟩ b).setCell ⟨X, 2, none⟩ c).setCell ⟨X, 3, none⟩ d).setCell ⟨X, 4, none⟩ e).heap[X]? = some (.cells #[a, b, c, d, e] t (0, 0)) := by
 simp [World.setCell, Array.getElem?_modify, h]
theorem uX {u : World} {X Y : Nat} {o : Obj} (h : u.heap[Y]? = some o) (hne : X ≠ Y) (a b c d e : Value) : (((((u.setCell ⟨X, 0, none⟩ a).setCell ⟨X, 1, none⟩ b).setCell ⟨X, 2, none⟩ c).setCell ⟨X, 3, none⟩ d).setCell ⟨X, 4, none⟩ e).heap[Y]? = some o := by
 exact zAH
theorem zBW {N X : Nat} {w u : World} (h : Below N w u) (hX : N <= X) (a b c d e : Value) : Below N w (((((u.setCell ⟨X, 0, none⟩ a).setCell ⟨X, 1, none⟩ b).setCell ⟨X, 2, none⟩ c).setCell ⟨X, 3, none⟩ d).setCell ⟨X, 4, none⟩ e) := ((((h.setCell (p := ⟨X, 0, none⟩) hX _).setCell (p := ⟨X, 1, none⟩) hX _).setCell (p := ⟨X, 2, none⟩) hX _).setCell (p := ⟨X, 3, none⟩) hX _).setCell (p := ⟨X, 4, none⟩) hX _
end Go.Proofs.YtkdnnleanoompaaGreatDoor
