import Derived.Test.YtgjemmmbnpkamaaGreatDoorM14
import Derived.Test.YtgjemmmbnpkamaaGreatDoorM5
import Derived.Test.YtgjemmmbnpkamaaGreatDoorM10
import Derived.Test.YtgjemmmbnpkamaaGreatDoorOpM
namespace Go.Proofs.YtgjemmmbnpkamaaGreatDoor
open Go.RowKit
theorem zHO {P : Prop} (h : P := by
  go_wp2_with fail
  refine CW.out.mono ?_
  rintro e w2 ⟨rfl, hb⟩
  have hbx := (Below.refl w2.heap.size w2).alloc (Nat.le_refl _) (.cells #[.int .i8 yk, .string yt, .int .i64 yn, .int .i64 yp] 48)
  have HX3 := k0_ (zF w2 (.cells #[.int .i8 yk, .string yt, .int .i64 yn, .int .i64 yp] 48))
  have HB3 := k0_ (hb.trans (hbx.mono hb.size))
  clear hb hbx
  obtain ⟨f0, f1, f2, f3, -, -, -, -, fl⟩ := zX HX3.out
  go_wp2_with fail
  refine (CP.out _ HB3.out).mono ?_
  intro e w4 hP
  have HP := k0_ (hP.from (zJ (rb := rb) HB3.out))
  obtain ⟨g, rfl, -⟩ := hP
  exact ⟨rfl, HP.out⟩) : P := h
theorem qY {P : Prop} (h : P := by
  obtain ⟨g, rfl, -⟩ := hP
  exact ⟨rfl, HP.out⟩) : P := h
theorem zGy {P : Prop} (h : P := by
  go_enter Tryz.func47, Tryz.ntmps47
  go_wp2_with fail
  refine (CK.out _).mono ?_
  rintro e w2 ⟨rfl, rfl⟩
  go_wp2_with fail
  go_ret
  exact ⟨rfl, HB0.out⟩) : P := h
end Go.Proofs.YtgjemmmbnpkamaaGreatDoor
namespace Go.Proofs.YtgjemmmbnpkamaaGreatDoor
namespace Tt
open Rd
inductive It where
  | w (k : Int) (t : List UInt8)
  | nm
  | nu
  | ty
  | tm
  | pt (q : Nat)
inductive Vl where
  | nm (s : ByteArray)
  | nu (n : Int)
  | ty (k : Int) (f : Fo)
  | tm (h : Hd) (t : Tm)
inductive Tg where
  | seq (its : List It) (i : Nat)
  | term (i : Nat)
  | part (q : Nat) (i : Nat)
  | lp (q : Nat) (h : Hd) (t : Tm) (st : Nat) (j : Nat)
  | opnd (i : Nat)
inductive Rs where
  | ok (vs : List Vl) (j : Nat)
  | bad (E a : Int) (t : ByteArray)
def Rs.cons (v : Vl) : Rs → Rs
  | .ok vs j => .ok (v :: vs) j
  | .bad E a t => .bad E a t
def sg (c : UInt8) : It := .w 4 [c]
def kLet : List UInt8 := [108, 101, 116]
def kIn : List UInt8 := [105, 110]
def kIf : List UInt8 := [105, 102]
def kThen : List UInt8 := [116, 104, 101, 110]
def kElse : List UInt8 := [101, 108, 115, 101]
def kRec : List UInt8 := [114, 101, 99]
def kCase : List UInt8 := [99, 97, 115, 101]
def kOf : List UInt8 := [111, 102]
def kFst : List UInt8 := [102, 115, 116]
def kSnd : List UInt8 := [115, 110, 100]
def kInl : List UInt8 := [105, 110, 108]
def kInr : List UInt8 := [105, 110, 114]
def kTrue : List UInt8 := [116, 114, 117, 101]
def kFalse : List UInt8 := [102, 97, 108, 115, 101]
def formT (l : List W4) (i : Nat) : Option (Int × List It) :=
  if sees l i 4 [92] then some (4, [.nm, sg 58, .ty, sg 46, .tm])
  else if sees l i 3 kLet then some (7, [.nm, sg 58, .ty, sg 61, .tm, .w 3 kIn, .tm])
  else if sees l i 3 kIf then some (8, [.tm, .w 3 kThen, .tm, .w 3 kElse, .tm])
  else if sees l i 3 kRec then some (5, [.nm, sg 40, .nm, sg 58, .ty, sg 41, sg 58, .ty, sg 46, .tm])
  else if sees l i 3 kCase then some (14, [.tm, .w 3 kOf, .nm, sg 46, .tm, sg 124, .nm, sg 46, .tm])
  else none
def formO (l : List W4) (i : Nat) : Int × List It × Nat × Nat :=
  if sees l i 3 kFst then (10, [.pt 4], i + 1, 4)
  else if sees l i 3 kSnd then (11, [.pt 4], i + 1, 4)
  else if sees l i 3 kInl then (12, [sg 123, .ty, sg 125, .pt 4], i + 1, 4)
  else if sees l i 3 kInr then (13, [sg 123, .ty, sg 125, .pt 4], i + 1, 4)
  else if sees l i 4 [45] then (101, [.nu], i + 1, 4)
  else if sees l i 3 kTrue then (2, [], i + 1, 5)
  else if sees l i 3 kFalse then (3, [], i + 1, 5)
  else if sees l i 4 [40] then (100, [.tm, sg 41], i + 1, 5)
  else if sees l i 4 [91] then (9, [.tm, sg 44, .tm, sg 93], i + 1, 5)
  else if (l[i]?.map (·.kind)) = some 1 then (0, [.nm], i, 5)
  else (1, [.nu], i, 5)
def opr (l : List W4) (i : Nat) : Option (Int × Nat × Nat × List It) :=
  if sees l i 4 [40] then some (6, 5, 5, [.tm, sg 41])
  else if sees l i 4 [42] then some (15, 3, 3, [.pt 4])
  else if sees l i 4 [47] then some (15, 3, 3, [.pt 4])
  else if sees l i 4 [43] then some (15, 2, 2, [.pt 3])
  else if sees l i 4 [45] then some (15, 2, 2, [.pt 3])
  else if sees l i 4 [60] then some (15, 1, 2, [.pt 2])
  else if sees l i 4 [61] then some (15, 1, 2, [.pt 2])
  else if sees l i 4 [58] then some (16, 0, 0, [.ty])
  else none
def posAt (l : List W4) (i : Nat) : Int := match l[i]? with
  | some x => x.pos
  | none => 0
def textAt (l : List W4) (i : Nat) : ByteArray := match l[i]? with
  | some x => x.text
  | none => ⟨#[]⟩
def hd0 (k p : Int) : Hd := ⟨k, ⟨#[]⟩, ⟨#[]⟩, 0, 0, .nil, 0, .nil, 0, p⟩
def mk (k p : Int) (vs : List Vl) : Hd × Tm := match vs with
  | [.nm x, .ty a f, .tm h t] => ({ hd0 k p with name := x, tk := a, tkids := f }, .node h t .nil)
  | [.nm x, .ty a f, .tm h t, .tm g u] => ({ hd0 k p with name := x, tk := a, tkids := f }, .node h t (.node g u .nil))
  | [.tm h t, .tm g u, .tm o v] => (hd0 k p, .node h t (.node g u (.node o v .nil)))
  | [.nm x, .nm y, .ty a f, .ty b g, .tm h t] => ({ hd0 k p with name := x, arg := y, tk := a, tkids := f, uk := b, ukids := g }, .node h t .nil)
  | [.tm h t, .nm x, .tm g u, .nm y, .tm o v] => ({ hd0 k p with name := x, arg := y }, .node h t (.node g u (.node o v .nil)))
  | [.tm h t] => if k = 100 then (h, t) else (hd0 k p, .node h t .nil)
  | [.ty a f, .tm h t] => ({ hd0 k p with tk := a, tkids := f }, .node h t .nil)
  | [.nu n] => if k = 101 then ({ hd0 1 p with num := -n }, .nil) else ({ hd0 k p with num := n }, .nil)
  | [.tm h t, .tm g u] => (hd0 k p, .node h t (.node g u .nil))
  | [.nm x] => ({ hd0 k p with name := x }, .nil)
  | _ => (hd0 k p, .nil)
def mkO (k p : Int) (sign : ByteArray) (h : Hd) (t : Tm) (vs : List Vl) : Hd × Tm := match vs with
  | [.tm g u] => (if k = 15 then { hd0 k p with name := sign } else hd0 k p, .node h t (.node g u .nil))
  | [.ty a f] => ({ hd0 k p with tk := a, tkids := f }, .node h t .nil)
  | _ => (hd0 k p, .nil)
def Rs.make (k p : Int) : Rs → Rs
  | .ok vs j => .ok [.tm (mk k p vs).1 (mk k p vs).2] j
  | .bad E a t => .bad E a t
def flt (l : List W4) (i : Nat) : Rs := .bad 40 (fAt l i) (fWord l i)
inductive T (l : List W4) : Tg → Rs → Prop where
  | nil {i : Nat} : T l (.seq [] i) (.ok [] i)
  | word {i : Nat} {k : Int} {t : List UInt8} {its : List It} {r : Rs} (h : sees l i k t = true) (g : T l (.seq its (i + 1)) r) : T l (.seq (.w k t :: its) i) r
  | wordNo {i : Nat} {k : Int} {t : List UInt8} {its : List It} (h : sees l i k t = false) : T l (.seq (.w k t :: its) i) (flt l i)
  | nm {i : Nat} {x : W4} {its : List It} {r : Rs} (h : l[i]? = some x) (hk : x.kind = 1) (g : T l (.seq its (i + 1)) r) : T l (.seq (.nm :: its) i) (r.cons (.nm x.text))
  | nmNo {i : Nat} {its : List It} (h : ∀ x, l[i]? = some x → x.kind ≠ 1) : T l (.seq (.nm :: its) i) (flt l i)
  | nu {i : Nat} {x : W4} {its : List It} {r : Rs} (h : l[i]? = some x) (hk : x.kind = 2) (g : T l (.seq its (i + 1)) r) : T l (.seq (.nu :: its) i) (r.cons (.nu x.num))
  | nuNo {i : Nat} {its : List It} (h : ∀ x, l[i]? = some x → x.kind ≠ 2) : T l (.seq (.nu :: its) i) (flt l i)
  | ty {i j : Nat} {k : Int} {f : Fo} {a : Int} {t : ByteArray} {its : List It} {r : Rs} (h : Out l i k f j 0 a t) (g : T l (.seq its j) r) : T l (.seq (.ty :: its) i) (r.cons (.ty k f))
  | tyNo {i j : Nat} {k : Int} {f : Fo} {E a : Int} {t : ByteArray} {its : List It} (h : Out l i k f j E a t) (hE : E ≠ 0) : T l (.seq (.ty :: its) i) (.bad E a t)
  | tm {i j : Nat} {h : Hd} {t : Tm} {its : List It} {r : Rs} (f : T l (.term i) (.ok [.tm h t] j)) (g : T l (.seq its j) r) : T l (.seq (.tm :: its) i) (r.cons (.tm h t))
  | tmNo {i : Nat} {E a : Int} {t : ByteArray} {its : List It} (f : T l (.term i) (.bad E a t)) : T l (.seq (.tm :: its) i) (.bad E a t)
  | pt {q i j : Nat} {h : Hd} {t : Tm} {its : List It} {r : Rs} (f : T l (.part q i) (.ok [.tm h t] j)) (g : T l (.seq its j) r) : T l (.seq (.pt q :: its) i) (r.cons (.tm h t))
  | ptNo {q i : Nat} {E a : Int} {t : ByteArray} {its : List It} (f : T l (.part q i) (.bad E a t)) : T l (.seq (.pt q :: its) i) (.bad E a t)
  | opn {i : Nat} {k : Int} {its : List It} {r : Rs} (h : formT l i = some (k, its)) (g : T l (.seq its (i + 1)) r) : T l (.term i) (r.make k (posAt l i))
  | term {i : Nat} {r : Rs} (h : formT l i = none) (g : T l (.part 0 i) r) : T l (.term i) r
  | opnd {i : Nat} {r : Rs} (g : T l (.seq (formO l i).2.1 (formO l i).2.2.1) r) : T l (.opnd i) (r.make (formO l i).1 (posAt l i))
  | part {q i j : Nat} {h : Hd} {t : Tm} {r : Rs} (f : T l (.opnd i) (.ok [.tm h t] j)) (g : T l (.lp q h t (formO l i).2.2.2 j) r) : T l (.part q i) r
  | partNo {q i : Nat} {E a : Int} {t : ByteArray} (f : T l (.opnd i) (.bad E a t)) : T l (.part q i) (.bad E a t)
  | stop {q st j : Nat} {h : Hd} {t : Tm} (e : ∀ k s lf its, opr l j = some (k, s, lf, its) → s < q ∨ st < lf) : T l (.lp q h t st j) (.ok [.tm h t] j)
  | go {q st j j2 s lf : Nat} {h : Hd} {t : Tm} {k : Int} {its : List It} {vs : List Vl} {r : Rs} (e : opr l j = some (k, s, lf, its)) (h1 : q ≤ s) (h2 : lf ≤ st) (f : T l (.seq its (j + 1)) (.ok vs j2))
      (g : T l (.lp q (mkO k (posAt l j) (textAt l j) h t vs).1 (mkO k (posAt l j) (textAt l j) h t vs).2 s j2) r) : T l (.lp q h t st j) r
  | goNo {q st j s lf : Nat} {h : Hd} {t : Tm} {k : Int} {its : List It} {E a : Int} {w : ByteArray} (e : opr l j = some (k, s, lf, its)) (h1 : q ≤ s) (h2 : lf ≤ st) (f : T l (.seq its (j + 1)) (.bad E a w)) : T l (.lp q h t st j) (.bad E a w)
theorem T.det {l : List W4} {t : Tg} {r r' : Rs} (h : T l t r) (h' : T l t r') : r = r' := by
  induction h generalizing r' with
  | nil => cases h'; rfl
  | word h g ih =>
    cases h' with
    | word _ g2 => exact ih g2
    | wordNo h2 => rw [h] at h2; cases h2
  | wordNo h =>
    cases h' with
    | word h2 _ => rw [h] at h2; cases h2
    | wordNo _ => rfl
  | nm h hk g ih =>
    cases h' with
    | nm h2 hk2 g2 => rw [h] at h2; injection h2 with h2; subst h2; rw [ih g2]
    | nmNo h2 => exact absurd hk (h2 _ h)
  | nmNo h =>
    cases h' with
    | nm h2 hk2 _ => exact absurd hk2 (h _ h2)
    | nmNo _ => rfl
  | nu h hk g ih =>
    cases h' with
    | nu h2 hk2 g2 => rw [h] at h2; injection h2 with h2; subst h2; rw [ih g2]
    | nuNo h2 => exact absurd hk (h2 _ h)
  | nuNo h =>
    cases h' with
    | nu h2 hk2 _ => exact absurd hk2 (h _ h2)
    | nuNo _ => rfl
  | ty h g ih =>
    cases h' with
    | ty h2 g2 => obtain ⟨rfl, rfl, rfl, -, -, -⟩ := h.det h2; rw [ih g2]
    | tyNo h2 hE => exact absurd (h.det h2).2.2.2.1 (by intro e; exact hE e)
  | tyNo h hE =>
    cases h' with
    | ty h2 _ => exact absurd (h2.det h).2.2.2.1 (by intro e; exact hE e)
    | tyNo h2 _ => obtain ⟨-, -, -, rfl, rfl, rfl⟩ := h.det h2; rfl
  | tm f g ihf ihg =>
    cases h' with
    | tm f2 g2 => injection ihf f2 with e1 e2; injection e1 with e1 _; injection e1 with e3 e4; subst e2; subst e3; subst e4; rw [ihg g2]
    | tmNo f2 => cases ihf f2
  | tmNo f ih =>
    cases h' with
    | tm f2 _ => cases ih f2
    | tmNo f2 => exact ih f2
  | pt f g ihf ihg =>
    cases h' with
    | pt f2 g2 => injection ihf f2 with e1 e2; injection e1 with e1 _; injection e1 with e3 e4; subst e2; subst e3; subst e4; rw [ihg g2]
    | ptNo f2 => cases ihf f2
  | ptNo f ih =>
    cases h' with
    | pt f2 _ => cases ih f2
    | ptNo f2 => exact ih f2
  | opn h g ih =>
    cases h' with
    | opn h2 g2 => rw [h] at h2; injection h2 with h2; injection h2 with e1 e2; subst e1; subst e2; rw [ih g2]
    | term h2 _ => rw [h] at h2; cases h2
  | term h g ih =>
    cases h' with
    | opn h2 _ => rw [h] at h2; cases h2
    | term _ g2 => exact ih g2
  | opnd g ih =>
    cases h' with
    | opnd g2 => rw [ih g2]
  | part f g ihf ihg =>
    cases h' with
    | part f2 g2 => injection ihf f2 with e1 e2; injection e1 with e1 _; injection e1 with e3 e4; subst e2; subst e3; subst e4; exact ihg g2
    | partNo f2 => cases ihf f2
  | partNo f ih =>
    cases h' with
    | part f2 _ => cases ih f2
    | partNo f2 => exact ih f2
  | stop e =>
    cases h' with
    | stop _ => rfl
    | go e2 h1 h2 _ _ => rcases e _ _ _ _ e2 with h | h <;> omega
    | goNo e2 h1 h2 _ => rcases e _ _ _ _ e2 with h | h <;> omega
  | go e h1 h2 f g ihf ihg =>
    cases h' with
    | stop e2 => rcases e2 _ _ _ _ e with h | h <;> omega
    | go e2 _ _ f2 g2 =>
      rw [e] at e2; injection e2 with e2; injection e2 with q1 e2; injection e2 with q2 e2; injection e2 with q3 q4
      subst q1; subst q2; subst q3; subst q4
      injection ihf f2 with e3 e4; subst e3; subst e4
      exact ihg g2
    | goNo e2 _ _ f2 =>
      rw [e] at e2; injection e2 with e2; injection e2 with q1 e2; injection e2 with q2 e2; injection e2 with q3 q4
      subst q4
      cases ihf f2
  | goNo e h1 h2 f ih =>
    cases h' with
    | stop e2 => rcases e2 _ _ _ _ e with h | h <;> omega
    | go e2 _ _ f2 _ =>
      rw [e] at e2; injection e2 with e2; injection e2 with q1 e2; injection e2 with q2 e2; injection e2 with q3 q4
      subst q4
      cases ih f2
    | goNo e2 _ _ f2 =>
      rw [e] at e2; injection e2 with e2; injection e2 with q1 e2; injection e2 with q2 e2; injection e2 with q3 q4
      subst q4
      exact ih f2
theorem Out.goes {l : List W4} {i j : Nat} {k : Int} {f : Fo} {a : Int} {t : ByteArray} (h : Out l i k f j 0 a t) (hi : i ≤ l.length) : i + 1 ≤ j ∧ j ≤ l.length ∧ i < l.length := by
  rcases h with ⟨h, -⟩ | ⟨k', f', j', -, hc, -, -, -, hE, -⟩ | ⟨q, -, -, -, -, hE, -⟩
  · have := h.goes hi
    simp only [Rd.Tg.start] at this
    omega
  · omega
  · exact absurd hE (by decide)
theorem Out.total (l : List W4) (i : Nat) : ∃ k f j E a t, Out l i k f j E a t ∧ (E = 0 ∨ E ≠ 0) := by
  obtain ⟨r, hr⟩ := R.uU l 1 i
  cases r with
  | ok k f j =>
    by_cases hc : Ty.chk k f = 0
    · exact ⟨k, f, j, 0, 0, ⟨#[]⟩, .inl ⟨hr, hc, rfl, rfl, rfl⟩, .inl rfl⟩
    · exact ⟨0, .nil, 0, Ty.chk k f, fAt l i, ⟨#[]⟩, .inr (.inl ⟨k, f, j, hr, hc, rfl, rfl, rfl, rfl, rfl, rfl⟩), .inr (by omega)⟩
  | bad q => exact ⟨0, .nil, 0, 40, fAt l q, fWord l q, .inr (.inr ⟨q, hr, rfl, rfl, rfl, rfl, rfl, rfl⟩), .inr (by decide)⟩
theorem zAB {l : List W4} {i : Nat} {x : Int × List It} (h : formT l i = some x) : i < l.length := by
  unfold formT at h
  split at h
  · exact zP ‹_›
  · split at h
    · exact zP ‹_›
    · exact zGh
theorem wZ {l : List W4} {i : Nat} {x : Int × Nat × Nat × List It} (h : opr l i = some x) : i < l.length := by
  unfold opr at h
  repeat' (split at h; · exact zP ‹_›)
  cases h
theorem wC (l : List W4) (i : Nat) : ((formO l i).2.2.1 = i + 1 ∧ i < l.length) ∨ ((formO l i).2.2.1 = i ∧ ((formO l i).2.1 = [.nm] ∨ (formO l i).2.1 = [.nu])) := by
  unfold formO
  iterate 9 (split; · exact .inl ⟨rfl, zP ‹_›⟩)
  split
  · exact .inr ⟨rfl, .inl rfl⟩
  · exact .inr ⟨rfl, .inr rfl⟩
def Tg.start : Tg → Nat
  | .seq _ i => i
  | .term i => i
  | .part _ i => i
  | .lp _ _ _ _ j => j
  | .opnd i => i
def Tg.least : Tg → Nat
  | .seq [] _ => 0
  | .lp _ _ _ _ _ => 0
  | _ => 1
def Rs.within (n a : Nat) : Rs → Prop
  | .ok _ j => a ≤ j ∧ j ≤ n
  | .bad _ _ _ => True
theorem Rs.qp {n a : Nat} {v : Vl} {r : Rs} (h : r.within n a) : (r.cons v).within n a := by cases r <;> exact h
theorem Rs.jX {n a : Nat} {k p : Int} {r : Rs} (h : r.within n a) : (r.make k p).within n a := by cases r <;> exact h
theorem Rs.zt {n a b : Nat} {r : Rs} (h : r.within n a) (hb : b ≤ a) : r.within n b := by
  cases r with
  | ok _ j => exact ⟨Nat.le_trans hb h.1, h.2⟩
  | bad _ _ _ => trivial
theorem T.goes {l : List W4} {t : Tg} {r : Rs} (h : T l t r) : t.start ≤ l.length → r.within l.length (t.start + t.least) := by
  induction h with
  | nil => intro h; exact ⟨Nat.le_refl _, h⟩
  | word h g ih => intro _; have := zP h; exact Rs.zt (ih (by simp only [Tg.start]; omega)) (by simp only [Tg.start, Tg.least]; omega)
  | wordNo _ => intro _; trivial
  | nm h hk g ih => intro _; have := (List.getElem?_eq_some_iff.1 h).1; exact Rs.qp (Rs.zt (ih (by simp only [Tg.start]; omega)) (by simp only [Tg.start, Tg.least]; omega))
  | nmNo _ => intro _; trivial
  | nu h hk g ih => intro _; have := (List.getElem?_eq_some_iff.1 h).1; exact Rs.qp (Rs.zt (ih (by simp only [Tg.start]; omega)) (by simp only [Tg.start, Tg.least]; omega))
  | nuNo _ => intro _; trivial
  | ty h g ih => intro hi; have := Out.goes h hi; exact Rs.qp (Rs.zt (ih (by simp only [Tg.start]; omega)) (by simp only [Tg.start, Tg.least]; omega))
  | tyNo _ _ => intro _; trivial
  | tm f g ihf ihg => intro hi; have h1 := ihf hi; simp only [Rs.within, Tg.start, Tg.least] at h1; exact Rs.qp (Rs.zt (ihg h1.2) (by simp only [Tg.start, Tg.least]; omega))
  | tmNo _ _ => intro _; trivial
  | pt f g ihf ihg => intro hi; have h1 := ihf hi; simp only [Rs.within, Tg.start, Tg.least] at h1; exact Rs.qp (Rs.zt (ihg h1.2) (by simp only [Tg.start, Tg.least]; omega))
  | ptNo _ _ => intro _; trivial
  | opn h g ih => intro _; have := zAB h; exact Rs.jX (Rs.zt (ih (by simp only [Tg.start]; omega)) (by simp only [Tg.start, Tg.least]; omega))
  | term _ _ ih => intro hi; exact ih hi
  | @opnd i r g ih =>
    intro hi
    rcases wC l i with ⟨h1, h2⟩ | ⟨h1, h2⟩
    · rw [h1] at ih g
      exact Rs.jX (Rs.zt (ih (by simp only [Tg.start]; omega)) (by simp only [Tg.start, Tg.least]; omega))
    · rw [h1] at ih
      have := ih hi
      rcases h2 with h2 | h2 <;> rw [h2] at this <;> exact Rs.jX this
  | part f g ihf ihg => intro hi; have h1 := ihf hi; simp only [Rs.within, Tg.start, Tg.least] at h1; exact Rs.zt (ihg h1.2) (by simp only [Tg.start, Tg.least]; omega)
  | partNo _ _ => intro _; trivial
  | stop _ => intro hi; exact ⟨Nat.le_refl _, hi⟩
  | go e _ _ f g ihf ihg =>
    intro _
    have h0 := wZ e
    have h1 := ihf (by simp only [Tg.start]; omega)
    simp only [Rs.within, Tg.start] at h1
    exact Rs.zt (ihg h1.2) (by simp only [Tg.start, Tg.least]; omega)
  | goNo _ _ _ _ _ => intro _; trivial
def Rs.single : Rs → Prop
  | .ok vs _ => ∃ h t, vs = [.tm h t]
  | .bad _ _ _ => True
theorem T.single {l : List W4} {t : Tg} {r : Rs} (h : T l t r) : match t with | .seq _ _ => True | _ => r.single := by
  induction h with
  | nil => trivial
  | word _ _ _ => trivial
  | wordNo _ => trivial
  | nm _ _ _ _ => trivial
  | nmNo _ => trivial
  | nu _ _ _ _ => trivial
  | nuNo _ => trivial
  | ty _ _ _ => trivial
  | tyNo _ _ => trivial
  | tm _ _ _ _ => trivial
  | tmNo _ _ => trivial
  | pt _ _ _ _ => trivial
  | ptNo _ _ => trivial
  | @opn i k its r h g _ => cases r with
    | ok vs j => exact ⟨_, _, rfl⟩
    | bad _ _ _ => trivial
  | term _ _ ih => exact ih
  | @opnd i r g _ => cases r with
    | ok vs j => exact ⟨_, _, rfl⟩
    | bad _ _ _ => trivial
  | part _ _ _ ih => exact ih
  | partNo _ _ => trivial
  | stop _ => exact ⟨_, _, rfl⟩
  | go _ _ _ _ _ _ ih => exact ih
  | goNo _ _ _ _ _ => trivial
theorem T.jb (l : List W4) : ∀ n, (∀ i, l.length - i < n → i ≤ l.length → ∃ r, T l (.opnd i) r) ∧ (∀ q i, l.length - i < n → i ≤ l.length → ∃ r, T l (.part q i) r) ∧ (∀ i, l.length - i < n → i ≤ l.length → ∃ r, T l (.term i) r) ∧
    (∀ its i, l.length - i < n → i ≤ l.length → ∃ r, T l (.seq its i) r) ∧ (∀ q h t st j, l.length - j < n → j ≤ l.length → ∃ r, T l (.lp q h t st j) r)
  | 0 => ⟨fun _ h => absurd h (by omega), fun _ _ h => absurd h (by omega), fun _ h => absurd h (by omega), fun _ _ h => absurd h (by omega), fun _ _ _ _ _ h => absurd h (by omega)⟩
  | n + 1 => by
    obtain ⟨-, -, -, iseq, ilp⟩ := T.jb l n
    have hnm : ∀ i, l.length - i < n + 1 → i ≤ l.length → ∃ r, T l (.seq [.nm] i) r := by
      intro i _ hi
      by_cases h : ∃ x, l[i]? = some x ∧ x.kind = 1
      · obtain ⟨x, hx, hk⟩ := h; exact ⟨_, .nm hx hk .nil⟩
      · exact ⟨_, .nmNo fun x hx hk => h ⟨x, hx, hk⟩⟩
    have hnu : ∀ i, l.length - i < n + 1 → i ≤ l.length → ∃ r, T l (.seq [.nu] i) r := by
      intro i _ hi
      by_cases h : ∃ x, l[i]? = some x ∧ x.kind = 2
      · obtain ⟨x, hx, hk⟩ := h; exact ⟨_, .nu hx hk .nil⟩
      · exact ⟨_, .nuNo fun x hx hk => h ⟨x, hx, hk⟩⟩
    have hop : ∀ i, l.length - i < n + 1 → i ≤ l.length → ∃ r, T l (.opnd i) r := by
      intro i hn hi
      rcases wC l i with ⟨h1, h2⟩ | ⟨h1, h2⟩
      · obtain ⟨r, hr⟩ := iseq (formO l i).2.1 (i + 1) (by omega) (by omega)
        exact ⟨_, .opnd (by rw [h1]; exact hr)⟩
      · rcases h2 with h2 | h2
        · obtain ⟨r, hr⟩ := hnm i hn hi
          exact ⟨_, .opnd (by rw [h1, h2]; exact hr)⟩
        · obtain ⟨r, hr⟩ := hnu i hn hi
          exact ⟨_, .opnd (by rw [h1, h2]; exact hr)⟩
    have hpart : ∀ q i, l.length - i < n + 1 → i ≤ l.length → ∃ r, T l (.part q i) r := by
      intro q i hn hi
      obtain ⟨r, hr⟩ := hop i hn hi
      have hs := hr.single
      cases r with
      | bad E a t => exact ⟨_, .partNo hr⟩
      | ok vs j =>
        obtain ⟨h, t, rfl⟩ := hs
        have hg := hr.goes hi
        simp only [Rs.within, Tg.start, Tg.least] at hg
        obtain ⟨r, hq⟩ := ilp q h t (formO l i).2.2.2 j (by omega) hg.2
        exact ⟨r, .part hr hq⟩
    have hterm : ∀ i, l.length - i < n + 1 → i ≤ l.length → ∃ r, T l (.term i) r := by
      intro i hn hi
      cases hf : formT l i with
      | none =>
        obtain ⟨r, hr⟩ := hpart 0 i hn hi
        exact ⟨r, .term hf hr⟩
      | some x =>
        obtain ⟨k, its⟩ := x
        have := zAB hf
        obtain ⟨r, hr⟩ := iseq its (i + 1) (by omega) (by omega)
        exact ⟨_, .opn hf hr⟩
    refine ⟨hop, hpart, hterm, ?_, ?_⟩
    · intro its i hn hi
      cases its with
      | nil => exact ⟨_, .nil⟩
      | cons it its =>
        cases it with
        | w k t =>
          cases hs : sees l i k t with
          | false => exact ⟨_, .wordNo hs⟩
          | true =>
            have := zP hs
            obtain ⟨r, hr⟩ := iseq its (i + 1) (by omega) (by omega)
            exact ⟨r, .word hs hr⟩
        | nm =>
          by_cases h : ∃ x, l[i]? = some x ∧ x.kind = 1
          · obtain ⟨x, hx, hk⟩ := h
            have := (List.getElem?_eq_some_iff.1 hx).1
            obtain ⟨r, hr⟩ := iseq its (i + 1) (by omega) (by omega)
            exact ⟨_, .nm hx hk hr⟩
          · exact ⟨_, .nmNo fun x hx hk => h ⟨x, hx, hk⟩⟩
        | nu =>
          by_cases h : ∃ x, l[i]? = some x ∧ x.kind = 2
          · obtain ⟨x, hx, hk⟩ := h
            have := (List.getElem?_eq_some_iff.1 hx).1
            obtain ⟨r, hr⟩ := iseq its (i + 1) (by omega) (by omega)
            exact ⟨_, .nu hx hk hr⟩
          · exact ⟨_, .nuNo fun x hx hk => h ⟨x, hx, hk⟩⟩
        | ty =>
          obtain ⟨k, f, j, E, a, t, hO, hE⟩ := Out.total l i
          rcases hE with rfl | hE
          · have := Out.goes hO hi
            obtain ⟨r, hr⟩ := iseq its j (by omega) (by omega)
            exact ⟨_, .ty hO hr⟩
          · exact ⟨_, .tyNo hO hE⟩
        | tm =>
          obtain ⟨r, hr⟩ := hterm i hn hi
          have hs := hr.single
          cases r with
          | bad E a t => exact ⟨_, .tmNo hr⟩
          | ok vs j =>
            obtain ⟨h, t, rfl⟩ := hs
            have hg := hr.goes hi
            simp only [Rs.within, Tg.start, Tg.least] at hg
            obtain ⟨r, hq⟩ := iseq its j (by omega) hg.2
            exact ⟨_, .tm hr hq⟩
        | pt q =>
          obtain ⟨r, hr⟩ := hpart q i hn hi
          have hs := hr.single
          cases r with
          | bad E a t => exact ⟨_, .ptNo hr⟩
          | ok vs j =>
            obtain ⟨h, t, rfl⟩ := hs
            have hg := hr.goes hi
            simp only [Rs.within, Tg.start, Tg.least] at hg
            obtain ⟨r, hq⟩ := iseq its j (by omega) hg.2
            exact ⟨_, .pt hr hq⟩
    · intro q h t st j hn hj
      by_cases hs : ∃ k s lf its, opr l j = some (k, s, lf, its) ∧ q ≤ s ∧ lf ≤ st
      · obtain ⟨k, s, lf, its, e, h1, h2⟩ := hs
        have h0 := wZ e
        obtain ⟨r, hr⟩ := iseq its (j + 1) (by omega) (by omega)
        cases r with
        | bad E a w => exact ⟨_, .goNo e h1 h2 hr⟩
        | ok vs j2 =>
          have hg := hr.goes (by simp only [Tg.start]; omega)
          simp only [Rs.within, Tg.start] at hg
          obtain ⟨r, hq⟩ := ilp q (mkO k (posAt l j) (textAt l j) h t vs).1 (mkO k (posAt l j) (textAt l j) h t vs).2 s j2 (by omega) hg.2
          exact ⟨r, .go e h1 h2 hr hq⟩
      · refine ⟨_, .stop fun k s lf its e => ?_⟩
        by_cases h1 : s < q
        · exact .inl h1
        · by_cases h2 : st < lf
          · exact .inr h2
          · exact absurd ⟨k, s, lf, its, e, by omega, by omega⟩ hs
theorem T.total (l : List W4) (i : Nat) (hi : i ≤ l.length) : ∃ r, T l (.term i) r := (T.jb l _).2.2.1 i (Nat.lt_succ_self _) hi
end Tt
set_option maxHeartbeats 4000000
set_option maxRecDepth 100000
open Go.RowKit Rd
def OkWord (x : W4) : Prop := (x.kind = 3 → Sc.isKey x.text = true) ∧ (x.kind = 4 → Sc.isKey x.text = false) ∧ (x.kind = 1 → Sc.isName x.text = true) ∧ (x.kind = 2 → 0 ≤ x.num ∧ x.num ≤ 9223372036854775807) ∧ (x.kind = 3 ∨ x.kind = 4 → x.text.toList ≠ [])
def PRd (w : World) (rb : Nat) (A : Option Addr) (n c i : Nat) (mv : Value) : Prop := w.heap[rb]? = some (.cells #[.slice A n c, .int .i64 i, mv] 73 (0, 0))
structure PdS (l : List W4) (A : Option Addr) (c rb : Nat) (mv : Value) (w : World) (i : Nat) : Prop where
  rdr : PRd w rb A l.length c i mv
  row : WRow w A l
  ne : ∀ g o, A = some ⟨g, o, none⟩ → l ≠ [] → g ≠ rb
  le : i ≤ l.length
  sh : Shapes w
  var : ∃ (tp : TypeId) (p : Value), w.var? Tryz.prog "strconv.ErrRange" = some #[.iface tp p]
  vne : ∀ g, Tryz.prog.globalNamed "strconv.ErrRange" = some g → g ≠ rb
  len : l.length < maxLen
  small : ∀ x ∈ l, x.text.size ≤ 281474976710656
  okw : ∀ x ∈ l, OkWord x
  ops : OpM w mv
theorem PdS.below {l : List W4} {A : Option Addr} {c rb i : Nat} {mv : Value} {w w' : World} (h : PdS l A c rb mv w i) (hb : Below w.heap.size w w') : PdS l A c rb mv w' i := by
  obtain ⟨tp, p, hv⟩ := h.var
  exact ⟨zC hb (zD h.rdr) h.rdr, h.row.below hb, h.ne, h.le, h.sh.below hb, ⟨tp, p, jO hb hv⟩, h.vne, h.len, h.small, h.okw, h.ops.below hb⟩
def wAt (l : List W4) (i : Nat) : W4 := match l[i]? with
  | some x => x
  | none => ⟨0, ⟨#[]⟩, 0, 0⟩
def wV (x : W4) : Value := .agg #[.int .i8 x.kind, .string x.text, .int .i64 x.num, .int .i64 x.pos]
theorem jM {a w : World} {X : Nat} (h : Below a.heap.size a w) (hX : a.heap.size ≤ X) (v0 v1 v2 v3 : Value) : Below a.heap.size a ((((w.setCell ⟨X, 0, none⟩ v0).setCell ⟨X, 1, none⟩ v1).setCell ⟨X, 2, none⟩ v2).setCell ⟨X, 3, none⟩ v3) := by
  have h1 := h.setCell (p := ⟨X, 0, none⟩) hX v0
  have h2 := h1.setCell (p := ⟨X, 1, none⟩) hX v1
  have h3 := h2.setCell (p := ⟨X, 2, none⟩) hX v2
  exact h3.setCell (p := ⟨X, 3, none⟩) hX v3
theorem qG (l : List W4) (A : Option Addr) (c rb i : Nat) (mv : Value) (w : World) (h : PdS l A c rb mv w i) :
    Calls Tryz.prog 48 #[.pointer (some ⟨rb, 0, none⟩)] w fun e w' => e = .returned (wV (wAt l i)) ∧ Below w.heap.size w w' := by
  have hb0 : Below w.heap.size w (w.alloc (.cells #[.int .i8 0, .string ⟨#[]⟩, .int .i64 0, .int .i64 0] 48)) := (Below.refl _ _).alloc (Nat.le_refl _) _
  have HX := k0_ (zF w (.cells #[.int .i8 0, .string ⟨#[]⟩, .int .i64 0, .int .i64 0] 48))
  have HS1 := k0_ (h.below hb0)
  have HB0 := k0_ hb0
  have hl := h.len
  have hi := h.le
  have hne : w.heap.size ≠ rb := by have := zD h.rdr; omega
  obtain ⟨n, hn⟩ : ∃ n, n = l.length := ⟨_, rfl⟩
  obtain ⟨r0, r1, -, -, -, -, hrl⟩ := qB HS1.out.rdr
  rw [← hn] at hl hi r0
  have i5 : (n : Int) ≤ 9223372036854775807 := by unfold maxLen at hl; omega
  clear hb0
  by_cases hin : i < n
  · obtain ⟨x, hx⟩ : ∃ x, l[i]? = some x := ⟨l[i]'(by omega), List.getElem?_eq_getElem _⟩
    obtain ⟨g, o, hA, h0, h1, h2, h3⟩ := HS1.out.row i x hx
    have ew : wAt l i = x := by unfold wAt; rw [hx]
    rw [ew]
    have j1 : (i : Int) < n := by omega
    have j2 : (0 : Int) ≤ i ∧ (i : Int) < n := by omega
    clear ew hx hn h hl hi
    obtain rfl := hA
    obtain ⟨f0, f1, f2, f3, z0, z1, z2, z3, fl⟩ := zX HX.out
    go_enter Tryz.func48, Tryz.ntmps48
    go_wp2_with fail
    go_quiet (fail)
    go_wp2_with fail
    go_region
    go_wp2_with fail
    refine bodyPost_ret (v := wV x) (by simp [wV, results, Tryz.results48, go_sem, *]) rfl ⟨rfl, ?_⟩
    exact (jM (below_drewN HB0.out (nq + 1)) (Nat.le_refl _) _ _ _ _)
  · have ew : wAt l i = ⟨0, ⟨#[]⟩, 0, 0⟩ := by unfold wAt; rw [List.getElem?_eq_none (by omega)]
    rw [ew]
    have hz : decide ((i : Int) < n) = false := by simp; omega
    clear ew hn h hl hi
    obtain ⟨f0, f1, f2, f3, z0, z1, z2, z3, fl⟩ := zX HX.out
    go_enter Tryz.func48, Tryz.ntmps48
    go_wp2_with fail
    go_quiet (fail)
    go_wp2_with fail
    refine bodyPost_ret (v := wV ⟨0, ⟨#[]⟩, 0, 0⟩) (by simp [wV, results, Tryz.results48, go_sem, *]) rfl ⟨rfl, ?_⟩
    exact (jM (below_drewN HB0.out nq) (Nat.le_refl _) _ _ _ _)
def fx (x : W4) : ByteArray := if x.kind = 3 ∨ x.kind = 4 then x.text else ⟨#[]⟩
theorem jN (x : W4) (w : World) (h3 : x.kind = 3 → Sc.isKey x.text = true) (h4 : x.kind = 4 → Sc.isKey x.text = false) :
    Calls Tryz.prog 47 #[wV x] w fun e w' => e = .returned (.string (fx x)) ∧ Below w.heap.size w w' := by
  obtain ⟨k, t, n, p⟩ := x
  have hb0 : Below w.heap.size w (w.alloc (.cells #[.int .i8 k, .string t, .int .i64 n, .int .i64 p] 48)) := (Below.refl _ _).alloc (Nat.le_refl _) _
  have HB0 := k0_ hb0
  have HX := k0_ (zF w (.cells #[.int .i8 k, .string t, .int .i64 n, .int .i64 p] 48))
  have CK := k0_ (fun (W : World) => jP t W)
  obtain ⟨f0, f1, f2, f3, -, -, -, -, fl⟩ := zX HX.out
  unfold wV fx
  simp only at h3 h4 ⊢
  clear hb0
  by_cases k3 : k = 3
  · subst k3
    rw [if_pos (.inl rfl)]
    have hk := h3 rfl
    rw [hk] at CK
    clear h3 h4 hk
    exact zGy
  · by_cases k4 : k = 4
    · subst k4
      rw [if_pos (.inr rfl)]
      have hk := h4 rfl
      rw [hk] at CK
      clear h3 h4 hk k3
      exact zGy
    · rw [if_neg (by rintro (h | h); exact k3 h; exact k4 h)]
      have e1 : (k == 3) = false := by simpa using k3
      have e2 : (k == 4) = false := by simpa using k4
      clear h3 h4 k3 k4
      go_enter Tryz.func47, Tryz.ntmps47
      go_wp2_with fail
      go_ret
      exact ⟨rfl, HB0.out⟩
theorem xw (l : List W4) (A : Option Addr) (c i : Nat) (w : World) (hl : l.length ≤ maxLen) (hi : i ≤ l.length) (hsm : ∀ x ∈ l, x.text.size ≤ 281474976710656) (hW : WRow w A l) :
    Calls Tryz.prog 10 #[.slice A l.length c, .int .i64 i] w (FaultPost l i w) := by
  have hb0 : Below w.heap.size w (w.alloc (.cells #[.int .i64 40, .int .i64 0, .string ⟨#[]⟩] 61)) := (Below.refl _ _).alloc (Nat.le_refl _) _
  have HX := k0_ (zF w (.cells #[.int .i64 40, .int .i64 0, .string ⟨#[]⟩] 61))
  have HW1 := k0_ (hW.below hb0)
  have HB0 := k0_ hb0
  obtain ⟨n, hn⟩ : ∃ n, n = l.length := ⟨_, rfl⟩
  rw [← hn] at hl hi ⊢
  have i5 : (n : Int) ≤ 9223372036854775807 := by unfold maxLen at hl; omega
  clear hb0 hW
  by_cases hin : i < n
  · obtain ⟨x, hx⟩ : ∃ x, l[i]? = some x := ⟨l[i]'(by omega), List.getElem?_eq_getElem _⟩
    obtain ⟨g, o, hA, h0, h1, h2, h3⟩ := HW1.out i x hx
    have ea : Rd.fAt l i = x.pos := by unfold Rd.fAt; rw [hx]
    have ew : Rd.fWord l i = x.text := by unfold Rd.fWord; rw [hx]
    have CN := k0_ (fun (W : World) => jC x.text (hsm x (List.mem_of_getElem? hx)) W)
    unfold FaultPost
    rw [ea, ew]
    have j1 : (i : Int) < n := by omega
    have j2 : (0 : Int) ≤ i ∧ (i : Int) < n := by omega
    clear ea ew hx hn hsm hl hi
    obtain rfl := hA
    obtain ⟨f0, f1, f2, z0, z1, z2, fl⟩ := qB HX.out
    generalize hw1 : w.alloc (.cells #[.int .i64 40, .int .i64 0, .string ⟨#[]⟩] 61) = w1 at *
    have HW := k0_ hw1
    have H3 := k0_ h3
    clear hw1
    go_enter Tryz.func10, Tryz.ntmps10
    go_wp2_with fail
    rw [HW.out]
    go_region_law (first
      | (go_simp; go_at_call 23; (with_reducible refine (CN.out _).mono ?_); rintro e u ⟨rfl, hb⟩; have FU := zC hb (show w.heap.size < w1.drew.heap.size from fl) (show w1.drew.heap[w.heap.size]? = _ from HX.out); obtain ⟨k0, k1, k2, m0, m1, m2, kl⟩ := qB FU; have FUU := k0_ FU; have HB4 := k0_ (HB0.out.drew.trans (hb.mono HB0.out.drew.size)); have c3u : u.cell? ⟨g, o + i * 4 + 3, none⟩ = some (.int .i64 x.pos) := (by rw [hb.cell (p := ⟨g, o + i * 4 + 3, none⟩) (Ty.zR (show w1.drew.cell? _ = _ from H3.out))]; exact H3.out); clear FU hb; go_wp2_with fail))
    all_goals exact zHE
  · have hi2 : i = n := by omega
    subst hi2
    have ex : l[i]? = none := List.getElem?_eq_none (by omega)
    have ew : Rd.fWord l i = ⟨#[]⟩ := by unfold Rd.fWord; rw [ex]
    unfold FaultPost
    rw [ew]
    have hz : decide ((i : Int) < i) = false := by simp
    by_cases hi0 : i = 0
    · have ea : Rd.fAt l i = 0 := by unfold Rd.fAt; rw [ex]; simp [hi0]
      rw [ea]
      have j0 : ¬ ((0 : Int) < i) := by omega
      clear ea ew ex hn hsm hi0
      generalize hw1 : w.alloc (.cells #[.int .i64 40, .int .i64 0, .string ⟨#[]⟩] 61) = w1 at *
      have HW := k0_ hw1
      clear hw1
      go_enter Tryz.func10, Tryz.ntmps10
      go_wp2_with fail
      rw [HW.out]
      go_ret
      exact ⟨w.heap.size, rfl, HX.out, Nat.le_refl _, HB0.out⟩
    · obtain ⟨x, hx⟩ : ∃ x, l[i - 1]? = some x := ⟨l[i - 1]'(by omega), List.getElem?_eq_getElem _⟩
      have ea : Rd.fAt l i = wrap64 (x.pos + (x.text.size : Int)) := by unfold Rd.fAt; rw [ex]; simp only; rw [if_pos (by omega), hx]
      rw [ea]
      obtain ⟨m, rfl⟩ : ∃ m, i = m + 1 := ⟨i - 1, by omega⟩
      rw [Nat.add_sub_cancel] at hx
      obtain ⟨g, o, hA, h0, h1, h2, h3⟩ := HW1.out m x hx
      have hcast : ((m + 1 : Nat) : Int) = (m : Int) + 1 := by omega
      rw [hcast] at *
      have j1 : (0 : Int) < (m : Int) + 1 := by omega
      have j2 : (0 : Int) ≤ m ∧ (m : Int) < (m : Int) + 1 := by omega
      have j3 : (m : Int) + 1 ≤ 9223372036854775807 := by omega
      have hs : IntKind.i64.wrap (m : Int) = (m : Int) := IntWalk.i64_in _ (by omega)
      clear ea ew ex hx hn hsm hi0 hcast
      obtain rfl := hA
      obtain ⟨f0, f1, f2, z0, z1, z2, fl⟩ := qB HX.out
      generalize hw1 : w.alloc (.cells #[.int .i64 40, .int .i64 0, .string ⟨#[]⟩] 61) = w1 at *
      have HW := k0_ hw1
      clear hw1
      go_enter Tryz.func10, Tryz.ntmps10
      go_wp2_with fail
      rw [HW.out]
      go_region
      go_wp2_with fail
      go_ret
      refine ⟨w.heap.size, rfl, ?_, Nat.le_refl _, ?_⟩
      · show (w1.setCell ⟨w.heap.size, 1, none⟩ _).heap[w.heap.size]? = _
        simp [World.setCell, Array.getElem?_modify, HX.out]
      · exact (HB0.out.setCell (p := ⟨w.heap.size, 1, none⟩) (Nat.le_refl _) _).drew
theorem yZ {P : Program} {G : Prop} {w : World} (h : wpAny P .any #[] (fun _ _ _ => G) 0 #[] { tmps := #[], defers := [] } w) : G := h.2
def PBad (rb : Nat) (w : World) (E a : Int) (s : ByteArray) (e : Ending) (w' : World) : Prop :=
  ∃ g, e = .panicked [{ v := .iface 68 (.agg #[.iface 49 (.pointer (some ⟨g, 0, none⟩))]), recovered := false }] ∧ w'.heap[g]? = some (.cells #[.int .i64 E, .int .i64 a, .string s] 61 (0, 0)) ∧ w.heap.size ≤ g ∧ w.grownBy w' (some rb)
theorem zBf {w : World} {rb n c i : Nat} {A : Option Addr} {mv : Value} (h : PRd w rb A n c i mv) (j : Nat) : PRd (w.setCell ⟨rb, 1, none⟩ (.int .i64 j)) rb A n c j mv := by
  unfold PRd at h ⊢
  simp [World.setCell, Array.getElem?_modify, h]
theorem PdS.step {l : List W4} {A : Option Addr} {c rb i j : Nat} {mv : Value} {w w' : World} (h : PdS l A c rb mv w i) (hg : w.grownBy w' (some rb)) (hR : PRd w' rb A l.length c j mv) (hj : j ≤ l.length) : PdS l A c rb mv w' j := by
  obtain ⟨tp, p, hv⟩ := h.var
  have hsh : 2 ≠ rb := fun e => by
    subst e
    have h0 := h.sh.2 0 _ rfl
    have h1 := (qB h.rdr).1
    rw [h0] at h1
    cases h1
  refine ⟨hR, h.row.grown h.ne hg, h.ne, hj, ⟨Nat.lt_of_lt_of_le h.sh.1 hg.size, fun q v hv => ?_⟩, ⟨tp, p, ?_⟩, h.vne, h.len, h.small, h.okw, h.ops.grown hg h.rdr⟩
  · have h0 := h.sh.2 q v hv
    rw [World.cell?_of_block (hg.block _ (Ty.zR h0) (fun e => hsh (by injection e)))]
    exact h0
  · unfold World.var? at hv ⊢
    cases hgn : Tryz.prog.globalNamed "strconv.ErrRange" with
    | none => rw [hgn] at hv; cases hv
    | some g =>
      rw [hgn] at hv
      have hgl : g < w.heap.size := by
        rcases Nat.lt_or_ge g w.heap.size with h1 | h1
        · exact h1
        · simp [Array.getElem?_eq_none h1] at hv
      have e : w'.heap[g]? = w.heap[g]? := hg.block g hgl (fun e => h.vne g hgn (by injection e))
      simp only [Option.bind_some] at hv ⊢
      rw [e]; exact hv
theorem yB {w : World} {rb n c i X : Nat} {A : Option Addr} {mv : Value} (h : PRd w rb A n c i mv) (hX : X ≠ rb) (o : Nat) (v : Value) : PRd (w.setCell ⟨X, o, none⟩ v) rb A n c i mv := by
  unfold PRd at h ⊢
  rw [Below.heap_setCell _ _ _ _ (fun e => hX e.symm)]
  exact h
theorem zCS {a w : World} {rb X : Nat} (h : a.grownBy w (some rb)) (hX : a.heap.size ≤ X) (v0 v1 v2 v3 : Value) : a.grownBy ((((w.setCell ⟨X, 0, none⟩ v0).setCell ⟨X, 1, none⟩ v1).setCell ⟨X, 2, none⟩ v2).setCell ⟨X, 3, none⟩ v3) (some rb) := by
  have h1 := zK h (p := ⟨X, 0, none⟩) (.inr hX) v0
  have h2 := zK h1 (p := ⟨X, 1, none⟩) (.inr hX) v1
  have h3 := zK h2 (p := ⟨X, 2, none⟩) (.inr hX) v2
  exact zK h3 (p := ⟨X, 3, none⟩) (.inr hX) v3
theorem yY (l : List W4) (A : Option Addr) (c rb i : Nat) (mv : Value) (w : World) (h : PdS l A c rb mv w i) (hi : i < l.length) :
    Calls Tryz.prog 111 #[.pointer (some ⟨rb, 0, none⟩), .bool true] w fun e w' => e = .returned (wV (wAt l i)) ∧ PRd w' rb A l.length c (i + 1) mv ∧ w.grownBy w' (some rb) := by
  have hb0 : Below w.heap.size w (w.alloc (.cells #[.int .i8 0, .string ⟨#[]⟩, .int .i64 0, .int .i64 0] 48)) := (Below.refl _ _).alloc (Nat.le_refl _) _
  have HX := k0_ (zF w (.cells #[.int .i8 0, .string ⟨#[]⟩, .int .i64 0, .int .i64 0] 48))
  have HS1 := k0_ (h.below hb0)
  have HB0 := k0_ hb0
  have hne : w.heap.size ≠ rb := by have := zD h.rdr; omega
  have j3 : (i : Int) + 1 ≤ 9223372036854775807 := by have := h.len; unfold maxLen at this; omega
  have CW := k0_ (qG l A c rb i mv _ HS1.out)
  clear hb0 h
  obtain ⟨y, hy⟩ : ∃ y, y = wAt l i := ⟨_, rfl⟩
  rw [← hy] at CW ⊢
  obtain ⟨k, t, n, p⟩ := y
  unfold wV at CW ⊢
  simp only at CW ⊢
  clear hy
  go_enter Tryz.func111, Tryz.ntmps111
  go_wp2_with fail
  refine CW.out.mono ?_
  rintro e w2 ⟨rfl, hb⟩
  have hl2 := zC hb (zD HX.out) HX.out
  have HX2 := k0_ (zG hl2 (.cells #[.int .i8 k, .string t, .int .i64 n, .int .i64 p] 48))
  have hbx := (Below.refl w2.heap.size w2).alloc (Nat.le_refl _) (.cells #[.int .i8 k, .string t, .int .i64 n, .int .i64 p] 48)
  have HB2 := k0_ ((HB0.out.trans (hb.mono HB0.out.size)).trans (hbx.mono (by have := HB0.out.size; have := hb.size; omega)))
  have HS2 := k0_ ((HS1.out.below hb).below hbx)
  have HY2 := k0_ (zF w2 (.cells #[.int .i8 k, .string t, .int .i64 n, .int .i64 p] 48))
  have hyr : w2.heap.size ≠ rb := by have := zD (HS1.out.below hb).rdr; omega
  have hyp : w2.heap.size ≠ w.heap.size := by have := zD hl2; omega
  clear hb hl2 hbx CW
  obtain ⟨r0, r1, r2, -, z1, -, hrl⟩ := qB HS2.out.rdr
  obtain ⟨x0, x1, x2, x3, xf0, xf1, xf2, xf3, xl⟩ := zX HX2.out
  obtain ⟨y0, y1, y2, y3, yf0, yf1, yf2, yf3, yl⟩ := zX HY2.out
  go_wp2_with fail
  refine bodyPost_ret (v := .agg #[.int .i8 k, .string t, .int .i64 n, .int .i64 p]) (by simp [results, Tryz.results111, go_sem, *]) rfl ⟨rfl, ?_, ?_⟩
  · have q := zBf HS2.out.rdr (i + 1)
    rw [show ((i + 1 : Nat) : Int) = (i : Int) + 1 by omega] at q
    exact yB (yB (yB (yB q hne _ _) hne _ _) hne _ _) hne _ _
  · exact zCS (zK (zJ (rb := rb) HB2.out) (p := ⟨rb, 1, none⟩) (.inl rfl) (.int .i64 ((i : Int) + 1))) (Nat.le_refl _) _ _ _ _
theorem wY (l : List W4) (A : Option Addr) (c rb i : Nat) (mv : Value) (w : World) (h : PdS l A c rb mv w i) :
    Calls Tryz.prog 111 #[.pointer (some ⟨rb, 0, none⟩), .bool false] w (PBad rb w 40 (Rd.fAt l i) (Rd.fWord l i)) := by
  have hb0 : Below w.heap.size w (w.alloc (.cells #[.int .i8 0, .string ⟨#[]⟩, .int .i64 0, .int .i64 0] 48)) := (Below.refl _ _).alloc (Nat.le_refl _) _
  have HS1 := k0_ (h.below hb0)
  have HB0 := k0_ hb0
  obtain ⟨r0, r1, r2, -, z1, -, hrl⟩ := qB HS1.out.rdr
  have CM := k0_ (fun (W : World) (hb : Below w.heap.size w W) => xw l A c i W (Nat.le_of_lt h.len) h.le h.small (h.row.below hb))
  clear hb0 h
  generalize hw1 : w.alloc (.cells #[.int .i8 0, .string ⟨#[]⟩, .int .i64 0, .int .i64 0] 48) = w1 at *
  have HW := k0_ hw1
  clear hw1
  go_enter Tryz.func111, Tryz.ntmps111
  go_wp2_with fail
  rw [HW.out]
  go_still_tail 8, (by kernel_rfl)
  change wpList _ _ _ _ _ w1.drew
  have D0 := k0_ (HB0.out.drew)
  clear r0 r1 r2 z1 hrl
  generalize w1.drew = w2 at *
  go_wp2_with fail
  refine (CM.out _ D0.out).mono ?_
  rintro e u ⟨g, rfl, hgf, hgl, hgb⟩
  have HP := k0_ (show PBad rb w 40 (Rd.fAt l i) (Rd.fWord l i) (.panicked [{ v := .iface 68 (.agg #[.iface 49 (.pointer (some ⟨g, 0, none⟩))]), recovered := false }]) u from ⟨g, rfl, hgf, Nat.le_trans D0.out.size hgl, zI (zJ D0.out) (zJ hgb)⟩)
  clear hgf hgl hgb
  go_wp2_with fail
  exact ⟨rfl, HP.out⟩
set_option maxHeartbeats 4000000
set_option maxRecDepth 100000
open Go.RowKit Rd
theorem yD : (⟨#[]⟩ : ByteArray).toList = [] := (Lib.toList_data _).trans rfl
theorem yx {s t : ByteArray} (h : s.toList = t.toList) : Sc.isKey s = Sc.isKey t := by unfold Sc.isKey; rw [h]
theorem zF3 (k : Int) (t : ByteArray) (n p : Int) (w : World) : (Instr.field 48 (.agg #[.int .i8 k, .string t, .int .i64 n, .int .i64 p]) 1).run Tryz.prog w = .ok (.string t) w := by kernel_rfl
theorem zHj (k : Int) (t : ByteArray) (n p : Int) (w : World) : (Instr.field 48 (.agg #[.int .i8 k, .string t, .int .i64 n, .int .i64 p]) 2).run Tryz.prog w = .ok (.int .i64 n) w := by kernel_rfl
theorem zHi (k : Int) (t : ByteArray) (n p : Int) (w : World) : (Instr.field 48 (.agg #[.int .i8 k, .string t, .int .i64 n, .int .i64 p]) 3).run Tryz.prog w = .ok (.int .i64 p) w := by kernel_rfl
theorem zFx (l : List W4) (i : Nat) (s : ByteArray) (hok : ∀ x ∈ l, OkWord x) (hk : Sc.isKey s = true) (hne : s.toList ≠ []) : ((fx (wAt l i)).toList == s.toList) = sees l i 3 s.toList := by
  unfold wAt sees fx
  cases hx : l[i]? with
  | none => simp only; rw [if_neg (by decide), yD]; simpa using hne
  | some x =>
    obtain ⟨o3, o4, -⟩ := hok x (List.mem_of_getElem? hx)
    simp only
    by_cases k3 : x.kind = 3
    · rw [if_pos (.inl k3), k3]; simp
    · by_cases k4 : x.kind = 4
      · rw [if_pos (.inr k4), k4]
        have : (x.text.toList == s.toList) = false := by
          rw [beq_eq_false_iff_ne]; intro e; have := o4 k4; rw [yx e, hk] at this; cases this
        rw [this]; simp
      · rw [if_neg (by rintro (h | h); exact k3 h; exact k4 h), yD]
        have : (x.kind == 3) = false := by simpa using k3
        rw [this]
        simpa using hne
theorem zF2 (l : List W4) (i : Nat) (s : ByteArray) (hok : ∀ x ∈ l, OkWord x) (hk : Sc.isKey s = false) (hne : s.toList ≠ []) : ((fx (wAt l i)).toList == s.toList) = sees l i 4 s.toList := by
  unfold wAt sees fx
  cases hx : l[i]? with
  | none => simp only; rw [if_neg (by decide), yD]; simpa using hne
  | some x =>
    obtain ⟨o3, o4, -⟩ := hok x (List.mem_of_getElem? hx)
    simp only
    by_cases k4 : x.kind = 4
    · rw [if_pos (.inr k4), k4]; simp
    · by_cases k3 : x.kind = 3
      · rw [if_pos (.inl k3), k3]
        have : (x.text.toList == s.toList) = false := by
          rw [beq_eq_false_iff_ne]; intro e; have := o3 k3; rw [yx e, hk] at this; cases this
        rw [this]; simp
      · rw [if_neg (by rintro (h | h); exact k3 h; exact k4 h), yD]
        have : (x.kind == 4) = false := by simpa using k4
        rw [this]
        simpa using hne
theorem jY {l : List W4} {i : Nat} (hok : ∀ x ∈ l, OkWord x) : ((wAt l i).kind = 3 → Sc.isKey (wAt l i).text = true) ∧ ((wAt l i).kind = 4 → Sc.isKey (wAt l i).text = false) := by
  unfold wAt
  cases hx : l[i]? with
  | none => exact ⟨fun h => absurd h (by decide), fun h => absurd h (by decide)⟩
  | some x => exact ⟨(hok x (List.mem_of_getElem? hx)).1, (hok x (List.mem_of_getElem? hx)).2.1⟩
def PGo (l : List W4) (A : Option Addr) (c rb : Nat) (mv : Value) (w : World) (j : Nat) (w' : World) : Prop := PRd w' rb A l.length c j mv ∧ w.grownBy w' (some rb)
theorem PGo.from {l : List W4} {A : Option Addr} {c rb j : Nat} {mv : Value} {w u w' : World} (h : PGo l A c rb mv u j w') (hg : w.grownBy u (some rb)) : PGo l A c rb mv w j w' := ⟨h.1, zI hg h.2⟩
theorem PBad.from {rb : Nat} {w u : World} {E a : Int} {s : ByteArray} {e : Ending} {w' : World} (h : PBad rb u E a s e w') (hg : w.grownBy u (some rb)) : PBad rb w E a s e w' := by
  obtain ⟨g, h1, h2, h3, h4⟩ := h
  exact ⟨g, h1, h2, Nat.le_trans hg.size h3, zI hg h4⟩
theorem kH (l : List W4) (A : Option Addr) (c rb i : Nat) (mv : Value) (s : ByteArray) (w : World) (h : PdS l A c rb mv w i) (hi : i < l.length) (hs : ((fx (wAt l i)).toList == s.toList) = true) :
    Calls Tryz.prog 80 #[.pointer (some ⟨rb, 0, none⟩), .string s] w fun e w' => e = .returned (.tuple #[]) ∧ PGo l A c rb mv w (i + 1) w' := by
  have CW := k0_ (qG l A c rb i mv w h)
  have CF := k0_ (fun (W : World) => jN (wAt l i) W (jY h.okw).1 (jY h.okw).2)
  have CP := k0_ (fun (W : World) (hb : Below w.heap.size w W) => yY l A c rb i mv W (h.below hb) hi)
  clear h hi
  go_enter Tryz.func80, Tryz.ntmps80
  go_wp2_with fail
  refine CW.out.mono ?_
  rintro e w2 ⟨rfl, hb⟩
  have HB := k0_ hb
  clear hb
  go_wp2_with fail
  refine (CF.out _).mono ?_
  rintro e w3 ⟨rfl, hb⟩
  have HB2 := kt_ HB hb
  clear hb
  go_wp2_with fail
  refine (CP.out _ HB2.out).mono ?_
  rintro e w4 ⟨rfl, hR, hg⟩
  go_wp2_with fail
  change bodyPost _ _ _ _ _ _
  go_end0
  exact ⟨rfl, hR, zI (zJ HB2.out) hg⟩
theorem zA0 (l : List W4) (A : Option Addr) (c rb i : Nat) (mv : Value) (s : ByteArray) (w : World) (h : PdS l A c rb mv w i) (hs : ((fx (wAt l i)).toList == s.toList) = false) :
    Calls Tryz.prog 80 #[.pointer (some ⟨rb, 0, none⟩), .string s] w (PBad rb w 40 (Rd.fAt l i) (Rd.fWord l i)) := by
  have CW := k0_ (qG l A c rb i mv w h)
  have CF := k0_ (fun (W : World) => jN (wAt l i) W (jY h.okw).1 (jY h.okw).2)
  have CP := k0_ (fun (W : World) (hb : Below w.heap.size w W) => wY l A c rb i mv W (h.below hb))
  clear h
  go_enter Tryz.func80, Tryz.ntmps80
  go_wp2_with fail
  refine CW.out.mono ?_
  rintro e w2 ⟨rfl, hb⟩
  have HB := k0_ hb
  clear hb
  go_wp2_with fail
  refine (CF.out _).mono ?_
  rintro e w3 ⟨rfl, hb⟩
  have HB2 := kt_ HB hb
  clear hb
  go_wp2_with fail
  refine (CP.out _ HB2.out).mono ?_
  intro e w4 hP
  have HP := k0_ (hP.from (zJ (rb := rb) HB2.out))
  exact qY
theorem qM (l : List W4) (A : Option Addr) (c rb i : Nat) (mv : Value) (k : Int) (w : World) (h : PdS l A c rb mv w i) (hi : i < l.length) :
    Calls Tryz.prog 75 #[.pointer (some ⟨rb, 0, none⟩), .int .i8 k] w fun e w' => ∃ N, e = .returned (.pointer (some ⟨N, 0, none⟩)) ∧ w.heap.size ≤ N ∧ N < w'.heap.size ∧
      w'.heap[N]? = some (.cells #[.int .i8 k, .string ⟨#[]⟩, .string ⟨#[]⟩, .int .i64 0, .int .i8 0, .slice none 0 0, .int .i8 0, .slice none 0 0, .int .i64 0, .int .i64 (wAt l i).pos, .slice none 0 0] 28 (0, 0)) ∧ PGo l A c rb mv w (i + 1) w' := by
  have CW := k0_ (qG l A c rb i mv w h)
  have H := k0_ h
  have j3 : (i : Int) + 1 ≤ 9223372036854775807 := by have := h.len; unfold maxLen at this; omega
  clear h
  obtain ⟨y, hy⟩ : ∃ y, y = wAt l i := ⟨_, rfl⟩
  rw [← hy] at CW ⊢
  obtain ⟨yk, yt, yn, yp⟩ := y
  unfold wV at CW
  simp only at CW ⊢
  have e3 := zHi
  clear hy
  go_enter Tryz.func75, Tryz.ntmps75
  go_wp2_with fail
  refine CW.out.mono ?_
  rintro e w2 ⟨rfl, hb⟩
  have HS2 := k0_ (H.out.below hb)
  have HB2 := k0_ hb
  have hbx := (Below.refl w2.heap.size w2).alloc (Nat.le_refl _) (.cells #[.int .i8 k, .string ⟨#[]⟩, .string ⟨#[]⟩, .int .i64 0, .int .i8 0, .slice none 0 0, .int .i8 0, .slice none 0 0, .int .i64 0, .int .i64 yp, .slice none 0 0] 28)
  have HS3 := k0_ (HS2.out.below hbx)
  have HX3 := k0_ (zF w2 (.cells #[.int .i8 k, .string ⟨#[]⟩, .string ⟨#[]⟩, .int .i64 0, .int .i8 0, .slice none 0 0, .int .i8 0, .slice none 0 0, .int .i64 0, .int .i64 yp, .slice none 0 0] 28))
  have HB3 := k0_ (hb.trans (hbx.mono hb.size))
  have hne : w2.heap.size ≠ rb := by have := zD HS2.out.rdr; omega
  clear hb hbx
  obtain ⟨r0, r1, r2, -, z1, -, hrl⟩ := qB HS3.out.rdr
  go_wp2_with fail
  go_ret
  refine ⟨w2.heap.size, rfl, HB2.out.size, ?_, ?_, ?_, zK (zJ HB3.out) (p := ⟨rb, 1, none⟩) (.inl rfl) _⟩
  · simp
  · rw [Below.heap_setCell _ _ _ _ hne]; exact HX3.out
  · have q := zBf HS3.out.rdr (i + 1)
    rw [show ((i + 1 : Nat) : Int) = (i : Int) + 1 by omega] at q
    exact q
theorem jQ (l : List W4) (A : Option Addr) (c rb i : Nat) (mv : Value) (w : World) (h : PdS l A c rb mv w i) {x : W4} (hx : l[i]? = some x) (hk : x.kind = 1) :
    Calls Tryz.prog 76 #[.pointer (some ⟨rb, 0, none⟩)] w fun e w' => e = .returned (.string x.text) ∧ PGo l A c rb mv w (i + 1) w' := by
  have hw : wAt l i = x := by unfold wAt; rw [hx]
  have hi : i < l.length := (List.getElem?_eq_some_iff.1 hx).1
  have hsm := h.small x (List.mem_of_getElem? hx)
  have hnm := (h.okw x (List.mem_of_getElem? hx)).2.2.1 hk
  have CW := k0_ (qG l A c rb i mv w h)
  have H := k0_ h
  have CN := k0_ (fun (W : World) (hb : Below w.heap.size w W) => (show Calls Tryz.prog 112 #[.string x.text] W (fun e w' => e = .returned (.bool true) ∧ Below W.heap.size W w') from by
    obtain ⟨tp, p, hv⟩ := h.var
    have q := jJ x.text hsm W tp p (jO hb hv)
    rw [hnm] at q; exact q))
  have CP := k0_ (fun (W : World) (hb : Below w.heap.size w W) => yY l A c rb i mv W (h.below hb) hi)
  have CC := k0_ (fun (W : World) => jC x.text hsm W)
  rw [hw] at CW CP
  clear h hnm hsm hx hw
  obtain ⟨yk, yt, yn, yp⟩ := x
  unfold wV at CW CP
  simp only at CW CP CN CC hk ⊢
  subst hk
  have e1 := zF3
  go_enter Tryz.func76, Tryz.ntmps76
  go_wp2_with fail
  refine CW.out.mono ?_
  rintro e w2 ⟨rfl, hb⟩
  have hbx := (Below.refl w2.heap.size w2).alloc (Nat.le_refl _) (.cells #[.int .i8 1, .string yt, .int .i64 yn, .int .i64 yp] 48)
  have HX3 := k0_ (zF w2 (.cells #[.int .i8 1, .string yt, .int .i64 yn, .int .i64 yp] 48))
  have HB3 := k0_ (hb.trans (hbx.mono hb.size))
  clear hb hbx
  obtain ⟨f0, f1, f2, f3, -, -, -, -, fl⟩ := zX HX3.out
  go_wp2_with fail
  refine (CN.out _ HB3.out).mono ?_
  rintro e w4 ⟨rfl, hb⟩
  have HB4 := kt_ HB3 hb
  clear hb
  go_wp2_with fail
  refine (CP.out _ HB4.out).mono ?_
  rintro e w5 ⟨rfl, hR, hg⟩
  have HR5 := k0_ hR
  have HG5 := k0_ (zI (zJ (rb := rb) HB4.out) hg)
  have hrl := zD hR
  clear hR hg
  go_wp2_with fail
  refine (CC.out _).mono ?_
  rintro e w6 ⟨rfl, hb⟩
  have HR6 := k0_ (zC hb hrl HR5.out)
  have HG6 := k0_ (zI HG5.out (zJ (rb := rb) hb))
  clear hb
  go_wp2_with fail
  go_ret
  exact ⟨rfl, HR6.out, HG6.out⟩
theorem vX (l : List W4) (A : Option Addr) (c rb i : Nat) (mv : Value) (w : World) (h : PdS l A c rb mv w i) (hk : (wAt l i).kind ≠ 1) :
    Calls Tryz.prog 76 #[.pointer (some ⟨rb, 0, none⟩)] w (PBad rb w 40 (Rd.fAt l i) (Rd.fWord l i)) := by
  have CW := k0_ (qG l A c rb i mv w h)
  have CP := k0_ (fun (W : World) (hb : Below w.heap.size w W) => wY l A c rb i mv W (h.below hb))
  clear h
  generalize wAt l i = x at *
  obtain ⟨yk, yt, yn, yp⟩ := x
  unfold wV at CW
  simp only at CW hk ⊢
  have hk1 : (yk == 1) = false := by simpa using hk
  clear hk
  go_enter Tryz.func76, Tryz.ntmps76
  exact zHO
theorem xq (l : List W4) (A : Option Addr) (c rb i : Nat) (mv : Value) (w : World) (h : PdS l A c rb mv w i) {x : W4} (hx : l[i]? = some x) (hk : x.kind = 2) :
    Calls Tryz.prog 116 #[.pointer (some ⟨rb, 0, none⟩)] w fun e w' => e = .returned (.int .i64 x.num) ∧ PGo l A c rb mv w (i + 1) w' := by
  have hw : wAt l i = x := by unfold wAt; rw [hx]
  have hi : i < l.length := (List.getElem?_eq_some_iff.1 hx).1
  have hn0 := ((h.okw x (List.mem_of_getElem? hx)).2.2.2.1 hk).1
  have CW := k0_ (qG l A c rb i mv w h)
  have CP := k0_ (fun (W : World) (hb : Below w.heap.size w W) => yY l A c rb i mv W (h.below hb) hi)
  rw [hw] at CW CP
  clear h hx hw
  obtain ⟨yk, yt, yn, yp⟩ := x
  unfold wV at CW CP
  simp only at CW CP hk hn0 ⊢
  subst hk
  have e2 := zHj
  go_enter Tryz.func116, Tryz.ntmps116
  go_wp2_with fail
  refine CW.out.mono ?_
  rintro e w2 ⟨rfl, hb⟩
  have hbx := (Below.refl w2.heap.size w2).alloc (Nat.le_refl _) (.cells #[.int .i8 2, .string yt, .int .i64 yn, .int .i64 yp] 48)
  have HX3 := k0_ (zF w2 (.cells #[.int .i8 2, .string yt, .int .i64 yn, .int .i64 yp] 48))
  have HB3 := k0_ (hb.trans (hbx.mono hb.size))
  clear hb hbx
  obtain ⟨f0, f1, f2, f3, -, -, -, -, fl⟩ := zX HX3.out
  go_wp2_with fail
  refine (CP.out _ HB3.out).mono ?_
  rintro e w5 ⟨rfl, hR, hg⟩
  have HR5 := k0_ hR
  have HG5 := k0_ (zI (zJ (rb := rb) HB3.out) hg)
  clear hR hg
  go_wp2_with fail
  go_ret
  exact ⟨rfl, HR5.out, HG5.out⟩
theorem xu (l : List W4) (A : Option Addr) (c rb i : Nat) (mv : Value) (w : World) (h : PdS l A c rb mv w i) (hk : (wAt l i).kind ≠ 2) :
    Calls Tryz.prog 116 #[.pointer (some ⟨rb, 0, none⟩)] w (PBad rb w 40 (Rd.fAt l i) (Rd.fWord l i)) := by
  have CW := k0_ (qG l A c rb i mv w h)
  have CP := k0_ (fun (W : World) (hb : Below w.heap.size w W) => wY l A c rb i mv W (h.below hb))
  clear h
  generalize wAt l i = x at *
  obtain ⟨yk, yt, yn, yp⟩ := x
  unfold wV at CW
  simp only at CW hk ⊢
  have hk1 : (yk == 2) = false := by simpa using hk
  clear hk
  go_enter Tryz.func116, Tryz.ntmps116
  exact zHO
set_option maxHeartbeats 4000000
set_option maxRecDepth 100000
open Go.RowKit Rd
theorem zGI (x : Value) (w : World) : (Instr.typeAssert (.iface 68 (.agg #[x])) 20 68 true).run Tryz.prog w = .ok (.tuple #[.agg #[x], .bool true]) w := by kernel_rfl
theorem zBY (w : World) : (Instr.typeAssert .nilIface 20 68 true).run Tryz.prog w = .ok (.tuple #[.agg #[.nilIface], .bool false]) w := by kernel_rfl
theorem wX (R : Nat) (g : Addr) (z : Value) (w : World) (hr : w.cell? ⟨R, 0, none⟩ = some z) (fr : w.frozen? ⟨R, 0, none⟩ = false) :
    CallsD Tryz.prog 19 #[.pointer (some ⟨R, 0, none⟩)] (.panicking [{ v := .iface 68 (.agg #[.iface 49 (.pointer (some g))]), recovered := false }]) w fun e u' w' =>
      e = .returned (.tuple #[]) ∧ u' = .panicking [{ v := .iface 68 (.agg #[.iface 49 (.pointer (some g))]), recovered := true }] ∧ w' = (w.setCell ⟨R, 0, none⟩ (.iface 49 (.pointer (some g)))).alloc (.cells #[.iface 49 (.pointer (some g))] 68) := by
  have e1 := zGI
  have hRl := Ty.zR hr
  have hn := zF w (.cells #[.iface 49 (.pointer (some g))] 68)
  obtain ⟨n0, n1, n2⟩ := qR hn
  have kr : (w.alloc (.cells #[.iface 49 (.pointer (some g))] 68)).cell? ⟨R, 0, none⟩ = some z := by
    rw [((Below.refl w.heap.size w).alloc (Nat.le_refl _) _).cell (p := ⟨R, 0, none⟩) hRl]; exact hr
  have kf : (w.alloc (.cells #[.iface 49 (.pointer (some g))] 68)).frozen? ⟨R, 0, none⟩ = false := by
    rw [((Below.refl w.heap.size w).alloc (Nat.le_refl _) _).frozen (p := ⟨R, 0, none⟩) hRl]; exact fr
  clear hn
  refine callsD_of_wpS Tryz.func19 rfl fun c₀ cs hu => ?_
  apply wpS_seq
  apply wpS_region
  simp [wpOpsS, go_sem, recoverD, hu, Tryz.ntmps19, Exit.thenS]
  refine wpS_of_wp ?_
  change Code.wp _ _ _ { tmps := #[.pointer (some ⟨R, 0, none⟩), .iface 68 (.agg #[.iface 49 (.pointer (some g))]), undef, undef, .iface 68 (.agg #[.iface 49 (.pointer (some g))]), undef, undef, undef, undef, undef, undef, undef, undef, undef, undef, undef], defers := [] } w
  clear hu
  go_wp2_with fail
  exact ⟨rfl, _, rfl, .tuple #[], by simp [results, Tryz.results19], rfl, rfl, rfl⟩
theorem kZ (r : Addr) (w : World) :
    CallsD Tryz.prog 19 #[.pointer (some r)] .returning w fun e u' w' => e = .returned (.tuple #[]) ∧ u' = .returning ∧ w' = w.alloc (.cells #[.nilIface] 68) := by
  have e1 := zBY
  have e2 := yC
  refine callsD_of_wpS Tryz.func19 rfl fun c₀ cs hu => ?_
  apply wpS_seq
  apply wpS_region
  simp [wpOpsS, go_sem, recoverD, hu, Tryz.ntmps19, Exit.thenS]
  refine wpS_of_wp ?_
  change Code.wp _ _ _ { tmps := #[.pointer (some r), .nilIface, undef, undef, .nilIface, undef, undef, undef, undef, undef, undef, undef, undef, undef, undef, undef], defers := [] } w
  go_wp2_with fail
  exact ⟨rfl, .returning, by cases c₀; simp_all, .tuple #[], by simp [results, Tryz.results19], rfl, rfl, rfl⟩
end Go.Proofs.YtgjemmmbnpkamaaGreatDoor
