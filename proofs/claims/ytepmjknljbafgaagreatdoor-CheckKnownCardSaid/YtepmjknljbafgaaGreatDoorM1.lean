import Derived.Test.YtepmjknljbafgaaGreatDoorChecked
import Derived.WalkKit
import Derived.ChangeSame
import Derived.Deep.Trees
import Derived.Deep.Slices
import Derived.Below
import Derived.Lib.Hide
namespace Go.Proofs.YtepmjknljbafgaaGreatDoor
open Go.RowKit Go.ChangeShapes Go.WideShapes
abbrev Fo := Go.Deep.BT Int
namespace Ty
def len : Fo -> Nat
  | .nil => 0
  | .node _ _ _ _ r => len r + 1
def nodes : Fo -> Nat
  | .nil => 0
  | .node _ _ _ kids r => nodes kids + 1 + nodes r
def dep : Fo -> Nat
  | .nil => 0
  | .node _ _ _ kids r => max (dep kids + 1) (dep r)
def okK (k : Int) (n : Nat) : Bool := if 0 <= k /\ k <= 2 then n == 0 else if 3 <= k /\ k <= 5 then n == 2 else false
def okF : Fo -> Bool
  | .nil => true
  | .node _ _ k kids r => okK k (len kids) && okF kids && okF r
def chk (k : Int) (kids : Fo) : Nat := if 8192 < nodes kids + 1 then 32 else if 200 < dep kids + 1 then 31 else if okK k (len kids) && okF kids then 0 else 20
def nod (kids : Fo) : Nat := min (nodes kids + 1) 8193
def dpt (kids : Fo) : Nat := if 8192 < nodes kids + 1 then 201 else min (dep kids + 1) 201
theorem kG : ∀ f : Fo, len f <= nodes f
  | .nil => Nat.le_refl _
  | .node _ _ _ _ r => by have := kG r; simp only [len, nodes]; omega
theorem jd : ∀ f : Fo, dep f <= nodes f
  | .nil => Nat.le_refl _
  | .node _ _ _ kids r => by have := jd kids; have := jd r; simp only [dep, nodes]; omega
def Lies (w : World) : Fo -> Option Addr -> Nat -> Prop
  | .nil, _, _ => True
  | .node _ _ k kids r, A, i => ∃ b o B c, A = some ⟨b, o, none⟩ /\ (-128 <= k /\ k <= 127) /\ w.cell? ⟨b, o + i * 2, none⟩ = some (.int .i8 k) /\ w.cell? ⟨b, o + i * 2 + 1, none⟩ = some (.slice B (len kids) c) /\
      len kids <= c /\ c <= maxLen /\ Lies w kids B 0 /\ Lies w r A (i + 1)
structure Is (w : World) (k : Int) (kids : Fo) (A : Option Addr) (n c : Nat) : Prop where
  lies : Lies w kids A 0
  n_eq : n = len kids
  n_le : n <= c
  c_le : c <= maxLen
  lo : -128 <= k
  hi : k <= 127
theorem Lies.lt {w : World} {f : Fo} {b o : Nat} {i : Nat} (h : Lies w f (some ⟨b, o, none⟩) i) (hf : 0 < len f) : b < w.heap.size := by
  cases f with
  | nil => cases hf
  | node _ _ k kids r =>
    obtain ⟨b', o', B, c, hA, _, h1, _⟩ := h;injection hA with hA; injection hA with e1 e2; subst e1
    rcases Nat.lt_or_ge b w.heap.size with h2 | h2
    · exact h2
    · simp [World.cell?, Array.getElem?_eq_none h2] at h1
theorem zN {w : World} {b o : Nat} {v : Value} (h1 : w.cell? ⟨b, o, none⟩ = some v) : b < w.heap.size := by
  rcases Nat.lt_or_ge b w.heap.size with h2 | h2
  · exact h2
  · simp [World.cell?, Array.getElem?_eq_none h2] at h1
theorem Lies.keep {w w' : World} (hk : ∀ (b o : Nat) (v : Value), w.cell? ⟨b, o, none⟩ = some v -> (∃ k : Int, v = .int .i8 k) \/ (∃ B n c, v = .slice B n c) -> w'.cell? ⟨b, o, none⟩ = some v) :
    ∀ (f : Fo) (A : Option Addr) (i : Nat), Lies w f A i -> Lies w' f A i
  | .nil, _, _, _ => trivial
  | .node _ _ _ kids r, A, i, h => by
    obtain ⟨b, o, B, c, hA, hkk, h1, h2, h3, h4, h5, h6⟩ := h;exact ⟨b, o, B, c, hA, hkk, hk b _ _ h1 (.inl ⟨_, rfl⟩), hk b _ _ h2 (.inr ⟨_, _, _, rfl⟩), h3, h4, Lies.keep hk kids B 0 h5, Lies.keep hk r A (i + 1) h6⟩
theorem Lies.below {w w' : World} {f : Fo} {A : Option Addr} {i : Nat} (h : Lies w f A i) (hb : Below w.heap.size w w') : Lies w' f A i :=
  Lies.keep (fun b o v h1 _ => by rw [hb.cell (p := ⟨b, o, none⟩) (zN h1)]; exact h1) f A i h
theorem Is.below {w w' : World} {k : Int} {kids : Fo} {A : Option Addr} {n c : Nat} (h : Is w k kids A n c) (hb : Below w.heap.size w w') : Is w' k kids A n c :=
  ⟨h.lies.below hb, h.n_eq, h.n_le, h.c_le, h.lo, h.hi⟩
theorem Is.alloc {w : World} {k : Int} {kids : Fo} {A : Option Addr} {n c : Nat} (h : Is w k kids A n c) (o : Obj) : Is (w.alloc o) k kids A n c :=
  h.below ((Below.refl _ _).alloc (Nat.le_refl _) _)
theorem Lies.alloc {w : World} {f : Fo} {A : Option Addr} {i : Nat} (h : Lies w f A i) (o : Obj) : Lies (w.alloc o) f A i :=
  h.below ((Below.refl _ _).alloc (Nat.le_refl _) _)
theorem Lies.grown {w w' : World} {f : Fo} {A : Option Addr} {i g : Nat} (h : Lies w f A i) (hg : w.grownBy w' (some g)) (hno : ∀ o v, w.cell? ⟨g, o, none⟩ = some v -> (∃ k : Int, v = .int .i8 k) \/ (∃ B n c, v = .slice B n c) -> False) : Lies w' f A i :=
  Lies.keep (fun b o v h1 h2 => by
    by_cases hb : b = g
    · subst hb; exact (hno o v h1 h2).elim
    · rw [World.cell?_of_block (hg.block b (zN h1) (fun e => hb (by injection e)))]; exact h1) f A i h
theorem Is.grown {w w' : World} {k : Int} {kids : Fo} {A : Option Addr} {n c g : Nat} (h : Is w k kids A n c) (hg : w.grownBy w' (some g)) (hno : ∀ o v, w.cell? ⟨g, o, none⟩ = some v -> (∃ k : Int, v = .int .i8 k) \/ (∃ B n c, v = .slice B n c) -> False) : Is w' k kids A n c :=
  ⟨h.lies.grown hg hno, h.n_eq, h.n_le, h.c_le, h.lo, h.hi⟩
end Ty
theorem zH0 : Tryz.prog.cellsOf 27 = 1 := by kernel_rfl
namespace Ty
end Ty
end Go.Proofs.YtepmjknljbafgaaGreatDoor
namespace Go.Proofs.YtepmjknljbafgaaGreatDoor
open Go.RowKit
def ErrT (w : World) : Prop := w.cell? ⟨0, 0, none⟩ = some (.iface 113 (.agg #[.pointer (some ⟨9, 32, none⟩)]))
theorem ErrT.below {w w' : World} (h : ErrT w) (hb : Below w.heap.size w w') : ErrT w' := by
  unfold ErrT at h ⊢;rw [hb.cell (p := ⟨0, 0, none⟩) (Ty.zN h)];exact h
theorem zI3 {P : Prop} (h : P := by
  injection e with e; injection e with e1 e2; subst e1; subst e2
  exact ⟨_, _, B1, c1, B2, c2, rfl, by simpa using h3, by simpa using h4, by simpa using g3, by simpa using g4, ⟨h7, rfl, h5, h6, h1, h2⟩, ⟨g7, rfl, g5, g6, g1, g2⟩⟩) : P := h
theorem zHe {P : Prop} (h : P := by
  split at h
  · exact zQ ‹_›
  · split at h
    · exact zQ ‹_›
    · split at h
      · exact zQ ‹_›
      · cases h) : P := h
end Go.Proofs.YtepmjknljbafgaaGreatDoor
namespace Go.Proofs.YtepmjknljbafgaaGreatDoor
namespace Rd
structure W4 where
  kind : Int
  text : ByteArray
  num : Int
  pos : Int
def sees (l : List W4) (i : Nat) (k : Int) (t : List UInt8) : Bool := match l[i]? with
  | some x => x.kind == k && x.text.toList == t
  | none => false
def sArrow : List UInt8 := [45, 62]
def sInt : List UInt8 := [105, 110, 116]
def sBool : List UInt8 := [98, 111, 111, 108]
def opK (l : List W4) (i : Nat) : Int := if sees l i 4 sArrow then 3 else if sees l i 4 [42] then 4 else if sees l i 4 [43] then 5 else 0
def atK (l : List W4) (i : Nat) : Option Int := if sees l i 4 [63] then some 0 else if sees l i 3 sInt then some 1 else if sees l i 3 sBool then some 2 else none
def binds (k : Int) : Nat := if k = 3 then 1 else if k = 4 then 3 else if k = 5 then 2 else 0
def rgt (k : Int) : Nat := if k = 3 then 1 else if k = 4 then 4 else 3
def two (a : Int) (aa : Fo) (b : Int) (bb : Fo) : Fo := .node 0 0 a aa (.node 0 0 b bb .nil)
inductive Tg where
  | one (i : Nat)
  | wh (least : Nat) (i : Nat)
  | lp (least : Nat) (k : Int) (kids : Fo) (j : Nat)
inductive Rs where
  | ok (k : Int) (kids : Fo) (j : Nat)
  | bad (i : Nat)
inductive R (l : List W4) : Tg -> Rs -> Prop where
  | word {i : Nat} {k : Int} (h : atK l i = some k) (hb : sees l i 4 [40] = false) : R l (.one i) (.ok k .nil (i + 1))
  | no {i : Nat} (h : atK l i = none) (hb : sees l i 4 [40] = false) : R l (.one i) (.bad i)
  | brBad {i m : Nat} (hb : sees l i 4 [40] = true) (h : R l (.wh 1 (i + 1)) (.bad m)) : R l (.one i) (.bad m)
  | brNo {i j : Nat} {k : Int} {kids : Fo} (hb : sees l i 4 [40] = true) (h : R l (.wh 1 (i + 1)) (.ok k kids j)) (hc : sees l j 4 [41] = false) : R l (.one i) (.bad j)
  | br {i j : Nat} {k : Int} {kids : Fo} (hb : sees l i 4 [40] = true) (h : R l (.wh 1 (i + 1)) (.ok k kids j)) (hc : sees l j 4 [41] = true) : R l (.one i) (.ok k kids (j + 1))
  | whBad {least i m : Nat} (h : R l (.one i) (.bad m)) : R l (.wh least i) (.bad m)
  | whGo {least i j : Nat} {k : Int} {kids : Fo} {r : Rs} (h : R l (.one i) (.ok k kids j)) (g : R l (.lp least k kids j) r) : R l (.wh least i) r
  | stop {least j : Nat} {k : Int} {kids : Fo} (h : opK l j = 0 \/ binds (opK l j) < least) : R l (.lp least k kids j) (.ok k kids j)
  | opBad {least j m : Nat} {k : Int} {kids : Fo} (h : opK l j ≠ 0) (hb : least <= binds (opK l j)) (g : R l (.wh (rgt (opK l j)) (j + 1)) (.bad m)) : R l (.lp least k kids j) (.bad m)
  | op {least j j2 : Nat} {k k2 : Int} {kids zO : Fo} {r : Rs} (h : opK l j ≠ 0) (hb : least <= binds (opK l j)) (g : R l (.wh (rgt (opK l j)) (j + 1)) (.ok k2 zO j2)) (f : R l (.lp least (opK l j) (two k kids k2 zO) j2) r) : R l (.lp least k kids j) r
theorem R.det {l : List W4} {t : Tg} {r r' : Rs} (h : R l t r) (h' : R l t r') : r = r' := by
  induction h generalizing r' with
  | word h hb =>
    cases h' with
    | word h2 _ => rw [h] at h2; injection h2 with e; rw [e]
    | no h2 _ => rw [h] at h2; cases h2
    | brBad hb2 _ => rw [hb] at hb2; cases hb2
    | brNo hb2 _ _ => rw [hb] at hb2; cases hb2
    | br hb2 _ _ => rw [hb] at hb2; cases hb2
  | no h hb =>
    cases h' with
    | word h2 _ => rw [h] at h2; cases h2
    | no h2 _ => rfl
    | brBad hb2 _ => rw [hb] at hb2; cases hb2
    | brNo hb2 _ _ => rw [hb] at hb2; cases hb2
    | br hb2 _ _ => rw [hb] at hb2; cases hb2
  | brBad hb h ih =>
    cases h' with
    | word _ hb2 => rw [hb] at hb2; cases hb2
    | no _ hb2 => rw [hb] at hb2; cases hb2
    | brBad _ h2 => exact ih h2
    | brNo _ h2 _ => cases ih h2
    | br _ h2 _ => cases ih h2
  | brNo hb h hc ih =>
    cases h' with
    | word _ hb2 => rw [hb] at hb2; cases hb2
    | no _ hb2 => rw [hb] at hb2; cases hb2
    | brBad _ h2 => cases ih h2
    | brNo _ h2 _ => injection ih h2 with _ _ e; rw [e]
    | br _ h2 hc2 => injection ih h2 with _ _ e; subst e; rw [hc] at hc2; cases hc2
  | br hb h hc ih =>
    cases h' with
    | word _ hb2 => rw [hb] at hb2; cases hb2
    | no _ hb2 => rw [hb] at hb2; cases hb2
    | brBad _ h2 => cases ih h2
    | brNo _ h2 hc2 => injection ih h2 with _ _ e; subst e; rw [hc] at hc2; cases hc2
    | br _ h2 _ => injection ih h2 with e1 e2 e3; rw [e1, e2, e3]
  | whBad h ih =>
    cases h' with
    | whBad h2 => exact ih h2
    | whGo h2 _ => cases ih h2
  | whGo h g ih ihg =>
    cases h' with
    | whBad h2 => cases ih h2
    | whGo h2 g2 => injection ih h2 with e1 e2 e3; subst e1; subst e2; subst e3; exact ihg g2
  | stop h =>
    cases h' with
    | stop _ => rfl
    | opBad h2 hb2 _ => rcases h with h | h
                        · exact absurd h h2
                        · omega
    | op h2 hb2 _ _ => rcases h with h | h
                       · exact absurd h h2
                       · omega
  | opBad h hb g ih =>
    cases h' with
    | stop h2 => rcases h2 with h2 | h2
                 · exact absurd h2 h
                 · omega
    | opBad _ _ g2 => exact ih g2
    | op _ _ g2 _ => cases ih g2
  | op h hb g f ihg ihf =>
    cases h' with
    | stop h2 => rcases h2 with h2 | h2
                 · exact absurd h2 h
                 · omega
    | opBad _ _ g2 => cases ihg g2
    | op _ _ g2 f2 => injection ihg g2 with e1 e2 e3; subst e1; subst e2; subst e3; exact ihf f2
theorem zQ {l : List W4} {i : Nat} {k : Int} {t : List UInt8} (h : sees l i k t = true) : i < l.length := by
  unfold sees at h
  split at h
  · rename_i x hx; exact (List.getElem?_eq_some_iff.1 hx).1
  · cases h
theorem zC9 {l : List W4} {i : Nat} {k : Int} (h : atK l i = some k) : i < l.length := by
  unfold atK at h;exact zHe
theorem xE {l : List W4} {i : Nat} (h : opK l i ≠ 0) : i < l.length := by
  unfold opK at h
  split at h
  · exact zQ ‹_›
  · split at h
    · exact zQ ‹_›
    · split at h
      · exact zQ ‹_›
      · exact absurd rfl h
theorem wN (l : List W4) (i : Nat) : opK l i = 0 \/ opK l i = 3 \/ opK l i = 4 \/ opK l i = 5 := by
  unfold opK; split
  · simp
  · split
    · simp
    · split <;> simp
def Tg.start : Tg -> Nat
  | .one i => i
  | .wh _ i => i
  | .lp _ _ _ j => j
theorem R.goes {l : List W4} {t : Tg} {r : Rs} (h : R l t r) : t.start <= l.length -> match r with
    | .ok _ _ j => (t.start + (match t with | .lp .. => 0 | _ => 1) <= j) /\ j <= l.length
    | .bad m => t.start <= m /\ m <= l.length := by
  induction h with
  | word h _ => intro _; have := zC9 h; simp only [Tg.start]; omega
  | no h _ => intro hl; simp only [Tg.start] at *; omega
  | brBad hb _ ih => intro _; have := zQ hb; simp only [Tg.start] at *; have := ih (by omega); omega
  | brNo hb _ _ ih => intro _; have := zQ hb; simp only [Tg.start] at *; have := ih (by omega); omega
  | br hb _ hc ih => intro _; have := zQ hb; have := zQ hc; simp only [Tg.start] at *; have := ih (by omega); omega
  | whBad _ ih => intro hl; simp only [Tg.start] at *; exact ih hl
  | @whGo least i j k kids r h g ih ihg =>
    intro hl;have h1 := ih hl;simp only [Tg.start] at *;have h2 := ihg (by omega)
    cases r with
    | ok a b c => simp only at h2 ⊢; omega
    | bad m => simp only at h2 ⊢; omega
  | stop _ => intro hl; simp only [Tg.start] at *; omega
  | opBad h _ _ ih => intro _; have := xE h; simp only [Tg.start] at *; have := ih (by omega); omega
  | @op least j j2 k k2 kids zO r h _ _ _ ih ihf =>
    intro _;have := xE h;simp only [Tg.start] at *;have h1 := ih (by omega);have h2 := ihf (by omega)
    cases r with
    | ok a b c => simp only at h2 ⊢; omega
    | bad m => simp only at h2 ⊢; omega
theorem R.jm (l : List W4) : ∀ n, (∀ i, l.length - i < n -> ∃ r, R l (.one i) r) /\ (∀ least i, l.length - i < n -> ∃ r, R l (.wh least i) r) /\ (∀ least k kids j, l.length - j < n -> ∃ r, R l (.lp least k kids j) r)
  | 0 => ⟨fun _ h => absurd h (by omega), fun _ _ h => absurd h (by omega), fun _ _ _ _ h => absurd h (by omega)⟩
  | n + 1 => by
    obtain ⟨_, hw, hp⟩ := R.jm l n
    have one : ∀ i, l.length - i < n + 1 -> ∃ r, R l (.one i) r := by
      intro i hi
      cases hb : sees l i 4 [40] with
      | false =>
        cases ha : atK l i with
        | none => exact ⟨_, .no ha hb⟩
        | some k => exact ⟨_, .word ha hb⟩
      | true =>
        have hlt := zQ hb;obtain ⟨r, hr⟩ := hw 1 (i + 1) (by omega)
        cases r with
        | bad m => exact ⟨_, .brBad hb hr⟩
        | ok k kids j =>
          cases hc : sees l j 4 [41] with
          | false => exact ⟨_, .brNo hb hr hc⟩
          | true => exact ⟨_, .br hb hr hc⟩
    refine ⟨one, ?_, ?_⟩
    · intro least i hi
      obtain ⟨r, hr⟩ := one i hi
      cases r with
      | bad m => exact ⟨_, .whBad hr⟩
      | ok k kids j =>
        have hlt : i < l.length := by
          cases hr with
          | word h _ => exact zC9 h
          | br hb _ _ => exact zQ hb
        have hg := hr.goes (by simp only [Tg.start]; omega);simp only [Tg.start] at hg;obtain ⟨r, hq⟩ := hp least k kids j (by omega);exact ⟨r, .whGo hr hq⟩
    · intro least k kids j hj
      by_cases h0 : opK l j = 0
      · exact ⟨_, .stop (.inl h0)⟩
      · by_cases hb : binds (opK l j) < least
        · exact ⟨_, .stop (.inr hb)⟩
        · have hlt := xE h0
          obtain ⟨r, hr⟩ := hw (rgt (opK l j)) (j + 1) (by omega)
          cases r with
          | bad m => exact ⟨_, .opBad h0 (by omega) hr⟩
          | ok k2 zO j2 =>
            have hg := hr.goes (by simp only [Tg.start]; omega);simp only [Tg.start] at hg;obtain ⟨r, hq⟩ := hp least (opK l j) (two k kids k2 zO) j2 (by omega);exact ⟨r, .op h0 (by omega) hr hq⟩
theorem R.zA7 (l : List W4) (least i : Nat) : ∃ r, R l (.wh least i) r := (R.jm l _).2.1 least i (Nat.lt_succ_self _)
end Rd
end Go.Proofs.YtepmjknljbafgaaGreatDoor
namespace Go.Proofs.YtepmjknljbafgaaGreatDoor
open Go.RowKit
namespace Ty
def LiesP (P : Nat -> Prop) (w : World) : Fo -> Option Addr -> Nat -> Prop
  | .nil, _, _ => True
  | .node _ _ k kids r, A, i => ∃ b o B c, A = some ⟨b, o, none⟩ /\ P b /\ (-128 <= k /\ k <= 127) /\ w.cell? ⟨b, o + i * 2, none⟩ = some (.int .i8 k) /\ w.cell? ⟨b, o + i * 2 + 1, none⟩ = some (.slice B (len kids) c) /\
      len kids <= c /\ c <= maxLen /\ LiesP P w kids B 0 /\ LiesP P w r A (i + 1)
theorem LiesP.to {P P' : Nat -> Prop} {w w' : World} (hk : ∀ b o v, P b -> w.cell? ⟨b, o, none⟩ = some v -> P' b /\ w'.cell? ⟨b, o, none⟩ = some v) : ∀ (f : Fo) (A : Option Addr) (i : Nat), LiesP P w f A i -> LiesP P' w' f A i
  | .nil, _, _, _ => trivial
  | .node _ _ _ kids r, A, i, h => by
    obtain ⟨b, o, B, c, hA, hP, hkk, h1, h2, h3, h4, h5, h6⟩ := h;exact ⟨b, o, B, c, hA, (hk b _ _ hP h1).1, hkk, (hk b _ _ hP h1).2, (hk b _ _ hP h2).2, h3, h4, LiesP.to hk kids B 0 h5, LiesP.to hk r A (i + 1) h6⟩
theorem LiesP.lies {P : Nat -> Prop} {w : World} : ∀ (f : Fo) (A : Option Addr) (i : Nat), LiesP P w f A i -> Lies w f A i
  | .nil, _, _, _ => trivial
  | .node _ _ _ kids r, A, i, h => by
    obtain ⟨b, o, B, c, hA, hP, hkk, h1, h2, h3, h4, h5, h6⟩ := h;exact ⟨b, o, B, c, hA, hkk, h1, h2, h3, h4, LiesP.lies kids B 0 h5, LiesP.lies r A (i + 1) h6⟩
theorem Lies.inP {w : World} : ∀ (f : Fo) (A : Option Addr) (i : Nat), Lies w f A i -> LiesP (fun b => b < w.heap.size) w f A i
  | .nil, _, _, _ => trivial
  | .node _ _ _ kids r, A, i, h => by
    obtain ⟨b, o, B, c, hA, hkk, h1, h2, h3, h4, h5, h6⟩ := h;exact ⟨b, o, B, c, hA, zN h1, hkk, h1, h2, h3, h4, Lies.inP kids B 0 h5, Lies.inP r A (i + 1) h6⟩
structure IsP (P : Nat -> Prop) (w : World) (k : Int) (kids : Fo) (A : Option Addr) (n c : Nat) : Prop where
  lies : LiesP P w kids A 0
  n_eq : n = len kids
  n_le : n <= c
  c_le : c <= maxLen
  lo : -128 <= k
  hi : k <= 127
theorem IsP.is {P : Nat -> Prop} {w : World} {k : Int} {kids : Fo} {A : Option Addr} {n c : Nat} (h : IsP P w k kids A n c) : Is w k kids A n c := ⟨h.lies.lies, h.n_eq, h.n_le, h.c_le, h.lo, h.hi⟩
theorem Is.inP {w : World} {k : Int} {kids : Fo} {A : Option Addr} {n c : Nat} (h : Is w k kids A n c) : IsP (fun b => b < w.heap.size) w k kids A n c := ⟨h.lies.inP, h.n_eq, h.n_le, h.c_le, h.lo, h.hi⟩
theorem IsP.to {P P' : Nat -> Prop} {w w' : World} {k : Int} {kids : Fo} {A : Option Addr} {n c : Nat} (h : IsP P w k kids A n c) (hk : ∀ b o v, P b -> w.cell? ⟨b, o, none⟩ = some v -> P' b /\ w'.cell? ⟨b, o, none⟩ = some v) : IsP P' w' k kids A n c :=
  ⟨LiesP.to hk _ _ _ h.lies, h.n_eq, h.n_le, h.c_le, h.lo, h.hi⟩
theorem LiesP.two {P : Nat -> Prop} {w : World} {a b c d : Nat} {k1 k2 : Int} {f1 f2 : Fo} {A : Option Addr} (h : LiesP P w (.node a b k1 f1 (.node c d k2 f2 .nil)) A 0) :
    ∃ bb oo B1 c1 B2 c2, A = some ⟨bb, oo, none⟩ /\ w.cell? ⟨bb, oo, none⟩ = some (.int .i8 k1) /\ w.cell? ⟨bb, oo + 1, none⟩ = some (.slice B1 (len f1) c1) /\ w.cell? ⟨bb, oo + 2, none⟩ = some (.int .i8 k2) /\ w.cell? ⟨bb, oo + 3, none⟩ = some (.slice B2 (len f2) c2) /\ IsP P w k1 f1 B1 (len f1) c1 /\ IsP P w k2 f2 B2 (len f2) c2 := by
  obtain ⟨bb, oo, B1, c1, rfl, -, ⟨h1, h2⟩, h3, h4, h5, h6, h7, ⟨bb', oo', B2, c2, e, -, ⟨g1, g2⟩, g3, g4, g5, g6, g7, -⟩⟩ := h;exact zI3
end Ty
end Go.Proofs.YtepmjknljbafgaaGreatDoor
namespace Go.Proofs.YtepmjknljbafgaaGreatDoor
namespace Ty
def word (k : Int) : List UInt8 := if k = 0 then [63] else if k = 1 then [105, 110, 116] else if k = 2 then [98, 111, 111, 108] else if k = 3 then [45, 62] else if k = 4 then [42] else [43]
def binds (k : Int) : Int := if k = 3 then 1 else if k = 5 then 2 else if k = 4 then 3 else 4
def need (p : Int) (first : Bool) : Int := if p = 3 then (if first then 2 else 1) else (if first then binds p else binds p + 1)
def txtOne (k : Int) (inner : List UInt8) (least : Int) : List UInt8 := if k <= 2 then word k else if binds k < least then 40 :: (inner ++ [41]) else inner
def txtIn : Fo -> Int -> Bool -> List UInt8
  | .nil, _, _ => []
  | .node _ _ k kids r, p, first => txtOne k (txtIn kids k true) (need p first) ++ (if first then 32 :: (word p ++ (32 :: txtIn r p false)) else [])
def txt (k : Int) (kids : Fo) (least : Int) : List UInt8 := txtOne k (txtIn kids k true) least
theorem zA5 (k : Int) : (word k).length <= 4 := by
  unfold word; repeat' split
  all_goals simp
theorem yT (k : Int) (inner : List UInt8) (least : Int) : (txtOne k inner least).length <= inner.length + 4 := by
  unfold txtOne;have := zA5 k
  split
  · omega
  · split
    · simp
    · omega
theorem kQ : ∀ (f : Fo) (p : Int) (first : Bool), (txtIn f p first).length <= 10 * nodes f
  | .nil, _, _ => by simp [txtIn]
  | .node _ _ k kids r, p, first => by
    have h1 := yT k (txtIn kids k true) (need p first);have h2 := kQ kids k true;have h3 := kQ r p false;have h4 := zA5 p;simp only [txtIn, nodes, List.length_append]
    split
    · simp only [List.length_cons, List.length_append]; omega
    · simp only [List.length_nil]; omega
theorem zFH (k : Int) (kids : Fo) (least : Int) : (txt k kids least).length <= 10 * (nodes kids + 1) := by
  have h1 := yT k (txtIn kids k true) least;have h2 := kQ kids k true;unfold txt; omega
theorem zCH (k : Int) (a b a' b' : Nat) (k1 : Int) (zT : Fo) (k2 : Int) (zO : Fo) : txtIn (.node a b k1 zT (.node a' b' k2 zO .nil)) k true = txt k1 zT (need k true) ++ (32 :: (word k ++ (32 :: txt k2 zO (need k false)))) := by
  simp [txtIn, txt]
end Ty
end Go.Proofs.YtepmjknljbafgaaGreatDoor
