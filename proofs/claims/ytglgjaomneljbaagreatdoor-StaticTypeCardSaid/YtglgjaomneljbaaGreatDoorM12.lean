import Derived.Maps.AppendAt
import Derived.Deep.RegionLaw
import Derived.Deep.RegionHeld3
import Derived.Deep.DrawnRows
import Derived.Test.YtglgjaomneljbaaGreatDoorM7
namespace Go.Proofs.YtglgjaomneljbaaGreatDoor
open Go.RowKit
theorem zFw {P : Prop} (h : P := by
 refine hown.kept (row := some O) ⟨rfl, rfl, rfl, by simp [World.setCell], fun q hq hne => Below.heap_setCell _ _ _ q (fun e => hne (by rw [e]))⟩ ?_
 cases hv : v'.ownBlock with
 | none => exact .inl rfl
 | some g => exact .inr (fun e => by injection e with e; have := (hown.lt g hv).1; omega)) : P := h
theorem zEm {P : Prop} (h : P := by
 rw [World.cell?_of_block (hg.block b' (by omega) hne), ((Below.refl u.heap.size u).alloc (Nat.le_refl _) o2).cell (p := ⟨b', o', none⟩) hbl]; exact hx) : P := h
def Lone (P : Nat -> Prop) (w : World) (k : Int) (kids : Fo) (G : Option Addr) (m c : Nat) : Prop := ∀ u : World, (∀ b o v, P b -> w.cell? ⟨b, o, none⟩ = some v -> u.cell? ⟨b, o, none⟩ = some v) -> Ty.Is u k kids G m c
theorem Lone.is {P : Nat -> Prop} {w : World} {k : Int} {kids : Fo} {G : Option Addr} {m c : Nat} (h : Lone P w k kids G m c) : Ty.Is w k kids G m c := h w fun _ _ _ _ h => h
theorem Lone.to {P P' : Nat -> Prop} {w w' : World} {k : Int} {kids : Fo} {G : Option Addr} {m c : Nat} (h : Lone P w k kids G m c) (hk : ∀ b o v, P b -> w.cell? ⟨b, o, none⟩ = some v -> P' b /\ w'.cell? ⟨b, o, none⟩ = some v) : Lone P' w' k kids G m c :=
 fun u hu => h u fun b o v hb hc => hu b o v (hk b o v hb hc).1 (hk b o v hb hc).2
namespace Ty
def cat : Fo -> Fo -> Fo
 | .nil, g => g
 | .node a b k kids r, g => .node a b k kids (cat r g)
theorem wU : ∀ f : Fo, cat f .nil = f
 | .nil => rfl
 | .node a b k kids r => by simp only [cat]; rw [wU r]
theorem yY : ∀ (f : Fo) (a b : Nat) (k : Int) (kids r : Fo), cat (cat f (.node a b k kids .nil)) r = cat f (.node a b k kids r)
 | .nil, _, _, _, _, _ => rfl
 | .node _ _ _ _ q, a, b, k, kids, r => by simp only [cat]; rw [yY q]
theorem wH : ∀ (f : Fo) (a b : Nat) (k : Int) (kids : Fo), len (cat f (.node a b k kids .nil)) = len f + 1
 | .nil, _, _, _, _ => rfl
 | .node _ _ _ _ q, a, b, k, kids => by simp only [cat, len]; rw [wH q]
def FlatL (P : Nat -> Prop) (w : World) : Fo -> List Value -> Prop
 | .nil, xs => xs = []
 | .node _ _ k kids r, xs => ∃ A m c ys, xs = .int .i8 k :: .slice A m c :: ys /\ Lone P w k kids A m c /\ FlatL P w r ys
theorem FlatL.snoc {P : Nat -> Prop} {w : World} {a b : Nat} {k : Int} {kids : Fo} {A : Option Addr} {m c : Nat} (hI : Lone P w k kids A m c) : ∀ (f : Fo) (xs : List Value), FlatL P w f xs -> FlatL P w (cat f (.node a b k kids .nil)) (xs ++ [.int .i8 k, .slice A m c])
 | .nil, xs, h => by cases h; exact ⟨A, m, c, [], rfl, hI, rfl⟩
 | .node _ _ _ _ q, xs, h => by
  obtain ⟨A', m', c', ys, rfl, h1, h2⟩ := h;exact ⟨A', m', c', _, rfl, h1, FlatL.snoc hI q ys h2⟩
theorem FlatL.to {P P' : Nat -> Prop} {w w' : World} (hk : ∀ b o v, P b -> w.cell? ⟨b, o, none⟩ = some v -> P' b /\ w'.cell? ⟨b, o, none⟩ = some v) : ∀ (f : Fo) (xs : List Value), FlatL P w f xs -> FlatL P' w' f xs
 | .nil, _, h => h
 | .node _ _ _ _ q, _, h => by
  obtain ⟨A', m', c', ys, rfl, h1, h2⟩ := h;exact ⟨A', m', c', ys, rfl, h1.to hk, FlatL.to hk q ys h2⟩
theorem FlatL.lies {P : Nat -> Prop} {w u : World} {g : Nat} (hu : ∀ b o v, P b -> w.cell? ⟨b, o, none⟩ = some v -> u.cell? ⟨b, o, none⟩ = some v) : ∀ (f : Fo) (xs : List Value) (i : Nat), FlatL P w f xs -> (∀ j x, xs[j]? = some x -> u.cell? ⟨g, i * 2 + j, none⟩ = some x) -> Lies u f (some ⟨g, 0, none⟩) i
 | .nil, _, _, _, _ => trivial
 | .node _ _ k kids r, _, i, h, hc => by
  obtain ⟨A', m', c', ys, rfl, h1, h2⟩ := h;have h1 := h1 u hu;refine ⟨g, 0, A', c', rfl, ⟨h1.lo, h1.hi⟩, by rw [Nat.zero_add]; exact hc 0 _ rfl, by rw [Nat.zero_add, ← h1.n_eq]; exact hc 1 _ rfl, by rw [← h1.n_eq]; exact h1.n_le, h1.c_le, h1.lies, ?_⟩
  exact FlatL.lies hu r ys (i + 1) h2 fun j u hu => by
   have := hc (j + 2) u (by simpa using hu)
   rwa [show i * 2 + (j + 2) = (i + 1) * 2 + j by omega] at this
end Ty
def CopyL (w : World) (k : Int) (kids : Fo) (e : Ending) (w' : World) : Prop :=
 ∃ G m c, e = .returned (.agg #[.int .i8 k, .slice G m c]) /\ Lone (fun b => w.heap.size <= b) w' k kids G m c /\ Below w.heap.size w w'
structure CRel (w wr : World) (n0 O : Nat) (A : Option Addr) (k : Int) (kids : Fo) (v : Value) (n i : Nat) (done rest : Fo) (xs : List Value) : Prop where
 eq : Ty.cat done rest = kids
 len : Ty.len done = i
 i_eq : i + Ty.len rest = n
 lies : Ty.Lies w rest A i
 below : Below w.heap.size w wr
 size : n0 <= wr.heap.size
 own : wr.ownsRow n0 25 2 v i xs
 flat : Ty.FlatL (fun b => n0 <= b /\ v.ownBlock ≠ some b) wr done xs
 box : wr.heap[O]? = some (.cells #[.int .i8 k, v] 25 (0, 0))
 olt : O < n0
 ole : w.heap.size <= O
 sub : Ty.nodes rest <= Ty.nodes kids
theorem CRel.step {w wr W u w3 : World} {n0 O : Nat} {A : Option Addr} {k : Int} {kids : Fo} {v v' : Value} {n i a b : Nat} {done r kd : Fo} {kk : Int} {xs : List Value} {G : Option Addr} {m c : Nat} {o2 : Obj}
  (h : CRel w wr n0 O A k kids v n i done (.node a b kk kd r) xs) (hW : Below wr.heap.size wr W) (hb : Below W.heap.size W u) (hI : Lone (fun b => W.heap.size <= b) u kk kd G m c)
  (hown : w3.ownsRow n0 25 2 v' (i + 1) (xs ++ [.int .i8 kk, .slice G m c])) (hg : (u.alloc o2).grownBy w3 v.ownBlock) (hat : v'.ownBlock = v.ownBlock \/ v'.ownBlock = some (u.alloc o2).heap.size) (hl : Ty.Lies w r A (i + 1)) :
  CRel w (w3.setCell ⟨O, 1, none⟩ v') n0 O A k kids v' n (i + 1) (Ty.cat done (.node a b kk kd .nil)) r (xs ++ [.int .i8 kk, .slice G m c]) := by
 obtain ⟨h1, h2, h3, h4, h5, hsz, h6, h7, hbox, h9, h10, h8⟩ := h;simp only [Ty.len, Ty.nodes] at h3 h8;have hlt := h6.lt;have hs2 := hb.size;have hs3 : u.heap.size < (u.alloc o2).heap.size := by simp
 have hwW := hW.size;have hwu : Below wr.heap.size wr (u.alloc o2) := (hW.trans (hb.mono hwW)).alloc (by omega) o2;have hg2 := hg.size;have hO : O ≠ v'.ownBlock.getD O + 0 \/ True := .inr trivial;have hvO : some O ≠ v.ownBlock := fun e => by have := (hlt O e.symm).1; omega
 have hb3 : w3.heap[O]? = some (.cells #[.int .i8 k, v] 25 (0, 0)) := by
  rw [hg.block O (by omega) hvO, hwu.block O (zC hbox)]; exact hbox
 have hcell : ∀ b' o' x, b' ≠ O -> w3.cell? ⟨b', o', none⟩ = some x -> (w3.setCell ⟨O, 1, none⟩ v').cell? ⟨b', o', none⟩ = some x := fun b' o' x hne hx => by
  rw [World.cell?_setCell_other _ _ _ _ (fun e => hne (by injection e with e; exact e.symm))]; exact hx
 have hown2 : (w3.setCell ⟨O, 1, none⟩ v').ownsRow n0 25 2 v' (i + 1) (xs ++ [.int .i8 kk, .slice G m c]) := by
  exact zFw
 refine ⟨by rw [Ty.yY]; exact h1, by rw [Ty.wH]; omega, by omega, hl, ?_, by simp [World.setCell]; omega, hown2, ?_, ?_, h9, h10, by omega⟩
 ·exact ((h5.trans (hwu.mono h5.size)).grown hg (Nat.le_trans h5.size hwu.size) fun q hq => by have := (hlt q hq).1; omega).setCell h10 _
 ·refine Ty.FlatL.snoc (hI.to fun b' o' x hP hx => ?_) done xs (Ty.FlatL.to (fun b' o' x hP hx => ?_) done xs h7)
  ·have hP' : W.heap.size <= b' := hP
   have hbl := Ty.zZ hx;have hne : some b' ≠ v.ownBlock := fun e => by have := (hlt b' e.symm).2; omega
   refine ⟨⟨by omega, fun e => ?_⟩, hcell _ _ _ (by omega) ?_⟩
   ·rcases hat with q | q
    ·exact hne (by rw [← q, e])
    ·rw [q] at e; injection e with e; omega
   ·exact zEm
  ·have hbl := Ty.zZ hx
   have hne : some b' ≠ v.ownBlock := fun e => hP.2 e.symm
   have hP1 := hP.1;refine ⟨⟨hP1, fun e => ?_⟩, hcell _ _ _ (by omega) ?_⟩
   ·rcases hat with q | q
    ·exact hP.2 (by rw [← q, e])
    ·rw [q] at e; injection e with e; have := hwu.size; omega
   ·rw [World.cell?_of_block (hg.block b' (Nat.lt_of_lt_of_le hbl hwu.size) hne), hwu.cell (p := ⟨b', o', none⟩) hbl]; exact hx
 ·simp [World.setCell, Array.getElem?_modify, hb3]
theorem CRel.done {w wr : World} {n0 O : Nat} {A : Option Addr} {k : Int} {kids done : Fo} {v : Value} {n : Nat} {xs : List Value} (hk1 : -128 <= k) (hk2 : k <= 127) (h : CRel w wr n0 O A k kids v n n done .nil xs) (hn : n = Ty.len kids) :
  ∃ G c, v = .slice G n c /\ Lone (fun b => n0 <= b) wr k kids G n c := by
 obtain ⟨h1, h2, h3, h4, h5, hsz, h6, h7, hbox, h9, h10, h8⟩ := h;rw [Ty.wU] at h1;subst h1;have hc := fun g hg => h6.cells (g := g) hg
 have hlt := h6.lt;rcases h6.2 with ⟨hv, h0⟩ | ⟨g, cap, cur, rfl, hb, hg, h1, h2', _⟩
 ·have hd : done = .nil := by
   cases done with
   | nil => rfl
   | node _ _ _ _ _ => simp only [Ty.len] at h2; omega
  subst hd;obtain rfl : n = 0 := by omega
  exact ⟨none, 0, hv, fun u _ => ⟨trivial, rfl, Nat.le_refl _, Nat.zero_le _, hk1, hk2⟩⟩
 ·refine ⟨_, cap, rfl, fun u hu => ⟨?_, hn, h1, h2', hk1, hk2⟩⟩
  refine Ty.FlatL.lies (P := fun b => n0 <= b /\ Value.ownBlock (.slice (some ⟨g, 0, none⟩) n cap) ≠ some b) (w := wr) (fun b o x hP hx => hu b o x hP.1 hx) done xs 0 h7 fun j x hx => ?_
  have := hc g rfl j x hx;rw [show (⟨g, 0, none⟩ : Addr).add j = ⟨g, j, none⟩ by unfold Addr.add; by_cases h : j = 0 <;> simp [h]] at this;rw [Nat.zero_mul, Nat.zero_add];exact hu g j x hb this
namespace Ty
def asOk (kd k : Int) (kids : Fo) : Bool := (chk k kids == 0) && decide (3 <= kd /\ kd <= 5) && ((k == kd) || (k == 0))
def kid1 : Fo -> Int × Fo
 | .node _ _ k f _ => (k, f)
 | .nil => (0, .nil)
def kid2 : Fo -> Int × Fo
 | .node _ _ _ _ (.node _ _ k f _) => (k, f)
 | _ => (0, .nil)
def asL (kd k : Int) (kids : Fo) : Int × Fo := if asOk kd k kids then kid1 kids else (0, .nil)
def asR (kd k : Int) (kids : Fo) : Int × Fo := if asOk kd k kids then kid2 kids else (0, .nil)
theorem zDw (w : World) : Is w 0 .nil none 0 0 := ⟨trivial, rfl, Nat.le_refl _, Nat.zero_le _, by omega, by omega⟩
end Ty
def AsPost (w : World) (ok : Bool) (l r : Int × Fo) (e : Ending) (w' : World) : Prop :=
 ∃ G1 m1 c1 G2 m2 c2, e = .returned (.tuple #[.agg #[.int .i8 l.1, .slice G1 m1 c1], .agg #[.int .i8 r.1, .slice G2 m2 c2], .bool ok]) /\ Ty.Is w' l.1 l.2 G1 m1 c1 /\ Ty.Is w' r.1 r.2 G2 m2 c2 /\ Below w.heap.size w w'
end Go.Proofs.YtglgjaomneljbaaGreatDoor
