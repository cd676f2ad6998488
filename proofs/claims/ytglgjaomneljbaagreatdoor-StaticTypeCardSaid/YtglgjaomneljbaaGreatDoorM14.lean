import Derived.Test.YtglgjaomneljbaaGreatDoorM12
import Derived.Test.YtglgjaomneljbaaGreatDoorM13
import Derived.Test.YtglgjaomneljbaaGreatDoorKc
namespace Go.Proofs.YtglgjaomneljbaaGreatDoor
open Go.RowKit
namespace Ty
def SepF (w : World) (g : Nat) : Fo -> Nat -> Nat -> Nat -> Prop
 | .nil, _, lo, hi => lo <= hi
 | .node _ _ k kids r, i, lo, hi => ∃ A c lo' hi', lo <= lo' /\ lo' <= hi' /\ (g < lo' \/ hi' <= g) /\ (-128 <= k /\ k <= 127) /\ len kids <= c /\ c <= maxLen /\
   w.cell? ⟨g, i * 2, none⟩ = some (.int .i8 k) /\ w.cell? ⟨g, i * 2 + 1, none⟩ = some (.slice A (len kids) c) /\
   (kids = .nil \/ ∃ g', A = some ⟨g', 0, none⟩ /\ lo' <= g' /\ g' < hi' /\ (∀ o, w.frozen? ⟨g', o, none⟩ = false) /\ SepF w g' kids 0 lo' hi') /\ SepF w g r (i + 1) hi' hi
def SepK (w : World) (kids : Fo) (A : Option Addr) (lo hi : Nat) : Prop :=
 kids = .nil \/ ∃ g', A = some ⟨g', 0, none⟩ /\ lo <= g' /\ g' < hi /\ (∀ o, w.frozen? ⟨g', o, none⟩ = false) /\ SepF w g' kids 0 lo hi
theorem SepF.le {w : World} {g : Nat} : ∀ (f : Fo) (i lo hi : Nat), SepF w g f i lo hi -> lo <= hi
 | .nil, _, _, _, h => h
 | .node _ _ _ _ r, i, lo, hi, h => by
  obtain ⟨A, c, lo', hi', h1, h2, _, _, _, _, _, _, _, h3⟩ := h;have := SepF.le r _ _ _ h3
  omega
theorem SepF.mono {w : World} {g : Nat} : ∀ (f : Fo) (i lo hi lo2 hi2 : Nat), lo2 <= lo -> hi <= hi2 -> SepF w g f i lo hi -> SepF w g f i lo2 hi2
 | .nil, _, lo, hi, lo2, hi2, h1, h2, h => by have h' : lo <= hi := h; show lo2 <= hi2; omega
 | .node _ _ _ _ r, i, lo, hi, lo2, hi2, h1, h2, h => by
  obtain ⟨A, c, lo', hi', a1, a2, a3, a4, a5, a6, a7, a8, a9, a10⟩ := h;exact ⟨A, c, lo', hi', by omega, a2, a3, a4, a5, a6, a7, a8, a9, SepF.mono r _ _ _ _ _ (Nat.le_refl _) h2 a10⟩
theorem SepK.mono {w : World} {kids : Fo} {A : Option Addr} {lo hi lo2 hi2 : Nat} (h1 : lo2 <= lo) (h2 : hi <= hi2) (h : SepK w kids A lo hi) : SepK w kids A lo2 hi2 := by
 rcases h with h | ⟨g', a1, a2, a3, a4, a5⟩
 ·exact .inl h
 ·exact .inr ⟨g', a1, by omega, by omega, a4, SepF.mono _ _ _ _ _ _ h1 h2 a5⟩
theorem SepF.keep {w w' : World} : ∀ (f : Fo) (g i lo hi : Nat), (∀ o v, i * 2 <= o -> w.cell? ⟨g, o, none⟩ = some v -> w'.cell? ⟨g, o, none⟩ = some v) -> (∀ b, lo <= b -> b < hi -> b ≠ g -> w'.heap[b]? = w.heap[b]?) -> SepF w g f i lo hi -> SepF w' g f i lo hi
 | .nil, _, _, _, _, _, _, h => h
 | .node _ _ _ kids r, g, i, lo, hi, hg, hb, h => by
  obtain ⟨A, c, lo', hi', a1, a2, a3, a4, a5, a6, a7, a8, a9, a10⟩ := h;have hle := SepF.le r _ _ _ a10;refine ⟨A, c, lo', hi', a1, a2, a3, a4, a5, a6, hg _ _ (Nat.le_refl _) a7, hg _ _ (by omega) a8, ?_, SepF.keep r g (i + 1) hi' hi (fun o v ho => hg o v (by omega)) (fun b h1 h2 => hb b (by omega) h2) a10⟩;rcases a9 with e | ⟨g', b1, b2, b3, b4, b5⟩
  ·exact .inl e
  ·have hbk := fun b (h1 : lo' <= b) (h2 : b < hi') => hb b (by omega) (by omega) (by rcases a3 with a3 | a3 <;> omega)
   refine .inr ⟨g', b1, b2, b3, fun o => by rw [World.frozen?_of_block (hbk g' b2 b3)]; exact b4 o, SepF.keep kids g' 0 lo' hi' (fun o v _ hc => by rw [World.cell?_of_block (hbk g' b2 b3)]; exact hc) (fun b h1 h2 _ => hbk b h1 h2) b5⟩
theorem SepK.keep {w w' : World} {kids : Fo} {A : Option Addr} {lo hi : Nat} (hb : ∀ b, lo <= b -> b < hi -> w'.heap[b]? = w.heap[b]?) (h : SepK w kids A lo hi) : SepK w' kids A lo hi := by
 rcases h with h | ⟨g', a1, a2, a3, a4, a5⟩
 ·exact .inl h
 ·exact .inr ⟨g', a1, a2, a3, fun o => by rw [World.frozen?_of_block (hb g' a2 a3)]; exact a4 o, SepF.keep kids g' 0 lo hi (fun o v _ hc => by rw [World.cell?_of_block (hb g' a2 a3)]; exact hc) (fun b h1 h2 _ => hb b h1 h2) a5⟩
theorem SepF.lies {w u : World} : ∀ (f : Fo) (g i lo hi : Nat), (∀ o v, w.cell? ⟨g, o, none⟩ = some v -> u.cell? ⟨g, o, none⟩ = some v) -> (∀ b o v, lo <= b -> b < hi -> w.cell? ⟨b, o, none⟩ = some v -> u.cell? ⟨b, o, none⟩ = some v) -> SepF w g f i lo hi -> Lies u f (some ⟨g, 0, none⟩) i
 | .nil, _, _, _, _, _, _, _ => trivial
 | .node _ _ _ kids r, g, i, lo, hi, hg, hb, h => by
  obtain ⟨A, c, lo', hi', a1, a2, a3, a4, a5, a6, a7, a8, a9, a10⟩ := h;have hle := SepF.le r _ _ _ a10;refine ⟨g, 0, A, c, rfl, a4, by rw [Nat.zero_add]; exact hg _ _ a7, by rw [Nat.zero_add]; exact hg _ _ a8, a5, a6, ?_, SepF.lies r g (i + 1) hi' hi hg (fun b o v h1 h2 => hb b o v (by omega) h2) a10⟩;rcases a9 with rfl | ⟨g', rfl, b2, b3, b4, b5⟩
  ·trivial
  ·have hbk := fun b o v (h1 : lo' <= b) (h2 : b < hi') => hb b o v (by omega) (by omega)
   exact SepF.lies kids g' 0 lo' hi' (fun o v hc => hbk g' o v b2 b3 hc) hbk b5
def FlatS (w : World) (vb : Option Nat) : Fo -> List Value -> Nat -> Nat -> Prop
 | .nil, xs, lo, hi => xs = [] /\ lo <= hi
 | .node _ _ k kids r, xs, lo, hi => ∃ A c lo' hi' ys, xs = .int .i8 k :: .slice A (len kids) c :: ys /\ lo <= lo' /\ lo' <= hi' /\ (∀ g, vb = some g -> g < lo' \/ hi' <= g) /\ (-128 <= k /\ k <= 127) /\ len kids <= c /\ c <= maxLen /\ SepK w kids A lo' hi' /\ FlatS w vb r ys hi' hi
theorem FlatS.le {w : World} {vb : Option Nat} : ∀ (f : Fo) (xs : List Value) (lo hi : Nat), FlatS w vb f xs lo hi -> lo <= hi
 | .nil, _, _, _, h => h.2
 | .node _ _ _ _ r, _, lo, hi, h => by
  obtain ⟨A, c, lo', hi', ys, rfl, h1, h2, _, _, _, _, _, h3⟩ := h;have := FlatS.le r _ _ _ h3
  omega
theorem FlatS.snoc {w : World} {vb : Option Nat} {a b : Nat} {k : Int} {kids : Fo} {A : Option Addr} {c lo' hi' : Nat} (h1 : lo' <= hi') (h2 : ∀ g, vb = some g -> g < lo' \/ hi' <= g) (hk : -128 <= k /\ k <= 127) (h3 : len kids <= c) (h4 : c <= maxLen) (h5 : SepK w kids A lo' hi') :
  ∀ (f : Fo) (xs : List Value) (lo hi : Nat), hi <= lo' -> FlatS w vb f xs lo hi -> FlatS w vb (cat f (.node a b k kids .nil)) (xs ++ [.int .i8 k, .slice A (len kids) c]) lo hi'
 | .nil, xs, lo, hi, hh, h => by
  obtain ⟨rfl, hl⟩ := h;exact ⟨A, c, lo', hi', [], rfl, by omega, h1, h2, hk, h3, h4, h5, rfl, Nat.le_refl _⟩
 | .node _ _ _ _ r, xs, lo, hi, hh, h => by
  obtain ⟨A', c', lo2, hi2, ys, rfl, a1, a2, a3, a4, a5, a6, a7, a8⟩ := h;exact ⟨A', c', lo2, hi2, _, rfl, a1, a2, a3, a4, a5, a6, a7, FlatS.snoc h1 h2 hk h3 h4 h5 r ys hi2 hi hh a8⟩
theorem FlatS.to {w w' : World} {vb vb' : Option Nat} : ∀ (f : Fo) (xs : List Value) (lo hi : Nat), (∀ b, lo <= b -> b < hi -> vb ≠ some b -> w'.heap[b]? = w.heap[b]?) -> (∀ g, vb' = some g -> vb = some g \/ hi <= g) -> FlatS w vb f xs lo hi -> FlatS w' vb' f xs lo hi
 | .nil, _, _, _, _, _, h => h
 | .node _ _ _ kids r, xs, lo, hi, hb, hv, h => by
  obtain ⟨A', c', lo2, hi2, ys, rfl, a1, a2, a3, a4, a5, a6, a7, a8⟩ := h;have hle := FlatS.le r _ _ _ a8;refine ⟨A', c', lo2, hi2, ys, rfl, a1, a2, fun g hg => ?_, a4, a5, a6, a7.keep fun b h1 h2 => hb b (by omega) (by omega) (fun e => by rcases a3 b e with h | h <;> omega), FlatS.to r ys hi2 hi (fun b h1 h2 => hb b (by omega) h2) hv a8⟩;rcases hv g hg with h | h
  ·exact a3 g h
  ·right; omega
theorem FlatS.up {w : World} {vb : Option Nat} : ∀ (f : Fo) (xs : List Value) (lo hi hi2 : Nat), hi <= hi2 -> FlatS w vb f xs lo hi -> FlatS w vb f xs lo hi2
 | .nil, _, _, _, _, hh, h => ⟨h.1, Nat.le_trans h.2 hh⟩
 | .node _ _ _ _ r, _, lo, hi, hi2, hh, h => by
  obtain ⟨A, c, lo', hi', ys, e, h1, h2, h3, h4, h5, h6, h7, h8⟩ := h;exact ⟨A, c, lo', hi', ys, e, h1, h2, h3, h4, h5, h6, h7, FlatS.up r ys hi' hi hi2 hh h8⟩
theorem FlatS.sep {w : World} {g : Nat} : ∀ (f : Fo) (xs : List Value) (i lo hi : Nat), FlatS w (some g) f xs lo hi -> (∀ j x, xs[j]? = some x -> w.cell? ⟨g, i * 2 + j, none⟩ = some x) -> SepF w g f i lo hi
 | .nil, _, _, _, _, h, _ => h.2
 | .node _ _ k kids r, _, i, lo, hi, h, hc => by
  obtain ⟨A', c', lo2, hi2, ys, rfl, a1, a2, a3, a4, a5, a6, a7, a8⟩ := h;refine ⟨A', c', lo2, hi2, a1, a2, a3 g rfl, a4, a5, a6, hc 0 _ rfl, hc 1 _ rfl, a7, FlatS.sep r ys (i + 1) hi2 hi a8 fun j x hx => ?_⟩;have := hc (j + 2) x (by simpa using hx)
  rwa [show i * 2 + (j + 2) = (i + 1) * 2 + j by omega] at this
end Ty
structure SRel (w wr : World) (n0 O : Nat) (A : Option Addr) (k : Int) (kids : Fo) (v : Value) (n i : Nat) (done rest : Fo) (xs : List Value) : Prop where
 eq : Ty.cat done rest = kids
 len : Ty.len done = i
 i_eq : i + Ty.len rest = n
 lies : Ty.Lies w rest A i
 below : Below w.heap.size w wr
 size : n0 <= wr.heap.size
 own : wr.ownsRow n0 25 2 v i xs
 flat : Ty.FlatS wr v.ownBlock done xs n0 wr.heap.size
 box : wr.heap[O]? = some (.cells #[.int .i8 k, v] 25 (0, 0))
 olt : O < n0
 ole : w.heap.size <= O
 sub : Ty.nodes rest <= Ty.nodes kids
theorem SRel.step {w wr W u w3 : World} {n0 O : Nat} {A : Option Addr} {k : Int} {kids : Fo} {v v' : Value} {n i a b : Nat} {done r kd : Fo} {kk : Int} {xs : List Value} {G : Option Addr} {c : Nat} {o2 : Obj}
  (h : SRel w wr n0 O A k kids v n i done (.node a b kk kd r) xs) (hW : Below wr.heap.size wr W) (hb : Below W.heap.size W u) (hkk : -128 <= kk /\ kk <= 127) (hc1 : Ty.len kd <= c) (hc2 : c <= maxLen) (hI : Ty.SepK u kd G W.heap.size u.heap.size)
  (hown : w3.ownsRow n0 25 2 v' (i + 1) (xs ++ [.int .i8 kk, .slice G (Ty.len kd) c])) (hg : (u.alloc o2).grownBy w3 v.ownBlock) (hat : v'.ownBlock = v.ownBlock \/ v'.ownBlock = some (u.alloc o2).heap.size) (hl : Ty.Lies w r A (i + 1)) :
  SRel w (w3.setCell ⟨O, 1, none⟩ v') n0 O A k kids v' n (i + 1) (Ty.cat done (.node a b kk kd .nil)) r (xs ++ [.int .i8 kk, .slice G (Ty.len kd) c]) := by
 obtain ⟨h1, h2, h3, h4, h5, hsz, h6, h7, hbox, h9, h10, h8⟩ := h;simp only [Ty.len, Ty.nodes] at h3 h8;have hlt := h6.lt;have hs2 := hb.size;have hs3 : u.heap.size + 1 = (u.alloc o2).heap.size := by simp
 have hwW := hW.size;have hwu : Below wr.heap.size wr (u.alloc o2) := (hW.trans (hb.mono hwW)).alloc (by omega) o2;have hg2 := hg.size;have hvO : some O ≠ v.ownBlock := fun e => by have := (hlt O e.symm).1; omega
 have hb3 : w3.heap[O]? = some (.cells #[.int .i8 k, v] 25 (0, 0)) := by
  rw [hg.block O (by omega) hvO, hwu.block O (zC hbox)]; exact hbox
 have hss : (w3.setCell ⟨O, 1, none⟩ v').heap.size = w3.heap.size := by simp [World.setCell]
 have hcell : ∀ b', b' ≠ O -> (w3.setCell ⟨O, 1, none⟩ v').heap[b']? = w3.heap[b']? := fun b' hne => Below.heap_setCell _ _ _ b' hne
 have hown2 : (w3.setCell ⟨O, 1, none⟩ v').ownsRow n0 25 2 v' (i + 1) (xs ++ [.int .i8 kk, .slice G (Ty.len kd) c]) := by
  exact zFw
 refine ⟨by rw [Ty.yY]; exact h1, by rw [Ty.wH]; omega, by omega, hl, ?_, by rw [hss]; omega, hown2, ?_, ?_, h9, h10, by omega⟩
 ·exact ((h5.trans (hwu.mono h5.size)).grown hg (Nat.le_trans h5.size hwu.size) fun q hq => by have := (hlt q hq).1; omega).setCell h10 _
 ·have hnew : Ty.FlatS (w3.setCell ⟨O, 1, none⟩ v') v'.ownBlock done xs n0 wr.heap.size := by
   refine Ty.FlatS.to done xs n0 wr.heap.size (fun b' q1 q2 q3 => ?_) (fun g e => ?_) h7
   ·rw [hcell b' (by omega), hg.block b' (by omega) (fun e => q3 e.symm), hwu.block b' q2]
   ·rcases hat with q | q
    ·exact .inl (by rw [← q]; exact e)
    ·rw [q] at e; injection e with e; exact .inr (by omega)
  have hsep : Ty.SepK (w3.setCell ⟨O, 1, none⟩ v') kd G W.heap.size u.heap.size := by
   refine hI.keep fun b' q1 q2 => ?_
   rw [hcell b' (by omega), hg.block b' (by omega) (fun e => by have := (hlt b' e.symm).2; omega), Below.heap_alloc _ _ _ q2]
  have := Ty.FlatS.snoc (a := a) (b := b) hs2 (fun g e => ?_) hkk hc1 hc2 hsep done xs n0 wr.heap.size hwW hnew
  ·rw [hss]
   exact Ty.FlatS.up _ _ _ _ _ (by omega) this
  ·rcases hat with q | q
   ·rw [q] at e; have := (hlt g e).2; left; omega
   ·rw [q] at e; injection e with e; right; omega
 ·simp [World.setCell, Array.getElem?_modify, hb3]
theorem SRel.done {w wr : World} {n0 O : Nat} {A : Option Addr} {k : Int} {kids done : Fo} {v : Value} {n : Nat} {xs : List Value} (h : SRel w wr n0 O A k kids v n n done .nil xs) (hn : n = Ty.len kids) :
  ∃ G c, v = .slice G n c /\ n <= c /\ c <= maxLen /\ Ty.SepK wr kids G n0 wr.heap.size := by
 obtain ⟨h1, h2, h3, h4, h5, hsz, h6, h7, hbox, h9, h10, h8⟩ := h;rw [Ty.wU] at h1;subst h1;have hc := fun g hg => h6.cells (g := g) hg
 rcases h6.2 with ⟨hv, h0⟩ | ⟨g, cap, cur, rfl, hb, hg, h1, h2', _⟩
 ·have hd : done = .nil := by
   cases done with
   | nil => rfl
   | node _ _ _ _ _ => simp only [Ty.len] at h2; omega
  subst hd;obtain rfl : n = 0 := by omega
  exact ⟨none, 0, hv, Nat.le_refl _, Nat.zero_le _, .inl rfl⟩
 ·refine ⟨_, cap, rfl, h1, h2', .inr ⟨g, rfl, hb, zC hg, fun o => by simp [World.frozen?, hg], ?_⟩⟩
  refine Ty.FlatS.sep done xs 0 n0 wr.heap.size h7 fun j x hx => ?_
  have := hc g rfl j x hx;rw [show (⟨g, 0, none⟩ : Addr).add j = ⟨g, j, none⟩ by unfold Addr.add; by_cases h : j = 0 <;> simp [h]] at this;rw [Nat.zero_mul, Nat.zero_add];exact this
namespace Ty
theorem SepF.inP {w : World} {P : Nat -> Prop} : ∀ (f : Fo) (g i lo hi : Nat), P g -> (∀ b, lo <= b -> b < hi -> P b) -> SepF w g f i lo hi -> LiesP P w f (some ⟨g, 0, none⟩) i
 | .nil, _, _, _, _, _, _, _ => trivial
 | .node _ _ _ kids r, g, i, lo, hi, hg, hb, h => by
  obtain ⟨A, c, lo', hi', a1, a2, a3, a4, a5, a6, a7, a8, a9, a10⟩ := h;have hle := SepF.le r _ _ _ a10;refine ⟨g, 0, A, c, rfl, hg, a4, by rw [Nat.zero_add]; exact a7, by rw [Nat.zero_add]; exact a8, a5, a6, ?_, SepF.inP r g (i + 1) hi' hi hg (fun b h1 h2 => hb b (by omega) h2) a10⟩;rcases a9 with rfl | ⟨g', rfl, b2, b3, b4, b5⟩
  ·trivial
  ·exact SepF.inP kids g' 0 lo' hi' (hb g' (by omega) (by omega)) (fun b h1 h2 => hb b (by omega) (by omega)) b5
theorem SepK.inP {w : World} {k : Int} {kids : Fo} {A : Option Addr} {lo hi c : Nat} (h : SepK w kids A lo hi) (hk : -128 <= k /\ k <= 127) (h1 : len kids <= c) (h2 : c <= maxLen) : IsP (fun b => lo <= b /\ b < hi) w k kids A (len kids) c := by
 refine ⟨?_, rfl, h1, h2, hk.1, hk.2⟩;rcases h with rfl | ⟨g', rfl, a2, a3, a4, a5⟩
 ·trivial
 ·exact SepF.inP kids g' 0 lo hi ⟨a2, a3⟩ (fun b h1 h2 => ⟨h1, h2⟩) a5
end Ty
structure Turn (w w' : World) (p q lo hi : Nat) : Prop where
 os : w'.os = w.os
 tape : w'.tape = w.tape
 output : w'.output = w.output
 size : w.heap.size <= w'.heap.size
 block : ∀ b, b < w.heap.size -> (b < lo \/ hi <= b) -> b ≠ p -> w'.heap[b]? = w.heap[b]?
 cell : ∀ o, o ≠ q -> o ≠ q + 1 -> w'.cell? ⟨p, o, none⟩ = w.cell? ⟨p, o, none⟩
 froz : ∀ o, w'.frozen? ⟨p, o, none⟩ = w.frozen? ⟨p, o, none⟩
theorem Turn.of {w w' : World} {p q lo hi : Nat} (h : Below w.heap.size w w') (hp : p < w.heap.size) : Turn w w' p q lo hi :=
 ⟨h.os, h.tape, h.output, h.size, fun b hb _ _ => h.block b hb, fun o _ _ => h.cell (p := ⟨p, o, none⟩) hp, fun o => h.frozen (p := ⟨p, o, none⟩) hp⟩
theorem Turn.trans {a b c : World} {p q lo hi : Nat} (h : Turn a b p q lo hi) (k : Turn b c p q lo hi) : Turn a c p q lo hi :=
 ⟨k.os.trans h.os, k.tape.trans h.tape, k.output.trans h.output, Nat.le_trans h.size k.size, fun i h1 h2 h3 => (k.block i (Nat.lt_of_lt_of_le h1 h.size) h2 h3).trans (h.block i h1 h2 h3),
  fun o h1 h2 => (k.cell o h1 h2).trans (h.cell o h1 h2), fun o => (k.froz o).trans (h.froz o)⟩
theorem Turn.sub {w w' : World} {g q' lo' hi' p q lo hi : Nat} (h : Turn w w' g q' lo' hi') (hg1 : lo <= g) (hg2 : g < hi) (h1 : lo <= lo') (h2 : hi' <= hi) (hp : p < lo \/ hi <= p) (hps : p < w.heap.size) : Turn w w' p q lo hi := by
 have hpb := h.block p hps (by omega) (by omega);exact ⟨h.os, h.tape, h.output, h.size, fun b b1 b2 b3 => h.block b b1 (by omega) (by omega), fun o _ _ => World.cell?_of_block (w := w) (a := ⟨p, o, none⟩) hpb, fun o => World.frozen?_of_block (w := w) (a := ⟨p, o, none⟩) hpb⟩
theorem Turn.below {w w' : World} {p q lo hi n0 : Nat} (h : Turn w w' p q lo hi) (hlo : n0 <= lo) (hp : n0 <= p) (hs : n0 <= w.heap.size) : Below n0 w w' :=
 ⟨h.os, h.tape, h.output, h.size, fun b hb => h.block b (by omega) (by omega) (by omega)⟩
structure Own (w : World) (k : Int) (kids : Fo) (A : Option Addr) (c p q lo hi n0 : Nat) : Prop where
 c0 : w.cell? ⟨p, q, none⟩ = some (.int .i8 k)
 c1 : w.cell? ⟨p, q + 1, none⟩ = some (.slice A (Ty.len kids) c)
 fz : ∀ o, w.frozen? ⟨p, o, none⟩ = false
 r : -128 <= k /\ k <= 127
 lc : Ty.len kids <= c
 cm : c <= maxLen
 sep : Ty.SepK w kids A lo hi
 le : lo <= hi
 hs : hi <= w.heap.size
 out : p < lo \/ hi <= p
 nlo : n0 <= lo
 np : n0 <= p
theorem Own.below {w w' : World} {k : Int} {kids : Fo} {A : Option Addr} {c p q lo hi n0 : Nat} (h : Own w k kids A c p q lo hi n0) (hb : Below w.heap.size w w') : Own w' k kids A c p q lo hi n0 := by
 have hp := Ty.zZ h.c0;have hhs := h.hs
 exact ⟨by rw [hb.cell (p := ⟨p, q, none⟩) hp]; exact h.c0, by rw [hb.cell (p := ⟨p, q + 1, none⟩) hp]; exact h.c1, fun o => by rw [hb.frozen (p := ⟨p, o, none⟩) hp]; exact h.fz o, h.r, h.lc, h.cm,
  h.sep.keep fun b _ h2 => hb.block b (by omega), h.le, Nat.le_trans h.hs hb.size, h.out, h.nlo, h.np⟩
theorem Own.two {w : World} {k k1 k2 : Int} {f1 f2 : Fo} {a1 a2 a3 a4 : Nat} {A : Option Addr} {c p q lo hi n0 : Nat} (h : Own w k (.node a1 a2 k1 f1 (.node a3 a4 k2 f2 .nil)) A c p q lo hi n0) :
  ∃ g B1 c1 B2 c2 l1 h1 l2 h2, A = some ⟨g, 0, none⟩ /\ lo <= g /\ g < hi /\ lo <= l1 /\ h1 <= l2 /\ h2 <= hi /\ Own w k1 f1 B1 c1 g 0 l1 h1 n0 /\ Own w k2 f2 B2 c2 g 2 l2 h2 n0 := by
 obtain ⟨e0, e1, fz, r, lc, cm, sep, le, hs, out, nlo, np⟩ := h;rcases sep with h | ⟨g, rfl, g1, g2, g3, g4⟩
 ·cases h
 ·obtain ⟨B1, c1, l1, h1, x1, x2, x3, x4, x5, x6, x7, x8, x9, B2, c2, l2, h2, y1, y2, y3, y4, y5, y6, y7, y8, y9, y10⟩ := g4
  have y10' : h2 <= hi := y10;refine ⟨g, B1, c1, B2, c2, l1, h1, l2, h2, rfl, g1, g2, x1, y1, y10', ⟨by simpa using x7, by simpa using x8, g3, x4, x5, x6, x9, x2, by omega, x3, by omega, by omega⟩, ⟨by simpa using y7, by simpa using y8, g3, y4, y5, y6, y9, y2, by omega, y3, by omega, by omega⟩⟩
end Go.Proofs.YtglgjaomneljbaaGreatDoor
