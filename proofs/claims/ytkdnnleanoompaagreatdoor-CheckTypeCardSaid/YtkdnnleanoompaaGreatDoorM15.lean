import Derived.Test.YtkdnnleanoompaaGreatDoorM11
import Derived.Test.YtkdnnleanoompaaGreatDoorM14
namespace Go.Proofs.YtkdnnleanoompaaGreatDoor
open Go.RowKit
namespace Ty
def SepF (w : World) (g : Nat) : Fo -> Nat -> Nat -> Nat -> Prop
 | .nil, _, lo, hi => lo <= hi
 | .node _ _ k kids r, i, lo, hi => ∃ A c lo' hi', lo <= lo' /\ lo' <= hi' /\ (g < lo' \/ hi' <= g) /\ (-128 <= k /\ k <= 127) /\ len kids <= c /\ c <= maxLen /\
   w.cell? ⟨g, i * 2, none⟩ = some (.int .i8 k) /\ w.cell? ⟨g, i * 2 + 1, none⟩ = some (.slice A (len kids) c) /\
   (kids = .nil \/ ∃ g', A = some ⟨g', 0, none⟩ /\ lo' <= g' /\ g' < hi' /\ (∀ o, w.frozen? ⟨g', o, none⟩ = false) /\ SepF w g' kids 0 lo' hi') /\ SepF w g r (i + 1) hi' hi
def SepK (w : World) (kids : Fo) (A : Option Addr) (lo hi : Nat) : Prop :=
 kids = .nil \/ ∃ g', A = some ⟨g', 0, none⟩ /\ lo <= g' /\ g' < hi /\ (∀ o, w.frozen? ⟨g', o, none⟩ = false) /\ SepF w g' kids 0 lo hi
theorem SepF.le {w : World} {g : Nat} : ∀ (f : Fo) (i lo hi : Nat), SepF w g f i lo hi -> lo <= hi
 | .nil, _, _, _, h => h
 | .node _ _ _ _ r, i, lo, hi, h => by
  obtain ⟨A, c, lo', hi', h1, h2, _, _, _, _, _, _, _, h3⟩ := h;have := SepF.le r _ _ _ h3
  omega
theorem SepF.mono {w : World} {g : Nat} : ∀ (f : Fo) (i lo hi lo2 hi2 : Nat), lo2 <= lo -> hi <= hi2 -> SepF w g f i lo hi -> SepF w g f i lo2 hi2
 | .nil, _, lo, hi, lo2, hi2, h1, h2, h => by have h' : lo <= hi := h; show lo2 <= hi2; omega
 | .node _ _ _ _ r, i, lo, hi, lo2, hi2, h1, h2, h => by
  obtain ⟨A, c, lo', hi', a1, a2, a3, a4, a5, a6, a7, a8, a9, a10⟩ := h;exact ⟨A, c, lo', hi', by omega, a2, a3, a4, a5, a6, a7, a8, a9, SepF.mono r _ _ _ _ _ (Nat.le_refl _) h2 a10⟩
theorem SepK.mono {w : World} {kids : Fo} {A : Option Addr} {lo hi lo2 hi2 : Nat} (h1 : lo2 <= lo) (h2 : hi <= hi2) (h : SepK w kids A lo hi) : SepK w kids A lo2 hi2 := by
 rcases h with h | ⟨g', a1, a2, a3, a4, a5⟩
 ·exact .inl h
 ·exact .inr ⟨g', a1, by omega, by omega, a4, SepF.mono _ _ _ _ _ _ h1 h2 a5⟩
theorem SepF.keep {w w' : World} : ∀ (f : Fo) (g i lo hi : Nat), (∀ o v, i * 2 <= o -> w.cell? ⟨g, o, none⟩ = some v -> w'.cell? ⟨g, o, none⟩ = some v) -> (∀ b, lo <= b -> b < hi -> b ≠ g -> w'.heap[b]? = w.heap[b]?) -> SepF w g f i lo hi -> SepF w' g f i lo hi
 | .nil, _, _, _, _, _, _, h => h
 | .node _ _ _ kids r, g, i, lo, hi, hg, hb, h => by
  obtain ⟨A, c, lo', hi', a1, a2, a3, a4, a5, a6, a7, a8, a9, a10⟩ := h;have hle := SepF.le r _ _ _ a10;refine ⟨A, c, lo', hi', a1, a2, a3, a4, a5, a6, hg _ _ (Nat.le_refl _) a7, hg _ _ (by omega) a8, ?_, SepF.keep r g (i + 1) hi' hi (fun o v ho => hg o v (by omega)) (fun b h1 h2 => hb b (by omega) h2) a10⟩;rcases a9 with e | ⟨g', b1, b2, b3, b4, b5⟩
  ·exact .inl e
  ·have hbk := fun b (h1 : lo' <= b) (h2 : b < hi') => hb b (by omega) (by omega) (by rcases a3 with a3 | a3 <;> omega)
   refine .inr ⟨g', b1, b2, b3, fun o => by rw [World.frozen?_of_block (hbk g' b2 b3)]; exact b4 o, SepF.keep kids g' 0 lo' hi' (fun o v _ hc => by rw [World.cell?_of_block (hbk g' b2 b3)]; exact hc) (fun b h1 h2 _ => hbk b h1 h2) b5⟩
theorem SepK.keep {w w' : World} {kids : Fo} {A : Option Addr} {lo hi : Nat} (hb : ∀ b, lo <= b -> b < hi -> w'.heap[b]? = w.heap[b]?) (h : SepK w kids A lo hi) : SepK w' kids A lo hi := by
 rcases h with h | ⟨g', a1, a2, a3, a4, a5⟩
 ·exact .inl h
 ·exact .inr ⟨g', a1, a2, a3, fun o => by rw [World.frozen?_of_block (hb g' a2 a3)]; exact a4 o, SepF.keep kids g' 0 lo hi (fun o v _ hc => by rw [World.cell?_of_block (hb g' a2 a3)]; exact hc) (fun b h1 h2 _ => hb b h1 h2) a5⟩
theorem SepF.lies {w u : World} : ∀ (f : Fo) (g i lo hi : Nat), (∀ o v, w.cell? ⟨g, o, none⟩ = some v -> u.cell? ⟨g, o, none⟩ = some v) -> (∀ b o v, lo <= b -> b < hi -> w.cell? ⟨b, o, none⟩ = some v -> u.cell? ⟨b, o, none⟩ = some v) -> SepF w g f i lo hi -> Lies u f (some ⟨g, 0, none⟩) i
 | .nil, _, _, _, _, _, _, _ => trivial
 | .node _ _ _ kids r, g, i, lo, hi, hg, hb, h => by
  obtain ⟨A, c, lo', hi', a1, a2, a3, a4, a5, a6, a7, a8, a9, a10⟩ := h;have hle := SepF.le r _ _ _ a10;refine ⟨g, 0, A, c, rfl, a4, by rw [Nat.zero_add]; exact hg _ _ a7, by rw [Nat.zero_add]; exact hg _ _ a8, a5, a6, ?_, SepF.lies r g (i + 1) hi' hi hg (fun b o v h1 h2 => hb b o v (by omega) h2) a10⟩;rcases a9 with rfl | ⟨g', rfl, b2, b3, b4, b5⟩
  ·trivial
  ·have hbk := fun b o v (h1 : lo' <= b) (h2 : b < hi') => hb b o v (by omega) (by omega)
   exact SepF.lies kids g' 0 lo' hi' (fun o v hc => hbk g' o v b2 b3 hc) hbk b5
def FlatS (w : World) (vb : Option Nat) : Fo -> List Value -> Nat -> Nat -> Prop
 | .nil, xs, lo, hi => xs = [] /\ lo <= hi
 | .node _ _ k kids r, xs, lo, hi => ∃ A c lo' hi' ys, xs = .int .i8 k :: .slice A (len kids) c :: ys /\ lo <= lo' /\ lo' <= hi' /\ (∀ g, vb = some g -> g < lo' \/ hi' <= g) /\ (-128 <= k /\ k <= 127) /\ len kids <= c /\ c <= maxLen /\ SepK w kids A lo' hi' /\ FlatS w vb r ys hi' hi
theorem FlatS.le {w : World} {vb : Option Nat} : ∀ (f : Fo) (xs : List Value) (lo hi : Nat), FlatS w vb f xs lo hi -> lo <= hi
 | .nil, _, _, _, h => h.2
 | .node _ _ _ _ r, _, lo, hi, h => by
  obtain ⟨A, c, lo', hi', ys, rfl, h1, h2, _, _, _, _, _, h3⟩ := h;have := FlatS.le r _ _ _ h3
  omega
theorem FlatS.snoc {w : World} {vb : Option Nat} {a b : Nat} {k : Int} {kids : Fo} {A : Option Addr} {c lo' hi' : Nat} (h1 : lo' <= hi') (h2 : ∀ g, vb = some g -> g < lo' \/ hi' <= g) (hk : -128 <= k /\ k <= 127) (h3 : len kids <= c) (h4 : c <= maxLen) (h5 : SepK w kids A lo' hi') :
  ∀ (f : Fo) (xs : List Value) (lo hi : Nat), hi <= lo' -> FlatS w vb f xs lo hi -> FlatS w vb (cat f (.node a b k kids .nil)) (xs ++ [.int .i8 k, .slice A (len kids) c]) lo hi'
 | .nil, xs, lo, hi, hh, h => by
  obtain ⟨rfl, hl⟩ := h;exact ⟨A, c, lo', hi', [], rfl, by omega, h1, h2, hk, h3, h4, h5, rfl, Nat.le_refl _⟩
 | .node _ _ _ _ r, xs, lo, hi, hh, h => by
  obtain ⟨A', c', lo2, hi2, ys, rfl, a1, a2, a3, a4, a5, a6, a7, a8⟩ := h;exact ⟨A', c', lo2, hi2, _, rfl, a1, a2, a3, a4, a5, a6, a7, FlatS.snoc h1 h2 hk h3 h4 h5 r ys hi2 hi hh a8⟩
theorem FlatS.to {w w' : World} {vb vb' : Option Nat} : ∀ (f : Fo) (xs : List Value) (lo hi : Nat), (∀ b, lo <= b -> b < hi -> vb ≠ some b -> w'.heap[b]? = w.heap[b]?) -> (∀ g, vb' = some g -> vb = some g \/ hi <= g) -> FlatS w vb f xs lo hi -> FlatS w' vb' f xs lo hi
 | .nil, _, _, _, _, _, h => h
 | .node _ _ _ kids r, xs, lo, hi, hb, hv, h => by
  obtain ⟨A', c', lo2, hi2, ys, rfl, a1, a2, a3, a4, a5, a6, a7, a8⟩ := h;have hle := FlatS.le r _ _ _ a8;refine ⟨A', c', lo2, hi2, ys, rfl, a1, a2, fun g hg => ?_, a4, a5, a6, a7.keep fun b h1 h2 => hb b (by omega) (by omega) (fun e => by rcases a3 b e with h | h <;> omega), FlatS.to r ys hi2 hi (fun b h1 h2 => hb b (by omega) h2) hv a8⟩;rcases hv g hg with h | h
  ·exact a3 g h
  ·right; omega
theorem FlatS.up {w : World} {vb : Option Nat} : ∀ (f : Fo) (xs : List Value) (lo hi hi2 : Nat), hi <= hi2 -> FlatS w vb f xs lo hi -> FlatS w vb f xs lo hi2
 | .nil, _, _, _, _, hh, h => ⟨h.1, Nat.le_trans h.2 hh⟩
 | .node _ _ _ _ r, _, lo, hi, hi2, hh, h => by
  obtain ⟨A, c, lo', hi', ys, e, h1, h2, h3, h4, h5, h6, h7, h8⟩ := h;exact ⟨A, c, lo', hi', ys, e, h1, h2, h3, h4, h5, h6, h7, FlatS.up r ys hi' hi hi2 hh h8⟩
theorem FlatS.sep {w : World} {g : Nat} : ∀ (f : Fo) (xs : List Value) (i lo hi : Nat), FlatS w (some g) f xs lo hi -> (∀ j x, xs[j]? = some x -> w.cell? ⟨g, i * 2 + j, none⟩ = some x) -> SepF w g f i lo hi
 | .nil, _, _, _, _, h, _ => h.2
 | .node _ _ k kids r, _, i, lo, hi, h, hc => by
  obtain ⟨A', c', lo2, hi2, ys, rfl, a1, a2, a3, a4, a5, a6, a7, a8⟩ := h;refine ⟨A', c', lo2, hi2, a1, a2, a3 g rfl, a4, a5, a6, hc 0 _ rfl, hc 1 _ rfl, a7, FlatS.sep r ys (i + 1) hi2 hi a8 fun j x hx => ?_⟩;have := hc (j + 2) x (by simpa using hx)
  rwa [show i * 2 + (j + 2) = (i + 1) * 2 + j by omega] at this
end Ty
def CopyS (w : World) (k : Int) (kids : Fo) (e : Ending) (w' : World) : Prop :=
 ∃ G c, e = .returned (.agg #[.int .i8 k, .slice G (Ty.len kids) c]) /\ Ty.len kids <= c /\ c <= maxLen /\ Ty.SepK w' kids G w.heap.size w'.heap.size /\ Below w.heap.size w w'
structure SRel (w wr : World) (n0 O : Nat) (A : Option Addr) (k : Int) (kids : Fo) (v : Value) (n i : Nat) (done rest : Fo) (xs : List Value) : Prop where
 eq : Ty.cat done rest = kids
 len : Ty.len done = i
 i_eq : i + Ty.len rest = n
 lies : Ty.Lies w rest A i
 below : Below w.heap.size w wr
 size : n0 <= wr.heap.size
 own : wr.ownsRow n0 25 2 v i xs
 flat : Ty.FlatS wr v.ownBlock done xs n0 wr.heap.size
 box : wr.heap[O]? = some (.cells #[.int .i8 k, v] 25 (0, 0))
 olt : O < n0
 ole : w.heap.size <= O
 sub : Ty.nodes rest <= Ty.nodes kids
theorem SRel.step {w wr W u w3 : World} {n0 O : Nat} {A : Option Addr} {k : Int} {kids : Fo} {v v' : Value} {n i a b : Nat} {done r kd : Fo} {kk : Int} {xs : List Value} {G : Option Addr} {c : Nat} {o2 : Obj}
  (h : SRel w wr n0 O A k kids v n i done (.node a b kk kd r) xs) (hW : Below wr.heap.size wr W) (hb : Below W.heap.size W u) (hkk : -128 <= kk /\ kk <= 127) (hc1 : Ty.len kd <= c) (hc2 : c <= maxLen) (hI : Ty.SepK u kd G W.heap.size u.heap.size)
  (hown : w3.ownsRow n0 25 2 v' (i + 1) (xs ++ [.int .i8 kk, .slice G (Ty.len kd) c])) (hg : (u.alloc o2).grownBy w3 v.ownBlock) (hat : v'.ownBlock = v.ownBlock \/ v'.ownBlock = some (u.alloc o2).heap.size) (hl : Ty.Lies w r A (i + 1)) :
  SRel w (w3.setCell ⟨O, 1, none⟩ v') n0 O A k kids v' n (i + 1) (Ty.cat done (.node a b kk kd .nil)) r (xs ++ [.int .i8 kk, .slice G (Ty.len kd) c]) := by
 obtain ⟨h1, h2, h3, h4, h5, hsz, h6, h7, hbox, h9, h10, h8⟩ := h;simp only [Ty.len, Ty.nodes] at h3 h8;have hlt := h6.lt;have hs2 := hb.size;have hs3 : u.heap.size + 1 = (u.alloc o2).heap.size := by simp
 have hwW := hW.size;have hwu : Below wr.heap.size wr (u.alloc o2) := (hW.trans (hb.mono hwW)).alloc (by omega) o2;have hg2 := hg.size;have hvO : some O ≠ v.ownBlock := fun e => by have := (hlt O e.symm).1; omega
 have hb3 : w3.heap[O]? = some (.cells #[.int .i8 k, v] 25 (0, 0)) := by
  rw [hg.block O (by omega) hvO, hwu.block O (zC hbox)]; exact hbox
 have hss : (w3.setCell ⟨O, 1, none⟩ v').heap.size = w3.heap.size := by simp [World.setCell]
 have hcell : ∀ b', b' ≠ O -> (w3.setCell ⟨O, 1, none⟩ v').heap[b']? = w3.heap[b']? := fun b' hne => Below.heap_setCell _ _ _ b' hne
 have hown2 : (w3.setCell ⟨O, 1, none⟩ v').ownsRow n0 25 2 v' (i + 1) (xs ++ [.int .i8 kk, .slice G (Ty.len kd) c]) := by
  exact zGT
 refine ⟨by rw [Ty.xC]; exact h1, by rw [Ty.wh]; omega, by omega, hl, ?_, by rw [hss]; omega, hown2, ?_, ?_, h9, h10, by omega⟩
 ·exact ((h5.trans (hwu.mono h5.size)).grown hg (Nat.le_trans h5.size hwu.size) fun q hq => by have := (hlt q hq).1; omega).setCell h10 _
 ·have hnew : Ty.FlatS (w3.setCell ⟨O, 1, none⟩ v') v'.ownBlock done xs n0 wr.heap.size := by
   refine Ty.FlatS.to done xs n0 wr.heap.size (fun b' q1 q2 q3 => ?_) (fun g e => ?_) h7
   ·rw [hcell b' (by omega), hg.block b' (by omega) (fun e => q3 e.symm), hwu.block b' q2]
   ·rcases hat with q | q
    ·exact .inl (by rw [← q]; exact e)
    ·rw [q] at e; injection e with e; exact .inr (by omega)
  have hsep : Ty.SepK (w3.setCell ⟨O, 1, none⟩ v') kd G W.heap.size u.heap.size := by
   refine hI.keep fun b' q1 q2 => ?_
   rw [hcell b' (by omega), hg.block b' (by omega) (fun e => by have := (hlt b' e.symm).2; omega), Below.heap_alloc _ _ _ q2]
  have := Ty.FlatS.snoc (a := a) (b := b) hs2 (fun g e => ?_) hkk hc1 hc2 hsep done xs n0 wr.heap.size hwW hnew
  ·rw [hss]
   exact Ty.FlatS.up _ _ _ _ _ (by omega) this
  ·rcases hat with q | q
   ·rw [q] at e; have := (hlt g e).2; left; omega
   ·rw [q] at e; injection e with e; right; omega
 ·simp [World.setCell, Array.getElem?_modify, hb3]
theorem SRel.done {w wr : World} {n0 O : Nat} {A : Option Addr} {k : Int} {kids done : Fo} {v : Value} {n : Nat} {xs : List Value} (h : SRel w wr n0 O A k kids v n n done .nil xs) (hn : n = Ty.len kids) :
  ∃ G c, v = .slice G n c /\ n <= c /\ c <= maxLen /\ Ty.SepK wr kids G n0 wr.heap.size := by
 obtain ⟨h1, h2, h3, h4, h5, hsz, h6, h7, hbox, h9, h10, h8⟩ := h;rw [Ty.uJ] at h1;subst h1;have hc := fun g hg => h6.cells (g := g) hg
 rcases h6.2 with ⟨hv, h0⟩ | ⟨g, cap, cur, rfl, hb, hg, h1, h2', _⟩
 ·have hd : done = .nil := by
   cases done with
   | nil => rfl
   | node _ _ _ _ _ => simp only [Ty.len] at h2; omega
  subst hd;obtain rfl : n = 0 := by omega
  exact ⟨none, 0, hv, Nat.le_refl _, Nat.zero_le _, .inl rfl⟩
 ·refine ⟨_, cap, rfl, h1, h2', .inr ⟨g, rfl, hb, zC hg, fun o => by simp [World.frozen?, hg], ?_⟩⟩
  refine Ty.FlatS.sep done xs 0 n0 wr.heap.size h7 fun j x hx => ?_
  have := hc g rfl j x hx;rw [show (⟨g, 0, none⟩ : Addr).add j = ⟨g, j, none⟩ by unfold Addr.add; by_cases h : j = 0 <;> simp [h]] at this;rw [Nat.zero_mul, Nat.zero_add];exact this
set_option maxHeartbeats 4000000 in
set_option maxRecDepth 100000 in
theorem yA (K : Nat) : ∀ (k : Int) (kids : Fo) (A : Option Addr) (n c : Nat) (w : World), Ty.nodes kids < K -> Ty.Is w k kids A n c -> Ty.nodes kids <= 8192 ->
  Calls Tryz.prog 66 #[.agg #[.int .i8 k, .slice A n c]] w (CopyS w k kids) := by
 induction K with
 | zero => intro _ _ _ _ _ _ hK; omega
 | succ K ih =>
  intro k kids A n c w hK hIs hsm;have hln := Ty.jl kids;have hneq := hIs.n_eq;have hlo := hIs.lo;have hhi := hIs.hi;have i5 : (n : Int) <= 8192 := by omega
  obtain ⟨i0, hi, hz0, hz1, hz2⟩ := info_parts zBj;have hb2 : Below w.heap.size w (((w.alloc (.cells #[.int .i8 k, .slice A n c] 25)).alloc (.cells #[.int .i8 0, .slice none 0 0] 25)).alloc (.cells #[.int .i8 k, .slice none 0 0] 25)) := (((Below.refl _ _).alloc (Nat.le_refl _) _).alloc (by simp) _).alloc (by simp; omega) _
  have hbx : (((w.alloc (.cells #[.int .i8 k, .slice A n c] 25)).alloc (.cells #[.int .i8 0, .slice none 0 0] 25)).alloc (.cells #[.int .i8 k, .slice none 0 0] 25)).heap[w.heap.size + 1 + 1]? = some (.cells #[.int .i8 k, .slice none 0 0] 25) := by
   exact zGC
  have hsz2 : (((w.alloc (.cells #[.int .i8 k, .slice A n c] 25)).alloc (.cells #[.int .i8 0, .slice none 0 0] 25)).alloc (.cells #[.int .i8 k, .slice none 0 0] 25)).heap.size = w.heap.size + 3 := by simp
  have hst : SRel w (((w.alloc (.cells #[.int .i8 k, .slice A n c] 25)).alloc (.cells #[.int .i8 0, .slice none 0 0] 25)).alloc (.cells #[.int .i8 k, .slice none 0 0] 25)) (w.heap.size + 3) (w.heap.size + 1 + 1) A k kids (.slice none 0 0) n 0 .nil kids [] :=
   ⟨rfl, rfl, by omega, hIs.lies, hb2, by omega, ⟨rfl, .inl ⟨rfl, rfl⟩⟩, ⟨rfl, by omega⟩, hbx, by omega, by omega, Nat.le_refl _⟩
  have HS := k0_ hst;have IH := k0_ ih;have HR1 := k0_ (show (((w.alloc (.cells #[.int .i8 k, .slice A n c] 25)).alloc (.cells #[.int .i8 0, .slice none 0 0] 25)).alloc (.cells #[.int .i8 k, .slice none 0 0] 25)).heap[w.heap.size + 1]? = _ from zG (vH w _ _).2.1 _);have HNE := k0_ hneq;clear hst ih hIs hb2 hbx hsz2 hneq
  go_enter Tryz.func66, Tryz.ntmps66
  go_wp2_with fail
  go_loopw [12] (fun v12 wr => ∃ (i : Nat) (done rest : Fo) (xs : List Value) (v : Value), v12 = .int .i64 i /\ SRel w wr (w.heap.size + 3) (w.heap.size + 1 + 1) A k kids v n i done rest xs /\ wr.heap[w.heap.size + 1]? = some (.cells #[.int .i8 0, .slice none 0 0] 25)) (fun v _ => n - (intOf v).toNat)
  case atStart => exact ⟨0, .nil, kids, [], _, rfl, HS.out, HR1.out⟩
  case round =>
   obtain ⟨i, done, rest, xs, v, rfl, hR, hres⟩ := hrel
   cases rest with
   | nil =>
    have hi2 : i = n := by have := hR.i_eq; simpa [Ty.len] using this
    subst hi2;obtain ⟨G, cg, rfl, hq1, hq2, hL⟩ := hR.done HNE.out;have HQ := k0_ (And.intro hq1 hq2);have HSZ := k0_ hR.size;have HB := k0_ hR.below;have HL := k0_ hL;obtain ⟨b0, b1, _, _, hb0⟩ := zF hR.box;obtain ⟨d0, d1, f0, f1, hd0⟩ := zF hres;clear hR hL hres hq1 hq2
    go_wp2_with fail
    refine bodyPost_ret (v := .agg #[.int .i8 k, .slice G i cg]) (by simp [results, Tryz.results66, go_sem, *]) rfl ⟨G, cg, by rw [HNE.out], by rw [← HNE.out]; exact HQ.out.1, HQ.out.2, ?_, ?_⟩
    ·have hsz : ∀ (W : World) (p1 p2 : Addr) (v1 v2 : Value), ((W.setCell p1 v1).setCell p2 v2).heap.size = W.heap.size := fun W p1 p2 v1 v2 => by simp [World.setCell]
     rw [hsz];refine (HL.out.keep fun b hP hx => ?_).mono (by omega) (Nat.le_refl _);rw [Below.heap_setCell _ _ _ _ (by show b ≠ w.heap.size + 1; omega), Below.heap_setCell _ _ _ _ (by show b ≠ w.heap.size + 1; omega)]
    ·exact (HB.out.setCell (p := ⟨w.heap.size + 1, 0, none⟩) (by simp) _).setCell (p := ⟨w.heap.size + 1, 1, none⟩) (by simp) _
   | node a b kk kd r =>
    have h1 := hR.i_eq;have h2 := hR.lies;have h3 := hR.sub;have h4 := hR.below;have HR := k0_ hR;have HRES := k0_ hres;simp only [Ty.len, Ty.nodes] at h1 h3;obtain ⟨bb, oo, B, cB, rfl, ⟨hk1, hk2⟩, c1, c2, hl1, hl2, hl3, hl4⟩ := h2;have c1' : wr.cell? ⟨bb, oo + i * 2, none⟩ = some (.int .i8 kk) := by rw [h4.cell (p := ⟨bb, _, none⟩) (Ty.zR c1)]; exact c1
    have c2' : wr.cell? ⟨bb, oo + i * 2 + 1, none⟩ = some (.slice B (Ty.len kd) cB) := by rw [h4.cell (p := ⟨bb, _, none⟩) (Ty.zR c2)]; exact c2
    have HC := k0_ (fun (W : World) (hb : Below wr.heap.size wr W) => IH.out kk kd B (Ty.len kd) cB W (by omega) ((show Ty.Is w kk kd B (Ty.len kd) cB from ⟨hl3, rfl, hl1, hl2, hk1, hk2⟩).below (h4.trans (hb.mono h4.size))) (by omega));have HL4 := k0_ hl4;have HKK := k0_ (And.intro hk1 hk2);have j1 : (i : Int) < n := by omega
    obtain ⟨b0, b1, f0, f1, hb0⟩ := zF hR.box;clear hR hres hl1 hl2 hl3 hl4 c1 c2 h4
    go_wp2_with fail
    have hb9 : Below wr.heap.size wr (wr.alloc (.cells #[.int .i8 kk, .slice B (Ty.len kd) cB] 25)) := (Below.refl _ _).alloc (Nat.le_refl _) _;have HBX := k0_ (zA hb9 hb0 HR.out.box);have HKX := k0_ (zD wr (.cells #[.int .i8 kk, .slice B (Ty.len kd) cB] 25));have HO9 := k0_ (ownsRow_below HR.out.own hb9);clear b0 b1 f0 f1 c1' c2';generalize hwk : wr.alloc (.cells #[.int .i8 kk, .slice B (Ty.len kd) cB] 25) = wk at *;have hws : wk.heap.size = wr.heap.size + 1 := by rw [← hwk]; simp
    have HWS := k0_ hws;have E1 : Below wr.heap.size wr wk.drew := hb9.drew;obtain ⟨b0, b1, f0, f1, hb0⟩ := zF HBX.out;obtain ⟨k0, k1, _, _, hk0⟩ := zF HKX.out;clear hb9 hwk hws
    go_region_law (first
     | (go_simp; go_at_call 66; (with_reducible refine (HC.out _ E1).mono ?_); rintro e u ⟨G, cg, rfl, hq1, hq2, hnew, hb⟩; have HNW := k0_ hnew; have HQ := k0_ (And.intro hq1 hq2); have HBU := k0_ hb; have HBO := k0_ (zA hb (show w.heap.size + 1 + 1 < wk.drew.heap.size from hb0) (show wk.drew.heap[w.heap.size + 1 + 1]? = _ from HBX.out)); have HOU := k0_ (ownsRow_below (show wk.drew.ownsRow _ _ _ _ _ _ from HO9.out) hb); obtain ⟨o0, o1, g0, g1, hol⟩ := zF HBO.out; clear hnew hb hq1 hq2; go_wp2_with fail)
     | (refine jN _ (by rfl) (.tmp 17) (.tmp 20) 23 (by rfl) (w.heap.size + 3) 25 i0 (.agg #[.int .i8 0, .slice none 0 0]) 2 32 Tryz.underlying23 hi hz0 hz1 hz2 (by rfl) (by decide) v i xs (by rfl) (HOU.out.alloc _) ⟨u.heap.size, 0, none⟩ 1 1 [.int .i8 kk, .slice G (Ty.len kd) cg] (by rfl) (by rfl) (qE (zD u _)) (by intro x hx; simp at hx; rcases hx with rfl | rfl <;> rfl) (by unfold maxLen; omega) (by omega) (by have h1 := HBO.out; have h2 := zC h1; simp; omega) ?_; intro v' w3 hown3 hg3 hat3; obtain ⟨Av, nv, cv, rfl⟩ := xX hown3; obtain ⟨q0, q1, r0, r1, ql⟩ := zF ((hg3.block (w.heap.size + 1 + 1) (by simp; omega) (fun e => by have := (HOU.out.lt _ e.symm).1; omega)).trans (zG HBO.out (.cells #[.int .i8 kk, .slice G (Ty.len kd) cg] 25))); have HOW3 := k0_ hown3; have HG3 := k0_ hg3; have HAT3 := k0_ hat3; clear hown3 hg3 hat3))
    all_goals
     go_wp2_with fail
     go_roundw
     case rel =>
      refine ⟨i + 1, _, r, _, .slice Av nv cv, by go_num, HR.out.step E1 HBU.out HKK.out HQ.out.1 HQ.out.2 HNW.out HOW3.out HG3.out (by simpa using HAT3.out) HL4.out, ?_⟩;exact zGX
     case measure => simp [intOf]; omega
end Go.Proofs.YtkdnnleanoompaaGreatDoor
namespace Go.Proofs.YtkdnnleanoompaaGreatDoor
set_option maxHeartbeats 1000000
set_option maxRecDepth 100000
open Go.RowKit
namespace Ty
theorem SepF.inP {w : World} {P : Nat -> Prop} : ∀ (f : Fo) (g i lo hi : Nat), P g -> (∀ b, lo <= b -> b < hi -> P b) -> SepF w g f i lo hi -> LiesP P w f (some ⟨g, 0, none⟩) i
 | .nil, _, _, _, _, _, _, _ => trivial
 | .node _ _ _ kids r, g, i, lo, hi, hg, hb, h => by
  obtain ⟨A, c, lo', hi', a1, a2, a3, a4, a5, a6, a7, a8, a9, a10⟩ := h;have hle := SepF.le r _ _ _ a10;refine ⟨g, 0, A, c, rfl, hg, a4, by rw [Nat.zero_add]; exact a7, by rw [Nat.zero_add]; exact a8, a5, a6, ?_, SepF.inP r g (i + 1) hi' hi hg (fun b h1 h2 => hb b (by omega) h2) a10⟩;rcases a9 with rfl | ⟨g', rfl, b2, b3, b4, b5⟩
  ·trivial
  ·exact SepF.inP kids g' 0 lo' hi' (hb g' (by omega) (by omega)) (fun b h1 h2 => hb b (by omega) (by omega)) b5
theorem SepK.inP {w : World} {k : Int} {kids : Fo} {A : Option Addr} {lo hi c : Nat} (h : SepK w kids A lo hi) (hk : -128 <= k /\ k <= 127) (h1 : len kids <= c) (h2 : c <= maxLen) : IsP (fun b => lo <= b /\ b < hi) w k kids A (len kids) c := by
 refine ⟨?_, rfl, h1, h2, hk.1, hk.2⟩;rcases h with rfl | ⟨g', rfl, a2, a3, a4, a5⟩
 ·trivial
 ·exact SepF.inP kids g' 0 lo hi ⟨a2, a3⟩ (fun b h1 h2 => ⟨h1, h2⟩) a5
end Ty
structure Turn (w w' : World) (p q lo hi : Nat) : Prop where
 os : w'.os = w.os
 tape : w'.tape = w.tape
 output : w'.output = w.output
 size : w.heap.size <= w'.heap.size
 block : ∀ b, b < w.heap.size -> (b < lo \/ hi <= b) -> b ≠ p -> w'.heap[b]? = w.heap[b]?
 cell : ∀ o, o ≠ q -> o ≠ q + 1 -> w'.cell? ⟨p, o, none⟩ = w.cell? ⟨p, o, none⟩
 froz : ∀ o, w'.frozen? ⟨p, o, none⟩ = w.frozen? ⟨p, o, none⟩
theorem Turn.of {w w' : World} {p q lo hi : Nat} (h : Below w.heap.size w w') (hp : p < w.heap.size) : Turn w w' p q lo hi :=
 ⟨h.os, h.tape, h.output, h.size, fun b hb _ _ => h.block b hb, fun o _ _ => h.cell (p := ⟨p, o, none⟩) hp, fun o => h.frozen (p := ⟨p, o, none⟩) hp⟩
theorem Turn.trans {a b c : World} {p q lo hi : Nat} (h : Turn a b p q lo hi) (k : Turn b c p q lo hi) : Turn a c p q lo hi :=
 ⟨k.os.trans h.os, k.tape.trans h.tape, k.output.trans h.output, Nat.le_trans h.size k.size, fun i h1 h2 h3 => (k.block i (Nat.lt_of_lt_of_le h1 h.size) h2 h3).trans (h.block i h1 h2 h3),
  fun o h1 h2 => (k.cell o h1 h2).trans (h.cell o h1 h2), fun o => (k.froz o).trans (h.froz o)⟩
theorem Turn.sub {w w' : World} {g q' lo' hi' p q lo hi : Nat} (h : Turn w w' g q' lo' hi') (hg1 : lo <= g) (hg2 : g < hi) (h1 : lo <= lo') (h2 : hi' <= hi) (hp : p < lo \/ hi <= p) (hps : p < w.heap.size) : Turn w w' p q lo hi := by
 have hpb := h.block p hps (by omega) (by omega);exact ⟨h.os, h.tape, h.output, h.size, fun b b1 b2 b3 => h.block b b1 (by omega) (by omega), fun o _ _ => World.cell?_of_block (w := w) (a := ⟨p, o, none⟩) hpb, fun o => World.frozen?_of_block (w := w) (a := ⟨p, o, none⟩) hpb⟩
theorem Turn.sets {w u : World} {p q lo hi : Nat} (h : Below w.heap.size w u) (hp : p < w.heap.size) (x y : Value) : Turn w ((u.setCell ⟨p, q, none⟩ x).setCell ⟨p, q + 1, none⟩ y) p q lo hi := by
 refine ⟨h.os, h.tape, h.output, by simp [World.setCell]; exact h.size, fun b b1 _ b3 => ?_, fun o h1 h2 => ?_, fun o => ?_⟩
 ·rw [Below.heap_setCell _ _ _ b b3, Below.heap_setCell _ _ _ b b3]; exact h.block b b1
 ·rw [World.cell?_setCell_other _ _ _ _ (fun e => by injection e with _ e; omega), World.cell?_setCell_other _ _ _ _ (fun e => by injection e with _ e; omega)]; exact h.cell (p := ⟨p, o, none⟩) hp
 ·rw [World.frozen?_setCell, World.frozen?_setCell]; exact h.frozen (p := ⟨p, o, none⟩) hp
theorem Turn.below {w w' : World} {p q lo hi n0 : Nat} (h : Turn w w' p q lo hi) (hlo : n0 <= lo) (hp : n0 <= p) (hs : n0 <= w.heap.size) : Below n0 w w' :=
 ⟨h.os, h.tape, h.output, h.size, fun b hb => h.block b (by omega) (by omega) (by omega)⟩
theorem zEC (args : Array Value) (W : World) : (callFunc 68 args).run Tryz.prog W = .ok (.enter 68 args) W := by simp [go_sem]
theorem zB1 (k' : Int) (kids' : Fo) (A' : Option Addr) (n' c' : Nat) (p q : Nat) (v1 : Value) (w : World) (h0 : w.cell? ⟨p, q, none⟩ = some (.int .i8 0)) (h1 : w.cell? ⟨p, q + 1, none⟩ = some v1) (f0 : w.frozen? ⟨p, q, none⟩ = false) (f1 : w.frozen? ⟨p, q + 1, none⟩ = false)
  (hIs' : Ty.Is w k' kids' A' n' c') (hsm : Ty.nodes kids' <= 8192) :
  Calls Tryz.prog 68 #[.pointer (some ⟨p, q, none⟩), .agg #[.int .i8 k', .slice A' n' c']] w fun e w' => e = .returned (.bool true) /\ ∃ u G c, Below w.heap.size w u /\ Ty.len kids' <= c /\ c <= maxLen /\ Ty.SepK u kids' G w.heap.size u.heap.size /\
   w' = (u.setCell ⟨p, q, none⟩ (.int .i8 k')).setCell ⟨p, q + 1, none⟩ (.slice G (Ty.len kids') c) := by
 have hlt := Ty.zR h0;have hb : Below w.heap.size w (w.alloc (.cells #[.int .i8 k', .slice A' n' c'] 25)) := (Below.refl _ _).alloc (Nat.le_refl _) _;have hbox := zD w (.cells #[.int .i8 k', .slice A' n' c'] 25);have hsz : (w.alloc (.cells #[.int .i8 k', .slice A' n' c'] 25)).heap.size = w.heap.size + 1 := by simp
 have HC := k0_ (yA (Ty.nodes kids' + 1) k' kids' A' n' c' _ (Nat.lt_succ_self _) (hIs'.below hb) hsm);obtain ⟨d0, d1, _, _, hd⟩ := zF hbox;have HB := k0_ hb;have HF := k0_ (And.intro f0 f1);have H1 := k0_ h1;have H0 := k0_ h0;have HSZ := k0_ hsz;clear hIs' hb hbox h1 f0 f1 hsz
 go_enter Tryz.func68, Tryz.ntmps68
 go_upto_region 2 with fail
 generalize w.alloc (.cells #[.int .i8 k', .slice A' n' c'] 25) = w1 at *
 go_wp2_with fail
 refine HC.out.mono ?_;rintro e u ⟨G, c, rfl, hc1, hc2, hsep, hb⟩;have hB := HB.out.trans (hb.mono HB.out.size);have e0 : u.cell? ⟨p, q, none⟩ = some (.int .i8 0) := by rw [hB.cell (p := ⟨p, q, none⟩) hlt]; exact H0.out
 have e1 : u.cell? ⟨p, q + 1, none⟩ = some v1 := by rw [hB.cell (p := ⟨p, q + 1, none⟩) hlt]; exact H1.out
 have e2 : u.frozen? ⟨p, q, none⟩ = false := by rw [hB.frozen (p := ⟨p, q, none⟩) hlt]; exact HF.out.1
 have e3 : u.frozen? ⟨p, q + 1, none⟩ = false := by rw [hB.frozen (p := ⟨p, q + 1, none⟩) hlt]; exact HF.out.2
 have HQ := k0_ (And.intro hc1 hc2);have HSP := k0_ hsep;have HBB := k0_ hB;clear d0 d1 hd hb hB hc1 hc2 hsep
 go_wp2_with fail
 go_ret
 exact ⟨rfl, u, G, c, HBB.out, HQ.out.1, HQ.out.2, HSP.out.mono (by have := HSZ.out; omega) (Nat.le_refl _), rfl⟩
theorem zDo (k k' : Int) (A' : Option Addr) (n' c' : Nat) (p q : Nat) (w : World) (h0 : w.cell? ⟨p, q, none⟩ = some (.int .i8 k)) (hk : k ≠ 0) :
  Calls Tryz.prog 68 #[.pointer (some ⟨p, q, none⟩), .agg #[.int .i8 k', .slice A' n' c']] w fun e w' => e = .returned (.bool (k' == 0)) /\ Below w.heap.size w w' := by
 have hlt := Ty.zR h0;have hz : (k == 0) = false := by simpa using hk
 have hb : Below w.heap.size w (w.alloc (.cells #[.int .i8 k', .slice A' n' c'] 25)) := (Below.refl _ _).alloc (Nat.le_refl _) _;clear hk
 go_enter Tryz.func68, Tryz.ntmps68
 go_wp2_with fail
 go_ret
 exact ⟨rfl, hb⟩
end Go.Proofs.YtkdnnleanoompaaGreatDoor
namespace Go.Proofs.YtkdnnleanoompaaGreatDoor
open Go.RowKit
def MeetPost (w : World) (p q lo hi : Nat) (k : Int) (kids : Fo) (k' : Int) (kids' : Fo) (e : Ending) (w' : World) : Prop :=
 e = .returned (.bool true) /\ Turn w w' p q lo hi /\ ∃ G c, w'.cell? ⟨p, q, none⟩ = some (.int .i8 (Ty.mK k k')) /\ w'.cell? ⟨p, q + 1, none⟩ = some (.slice G (Ty.len (Ty.mT k kids k' kids')) c) /\
  Ty.IsP (fun b => (lo <= b /\ b < hi) \/ w.heap.size <= b) w' (Ty.mK k k') (Ty.mT k kids k' kids') G (Ty.len (Ty.mT k kids k' kids')) c
structure Own (w : World) (k : Int) (kids : Fo) (A : Option Addr) (c p q lo hi n0 : Nat) : Prop where
 c0 : w.cell? ⟨p, q, none⟩ = some (.int .i8 k)
 c1 : w.cell? ⟨p, q + 1, none⟩ = some (.slice A (Ty.len kids) c)
 fz : ∀ o, w.frozen? ⟨p, o, none⟩ = false
 r : -128 <= k /\ k <= 127
 lc : Ty.len kids <= c
 cm : c <= maxLen
 sep : Ty.SepK w kids A lo hi
 le : lo <= hi
 hs : hi <= w.heap.size
 out : p < lo \/ hi <= p
 nlo : n0 <= lo
 np : n0 <= p
theorem Own.below {w w' : World} {k : Int} {kids : Fo} {A : Option Addr} {c p q lo hi n0 : Nat} (h : Own w k kids A c p q lo hi n0) (hb : Below w.heap.size w w') : Own w' k kids A c p q lo hi n0 := by
 have hp := Ty.zR h.c0;have hhs := h.hs
 exact ⟨by rw [hb.cell (p := ⟨p, q, none⟩) hp]; exact h.c0, by rw [hb.cell (p := ⟨p, q + 1, none⟩) hp]; exact h.c1, fun o => by rw [hb.frozen (p := ⟨p, o, none⟩) hp]; exact h.fz o, h.r, h.lc, h.cm,
  h.sep.keep fun b _ h2 => hb.block b (by omega), h.le, Nat.le_trans h.hs hb.size, h.out, h.nlo, h.np⟩
theorem kv {n0 : Nat} {w w' : World} {k : Int} {kids : Fo} {A : Option Addr} {n c : Nat} (h : Ty.IsP (fun b => b < n0) w k kids A n c) (hb : Below n0 w w') : Ty.IsP (fun b => b < n0) w' k kids A n c :=
 h.to fun b o v hP hc => ⟨hP, by rw [hb.cell (p := ⟨b, o, none⟩) hP]; exact hc⟩
theorem Own.two {w : World} {k k1 k2 : Int} {f1 f2 : Fo} {a1 a2 a3 a4 : Nat} {A : Option Addr} {c p q lo hi n0 : Nat} (h : Own w k (.node a1 a2 k1 f1 (.node a3 a4 k2 f2 .nil)) A c p q lo hi n0) :
  ∃ g B1 c1 B2 c2 l1 h1 l2 h2, A = some ⟨g, 0, none⟩ /\ lo <= g /\ g < hi /\ lo <= l1 /\ h1 <= l2 /\ h2 <= hi /\ Own w k1 f1 B1 c1 g 0 l1 h1 n0 /\ Own w k2 f2 B2 c2 g 2 l2 h2 n0 := by
 obtain ⟨e0, e1, fz, r, lc, cm, sep, le, hs, out, nlo, np⟩ := h;rcases sep with h | ⟨g, rfl, g1, g2, g3, g4⟩
 ·cases h
 ·obtain ⟨B1, c1, l1, h1, x1, x2, x3, x4, x5, x6, x7, x8, x9, B2, c2, l2, h2, y1, y2, y3, y4, y5, y6, y7, y8, y9, y10⟩ := g4
  have y10' : h2 <= hi := y10;refine ⟨g, B1, c1, B2, c2, l1, h1, l2, h2, rfl, g1, g2, x1, y1, y10', ⟨by simpa using x7, by simpa using x8, g3, x4, x5, x6, x9, x2, by omega, x3, by omega, by omega⟩, ⟨by simpa using y7, by simpa using y8, g3, y4, y5, y6, y9, y2, by omega, y3, by omega, by omega⟩⟩
theorem Own.other {w w' : World} {k2 : Int} {f2 : Fo} {B2 : Option Addr} {c2 g l1 h1 l2 h2 n0 : Nat} (h : Own w k2 f2 B2 c2 g 2 l2 h2 n0) (ht : Turn w w' g 0 l1 h1) (h1l : h1 <= l2) : Own w' k2 f2 B2 c2 g 2 l2 h2 n0 := by
 obtain ⟨e0, e1, fz, r, lc, cm, sep, le, hs, out, nlo, np⟩ := h;exact ⟨by rw [ht.cell 2 (by omega) (by omega)]; exact e0, by rw [ht.cell 3 (by omega) (by omega)]; exact e1, fun o => by rw [ht.froz]; exact fz o, r, lc, cm, sep.keep fun b q1 q2 => ht.block b (by omega) (by omega) (by omega), le, Nat.le_trans hs ht.size, out, nlo, np⟩
theorem Turn.zCz {w w' : World} {p q lo hi n : Nat} (h : Turn (w.drewN n) w' p q lo hi) : Turn w w' p q lo hi := ⟨h.os, h.tape, h.output, h.size, h.block, h.cell, h.froz⟩
structure MS1 (w3 wr : World) (k : Int) (g c p q lo hi : Nat) (m1 : Int) (t1 : Fo) (l1 h1 : Nat) : Prop where
 turn : Turn w3 wr p q lo hi
 x0 : wr.cell? ⟨p, q, none⟩ = some (.int .i8 k)
 x1 : wr.cell? ⟨p, q + 1, none⟩ = some (.slice (some ⟨g, 0, none⟩) 2 c)
 kid : ∃ G e, wr.cell? ⟨g, 0, none⟩ = some (.int .i8 m1) /\ wr.cell? ⟨g, 1, none⟩ = some (.slice G (Ty.len t1) e) /\ Ty.IsP (fun b => (l1 <= b /\ b < h1) \/ w3.heap.size <= b) wr m1 t1 G (Ty.len t1) e
structure MS2 (w3 wr : World) (k : Int) (g c p q lo hi : Nat) (m1 : Int) (t1 : Fo) (m2 : Int) (t2 : Fo) : Prop where
 turn : Turn w3 wr p q lo hi
 x0 : wr.cell? ⟨p, q, none⟩ = some (.int .i8 k)
 x1 : wr.cell? ⟨p, q + 1, none⟩ = some (.slice (some ⟨g, 0, none⟩) 2 c)
 kid1 : ∃ G e, wr.cell? ⟨g, 0, none⟩ = some (.int .i8 m1) /\ wr.cell? ⟨g, 1, none⟩ = some (.slice G (Ty.len t1) e) /\ Ty.IsP (fun b => (lo <= b /\ b < hi) \/ w3.heap.size <= b) wr m1 t1 G (Ty.len t1) e
 kid2 : ∃ G e, wr.cell? ⟨g, 2, none⟩ = some (.int .i8 m2) /\ wr.cell? ⟨g, 3, none⟩ = some (.slice G (Ty.len t2) e) /\ Ty.IsP (fun b => (lo <= b /\ b < hi) \/ w3.heap.size <= b) wr m2 t2 G (Ty.len t2) e
theorem ms1 {w3 w5 : World} {k p1 p1' p2 : Int} {f1 f1' f2 : Fo} {g c p q lo hi n0 l1 h1 l2 h2 c2 : Nat} {B2 : Option Addr} {e : Ending} (x0 : w3.cell? ⟨p, q, none⟩ = some (.int .i8 k)) (x1 : w3.cell? ⟨p, q + 1, none⟩ = some (.slice (some ⟨g, 0, none⟩) 2 c))
  (hg1 : lo <= g) (hg2 : g < hi) (q1 : lo <= l1) (q2 : h1 <= l2) (q3 : h2 <= hi) (out : p < lo \/ hi <= p) (OB : Own w3 p2 f2 B2 c2 g 2 l2 h2 n0) (hm : MeetPost (w3.drewN 1) g 0 l1 h1 p1 f1 p1' f1' e w5) :
  MS1 w3 w5 k g c p q lo hi (Ty.mK p1 p1') (Ty.mT p1 f1 p1' f1') l1 h1 /\ Own w5 p2 f2 B2 c2 g 2 l2 h2 n0 := by
 obtain ⟨rfl, ht0, G, e1, y0, y1, hi1⟩ := hm;have ht := ht0.zCz;have hps := Ty.zR x0;have hle := OB.le;have hpb : w5.heap[p]? = w3.heap[p]? := ht.block p hps (by omega) (by omega);exact ⟨⟨ht.sub hg1 hg2 q1 (by omega) out hps, by rw [World.cell?_of_block (w := w3) (a := ⟨p, q, none⟩) hpb]; exact x0, by rw [World.cell?_of_block (w := w3) (a := ⟨p, q + 1, none⟩) hpb]; exact x1, G, e1, y0, y1, hi1⟩, OB.other ht q2⟩
theorem ms2 {w3 wr w5 : World} {k m1 p2 p2' : Int} {t1 f2 f2' : Fo} {g c p q lo hi n0 l1 h1 l2 h2 c2 : Nat} {B2 : Option Addr} {e : Ending} (hM : MS1 w3 wr k g c p q lo hi m1 t1 l1 h1)
  (hg1 : lo <= g) (hg2 : g < hi) (q0 : g < l1 \/ h1 <= g) (q4 : l1 <= h1) (q1 : lo <= l1) (q2 : h1 <= l2) (q3 : h2 <= hi) (hhs : hi <= w3.heap.size) (out : p < lo \/ hi <= p) (OB : Own wr p2 f2 B2 c2 g 2 l2 h2 n0) (hm : MeetPost (wr.drewN 1) g 2 l2 h2 p2 f2 p2' f2' e w5) :
  MS2 w3 w5 k g c p q lo hi m1 t1 (Ty.mK p2 p2') (Ty.mT p2 f2 p2' f2') := by
 obtain ⟨rfl, ht0, G, e1, y0, y1, hi1⟩ := hm;have ht := ht0.zCz;have hle := OB.le;have hsz := hM.turn.size;obtain ⟨turn, x0, x1, G1, d1, z0, z1, hi0⟩ := hM;have hps := Ty.zR x0;have hpb : w5.heap[p]? = wr.heap[p]? := ht.block p hps (by omega) (by omega)
 refine ⟨turn.trans (ht.sub hg1 hg2 (by omega) q3 out hps), by rw [World.cell?_of_block (w := wr) (a := ⟨p, q, none⟩) hpb]; exact x0, by rw [World.cell?_of_block (w := wr) (a := ⟨p, q + 1, none⟩) hpb]; exact x1,
  ⟨G1, d1, by rw [ht.cell 0 (by omega) (by omega)]; exact z0, by rw [ht.cell 1 (by omega) (by omega)]; exact z1, hi0.to fun b o v hP hc => ?_⟩, ⟨G, e1, y0, y1, hi1.to fun b o v hP hc => ⟨?_, hc⟩⟩⟩
 ·have hb := Ty.zR hc
  refine ⟨by rcases hP with hP | hP <;> omega, ?_⟩;rw [World.cell?_of_block (w := wr) (a := ⟨b, o, none⟩) (ht.block b hb (by omega) (by omega))];exact hc
 ·have h9 : (wr.drewN 1).heap.size = wr.heap.size := rfl
  rcases hP with hP | hP
  ·left; omega
  ·right; omega
set_option maxHeartbeats 4000000 in
set_option maxRecDepth 100000 in
theorem zBu (K : Nat) : ∀ (k : Int) (kids : Fo) (A : Option Addr) (c : Nat) (k' : Int) (kids' : Fo) (A' : Option Addr) (n' c' : Nat) (p q lo hi n0 : Nat) (w : World), Ty.nodes kids < K -> Own w k kids A c p q lo hi n0 ->
  Ty.IsP (fun b => b < n0) w k' kids' A' n' c' -> Ty.okT k kids = true -> Ty.okT k' kids' = true -> Ty.nodes kids' <= 8192 -> Ty.agT k kids k' kids' = true ->
  Calls Tryz.prog 67 #[.pointer (some ⟨p, q, none⟩), .agg #[.int .i8 k', .slice A' n' c'], .func (Fn.func 68) #[] #[]] w (MeetPost w p q lo hi k kids k' kids') := by
 induction K with
 | zero => intro _ _ _ _ _ _ _ _ _ _ _ _ _ _ _ h; omega
 | succ K ih =>
  intro k kids A c k' kids' A' n' c' p q lo hi n0 w hK hO hIs' ho ho' hsm hag;have hcf := zEC;have hb1 : Below w.heap.size w (w.alloc (.cells #[.int .i8 k', .slice A' n' c'] 25)) := (Below.refl _ _).alloc (Nat.le_refl _) _;have hbox := zD w (.cells #[.int .i8 k', .slice A' n' c'] 25);generalize hw1 : w.alloc (.cells #[.int .i8 k', .slice A' n' c'] 25) = w1 at *;have HW := k0_ hw1;clear hw1;have hps := Ty.zR hO.c0;have hos := hO.hs;have hn0 : n0 <= w.heap.size := by have := hO.nlo; have := hO.le; omega
  have hO1 := hO.below hb1;have HI' := k0_ (kv hIs' (hb1.mono hn0));have IH := k0_ ih;have HB1 := k0_ hb1;have HX := k0_ hbox;have HO0 := k0_ hO;have HPS := k0_ hps;have HOS := k0_ hos;have HN0 := k0_ hn0;clear ih hIs' hb1 hbox hO hps hos hn0
  by_cases hk0 : k = 0
  ·subst hk0
   have HP := k0_ (zB1 k' kids' A' n' c' p q _ w1 hO1.c0 hO1.c1 (hO1.fz _) (hO1.fz _) HI'.out.is hsm);have HR := k0_ (And.intro HI'.out.lo HI'.out.hi);have HOO := k0_ hO1.out;clear ho ho' hag hO1;obtain ⟨d0, d1, _, _, hd0⟩ := zF HX.out
   go_enter Tryz.func67, Tryz.ntmps67
   go_upto_region 1 with fail
   rw [HW.out]
   go_wp2_with fail
   refine HP.out.mono ?_;rintro e w2 ⟨rfl, u, G, c2, hb, hc1, hc2, hsep, rfl⟩;have HBU := kt_ HB1 hb;have HSP := k0_ hsep;have HQ := k0_ (And.intro hc1 hc2);have HEX := k0_ (And.intro ((HBU.out.cell (p := ⟨p, q, none⟩) HPS.out).trans HO0.out.c0) ((HBU.out.cell (p := ⟨p, q + 1, none⟩) HPS.out).trans HO0.out.c1));generalize hwz : (u.setCell ⟨p, q, none⟩ (.int .i8 k')).setCell ⟨p, q + 1, none⟩ (.slice G (Ty.len kids') c2) = wz at *;have HWZ := k0_ hwz;clear hb hsep hc1 hc2 hwz
   go_wp2_with fail
   go_ret
   refine ⟨rfl, ?_, G, c2, ?_, ?_, ?_⟩
   ·rw [← HWZ.out]; exact Turn.sets HBU.out HPS.out _ _
   ·rw [← HWZ.out, World.cell?_setCell_other _ _ _ _ (fun e => by injection e with _ e; omega)]
    exact World.cell?_setCell_same _ _ _ HEX.out.1
   ·rw [← HWZ.out]
    exact World.cell?_setCell_same _ _ _ ((World.cell?_setCell_other _ _ _ _ (fun e => by injection e with _ e; omega)).trans HEX.out.2)
   ·refine (HSP.out.inP HR.out HQ.out.1 HQ.out.2).to fun b o v hP hc => ⟨.inr (by have := HB1.out.size; omega), ?_⟩
    have h1 := HB1.out.size;have hne : p ≠ b := by have := HPS.out; omega
    rw [← HWZ.out, World.cell?_setCell_other _ _ _ _ (fun e => hne (by injection e)), World.cell?_setCell_other _ _ _ _ (fun e => hne (by injection e))];exact hc
  have HP := k0_ (zDo k k' A' n' c' p q w1 hO1.c0 hk0);have HO1 := k0_ hO1;clear hO1
  by_cases hk0' : k' = 0
  ·subst hk0'
   clear ho ho' hag;obtain ⟨d0, d1, _, _, hd0⟩ := zF HX.out;have HK0 := k0_ hk0;clear hk0
   go_enter Tryz.func67, Tryz.ntmps67
   go_upto_region 1 with fail
   rw [HW.out]
   go_wp2_with fail
   refine HP.out.mono ?_;rintro e w2 ⟨rfl, hb⟩;have HBU := kt_ HB1 hb;clear hb
   go_wp2_with fail
   go_ret
   have hO2 := HO0.out.below HBU.out;refine ⟨rfl, Turn.of HBU.out HPS.out, A, c, ?_, ?_, ?_⟩
   ·rw [Ty.yC _ HK0.out]; exact hO2.c0
   ·rw [Ty.yf _ _ HK0.out]; exact hO2.c1
   ·rw [Ty.yC _ HK0.out, Ty.yf _ _ HK0.out]
    exact (hO2.sep.inP hO2.r hO2.lc hO2.cm).to fun b o v hP hc => ⟨.inl hP, hc⟩
  obtain rfl : k = k' := by
   by_cases e : k = k'
   ·exact e
   ·rw [Ty.uO _ _ hk0 hk0' e] at hag; cases hag
  have hz : (k == 0) = false := by simpa using hk0
  rw [hz] at HP;rw [Ty.xE _ _ hk0] at hag;have hk2 : (k != k) = false := by simp
  have HK0 := k0_ hk0
  by_cases hlow : k <= 2
  ·obtain rfl := Ty.jU ho hlow
   obtain rfl := Ty.jU ho' hlow;have hn' := HI'.out.n_eq;simp only [Ty.len] at hn';subst hn';clear ho ho' hag hlow hk0 hk0';obtain ⟨d0, d1, _, _, hd0⟩ := zF HX.out
   go_enter Tryz.func67, Tryz.ntmps67
   go_upto_region 1 with fail
   rw [HW.out]
   go_wp2_with fail
   refine HP.out.mono ?_;rintro e w2 ⟨rfl, hb⟩;clear d0 d1 hd0;have HBU := kt_ HB1 hb;have X2 := kp_ hb HX;have hO2 := HO0.out.below HBU.out;obtain ⟨d0, d1, _, _, hd0⟩ := zF X2.out;have e0 := hO2.c0;have e1 := hO2.c1;simp only [Ty.len] at e1;clear hb hO2
   go_wp2_with fail
   go_quiet (fail)
   have HB3 := k0_ (below_drewN HBU.out nq);have g0 : (w2.drewN nq).cell? ⟨p, q, none⟩ = some (.int .i8 k) := e0;have g1 : (w2.drewN nq).cell? ⟨p, q + 1, none⟩ = some (.slice A 0 c) := e1;clear e0 e1 d0 d1 hd0;generalize w2.drewN nq = w3 at *
   go_wp2_with fail
   go_loopw [24] (fun v24 wr => v24 = .int .i64 0 /\ wr = w3) (fun _ _ => 0)
   case atStart => exact ⟨rfl, rfl⟩
   case round =>
    obtain ⟨rfl, rfl⟩ := hrel
    go_wp2_with fail
    go_ret
    have hO3 := HO0.out.below HB3.out;have hm : Ty.mT k .nil k .nil = .nil := by rw [Ty.wZ _ _ HK0.out HK0.out]; rfl
    refine ⟨rfl, Turn.of HB3.out HPS.out, A, c, ?_, ?_, ?_⟩
    ·rw [Ty.yC _ HK0.out]; exact hO3.c0
    ·rw [hm]; exact hO3.c1
    ·rw [Ty.yC _ HK0.out, hm]
     exact ⟨trivial, rfl, Nat.zero_le _, hO3.cm, hO3.r.1, hO3.r.2⟩
  obtain ⟨a1, a2, p1, f1, a3, a4, p2, f2, rfl, o1, o2⟩ := Ty.jE ho (by omega);obtain ⟨a1', a2', p1', f1', a3', a4', p2', f2', rfl, o1', o2'⟩ := Ty.jE ho' (by omega)
  have hag2 : Ty.agT p1 f1 p1' f1' = true /\ Ty.agT p2 f2 p2' f2' = true := by
   unfold Ty.agT
   simpa [Ty.agF] using hag
  have hm : Ty.mT k (.node a1 a2 p1 f1 (.node a3 a4 p2 f2 .nil)) k (.node a1' a2' p1' f1' (.node a3' a4' p2' f2' .nil)) = .node a1 a2 (Ty.mK p1 p1') (Ty.mT p1 f1 p1' f1') (.node a3 a4 (Ty.mK p2 p2') (Ty.mT p2 f2 p2' f2') .nil) := by
   rw [Ty.wZ _ _ HK0.out HK0.out]; rfl
  obtain ⟨g, B1, c1, B2, c2, l1, h1, l2, h2, rfl, hg1, hg2, q1, q2, q3, OA, OB⟩ := HO0.out.two;obtain rfl : n' = 2 := HI'.out.n_eq;simp only [Ty.nodes] at hK hsm
  have hbbn : ∀ b o, A' = some ⟨b, o, none⟩ -> b < n0 := by
   obtain ⟨b, o, B, c9, e, hP, -⟩ := HI'.out.lies;intro b2 o2 e2;rw [e2] at e; injection e with e; injection e with e3 e4; rw [e3]; exact hP
  obtain ⟨bb, oo, U1, dd1, U2, dd2, rfl, y0, y1, y2, y3, i1, i2⟩ := Ty.LiesP.two HI'.out.lies;have HBB := k0_ (hbbn bb oo rfl);have HM := k0_ hm;have HG := k0_ (And.intro hg1 (And.intro hg2 (And.intro q1 (And.intro q2 q3))));have HOA := k0_ OA;have HOB := k0_ OB;have HOUT := k0_ HO0.out.out;have D1 := k0_ (fun (W : World) (hO : Own W p1 f1 B1 c1 g 0 l1 h1 n0) (hI : Ty.IsP (fun b => b < n0) W p1' f1' U1 (Ty.len f1') dd1) => IH.out p1 f1 B1 c1 p1' f1' U1 (Ty.len f1') dd1 g 0 l1 h1 n0 W (by omega) hO hI o1 o1' (by omega) hag2.1);have D2 := k0_ (fun (W : World) (hO : Own W p2 f2 B2 c2 g 2 l2 h2 n0) (hI : Ty.IsP (fun b => b < n0) W p2' f2' U2 (Ty.len f2') dd2) => IH.out p2 f2 B2 c2 p2' f2' U2 (Ty.len f2') dd2 g 2 l2 h2 n0 W (by omega) hO hI o2 o2' (by omega) hag2.2);have I1 := k0_ i1;have I2 := k0_ i2;clear ho ho' hag hag2 hm hlow hk0 hk0' hbbn i1 i2 o1 o2 o1' o2' OA OB hg1 hg2 q1 q2 q3 hK hsm IH;obtain ⟨d0, d1, _, _, hd0⟩ := zF HX.out;have HY := k0_ (And.intro y0 (And.intro y1 (And.intro y2 y3)));clear y0 y1 y2 y3
  go_enter Tryz.func67, Tryz.ntmps67
  go_upto_region 1 with fail
  rw [HW.out]
  go_wp2_with fail
  refine HP.out.mono ?_;rintro e w2 ⟨rfl, hb⟩;clear d0 d1 hd0;have HBU := kt_ HB1 hb;have HBV := k0_ (hb.mono (Nat.le_trans HN0.out HB1.out.size));have X2 := kp_ hb HX;have hO2 := HO0.out.below HBU.out;obtain ⟨d0, d1, _, _, hd0⟩ := zF X2.out;have e0 := hO2.c0;have e1 := hO2.c1;simp only [Ty.len, Nat.zero_add, Nat.reduceAdd] at e1;clear hb hO2
  go_wp2_with fail
  go_quiet (fail)
  have HB3 := k0_ (below_drewN HBU.out nq);have HBV3 := k0_ (below_drewN HBV.out nq);have g0 : (w2.drewN nq).cell? ⟨p, q, none⟩ = some (.int .i8 k) := e0;have g1 : (w2.drewN nq).cell? ⟨p, q + 1, none⟩ = some (.slice (some ⟨g, 0, none⟩) 2 c) := e1;have X3 := k0_ (show (w2.drewN nq).heap[w.heap.size]? = _ from X2.out);have hws : w1.heap.size <= (w2.drewN nq).heap.size := HBV3.out.size;clear e0 e1 d0 d1 hd0 HBU HBV X2;generalize w2.drewN nq = w3 at *;have HX0 := k0_ g0;have HX1 := k0_ g1;have HWS := k0_ (show w.heap.size + 1 <= w3.heap.size by have := zC X3.out; omega);clear hws
  go_wp2_with fail
  clear g0 g1
  go_loopw [24] (fun v24 wr => (v24 = .int .i64 0 /\ wr = w3) \/ (v24 = .int .i64 1 /\ MS1 w3 wr k g c p q lo hi (Ty.mK p1 p1') (Ty.mT p1 f1 p1' f1') l1 h1 /\ Own wr p2 f2 B2 c2 g 2 l2 h2 n0) \/
   (v24 = .int .i64 2 /\ MS2 w3 wr k g c p q lo hi (Ty.mK p1 p1') (Ty.mT p1 f1 p1' f1') (Ty.mK p2 p2') (Ty.mT p2 f2 p2' f2'))) (fun v _ => 2 - (intOf v).toNat)
  case atStart => exact .inl ⟨rfl, rfl⟩
  case round =>
   rcases hrel with ⟨rfl, hw⟩ | ⟨rfl, hM, hOB⟩ | ⟨rfl, hM⟩
   ·obtain rfl : w3 = wr := hw.symm
    have hBd := below_drewN (Below.refl w3.heap.size w3) 1;have e1 := HX1.out;obtain ⟨d0, d1, _, _, hd0⟩ := zF X3.out;have z0 : w3.cell? ⟨bb, oo, none⟩ = some (.int .i8 p1') := by rw [HBV3.out.cell (p := ⟨bb, oo, none⟩) HBB.out]; exact HY.out.1
    have z1 : w3.cell? ⟨bb, oo + 1, none⟩ = some (.slice U1 (Ty.len f1') dd1) := by rw [HBV3.out.cell (p := ⟨bb, oo + 1, none⟩) HBB.out]; exact HY.out.2.1
    have HC := k0_ (D1.out (w3.drewN 1) ((HOA.out.below HB3.out).below hBd) (kv I1.out (below_drewN HBV3.out 1)));have HN := k0_ (fun e w5 hm => ms1 (e := e) (w5 := w5) HX0.out HX1.out HG.out.1 HG.out.2.1 HG.out.2.2.1 HG.out.2.2.2.1 HG.out.2.2.2.2 HOUT.out (HOB.out.below HB3.out) (f1 := f1) (f1' := f1') (p1 := p1) (p1' := p1') (l1 := l1) hm);clear hBd hw
    go_wp2_with fail
    go_still_tail 12, (by kernel_rfl)
    change wpList _ _ _ _ _ (w3.drewN 1);clear e1 d0 d1 hd0 z0 z1;generalize w3.drewN 1 = w4 at *
    go_wp2_with fail
    refine HC.out.mono ?_;rintro e w5 hm;have HMS := k0_ (HN.out e w5 hm);obtain ⟨rfl, -⟩ := hm
    go_wp2_with fail
    go_roundw
    case rel => exact .inr (.inl ⟨by go_num, HMS.out.1, HMS.out.2⟩)
    case measure => simp [intOf]
   ·have hTs := hM.turn.size
    have hbx : wr.heap[w.heap.size]? = w3.heap[w.heap.size]? := hM.turn.block _ (zC X3.out) (.inr HOS.out) (by have := HPS.out; omega);have hbn : Below n0 w3 wr := hM.turn.below HO0.out.nlo HO0.out.np (Nat.le_trans HN0.out HB3.out.size);have hBd := below_drewN (Below.refl wr.heap.size wr) 1;have e1 := hM.x1;obtain ⟨d0, d1, _, _, hd0⟩ := zF (hbx.trans X3.out);have z0 : wr.cell? ⟨bb, oo + 2, none⟩ = some (.int .i8 p2') := by rw [(HBV3.out.trans hbn).cell (p := ⟨bb, oo + 2, none⟩) HBB.out]; exact HY.out.2.2.1
    have z1 : wr.cell? ⟨bb, oo + 3, none⟩ = some (.slice U2 (Ty.len f2') dd2) := by rw [(HBV3.out.trans hbn).cell (p := ⟨bb, oo + 3, none⟩) HBB.out]; exact HY.out.2.2.2
    have HC := k0_ (D2.out (wr.drewN 1) (hOB.below hBd) (kv I2.out (below_drewN (HBV3.out.trans hbn) 1)));have HN := k0_ (fun e w5 hm => ms2 (e := e) (w5 := w5) hM HG.out.1 HG.out.2.1 HOA.out.out HOA.out.le HG.out.2.2.1 HG.out.2.2.2.1 HG.out.2.2.2.2 (Nat.le_trans HOS.out HB3.out.size) HOUT.out hOB (f2 := f2) (f2' := f2') (p2 := p2) (p2' := p2') hm);clear hBd hM hOB hbx hbn hTs
    go_wp2_with fail
    go_still_tail 12, (by kernel_rfl)
    change wpList _ _ _ _ _ (wr.drewN 1);clear e1 d0 d1 hd0 z0 z1;generalize wr.drewN 1 = w4 at *
    go_wp2_with fail
    refine HC.out.mono ?_;rintro e w5 hm;have HMS := k0_ (HN.out e w5 hm);obtain ⟨rfl, -⟩ := hm
    go_wp2_with fail
    go_roundw
    case rel => exact .inr (.inr ⟨by go_num, HMS.out⟩)
    case measure => simp [intOf]
   ·have HMM := k0_ hM
    clear hM
    go_wp2_with fail
    go_ret
    have hM := HMM.out;obtain ⟨G1, d1, k10, k11, k12⟩ := hM.kid1;obtain ⟨G2, d2, k20, k21, k22⟩ := hM.kid2;have hO3 := HO0.out;have hsz := HB3.out.size;have hPP : ∀ b, ((lo <= b /\ b < hi) \/ w3.heap.size <= b) -> ((lo <= b /\ b < hi) \/ w.heap.size <= b) := fun b h => h.imp id (fun h => Nat.le_trans hsz h)
    refine ⟨rfl, (Turn.of HB3.out HPS.out).trans hM.turn, some ⟨g, 0, none⟩, c, ?_, ?_, ?_⟩
    ·rw [Ty.yC _ HK0.out]; exact hM.x0
    ·rw [HM.out]; exact hM.x1
    ·rw [Ty.yC _ HK0.out, HM.out]
     have j1 := k12.to (P' := fun b => (lo <= b /\ b < hi) \/ w.heap.size <= b) (w' := wr) fun b o v hP hc => ⟨hPP b hP, hc⟩
     have j2 := k22.to (P' := fun b => (lo <= b /\ b < hi) \/ w.heap.size <= b) (w' := wr) fun b o v hP hc => ⟨hPP b hP, hc⟩
     refine ⟨⟨g, 0, G1, d1, rfl, .inl ⟨HG.out.1, HG.out.2.1⟩, ⟨j1.lo, j1.hi⟩, k10, k11, j1.n_le, j1.c_le, j1.lies, ?_⟩, rfl, hO3.lc, hO3.cm, hO3.r.1, hO3.r.2⟩;exact ⟨g, 0, G2, d2, rfl, .inl ⟨HG.out.1, HG.out.2.1⟩, ⟨j2.lo, j2.hi⟩, k20, k21, j2.n_le, j2.c_le, j2.lies, trivial⟩
end Go.Proofs.YtkdnnleanoompaaGreatDoor
