import Derived.Test.YtglgjaomneljbacGreatDoorM15
import Derived.Test.YtglgjaomneljbacGreatDoorM17
namespace Go.Proofs.YtglgjaomneljbacGreatDoor
open Go.RowKit
namespace Ty
def SepF (w : World) (g : Nat) : Fo → Nat → Nat → Nat → Prop
 | .nil, _, lo, hi => lo ≤ hi
 | .node _ _ k kids r, i, lo, hi => ∃ A c lo' hi', lo ≤ lo' ∧ lo' ≤ hi' ∧ (g < lo' ∨ hi' ≤ g) ∧ (-128 ≤ k ∧ k ≤ 127) ∧ len kids ≤ c ∧ c ≤ maxLen ∧
   w.cell? ⟨g, i * 2, none⟩ = some (.int .i8 k) ∧ w.cell? ⟨g, i * 2 + 1, none⟩ = some (.slice A (len kids) c) ∧
   (kids = .nil ∨ ∃ g', A = some ⟨g', 0, none⟩ ∧ lo' ≤ g' ∧ g' < hi' ∧ (∀ o, w.frozen? ⟨g', o, none⟩ = false) ∧ SepF w g' kids 0 lo' hi') ∧ SepF w g r (i + 1) hi' hi
def SepK (w : World) (kids : Fo) (A : Option Addr) (lo hi : Nat) : Prop :=
 kids = .nil ∨ ∃ g', A = some ⟨g', 0, none⟩ ∧ lo ≤ g' ∧ g' < hi ∧ (∀ o, w.frozen? ⟨g', o, none⟩ = false) ∧ SepF w g' kids 0 lo hi
theorem SepF.le {w : World} {g : Nat} : ∀ (f : Fo) (i lo hi : Nat), SepF w g f i lo hi → lo ≤ hi
 | .nil, _, _, _, h => h
 | .node _ _ _ _ r, i, lo, hi, h => by
  obtain ⟨A, c, lo', hi', h1, h2, _, _, _, _, _, _, _, h3⟩ := h
  have := SepF.le r _ _ _ h3
  omega
theorem SepF.mono {w : World} {g : Nat} : ∀ (f : Fo) (i lo hi lo2 hi2 : Nat), lo2 ≤ lo → hi ≤ hi2 → SepF w g f i lo hi → SepF w g f i lo2 hi2
 | .nil, _, lo, hi, lo2, hi2, h1, h2, h => by have h' : lo ≤ hi := h; show lo2 ≤ hi2; omega
 | .node _ _ _ _ r, i, lo, hi, lo2, hi2, h1, h2, h => by
  obtain ⟨A, c, lo', hi', a1, a2, a3, a4, a5, a6, a7, a8, a9, a10⟩ := h
  exact ⟨A, c, lo', hi', by omega, a2, a3, a4, a5, a6, a7, a8, a9, SepF.mono r _ _ _ _ _ (Nat.le_refl _) h2 a10⟩
theorem SepK.mono {w : World} {kids : Fo} {A : Option Addr} {lo hi lo2 hi2 : Nat} (h1 : lo2 ≤ lo) (h2 : hi ≤ hi2) (h : SepK w kids A lo hi) : SepK w kids A lo2 hi2 := by
 rcases h with h | ⟨g', a1, a2, a3, a4, a5⟩
 ·exact .inl h
 ·exact .inr ⟨g', a1, by omega, by omega, a4, SepF.mono _ _ _ _ _ _ h1 h2 a5⟩
theorem SepF.keep {w w' : World} : ∀ (f : Fo) (g i lo hi : Nat), (∀ o v, i * 2 ≤ o → w.cell? ⟨g, o, none⟩ = some v → w'.cell? ⟨g, o, none⟩ = some v) → (∀ b, lo ≤ b → b < hi → b ≠ g → w'.heap[b]? = w.heap[b]?) → SepF w g f i lo hi → SepF w' g f i lo hi
 | .nil, _, _, _, _, _, _, h => h
 | .node _ _ _ kids r, g, i, lo, hi, hg, hb, h => by
  obtain ⟨A, c, lo', hi', a1, a2, a3, a4, a5, a6, a7, a8, a9, a10⟩ := h
  have hle := SepF.le r _ _ _ a10
  refine ⟨A, c, lo', hi', a1, a2, a3, a4, a5, a6, hg _ _ (Nat.le_refl _) a7, hg _ _ (by omega) a8, ?_, SepF.keep r g (i + 1) hi' hi (fun o v ho => hg o v (by omega)) (fun b h1 h2 => hb b (by omega) h2) a10⟩
  rcases a9 with e | ⟨g', b1, b2, b3, b4, b5⟩
  ·exact .inl e
  ·have hbk := fun b (h1 : lo' ≤ b) (h2 : b < hi') => hb b (by omega) (by omega) (by rcases a3 with a3 | a3 <;> omega)
   refine .inr ⟨g', b1, b2, b3, fun o => by rw [World.frozen?_of_block (hbk g' b2 b3)]; exact b4 o, SepF.keep kids g' 0 lo' hi' (fun o v _ hc => by rw [World.cell?_of_block (hbk g' b2 b3)]; exact hc) (fun b h1 h2 _ => hbk b h1 h2) b5⟩
theorem SepK.keep {w w' : World} {kids : Fo} {A : Option Addr} {lo hi : Nat} (hb : ∀ b, lo ≤ b → b < hi → w'.heap[b]? = w.heap[b]?) (h : SepK w kids A lo hi) : SepK w' kids A lo hi := by
 rcases h with h | ⟨g', a1, a2, a3, a4, a5⟩
 ·exact .inl h
 ·exact .inr ⟨g', a1, a2, a3, fun o => by rw [World.frozen?_of_block (hb g' a2 a3)]; exact a4 o, SepF.keep kids g' 0 lo hi (fun o v _ hc => by rw [World.cell?_of_block (hb g' a2 a3)]; exact hc) (fun b h1 h2 _ => hb b h1 h2) a5⟩
theorem SepF.lies {w u : World} : ∀ (f : Fo) (g i lo hi : Nat), (∀ o v, w.cell? ⟨g, o, none⟩ = some v → u.cell? ⟨g, o, none⟩ = some v) → (∀ b o v, lo ≤ b → b < hi → w.cell? ⟨b, o, none⟩ = some v → u.cell? ⟨b, o, none⟩ = some v) → SepF w g f i lo hi → Lies u f (some ⟨g, 0, none⟩) i
 | .nil, _, _, _, _, _, _, _ => trivial
 | .node _ _ _ kids r, g, i, lo, hi, hg, hb, h => by
  obtain ⟨A, c, lo', hi', a1, a2, a3, a4, a5, a6, a7, a8, a9, a10⟩ := h
  have hle := SepF.le r _ _ _ a10
  refine ⟨g, 0, A, c, rfl, a4, by rw [Nat.zero_add]; exact hg _ _ a7, by rw [Nat.zero_add]; exact hg _ _ a8, a5, a6, ?_, SepF.lies r g (i + 1) hi' hi hg (fun b o v h1 h2 => hb b o v (by omega) h2) a10⟩
  rcases a9 with rfl | ⟨g', rfl, b2, b3, b4, b5⟩
  ·trivial
  ·have hbk := fun b o v (h1 : lo' ≤ b) (h2 : b < hi') => hb b o v (by omega) (by omega)
   exact SepF.lies kids g' 0 lo' hi' (fun o v hc => hbk g' o v b2 b3 hc) hbk b5
def FlatS (w : World) (vb : Option Nat) : Fo → List Value → Nat → Nat → Prop
 | .nil, xs, lo, hi => xs = [] ∧ lo ≤ hi
 | .node _ _ k kids r, xs, lo, hi => ∃ A c lo' hi' ys, xs = .int .i8 k :: .slice A (len kids) c :: ys ∧ lo ≤ lo' ∧ lo' ≤ hi' ∧ (∀ g, vb = some g → g < lo' ∨ hi' ≤ g) ∧ (-128 ≤ k ∧ k ≤ 127) ∧ len kids ≤ c ∧ c ≤ maxLen ∧ SepK w kids A lo' hi' ∧ FlatS w vb r ys hi' hi
theorem FlatS.le {w : World} {vb : Option Nat} : ∀ (f : Fo) (xs : List Value) (lo hi : Nat), FlatS w vb f xs lo hi → lo ≤ hi
 | .nil, _, _, _, h => h.2
 | .node _ _ _ _ r, _, lo, hi, h => by
  obtain ⟨A, c, lo', hi', ys, rfl, h1, h2, _, _, _, _, _, h3⟩ := h
  have := FlatS.le r _ _ _ h3
  omega
theorem FlatS.snoc {w : World} {vb : Option Nat} {a b : Nat} {k : Int} {kids : Fo} {A : Option Addr} {c lo' hi' : Nat} (h1 : lo' ≤ hi') (h2 : ∀ g, vb = some g → g < lo' ∨ hi' ≤ g) (hk : -128 ≤ k ∧ k ≤ 127) (h3 : len kids ≤ c) (h4 : c ≤ maxLen) (h5 : SepK w kids A lo' hi') :
  ∀ (f : Fo) (xs : List Value) (lo hi : Nat), hi ≤ lo' → FlatS w vb f xs lo hi → FlatS w vb (cat f (.node a b k kids .nil)) (xs ++ [.int .i8 k, .slice A (len kids) c]) lo hi'
 | .nil, xs, lo, hi, hh, h => by
  obtain ⟨rfl, hl⟩ := h
  exact ⟨A, c, lo', hi', [], rfl, by omega, h1, h2, hk, h3, h4, h5, rfl, Nat.le_refl _⟩
 | .node _ _ _ _ r, xs, lo, hi, hh, h => by
  obtain ⟨A', c', lo2, hi2, ys, rfl, a1, a2, a3, a4, a5, a6, a7, a8⟩ := h
  exact ⟨A', c', lo2, hi2, _, rfl, a1, a2, a3, a4, a5, a6, a7, FlatS.snoc h1 h2 hk h3 h4 h5 r ys hi2 hi hh a8⟩
theorem FlatS.to {w w' : World} {vb vb' : Option Nat} : ∀ (f : Fo) (xs : List Value) (lo hi : Nat), (∀ b, lo ≤ b → b < hi → vb ≠ some b → w'.heap[b]? = w.heap[b]?) → (∀ g, vb' = some g → vb = some g ∨ hi ≤ g) → FlatS w vb f xs lo hi → FlatS w' vb' f xs lo hi
 | .nil, _, _, _, _, _, h => h
 | .node _ _ _ kids r, xs, lo, hi, hb, hv, h => by
  obtain ⟨A', c', lo2, hi2, ys, rfl, a1, a2, a3, a4, a5, a6, a7, a8⟩ := h
  have hle := FlatS.le r _ _ _ a8
  refine ⟨A', c', lo2, hi2, ys, rfl, a1, a2, fun g hg => ?_, a4, a5, a6, a7.keep fun b h1 h2 => hb b (by omega) (by omega) (fun e => by rcases a3 b e with h | h <;> omega), FlatS.to r ys hi2 hi (fun b h1 h2 => hb b (by omega) h2) hv a8⟩
  rcases hv g hg with h | h
  ·exact a3 g h
  ·right; omega
theorem FlatS.up {w : World} {vb : Option Nat} : ∀ (f : Fo) (xs : List Value) (lo hi hi2 : Nat), hi ≤ hi2 → FlatS w vb f xs lo hi → FlatS w vb f xs lo hi2
 | .nil, _, _, _, _, hh, h => ⟨h.1, Nat.le_trans h.2 hh⟩
 | .node _ _ _ _ r, _, lo, hi, hi2, hh, h => by
  obtain ⟨A, c, lo', hi', ys, e, h1, h2, h3, h4, h5, h6, h7, h8⟩ := h
  exact ⟨A, c, lo', hi', ys, e, h1, h2, h3, h4, h5, h6, h7, FlatS.up r ys hi' hi hi2 hh h8⟩
theorem FlatS.sep {w : World} {g : Nat} : ∀ (f : Fo) (xs : List Value) (i lo hi : Nat), FlatS w (some g) f xs lo hi → (∀ j x, xs[j]? = some x → w.cell? ⟨g, i * 2 + j, none⟩ = some x) → SepF w g f i lo hi
 | .nil, _, _, _, _, h, _ => h.2
 | .node _ _ k kids r, _, i, lo, hi, h, hc => by
  obtain ⟨A', c', lo2, hi2, ys, rfl, a1, a2, a3, a4, a5, a6, a7, a8⟩ := h
  refine ⟨A', c', lo2, hi2, a1, a2, a3 g rfl, a4, a5, a6, hc 0 _ rfl, hc 1 _ rfl, a7, FlatS.sep r ys (i + 1) hi2 hi a8 fun j x hx => ?_⟩
  have := hc (j + 2) x (by simpa using hx)
  rwa [show i * 2 + (j + 2) = (i + 1) * 2 + j by omega] at this
end Ty
def CopyS (w : World) (k : Int) (kids : Fo) (e : Ending) (w' : World) : Prop :=
 ∃ G c, e = .returned (.agg #[.int .i8 k, .slice G (Ty.len kids) c]) ∧ Ty.len kids ≤ c ∧ c ≤ maxLen ∧ Ty.SepK w' kids G w.heap.size w'.heap.size ∧ Below w.heap.size w w'
structure SRel (w wr : World) (n0 O : Nat) (A : Option Addr) (k : Int) (kids : Fo) (v : Value) (n i : Nat) (done rest : Fo) (xs : List Value) : Prop where
 eq : Ty.cat done rest = kids
 len : Ty.len done = i
 i_eq : i + Ty.len rest = n
 lies : Ty.Lies w rest A i
 below : Below w.heap.size w wr
 size : n0 ≤ wr.heap.size
 own : wr.ownsRow n0 25 2 v i xs
 flat : Ty.FlatS wr v.ownBlock done xs n0 wr.heap.size
 box : wr.heap[O]? = some (.cells #[.int .i8 k, v] 25 (0, 0))
 olt : O < n0
 ole : w.heap.size ≤ O
 sub : Ty.nodes rest ≤ Ty.nodes kids
theorem SRel.step {w wr W u w3 : World} {n0 O : Nat} {A : Option Addr} {k : Int} {kids : Fo} {v v' : Value} {n i a b : Nat} {done r kd : Fo} {kk : Int} {xs : List Value} {G : Option Addr} {c : Nat} {o2 : Obj}
  (h : SRel w wr n0 O A k kids v n i done (.node a b kk kd r) xs) (hW : Below wr.heap.size wr W) (hb : Below W.heap.size W u) (hkk : -128 ≤ kk ∧ kk ≤ 127) (hc1 : Ty.len kd ≤ c) (hc2 : c ≤ maxLen) (hI : Ty.SepK u kd G W.heap.size u.heap.size)
  (hown : w3.ownsRow n0 25 2 v' (i + 1) (xs ++ [.int .i8 kk, .slice G (Ty.len kd) c])) (hg : (u.alloc o2).grownBy w3 v.ownBlock) (hat : v'.ownBlock = v.ownBlock ∨ v'.ownBlock = some (u.alloc o2).heap.size) (hl : Ty.Lies w r A (i + 1)) :
  SRel w (w3.setCell ⟨O, 1, none⟩ v') n0 O A k kids v' n (i + 1) (Ty.cat done (.node a b kk kd .nil)) r (xs ++ [.int .i8 kk, .slice G (Ty.len kd) c]) := by
 obtain ⟨h1, h2, h3, h4, h5, hsz, h6, h7, hbox, h9, h10, h8⟩ := h
 simp only [Ty.len, Ty.nodes] at h3 h8
 have hlt := h6.lt
 have hs2 := hb.size
 have hs3 : u.heap.size + 1 = (u.alloc o2).heap.size := by simp
 have hwW := hW.size
 have hwu : Below wr.heap.size wr (u.alloc o2) := (hW.trans (hb.mono hwW)).alloc (by omega) o2
 have hg2 := hg.size
 have hvO : some O ≠ v.ownBlock := fun e => by have := (hlt O e.symm).1; omega
 have hb3 : w3.heap[O]? = some (.cells #[.int .i8 k, v] 25 (0, 0)) := by
  rw [hg.block O (by omega) hvO, hwu.block O (zC hbox)]; exact hbox
 have hss : (w3.setCell ⟨O, 1, none⟩ v').heap.size = w3.heap.size := by simp [World.setCell]
 have hcell : ∀ b', b' ≠ O → (w3.setCell ⟨O, 1, none⟩ v').heap[b']? = w3.heap[b']? := fun b' hne => Below.heap_setCell _ _ _ b' hne
 have hown2 : (w3.setCell ⟨O, 1, none⟩ v').ownsRow n0 25 2 v' (i + 1) (xs ++ [.int .i8 kk, .slice G (Ty.len kd) c]) := by
  exact zEH
 refine ⟨by rw [Ty.kP]; exact h1, by rw [Ty.xM]; omega, by omega, hl, ?_, by rw [hss]; omega, hown2, ?_, ?_, h9, h10, by omega⟩
 ·exact ((h5.trans (hwu.mono h5.size)).grown hg (Nat.le_trans h5.size hwu.size) fun q hq => by have := (hlt q hq).1; omega).setCell h10 _
 ·have hnew : Ty.FlatS (w3.setCell ⟨O, 1, none⟩ v') v'.ownBlock done xs n0 wr.heap.size := by
   refine Ty.FlatS.to done xs n0 wr.heap.size (fun b' q1 q2 q3 => ?_) (fun g e => ?_) h7
   ·rw [hcell b' (by omega), hg.block b' (by omega) (fun e => q3 e.symm), hwu.block b' q2]
   ·rcases hat with q | q
    ·exact .inl (by rw [← q]; exact e)
    ·rw [q] at e; injection e with e; exact .inr (by omega)
  have hsep : Ty.SepK (w3.setCell ⟨O, 1, none⟩ v') kd G W.heap.size u.heap.size := by
   refine hI.keep fun b' q1 q2 => ?_
   rw [hcell b' (by omega), hg.block b' (by omega) (fun e => by have := (hlt b' e.symm).2; omega), Below.heap_alloc _ _ _ q2]
  have := Ty.FlatS.snoc (a := a) (b := b) hs2 (fun g e => ?_) hkk hc1 hc2 hsep done xs n0 wr.heap.size hwW hnew
  ·rw [hss]
   exact Ty.FlatS.up _ _ _ _ _ (by omega) this
  ·rcases hat with q | q
   ·rw [q] at e; have := (hlt g e).2; left; omega
   ·rw [q] at e; injection e with e; right; omega
 ·simp [World.setCell, Array.getElem?_modify, hb3]
theorem SRel.done {w wr : World} {n0 O : Nat} {A : Option Addr} {k : Int} {kids done : Fo} {v : Value} {n : Nat} {xs : List Value} (h : SRel w wr n0 O A k kids v n n done .nil xs) (hn : n = Ty.len kids) :
  ∃ G c, v = .slice G n c ∧ n ≤ c ∧ c ≤ maxLen ∧ Ty.SepK wr kids G n0 wr.heap.size := by
 obtain ⟨h1, h2, h3, h4, h5, hsz, h6, h7, hbox, h9, h10, h8⟩ := h
 rw [Ty.xY] at h1
 subst h1
 have hc := fun g hg => h6.cells (g := g) hg
 rcases h6.2 with ⟨hv, h0⟩ | ⟨g, cap, cur, rfl, hb, hg, h1, h2', _⟩
 ·have hd : done = .nil := by
   cases done with
   | nil => rfl
   | node _ _ _ _ _ => simp only [Ty.len] at h2; omega
  subst hd
  obtain rfl : n = 0 := by omega
  exact ⟨none, 0, hv, Nat.le_refl _, Nat.zero_le _, .inl rfl⟩
 ·refine ⟨_, cap, rfl, h1, h2', .inr ⟨g, rfl, hb, zC hg, fun o => by simp [World.frozen?, hg], ?_⟩⟩
  refine Ty.FlatS.sep done xs 0 n0 wr.heap.size h7 fun j x hx => ?_
  have := hc g rfl j x hx
  rw [show (⟨g, 0, none⟩ : Addr).add j = ⟨g, j, none⟩ by unfold Addr.add; by_cases h : j = 0 <;> simp [h]] at this
  rw [Nat.zero_mul, Nat.zero_add]
  exact this
set_option maxHeartbeats 4000000 in
set_option maxRecDepth 100000 in
theorem jy (K : Nat) : ∀ (k : Int) (kids : Fo) (A : Option Addr) (n c : Nat) (w : World), Ty.nodes kids < K → Ty.Is w k kids A n c → Ty.nodes kids ≤ 8192 →
  Calls Tryz.prog 69 #[.agg #[.int .i8 k, .slice A n c]] w (CopyS w k kids) := by
 induction K with
 | zero => intro _ _ _ _ _ _ hK; omega
 | succ K ih =>
  intro k kids A n c w hK hIs hsm
  have hln := Ty.qY kids
  have hneq := hIs.n_eq
  have hlo := hIs.lo
  have hhi := hIs.hi
  have i5 : (n : Int) ≤ 8192 := by omega
  obtain ⟨i0, hi, hz0, hz1, hz2⟩ := info_parts zAa
  have hb2 : Below w.heap.size w (((w.alloc (.cells #[.int .i8 k, .slice A n c] 25)).alloc (.cells #[.int .i8 0, .slice none 0 0] 25)).alloc (.cells #[.int .i8 k, .slice none 0 0] 25)) := (((Below.refl _ _).alloc (Nat.le_refl _) _).alloc (by simp) _).alloc (by simp; omega) _
  have hbx : (((w.alloc (.cells #[.int .i8 k, .slice A n c] 25)).alloc (.cells #[.int .i8 0, .slice none 0 0] 25)).alloc (.cells #[.int .i8 k, .slice none 0 0] 25)).heap[w.heap.size + 1 + 1]? = some (.cells #[.int .i8 k, .slice none 0 0] 25) := by
   exact zDz
  have hsz2 : (((w.alloc (.cells #[.int .i8 k, .slice A n c] 25)).alloc (.cells #[.int .i8 0, .slice none 0 0] 25)).alloc (.cells #[.int .i8 k, .slice none 0 0] 25)).heap.size = w.heap.size + 3 := by simp
  have hst : SRel w (((w.alloc (.cells #[.int .i8 k, .slice A n c] 25)).alloc (.cells #[.int .i8 0, .slice none 0 0] 25)).alloc (.cells #[.int .i8 k, .slice none 0 0] 25)) (w.heap.size + 3) (w.heap.size + 1 + 1) A k kids (.slice none 0 0) n 0 .nil kids [] :=
   ⟨rfl, rfl, by omega, hIs.lies, hb2, by omega, ⟨rfl, .inl ⟨rfl, rfl⟩⟩, ⟨rfl, by omega⟩, hbx, by omega, by omega, Nat.le_refl _⟩
  have HS := k0_ hst
  have IH := k0_ ih
  have HR1 := k0_ (show (((w.alloc (.cells #[.int .i8 k, .slice A n c] 25)).alloc (.cells #[.int .i8 0, .slice none 0 0] 25)).alloc (.cells #[.int .i8 k, .slice none 0 0] 25)).heap[w.heap.size + 1]? = _ from zF (jS w _ _).2.1 _)
  have HNE := k0_ hneq
  clear hst ih hIs hb2 hbx hsz2 hneq
  go_enter Tryz.func69, Tryz.ntmps69
  go_wp2_with fail
  go_loopw [12] (fun v12 wr => ∃ (i : Nat) (done rest : Fo) (xs : List Value) (v : Value), v12 = .int .i64 i ∧ SRel w wr (w.heap.size + 3) (w.heap.size + 1 + 1) A k kids v n i done rest xs ∧ wr.heap[w.heap.size + 1]? = some (.cells #[.int .i8 0, .slice none 0 0] 25)) (fun v _ => n - (intOf v).toNat)
  case atStart => exact ⟨0, .nil, kids, [], _, rfl, HS.out, HR1.out⟩
  case round =>
   obtain ⟨i, done, rest, xs, v, rfl, hR, hres⟩ := hrel
   cases rest with
   | nil =>
    have hi2 : i = n := by have := hR.i_eq; simpa [Ty.len] using this
    subst hi2
    obtain ⟨G, cg, rfl, hq1, hq2, hL⟩ := hR.done HNE.out
    have HQ := k0_ (And.intro hq1 hq2)
    have HSZ := k0_ hR.size
    have HB := k0_ hR.below
    have HL := k0_ hL
    obtain ⟨b0, b1, _, _, hb0⟩ := zH hR.box
    obtain ⟨d0, d1, f0, f1, hd0⟩ := zH hres
    clear hR hL hres hq1 hq2
    go_wp2_with fail
    refine bodyPost_ret (v := .agg #[.int .i8 k, .slice G i cg]) (by simp [results, Tryz.results69, go_sem, *]) rfl ⟨G, cg, by rw [HNE.out], by rw [← HNE.out]; exact HQ.out.1, HQ.out.2, ?_, ?_⟩
    ·have hsz : ∀ (W : World) (p1 p2 : Addr) (v1 v2 : Value), ((W.setCell p1 v1).setCell p2 v2).heap.size = W.heap.size := fun W p1 p2 v1 v2 => by simp [World.setCell]
     rw [hsz]
     refine (HL.out.keep fun b hP hx => ?_).mono (by omega) (Nat.le_refl _)
     rw [Below.heap_setCell _ _ _ _ (by show b ≠ w.heap.size + 1; omega), Below.heap_setCell _ _ _ _ (by show b ≠ w.heap.size + 1; omega)]
    ·exact (HB.out.setCell (p := ⟨w.heap.size + 1, 0, none⟩) (by simp) _).setCell (p := ⟨w.heap.size + 1, 1, none⟩) (by simp) _
   | node a b kk kd r =>
    have h1 := hR.i_eq
    have h2 := hR.lies
    have h3 := hR.sub
    have h4 := hR.below
    have HR := k0_ hR
    have HRES := k0_ hres
    simp only [Ty.len, Ty.nodes] at h1 h3
    obtain ⟨bb, oo, B, cB, rfl, ⟨hk1, hk2⟩, c1, c2, hl1, hl2, hl3, hl4⟩ := h2
    have c1' : wr.cell? ⟨bb, oo + i * 2, none⟩ = some (.int .i8 kk) := by rw [h4.cell (p := ⟨bb, _, none⟩) (Ty.zO c1)]; exact c1
    have c2' : wr.cell? ⟨bb, oo + i * 2 + 1, none⟩ = some (.slice B (Ty.len kd) cB) := by rw [h4.cell (p := ⟨bb, _, none⟩) (Ty.zO c2)]; exact c2
    have HC := k0_ (fun (W : World) (hb : Below wr.heap.size wr W) => IH.out kk kd B (Ty.len kd) cB W (by omega) ((show Ty.Is w kk kd B (Ty.len kd) cB from ⟨hl3, rfl, hl1, hl2, hk1, hk2⟩).below (h4.trans (hb.mono h4.size))) (by omega))
    have HL4 := k0_ hl4
    have HKK := k0_ (And.intro hk1 hk2)
    have j1 : (i : Int) < n := by omega
    obtain ⟨b0, b1, f0, f1, hb0⟩ := zH hR.box
    clear hR hres hl1 hl2 hl3 hl4 c1 c2 h4
    go_wp2_with fail
    have hb9 : Below wr.heap.size wr (wr.alloc (.cells #[.int .i8 kk, .slice B (Ty.len kd) cB] 25)) := (Below.refl _ _).alloc (Nat.le_refl _) _
    have HBX := k0_ (zB hb9 hb0 HR.out.box)
    have HKX := k0_ (zD wr (.cells #[.int .i8 kk, .slice B (Ty.len kd) cB] 25))
    have HO9 := k0_ (ownsRow_below HR.out.own hb9)
    clear b0 b1 f0 f1 c1' c2'
    generalize hwk : wr.alloc (.cells #[.int .i8 kk, .slice B (Ty.len kd) cB] 25) = wk at *
    have hws : wk.heap.size = wr.heap.size + 1 := by rw [← hwk]; simp
    have HWS := k0_ hws
    have E1 : Below wr.heap.size wr wk.drew := hb9.drew
    obtain ⟨b0, b1, f0, f1, hb0⟩ := zH HBX.out
    obtain ⟨k0, k1, _, _, hk0⟩ := zH HKX.out
    clear hb9 hwk hws
    go_region_law (first
     | (go_simp; go_at_call 69; (with_reducible refine (HC.out _ E1).mono ?_); rintro e u ⟨G, cg, rfl, hq1, hq2, hnew, hb⟩; have HNW := k0_ hnew; have HQ := k0_ (And.intro hq1 hq2); have HBU := k0_ hb; have HBO := k0_ (zB hb (show w.heap.size + 1 + 1 < wk.drew.heap.size from hb0) (show wk.drew.heap[w.heap.size + 1 + 1]? = _ from HBX.out)); have HOU := k0_ (ownsRow_below (show wk.drew.ownsRow _ _ _ _ _ _ from HO9.out) hb); obtain ⟨o0, o1, g0, g1, hol⟩ := zH HBO.out; clear hnew hb hq1 hq2; go_wp2_with fail)
     | (refine qL _ (by rfl) (.tmp 17) (.tmp 20) 23 (by rfl) (w.heap.size + 3) 25 i0 (.agg #[.int .i8 0, .slice none 0 0]) 2 32 Tryz.underlying23 hi hz0 hz1 hz2 (by rfl) (by decide) v i xs (by rfl) (HOU.out.alloc _) ⟨u.heap.size, 0, none⟩ 1 1 [.int .i8 kk, .slice G (Ty.len kd) cg] (by rfl) (by rfl) (zk (zD u _)) (by intro x hx; simp at hx; rcases hx with rfl | rfl <;> rfl) (by unfold maxLen; omega) (by omega) (by have h1 := HBO.out; have h2 := zC h1; simp; omega) ?_; intro v' w3 hown3 hg3 hat3; obtain ⟨Av, nv, cv, rfl⟩ := yF hown3; obtain ⟨q0, q1, r0, r1, ql⟩ := zH ((hg3.block (w.heap.size + 1 + 1) (by simp; omega) (fun e => by have := (HOU.out.lt _ e.symm).1; omega)).trans (zF HBO.out (.cells #[.int .i8 kk, .slice G (Ty.len kd) cg] 25))); have HOW3 := k0_ hown3; have HG3 := k0_ hg3; have HAT3 := k0_ hat3; clear hown3 hg3 hat3))
    all_goals
     go_wp2_with fail
     go_roundw
     case rel =>
      refine ⟨i + 1, _, r, _, .slice Av nv cv, by go_num, HR.out.step E1 HBU.out HKK.out HQ.out.1 HQ.out.2 HNW.out HOW3.out HG3.out (by simpa using HAT3.out) HL4.out, ?_⟩
      exact zEK
     case measure => simp [intOf]; omega
end Go.Proofs.YtglgjaomneljbacGreatDoor
namespace Go.Proofs.YtglgjaomneljbacGreatDoor
set_option maxHeartbeats 1000000
set_option maxRecDepth 100000
open Go.RowKit
namespace Ty
theorem SepF.inP {w : World} {P : Nat → Prop} : ∀ (f : Fo) (g i lo hi : Nat), P g → (∀ b, lo ≤ b → b < hi → P b) → SepF w g f i lo hi → LiesP P w f (some ⟨g, 0, none⟩) i
 | .nil, _, _, _, _, _, _, _ => trivial
 | .node _ _ _ kids r, g, i, lo, hi, hg, hb, h => by
  obtain ⟨A, c, lo', hi', a1, a2, a3, a4, a5, a6, a7, a8, a9, a10⟩ := h
  have hle := SepF.le r _ _ _ a10
  refine ⟨g, 0, A, c, rfl, hg, a4, by rw [Nat.zero_add]; exact a7, by rw [Nat.zero_add]; exact a8, a5, a6, ?_, SepF.inP r g (i + 1) hi' hi hg (fun b h1 h2 => hb b (by omega) h2) a10⟩
  rcases a9 with rfl | ⟨g', rfl, b2, b3, b4, b5⟩
  ·trivial
  ·exact SepF.inP kids g' 0 lo' hi' (hb g' (by omega) (by omega)) (fun b h1 h2 => hb b (by omega) (by omega)) b5
theorem SepK.inP {w : World} {k : Int} {kids : Fo} {A : Option Addr} {lo hi c : Nat} (h : SepK w kids A lo hi) (hk : -128 ≤ k ∧ k ≤ 127) (h1 : len kids ≤ c) (h2 : c ≤ maxLen) : IsP (fun b => lo ≤ b ∧ b < hi) w k kids A (len kids) c := by
 refine ⟨?_, rfl, h1, h2, hk.1, hk.2⟩
 rcases h with rfl | ⟨g', rfl, a2, a3, a4, a5⟩
 ·trivial
 ·exact SepF.inP kids g' 0 lo hi ⟨a2, a3⟩ (fun b h1 h2 => ⟨h1, h2⟩) a5
end Ty
structure Turn (w w' : World) (p q lo hi : Nat) : Prop where
 os : w'.os = w.os
 tape : w'.tape = w.tape
 output : w'.output = w.output
 size : w.heap.size ≤ w'.heap.size
 block : ∀ b, b < w.heap.size → (b < lo ∨ hi ≤ b) → b ≠ p → w'.heap[b]? = w.heap[b]?
 cell : ∀ o, o ≠ q → o ≠ q + 1 → w'.cell? ⟨p, o, none⟩ = w.cell? ⟨p, o, none⟩
 froz : ∀ o, w'.frozen? ⟨p, o, none⟩ = w.frozen? ⟨p, o, none⟩
theorem Turn.of {w w' : World} {p q lo hi : Nat} (h : Below w.heap.size w w') (hp : p < w.heap.size) : Turn w w' p q lo hi :=
 ⟨h.os, h.tape, h.output, h.size, fun b hb _ _ => h.block b hb, fun o _ _ => h.cell (p := ⟨p, o, none⟩) hp, fun o => h.frozen (p := ⟨p, o, none⟩) hp⟩
theorem Turn.trans {a b c : World} {p q lo hi : Nat} (h : Turn a b p q lo hi) (k : Turn b c p q lo hi) : Turn a c p q lo hi :=
 ⟨k.os.trans h.os, k.tape.trans h.tape, k.output.trans h.output, Nat.le_trans h.size k.size, fun i h1 h2 h3 => (k.block i (Nat.lt_of_lt_of_le h1 h.size) h2 h3).trans (h.block i h1 h2 h3),
  fun o h1 h2 => (k.cell o h1 h2).trans (h.cell o h1 h2), fun o => (k.froz o).trans (h.froz o)⟩
theorem Turn.sub {w w' : World} {g q' lo' hi' p q lo hi : Nat} (h : Turn w w' g q' lo' hi') (hg1 : lo ≤ g) (hg2 : g < hi) (h1 : lo ≤ lo') (h2 : hi' ≤ hi) (hp : p < lo ∨ hi ≤ p) (hps : p < w.heap.size) : Turn w w' p q lo hi := by
 have hpb := h.block p hps (by omega) (by omega)
 exact ⟨h.os, h.tape, h.output, h.size, fun b b1 b2 b3 => h.block b b1 (by omega) (by omega), fun o _ _ => World.cell?_of_block (w := w) (a := ⟨p, o, none⟩) hpb, fun o => World.frozen?_of_block (w := w) (a := ⟨p, o, none⟩) hpb⟩
theorem Turn.sets {w u : World} {p q lo hi : Nat} (h : Below w.heap.size w u) (hp : p < w.heap.size) (x y : Value) : Turn w ((u.setCell ⟨p, q, none⟩ x).setCell ⟨p, q + 1, none⟩ y) p q lo hi := by
 refine ⟨h.os, h.tape, h.output, by simp [World.setCell]; exact h.size, fun b b1 _ b3 => ?_, fun o h1 h2 => ?_, fun o => ?_⟩
 ·rw [Below.heap_setCell _ _ _ b b3, Below.heap_setCell _ _ _ b b3]; exact h.block b b1
 ·rw [World.cell?_setCell_other _ _ _ _ (fun e => by injection e with _ e; omega), World.cell?_setCell_other _ _ _ _ (fun e => by injection e with _ e; omega)]; exact h.cell (p := ⟨p, o, none⟩) hp
 ·rw [World.frozen?_setCell, World.frozen?_setCell]; exact h.frozen (p := ⟨p, o, none⟩) hp
theorem Turn.below {w w' : World} {p q lo hi n0 : Nat} (h : Turn w w' p q lo hi) (hlo : n0 ≤ lo) (hp : n0 ≤ p) (hs : n0 ≤ w.heap.size) : Below n0 w w' :=
 ⟨h.os, h.tape, h.output, h.size, fun b hb => h.block b (by omega) (by omega) (by omega)⟩
theorem zCT (args : Array Value) (W : World) : (callFunc 71 args).run Tryz.prog W = .ok (.enter 71 args) W := by simp [go_sem]
theorem uT (k' : Int) (kids' : Fo) (A' : Option Addr) (n' c' : Nat) (p q : Nat) (v1 : Value) (w : World) (h0 : w.cell? ⟨p, q, none⟩ = some (.int .i8 0)) (h1 : w.cell? ⟨p, q + 1, none⟩ = some v1) (f0 : w.frozen? ⟨p, q, none⟩ = false) (f1 : w.frozen? ⟨p, q + 1, none⟩ = false)
  (hIs' : Ty.Is w k' kids' A' n' c') (hsm : Ty.nodes kids' ≤ 8192) :
  Calls Tryz.prog 71 #[.pointer (some ⟨p, q, none⟩), .agg #[.int .i8 k', .slice A' n' c']] w fun e w' => e = .returned (.bool true) ∧ ∃ u G c, Below w.heap.size w u ∧ Ty.len kids' ≤ c ∧ c ≤ maxLen ∧ Ty.SepK u kids' G w.heap.size u.heap.size ∧
   w' = (u.setCell ⟨p, q, none⟩ (.int .i8 k')).setCell ⟨p, q + 1, none⟩ (.slice G (Ty.len kids') c) := by
 have hlt := Ty.zO h0
 have hb : Below w.heap.size w (w.alloc (.cells #[.int .i8 k', .slice A' n' c'] 25)) := (Below.refl _ _).alloc (Nat.le_refl _) _
 have hbox := zD w (.cells #[.int .i8 k', .slice A' n' c'] 25)
 have hsz : (w.alloc (.cells #[.int .i8 k', .slice A' n' c'] 25)).heap.size = w.heap.size + 1 := by simp
 have HC := k0_ (jy (Ty.nodes kids' + 1) k' kids' A' n' c' _ (Nat.lt_succ_self _) (hIs'.below hb) hsm)
 obtain ⟨d0, d1, _, _, hd⟩ := zH hbox
 have HB := k0_ hb
 have HF := k0_ (And.intro f0 f1)
 have H1 := k0_ h1
 have H0 := k0_ h0
 have HSZ := k0_ hsz
 clear hIs' hb hbox h1 f0 f1 hsz
 go_enter Tryz.func71, Tryz.ntmps71
 go_upto_region 2 with fail
 generalize w.alloc (.cells #[.int .i8 k', .slice A' n' c'] 25) = w1 at *
 go_wp2_with fail
 refine HC.out.mono ?_
 rintro e u ⟨G, c, rfl, hc1, hc2, hsep, hb⟩
 have hB := HB.out.trans (hb.mono HB.out.size)
 have e0 : u.cell? ⟨p, q, none⟩ = some (.int .i8 0) := by rw [hB.cell (p := ⟨p, q, none⟩) hlt]; exact H0.out
 have e1 : u.cell? ⟨p, q + 1, none⟩ = some v1 := by rw [hB.cell (p := ⟨p, q + 1, none⟩) hlt]; exact H1.out
 have e2 : u.frozen? ⟨p, q, none⟩ = false := by rw [hB.frozen (p := ⟨p, q, none⟩) hlt]; exact HF.out.1
 have e3 : u.frozen? ⟨p, q + 1, none⟩ = false := by rw [hB.frozen (p := ⟨p, q + 1, none⟩) hlt]; exact HF.out.2
 have HQ := k0_ (And.intro hc1 hc2)
 have HSP := k0_ hsep
 have HBB := k0_ hB
 clear d0 d1 hd hb hB hc1 hc2 hsep
 go_wp2_with fail
 go_ret
 exact ⟨rfl, u, G, c, HBB.out, HQ.out.1, HQ.out.2, HSP.out.mono (by have := HSZ.out; omega) (Nat.le_refl _), rfl⟩
theorem zC1 (k k' : Int) (A' : Option Addr) (n' c' : Nat) (p q : Nat) (w : World) (h0 : w.cell? ⟨p, q, none⟩ = some (.int .i8 k)) (hk : k ≠ 0) :
  Calls Tryz.prog 71 #[.pointer (some ⟨p, q, none⟩), .agg #[.int .i8 k', .slice A' n' c']] w fun e w' => e = .returned (.bool (k' == 0)) ∧ Below w.heap.size w w' := by
 have hlt := Ty.zO h0
 have hz : (k == 0) = false := by simpa using hk
 have hb : Below w.heap.size w (w.alloc (.cells #[.int .i8 k', .slice A' n' c'] 25)) := (Below.refl _ _).alloc (Nat.le_refl _) _
 clear hk
 go_enter Tryz.func71, Tryz.ntmps71
 go_wp2_with fail
 go_ret
 exact ⟨rfl, hb⟩
end Go.Proofs.YtglgjaomneljbacGreatDoor
