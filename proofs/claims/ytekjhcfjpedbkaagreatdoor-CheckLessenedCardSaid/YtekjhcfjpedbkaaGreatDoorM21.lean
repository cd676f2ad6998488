/-
  Layer 9: the law's Lessened: terms in rows that grow; a term's box, written whole. Layer 9: the law's Lessened: any right term without casts.
-/
import Derived.Test.YtekjhcfjpedbkaaGreatDoorLs1
import Derived.OneCell
namespace Go.Proofs.YtekjhcfjpedbkaaGreatDoor
open Go.RowKit
def set11 (u : World) (X : Nat) (a0 a1 a2 a3 a4 a5 a6 a7 a8 a9 a10 : Value) : World := ((((((((((u.setCell ⟨X, 0, none⟩ (a0)).setCell ⟨X, 1, none⟩ (a1)).setCell ⟨X, 2, none⟩ (a2)).setCell ⟨X, 3, none⟩ (a3)).setCell ⟨X, 4, none⟩ (a4)).setCell ⟨X, 5, none⟩ (a5)).setCell ⟨X, 6, none⟩ (a6)).setCell ⟨X, 7, none⟩ (a7)).setCell ⟨X, 8, none⟩ (a8)).setCell ⟨X, 9, none⟩ (a9)).setCell ⟨X, 10, none⟩ (a10)
theorem set11_eq (u : World) (X : Nat) (a0 a1 a2 a3 a4 a5 a6 a7 a8 a9 a10 : Value) : ((((((((((u.setCell ⟨X, 0, none⟩ (a0)).setCell ⟨X, 1, none⟩ (a1)).setCell ⟨X, 2, none⟩ (a2)).setCell ⟨X, 3, none⟩ (a3)).setCell ⟨X, 4, none⟩ (a4)).setCell ⟨X, 5, none⟩ (a5)).setCell ⟨X, 6, none⟩ (a6)).setCell ⟨X, 7, none⟩ (a7)).setCell ⟨X, 8, none⟩ (a8)).setCell ⟨X, 9, none⟩ (a9)).setCell ⟨X, 10, none⟩ (a10) = set11 u X a0 a1 a2 a3 a4 a5 a6 a7 a8 a9 a10 := rfl
theorem set11_own {u : World} {X : Nat} {x0 x1 x2 x3 x4 x5 x6 x7 x8 x9 x10 : Value} {t : TypeId} (h : u.heap[X]? = some (.cells #[x0, x1, x2, x3, x4, x5, x6, x7, x8, x9, x10] t (0, 0))) (a0 a1 a2 a3 a4 a5 a6 a7 a8 a9 a10 : Value) : (set11 u X a0 a1 a2 a3 a4 a5 a6 a7 a8 a9 a10).heap[X]? = some (.cells #[a0, a1, a2, a3, a4, a5, a6, a7, a8, a9, a10] t (0, 0)) := by
  simp [set11, World.setCell, Array.getElem?_modify, h]
theorem set11_below {N X : Nat} {w u : World} (h : Below N w u) (hX : N ≤ X) (a0 a1 a2 a3 a4 a5 a6 a7 a8 a9 a10 : Value) : Below N w (set11 u X a0 a1 a2 a3 a4 a5 a6 a7 a8 a9 a10) := by
  unfold set11
  exact (((((((((((h.setCell (p := ⟨X, 0, none⟩) hX _).setCell (p := ⟨X, 1, none⟩) hX _).setCell (p := ⟨X, 2, none⟩) hX _).setCell (p := ⟨X, 3, none⟩) hX _).setCell (p := ⟨X, 4, none⟩) hX _).setCell (p := ⟨X, 5, none⟩) hX _).setCell (p := ⟨X, 6, none⟩) hX _).setCell (p := ⟨X, 7, none⟩) hX _).setCell (p := ⟨X, 8, none⟩) hX _).setCell (p := ⟨X, 9, none⟩) hX _).setCell (p := ⟨X, 10, none⟩) hX _)
theorem set11_row {u : World} {X base : Nat} {e : TypeId} {size : Nat} {v : Value} {n : Nat} {xs : List Value} (h : u.ownsRow base e size v n xs) (hX : v.ownBlock ≠ some X) (a0 a1 a2 a3 a4 a5 a6 a7 a8 a9 a10 : Value) : (set11 u X a0 a1 a2 a3 a4 a5 a6 a7 a8 a9 a10).ownsRow base e size v n xs := by
  unfold set11
  exact ownsRow_setCell_other (ownsRow_setCell_other (ownsRow_setCell_other (ownsRow_setCell_other (ownsRow_setCell_other (ownsRow_setCell_other (ownsRow_setCell_other (ownsRow_setCell_other (ownsRow_setCell_other (ownsRow_setCell_other (ownsRow_setCell_other (h) (a := ⟨X, 0, none⟩) hX _) (a := ⟨X, 1, none⟩) hX _) (a := ⟨X, 2, none⟩) hX _) (a := ⟨X, 3, none⟩) hX _) (a := ⟨X, 4, none⟩) hX _) (a := ⟨X, 5, none⟩) hX _) (a := ⟨X, 6, none⟩) hX _) (a := ⟨X, 7, none⟩) hX _) (a := ⟨X, 8, none⟩) hX _) (a := ⟨X, 9, none⟩) hX _) (a := ⟨X, 10, none⟩) hX _
theorem set11_size (u : World) (X : Nat) (a0 a1 a2 a3 a4 a5 a6 a7 a8 a9 a10 : Value) : (set11 u X a0 a1 a2 a3 a4 a5 a6 a7 a8 a9 a10).heap.size = u.heap.size := by simp [set11]
theorem set11_cell {u : World} {X b o : Nat} {v : Value} (h : u.cell? ⟨b, o, none⟩ = some v) (hne : b ≠ X) (a0 a1 a2 a3 a4 a5 a6 a7 a8 a9 a10 : Value) : (set11 u X a0 a1 a2 a3 a4 a5 a6 a7 a8 a9 a10).cell? ⟨b, o, none⟩ = some v := by
  have hn : ∀ j, (⟨X, j, none⟩ : Addr) ≠ ⟨b, o, none⟩ := fun j e => hne (by injection e with e; exact e.symm)
  unfold set11
  rw [World.cell?_setCell_other _ _ _ _ (fun e => hne (by injection e with e; exact e.symm))]; rw [World.cell?_setCell_other _ _ _ _ (fun e => hne (by injection e with e; exact e.symm))]; rw [World.cell?_setCell_other _ _ _ _ (fun e => hne (by injection e with e; exact e.symm))]; rw [World.cell?_setCell_other _ _ _ _ (fun e => hne (by injection e with e; exact e.symm))]; rw [World.cell?_setCell_other _ _ _ _ (fun e => hne (by injection e with e; exact e.symm))]; rw [World.cell?_setCell_other _ _ _ _ (fun e => hne (by injection e with e; exact e.symm))]; rw [World.cell?_setCell_other _ _ _ _ (fun e => hne (by injection e with e; exact e.symm))]; rw [World.cell?_setCell_other _ _ _ _ (fun e => hne (by injection e with e; exact e.symm))]; rw [World.cell?_setCell_other _ _ _ _ (fun e => hne (by injection e with e; exact e.symm))]; rw [World.cell?_setCell_other _ _ _ _ (fun e => hne (by injection e with e; exact e.symm))]; rw [World.cell?_setCell_other _ _ _ _ (fun e => hne (by injection e with e; exact e.symm))]
  exact h
namespace Ls
/-- a term that lies in such blocks -/
def LoneT (P : Nat → Prop) (w : World) (h : Hd) (k : Tm) (p : Pl) : Prop := ∀ u : World, (∀ b o v, P b → w.cell? ⟨b, o, none⟩ = some v → u.cell? ⟨b, o, none⟩ = some v) → Tm.Is u h k p
theorem LoneT.to {P P' : Nat → Prop} {w w' : World} {h : Hd} {k : Tm} {p : Pl} (hl : LoneT P w h k p) (hk : ∀ b o v, P b → w.cell? ⟨b, o, none⟩ = some v → P' b ∧ w'.cell? ⟨b, o, none⟩ = some v) : LoneT P' w' h k p :=
  fun u hu => hl u fun b o v hb hc => hu b o v (hk b o v hb hc).1 (hk b o v hb hc).2
theorem LoneT.is {P : Nat → Prop} {w : World} {h : Hd} {k : Tm} {p : Pl} (hl : LoneT P w h k p) : Tm.Is w h k p := hl w fun _ _ _ _ h => h
def tcat : Tm → Tm → Tm
  | .nil, g => g
  | .node h k r, g => .node h k (tcat r g)
theorem tcat_nil : ∀ f : Tm, tcat f .nil = f
  | .nil => rfl
  | .node h k r => by simp only [tcat]; rw [tcat_nil r]
theorem tcat_snoc : ∀ (f : Tm) (h : Hd) (k r : Tm), tcat (tcat f (.node h k .nil)) r = tcat f (.node h k r)
  | .nil, _, _, _ => rfl
  | .node _ _ q, h, k, r => by simp only [tcat]; rw [tcat_snoc q]
theorem len_tcat : ∀ (f : Tm) (h : Hd) (k : Tm), Tm.len (tcat f (.node h k .nil)) = Tm.len f + 1
  | .nil, _, _ => rfl
  | .node _ _ q, h, k => by simp only [tcat, Tm.len]; rw [len_tcat q]
/-- the cells of a list of terms, each of which lies in such blocks -/
def TmFl (P : Nat → Prop) (w : World) : Tm → List Value → Prop
  | .nil, xs => xs = []
  | .node h k r, xs => ∃ p ys, xs = h.cells p ++ ys ∧ LoneT P w h k p ∧ TmFl P w r ys
theorem TmFl.snoc {P : Nat → Prop} {w : World} {h : Hd} {k : Tm} {p : Pl} (hI : LoneT P w h k p) : ∀ (f : Tm) (xs : List Value), TmFl P w f xs → TmFl P w (tcat f (.node h k .nil)) (xs ++ h.cells p)
  | .nil, xs, hx => by cases hx; exact ⟨p, [], by simp, hI, rfl⟩
  | .node _ _ q, xs, hx => by
    obtain ⟨p', ys, rfl, h1, h2⟩ := hx
    exact ⟨p', ys ++ h.cells p, by simp, h1, TmFl.snoc hI q ys h2⟩
theorem TmFl.to {P P' : Nat → Prop} {w w' : World} (hk : ∀ b o v, P b → w.cell? ⟨b, o, none⟩ = some v → P' b ∧ w'.cell? ⟨b, o, none⟩ = some v) : ∀ (f : Tm) (xs : List Value), TmFl P w f xs → TmFl P' w' f xs
  | .nil, _, h => h
  | .node _ _ q, _, h => by
    obtain ⟨p', ys, rfl, h1, h2⟩ := h
    exact ⟨p', ys, rfl, h1.to hk, TmFl.to hk q ys h2⟩
theorem TmFl.lies {P : Nat → Prop} {w u : World} {g : Nat} (hu : ∀ b o v, P b → w.cell? ⟨b, o, none⟩ = some v → u.cell? ⟨b, o, none⟩ = some v) : ∀ (f : Tm) (xs : List Value) (i : Nat), TmFl P w f xs → (∀ j x, xs[j]? = some x → u.cell? ⟨g, i * 11 + j, none⟩ = some x) → Tm.Lies u f (some ⟨g, 0, none⟩) i
  | .nil, _, _, _, _ => trivial
  | .node h k r, _, i, hx, hc => by
    obtain ⟨p', ys, rfl, h1, h2⟩ := hx
    have h1 := h1 u hu
    have hl : (h.cells p').length = 11 := rfl
    refine ⟨g, 0, p', rfl, fun j v hj => ?_, h1.fit, h1.lies, ?_⟩
    · rw [Nat.zero_add]
      have hlt : j < 11 := by
        rcases Nat.lt_or_ge j 11 with q | q
        · exact q
        · rw [List.getElem?_eq_none (by omega)] at hj; cases hj
      exact hc j v (by rw [List.getElem?_append_left (by omega)]; exact hj)
    · exact TmFl.lies hu r ys (i + 1) h2 fun j x hj => by
        have := hc (j + 11) x (by rw [List.getElem?_append_right (by omega)]; simpa [hl] using hj)
        rwa [show i * 11 + (j + 11) = (i + 1) * 11 + j by omega] at this
/-- a round's state -/
structure LtRel (wb w1 wr : World) (A : Option Addr) (kids : Tm) (v : Value) (N i : Nat) (done rest : Tm) (xs : List Value) : Prop where
  len : Tm.len done = i
  i_eq : i + Tm.len rest = N
  lies : Tm.Lies wb rest A i
  below : Below w1.heap.size w1 wr
  own : wr.ownsRow w1.heap.size 28 11 v i xs
  flat : TmFl (fun b => (b < wb.heap.size ∨ w1.heap.size ≤ b) ∧ v.ownBlock ≠ some b) wr done xs
  sub : Tm.nodes rest ≤ Tm.nodes kids
theorem LtRel.step {wb w1 wr W u u2 w3 : World} {A : Option Addr} {kids : Tm} {v v' : Value} {N i : Nat} {done : Tm} {h h' : Hd} {k k' r : Tm} {p : Pl} {xs : List Value} {o2 : Obj} {X : Nat}
    (hr : LtRel wb w1 wr A kids v N i done (.node h k r) xs) (hwb : wb.heap.size ≤ w1.heap.size) (hW : Below wr.heap.size wr W) (hX : wr.heap.size ≤ X ∧ X < W.heap.size) (hb : Below W.heap.size W u) (hI : LoneT (fun b => b < wb.heap.size ∨ W.heap.size ≤ b) u h' k' p)
    (hu2 : Below X u u2) (hu2c : ∀ b o x, b ≠ X → u.cell? ⟨b, o, none⟩ = some x → u2.cell? ⟨b, o, none⟩ = some x) (hu2s : u2.heap.size = u.heap.size)
    (hown : w3.ownsRow w1.heap.size 28 11 v' (i + 1) (xs ++ h'.cells p)) (hg : (u2.alloc o2).grownBy w3 v.ownBlock) (hat : v'.ownBlock = v.ownBlock ∨ v'.ownBlock = some (u2.alloc o2).heap.size) (hl : Tm.Lies wb r A (i + 1)) :
    LtRel wb w1 w3 A kids v' N (i + 1) (tcat done (.node h' k' .nil)) r (xs ++ h'.cells p) := by
  obtain ⟨h2, h3, h4, h5, h6, h7, h8⟩ := hr
  simp only [Tm.len, Tm.nodes] at h3 h8
  have hlt := h6.lt
  have hs2 := hb.size
  have hs3 : u2.heap.size < (u2.alloc o2).heap.size := by simp
  have hwW := hW.size
  have hwu : Below wr.heap.size wr u2 := (hW.trans (hb.mono hwW)).trans (hu2.mono hX.1)
  have hwu3 : Below wr.heap.size wr (u2.alloc o2) := hwu.alloc (by omega) o2
  refine ⟨by rw [len_tcat]; omega, by omega, hl, ?_, hown, ?_, by omega⟩
  · exact (h5.trans (hwu3.mono h5.size)).grown hg (Nat.le_trans h5.size hwu3.size) fun q hq => (hlt q hq).1
  · refine TmFl.snoc (hI.to fun b' o' x hP hx => ?_) done xs (TmFl.to (fun b' o' x hP hx => ?_) done xs h7)
    · have hbl := Ty.cell_lt hx
      have hne : some b' ≠ v.ownBlock := fun e => by
        have q := hlt b' e.symm
        rcases hP with hP | hP <;> omega
      have hnX : b' ≠ X := by have := h5.size; rcases hP with hP | hP <;> omega
      have hx2 := hu2c _ _ _ hnX hx
      refine ⟨⟨?_, fun e => ?_⟩, ?_⟩
      · rcases hP with hP | hP
        · exact .inl hP
        · exact .inr (by have := h5.size; omega)
      · rcases hat with q | q
        · exact hne (by rw [← q, e])
        · rw [q] at e; injection e with e; omega
      · rw [World.cell?_of_block (hg.block b' (by omega) hne), ((Below.refl u2.heap.size u2).alloc (Nat.le_refl _) o2).cell (p := ⟨b', o', none⟩) (Ty.cell_lt hx2)]; exact hx2
    · have hbl := Ty.cell_lt hx
      have hne : some b' ≠ v.ownBlock := fun e => hP.2 e.symm
      refine ⟨⟨hP.1, fun e => ?_⟩, ?_⟩
      · rcases hat with q | q
        · exact hP.2 (by rw [← q, e])
        · rw [q] at e; injection e with e; have := hwu3.size; omega
      · rw [World.cell?_of_block (hg.block b' (Nat.lt_of_lt_of_le hbl hwu3.size) hne), hwu3.cell (p := ⟨b', o', none⟩) hbl]; exact hx
/-- the loop's end: the kids -/
theorem LtRel.done {wb w1 wr : World} {A : Option Addr} {kids done : Tm} {v : Value} {N : Nat} {xs : List Value} (hr : LtRel wb w1 wr A kids v N N done .nil xs) :
    ∃ G c, v = .slice G N c ∧ N = Tm.len done ∧ N ≤ c ∧ c ≤ maxLen ∧ ∀ u : World, (∀ b o x, (b < wb.heap.size ∨ w1.heap.size ≤ b) → wr.cell? ⟨b, o, none⟩ = some x → u.cell? ⟨b, o, none⟩ = some x) → Tm.Lies u done G 0 := by
  obtain ⟨h2, h3, h4, h5, h6, h7, h8⟩ := hr
  have hc := fun g hg => h6.cells (g := g) hg
  rcases h6.2 with ⟨hv, h0⟩ | ⟨g, cap, cur, rfl, hb, hg, h1, h2', _⟩
  · have hd : done = .nil := by
      cases done with
      | nil => rfl
      | node _ _ _ => simp only [Tm.len] at h2; omega
    subst hd
    subst h0
    exact ⟨none, 0, hv, rfl, Nat.le_refl _, Nat.zero_le _, fun _ _ => trivial⟩
  · refine ⟨_, cap, rfl, h2.symm, h1, h2', fun u hu => ?_⟩
    refine TmFl.lies (w := wr) (fun b o x hP hx => hu b o x hP.1 hx) done xs 0 h7 fun j x hx => ?_
    have := hc g rfl j x hx
    rw [show (⟨g, 0, none⟩ : Addr).add j = ⟨g, j, none⟩ by unfold Addr.add; by_cases h : j = 0 <;> simp [h]] at this
    rw [Nat.zero_mul, Nat.zero_add]
    exact hu g j x (.inr hb) this
theorem lsF_cnt (L : List Bool) : ∀ (f : Tm) (n : Nat), Tm.okF f = true → Ck.castF f = false → (lsF L f n).2 ≤ n + Tm.nodes f := fun f n h1 h2 => (lsF_ok L f n h1 h2).2.2.2.2.2.2
end Ls
theorem fz11 {w : World} {b : Nat} {cs : Array Value} {t : TypeId} (h : w.heap[b]? = some (.cells cs t (0, 0))) (j : Nat) : w.frozen? ⟨b, j, none⟩ = false := by simp [World.frozen?, h]
theorem info_Tm9 : (Tryz.prog.info? 28).map (fun i => (i.zero, i.size, i.bytes)) = some (some (.agg #[.int .i8 0, .string ⟨#[]⟩, .string ⟨#[]⟩, .int .i64 0, .int .i8 0, .slice none 0 0, .int .i8 0, .slice none 0 0, .int .i64 0, .int .i64 0, .slice none 0 0]), 11, 152) := by kernel_rfl
/-- what Lessened leaves -/
def LsdPost (wb W : World) (hh : Hd × Nat) (kk : Tm × Nat) (e : Ending) (w' : World) : Prop := ∃ p' : Pl, e = .returned (.tuple #[.agg #[.int .i8 hh.1.kind, .string hh.1.name, .string hh.1.arg, .int .i64 hh.1.num, .int .i8 hh.1.tk, .slice p'.TA p'.tn p'.tc, .int .i8 hh.1.uk, .slice p'.UA p'.un p'.uc, .int .i64 hh.1.label, .int .i64 hh.1.pos, .slice p'.A p'.n p'.c], .int .i64 kk.2]) ∧ Ls.LoneT (fun b => b < wb.heap.size ∨ W.heap.size ≤ b) w' hh.1 kk.1 p' ∧ Below W.heap.size W w'
set_option maxHeartbeats 2000000 in
set_option maxRecDepth 100000 in
theorem lessened_plain (L : List Bool) (LA : Option Addr) (ll lc : Nat) (wb : World) (K : Nat)
    (ih : ∀ (h : Hd) (kids : Tm) (p : Pl) (m : Nat) (W : World), Tm.nodes kids < K → Tm.Is wb h kids p → Below wb.heap.size wb W → BAt W L LA ll lc → Tm.okT h kids = true → Ck.castT h kids = false → m + Tm.nd h kids ≤ 1000000 → Calls Tryz.prog 15 #[.agg #[.int .i8 h.kind, .string h.name, .string h.arg, .int .i64 h.num, .int .i8 h.tk, .slice p.TA p.tn p.tc, .int .i8 h.uk, .slice p.UA p.un p.uc, .int .i64 h.label, .int .i64 h.pos, .slice p.A p.n p.c], .slice LA ll lc, .int .i64 m] W (LsdPost wb W (Ls.lesH L h m) (Ls.lsF L kids (Ls.lesH L h m).2)))
    (h : Hd) (kids : Tm) (p : Pl) (m : Nat) (W : World) (hK : Tm.nodes kids < K + 1) (hIs : Tm.Is wb h kids p) (hwb : Below wb.heap.size wb W) (hL : BAt W L LA ll lc) (ho : Tm.okT h kids = true) (hc : Ck.castT h kids = false) (hm : m + Tm.nd h kids ≤ 1000000) (h5 : h.kind ≠ 5) (h4 : ¬(h.kind = 4 ∨ h.kind = 7 ∨ h.kind = 12 ∨ h.kind = 13 ∨ h.kind = 16)) :
    Calls Tryz.prog 15 #[.agg #[.int .i8 h.kind, .string h.name, .string h.arg, .int .i64 h.num, .int .i8 h.tk, .slice p.TA p.tn p.tc, .int .i8 h.uk, .slice p.UA p.un p.uc, .int .i64 h.label, .int .i64 h.pos, .slice p.A p.n p.c], .slice LA ll lc, .int .i64 m] W (LsdPost wb W (Ls.lesH L h m) (Ls.lsF L kids (Ls.lesH L h m).2)) := by
  have hHH : Ls.lesH L h m = (h, m) := by unfold Ls.lesH; rw [if_neg h5, if_neg h4]
  have e5 : (h.kind == 5) = false := by simpa using h5
  have e4 : (h.kind == 4) = false ∧ (h.kind == 7) = false ∧ (h.kind == 12) = false ∧ (h.kind == 13) = false ∧ (h.kind == 16) = false := by
    refine ⟨?_, ?_, ?_, ?_, ?_⟩ <;> (simp only [beq_eq_false_iff_ne]; omega)
  obtain ⟨e4, e7, e12, e13, e16⟩ := e4
  obtain ⟨hik, hlen, hokF⟩ := Ck.okT_parts ho
  obtain ⟨h17, hcF⟩ := Ck.castT_parts hc
  have hb0 := below_n2 W (.cells #[.int .i8 h.kind, .string h.name, .string h.arg, .int .i64 h.num, .int .i8 h.tk, .slice p.TA p.tn p.tc, .int .i8 h.uk, .slice p.UA p.un p.uc, .int .i64 h.label, .int .i64 h.pos, .slice p.A p.n p.c] 28) (.cells #[.int .i8 0, .string ⟨#[]⟩, .string ⟨#[]⟩, .int .i64 0, .int .i8 0, .slice none 0 0, .int .i8 0, .slice none 0 0, .int .i64 0, .int .i64 0, .slice none 0 0] 28)
  obtain ⟨x0, x1⟩ := heap_n2 W (.cells #[.int .i8 h.kind, .string h.name, .string h.arg, .int .i64 h.num, .int .i8 h.tk, .slice p.TA p.tn p.tc, .int .i8 h.uk, .slice p.UA p.un p.uc, .int .i64 h.label, .int .i64 h.pos, .slice p.A p.n p.c] 28) (.cells #[.int .i8 0, .string ⟨#[]⟩, .string ⟨#[]⟩, .int .i64 0, .int .i8 0, .slice none 0 0, .int .i8 0, .slice none 0 0, .int .i64 0, .int .i64 0, .slice none 0 0] 28)
  have hz0 : ((W.alloc (.cells #[.int .i8 h.kind, .string h.name, .string h.arg, .int .i64 h.num, .int .i8 h.tk, .slice p.TA p.tn p.tc, .int .i8 h.uk, .slice p.UA p.un p.uc, .int .i64 h.label, .int .i64 h.pos, .slice p.A p.n p.c] 28)).alloc (.cells #[.int .i8 0, .string ⟨#[]⟩, .string ⟨#[]⟩, .int .i64 0, .int .i8 0, .slice none 0 0, .int .i8 0, .slice none 0 0, .int .i64 0, .int .i64 0, .slice none 0 0] 28)).heap.size = W.heap.size + 2 := by simp
  generalize hw1 : (W.alloc (.cells #[.int .i8 h.kind, .string h.name, .string h.arg, .int .i64 h.num, .int .i8 h.tk, .slice p.TA p.tn p.tc, .int .i8 h.uk, .slice p.UA p.un p.uc, .int .i64 h.label, .int .i64 h.pos, .slice p.A p.n p.c] 28)).alloc (.cells #[.int .i8 0, .string ⟨#[]⟩, .string ⟨#[]⟩, .int .i64 0, .int .i8 0, .slice none 0 0, .int .i8 0, .slice none 0 0, .int .i64 0, .int .i64 0, .slice none 0 0] 28) = wl at *
  have HW1 := Lib.hid hw1
  have HB := Lib.hid hb0
  have HX3 := Lib.hid x0
  have HX6 := Lib.hid x1
  have HSZ := Lib.hid (show W.heap.size + 2 ≤ wl.heap.size by omega)
  have HWB := Lib.hid hwb
  have HWBL := Lib.hid (hwb.trans (hb0.mono hwb.size))
  have HTY := Lib.hid (show Ck.Ly (fun b => b < wb.heap.size ∨ W.heap.size + 2 ≤ b) wl (h.tk, h.tkids) p.TA p.tn p.tc from ((Ck.Ly.of (a := (h.tk, h.tkids)) hIs.fit.ty).weak fun b hb _ => .inl hb).later HWBL.out)
  have HTO := Lib.hid (show Ck.Ly (fun b => b < wb.heap.size ∨ W.heap.size + 2 ≤ b) wl (h.uk, h.ukids) p.UA p.un p.uc from ((Ck.Ly.of (a := (h.uk, h.ukids)) hIs.fit.to).weak fun b hb _ => .inl hb).later HWBL.out)
  have HFT := Lib.hid hIs.fit
  have HHH := Lib.hid hHH
  rw [hHH]
  obtain ⟨TF, hTF⟩ : ∃ TF, (Ls.lsF L kids m).1 = TF := ⟨_, rfl⟩
  obtain ⟨MF, hMF⟩ : ∃ MF, (Ls.lsF L kids m).2 = MF := ⟨_, rfl⟩
  have HTF := Lib.hid (show Ls.tcat .nil (Ls.lsF L kids m).1 = TF from hTF)
  have HMF := Lib.hid hMF
  have hpost : ∀ e w', LsdPost wb W (h, m) (TF, MF) e w' → LsdPost wb W (h, m) (Ls.lsF L kids m) e w' := fun e w' q => by rw [← hTF, ← hMF] at q; exact q
  refine Calls.mono ?_ hpost
  have HPN := Lib.hid (show p.n = Tm.len kids from hIs.fit.n_eq)
  have HLI := Lib.hid hIs.lies
  have HMM := Lib.hid (show m + Tm.nodes kids ≤ 1000000 by unfold Tm.nd at hm; omega)
  have HOK := Lib.hid (And.intro hokF hcF)
  have IH := Lib.hid ih
  have HKB := Lib.hid hK
  have HLL := Lib.hid hL
  have HN9 := Lib.hid (show p.n ≤ 8192 by have h1 := hIs.fit.n_eq; have h2 := Tm.len_le_nodes kids; rw [h1, hlen]; unfold Tm.kidsN; split; omega; split; omega; split <;> omega)
  have hpn3 := HN9.out
  have i5 : (p.n : Int) ≤ 8192 := by omega
  obtain ⟨i0, hi, hz1, hz2, hz3⟩ := info_parts info_Tm9
  clear hik hlen hokF h17 hcF ho hc hm hIs hwb hb0 x0 x1 hw1 hz0 hHH hTF hMF hpost ih hK hL h5 h4
  go_enter Tryz.func15, Tryz.ntmps15
  go_upto_region 1 with fail
  rw [HW1.out]
  obtain ⟨q0, q1, q2, q3, q4, q5, q6, q7, q8, q9, q10, ql⟩ := own11 HX3.out
  go_wp2_with fail
  clear q0 q1 q2 q3 q4 q5 q6 q7 q8 q9 q10 ql
  go_loopw [2, 8, 52] (fun v2 v8 v52 wr => ∃ (i m' : Nat) (done rest : Tm) (xs : List Value), v52 = .int .i64 i ∧ v2 = .int .i64 m' ∧ Ls.LtRel wb wl wr p.A kids v8 p.n i done rest xs ∧ Ls.tcat done (Ls.lsF L rest m').1 = TF ∧ (Ls.lsF L rest m').2 = MF ∧ m' + Tm.nodes rest ≤ 1000000 ∧ Tm.okF rest = true ∧ Ck.castF rest = false) (fun _ _ v _ => p.n - (intOf v).toNat)
  case atStart => exact ⟨0, m, .nil, kids, [], rfl, rfl, ⟨rfl, by have := HPN.out; omega, HLI.out, Below.refl _ _, ⟨rfl, .inl ⟨rfl, rfl⟩⟩, rfl, Nat.le_refl _⟩, HTF.out, HMF.out, HMM.out, HOK.out.1, HOK.out.2⟩
  case round =>
    obtain ⟨i, m', done, rest, xs, rfl, rfl, hR, htf, hmf, hmm, hokr, hcr⟩ := hrel
    have HRB := Lib.hid hR.below
    cases rest with
    | nil =>
      have hi2 : i = p.n := by have := hR.i_eq; simpa [Tm.len] using this
      subst hi2
      obtain ⟨G, cg, rfl, hdn, hdc, hdm, hdl⟩ := hR.done
      simp only [Ls.lsF, Ls.tcat_nil] at htf hmf
      subst htf hmf
      have HD := Lib.hid hdl
      have HDN := Lib.hid (And.intro hdn (And.intro hdc hdm))
      have x3 := heap_below HRB.out (heap_lt HX3.out) HX3.out
      have x6 := heap_below HRB.out (heap_lt HX6.out) HX6.out
      have hf3 := fz11 x3 10
      have hs1 := HSZ.out
      have hs2 := HRB.out.size
      obtain ⟨q0, q1, q2, q3, q4, q5, q6, q7, q8, q9, q10, ql⟩ := own11 x3
      have x3b : (wr.setCell ⟨W.heap.size, 10, none⟩ (.slice G p.n cg)).heap[W.heap.size]? = some (.cells #[.int .i8 h.kind, .string h.name, .string h.arg, .int .i64 h.num, .int .i8 h.tk, .slice p.TA p.tn p.tc, .int .i8 h.uk, .slice p.UA p.un p.uc, .int .i64 h.label, .int .i64 h.pos, .slice G p.n cg] 28 (0, 0)) := by simp [World.setCell, Array.getElem?_modify, x3]
      have x6b : (wr.setCell ⟨W.heap.size, 10, none⟩ (.slice G p.n cg)).heap[W.heap.size + 1]? = some (.cells #[.int .i8 0, .string ⟨#[]⟩, .string ⟨#[]⟩, .int .i64 0, .int .i8 0, .slice none 0 0, .int .i8 0, .slice none 0 0, .int .i64 0, .int .i64 0, .slice none 0 0] 28 (0, 0)) := by simp [World.setCell, Array.getElem?_modify, x6]
      have HX3B := Lib.hid x3b
      have HX6B := Lib.hid x6b
      have HBB := Lib.hid ((HB.out.trans (HRB.out.mono HB.out.size)).setCell (p := ⟨W.heap.size, 10, none⟩) (Nat.le_refl _) (.slice G p.n cg))
      have HCC := Lib.hid (fun (b o : Nat) (x : Value) (hne : b ≠ W.heap.size) (hx : wr.cell? ⟨b, o, none⟩ = some x) => (show (wr.setCell ⟨W.heap.size, 10, none⟩ (.slice G p.n cg)).cell? ⟨b, o, none⟩ = some x by rw [World.cell?_setCell_other _ _ _ _ (fun e => hne (by injection e with e; exact e.symm))]; exact hx))
      clear hR x3 x6 x3b x6b hdl hdn hdc hdm
      go_upto_region 20 with fail
      generalize wr.setCell ⟨W.heap.size, 10, none⟩ (.slice G p.n cg) = wz at *
      clear q0 q1 q2 q3 q4 q5 q6 q7 q8 q9 q10 ql hf3
      obtain ⟨q0, q1, q2, q3, q4, q5, q6, q7, q8, q9, q10, ql⟩ := own11 HX3B.out
      obtain ⟨y0, y1, y2, y3, y4, y5, y6, y7, y8, y9, y10, yl⟩ := own11 HX6B.out
      have f0 := fz11 HX6B.out 0; have f1 := fz11 HX6B.out 1; have f2 := fz11 HX6B.out 2; have f3 := fz11 HX6B.out 3; have f4 := fz11 HX6B.out 4; have f5 := fz11 HX6B.out 5; have f6 := fz11 HX6B.out 6; have f7 := fz11 HX6B.out 7; have f8 := fz11 HX6B.out 8; have f9 := fz11 HX6B.out 9; have f10 := fz11 HX6B.out 10
      go_wp2_with fail
      have z := set11_own HX6B.out (.int .i8 h.kind) (.string h.name) (.string h.arg) (.int .i64 h.num) (.int .i8 h.tk) (.slice p.TA p.tn p.tc) (.int .i8 h.uk) (.slice p.UA p.un p.uc) (.int .i64 h.label) (.int .i64 h.pos) (.slice G p.n cg)
      have hbz := set11_below HBB.out (show W.heap.size ≤ W.heap.size + 1 by omega) (.int .i8 h.kind) (.string h.name) (.string h.arg) (.int .i64 h.num) (.int .i8 h.tk) (.slice p.TA p.tn p.tc) (.int .i8 h.uk) (.slice p.UA p.un p.uc) (.int .i64 h.label) (.int .i64 h.pos) (.slice G p.n cg)
      have hcz := fun (b o : Nat) (x : Value) (hne : b ≠ W.heap.size + 1) (hx : wz.cell? ⟨b, o, none⟩ = some x) => set11_cell hx hne (.int .i8 h.kind) (.string h.name) (.string h.arg) (.int .i64 h.num) (.int .i8 h.tk) (.slice p.TA p.tn p.tc) (.int .i8 h.uk) (.slice p.UA p.un p.uc) (.int .i64 h.label) (.int .i64 h.pos) (.slice G p.n cg)
      unfold set11 at z hbz hcz
      obtain ⟨k0, k1, k2, k3, k4, k5, k6, k7, k8, k9, k10, kl⟩ := own11 z
      refine bodyPost_ret (v := .tuple #[.agg #[.int .i8 h.kind, .string h.name, .string h.arg, .int .i64 h.num, .int .i8 h.tk, .slice p.TA p.tn p.tc, .int .i8 h.uk, .slice p.UA p.un p.uc, .int .i64 h.label, .int .i64 h.pos, .slice G p.n cg], .int .i64 m']) (by simp [results, Tryz.results15, go_sem, k0, k1, k2, k3, k4, k5, k6, k7, k8, k9, k10]) rfl ?_
      refine ⟨(⟨p.TA, p.tn, p.tc, p.UA, p.un, p.uc, G, p.n, cg⟩ : Pl), ?_, fun u hu => ?_, hbz⟩
      · rfl
      · have hk : ∀ b o x, (b < wb.heap.size ∨ wl.heap.size ≤ b) → wr.cell? ⟨b, o, none⟩ = some x → u.cell? ⟨b, o, none⟩ = some x := fun b o x hP hx => by
          have hwbs := HWB.out.size
          refine hu b o x (by rcases hP with q | q; exact .inl q; exact .inr (by omega)) (hcz b o x (by rcases hP with q | q <;> omega) (HCC.out b o x (by rcases hP with q | q <;> omega) hx))
        have hk2 : ∀ b o x, (fun b => b < wb.heap.size ∨ W.heap.size + 2 ≤ b) b → wl.cell? ⟨b, o, none⟩ = some x → u.cell? ⟨b, o, none⟩ = some x := fun b o x hP hx => by
          have hwbs := HWB.out.size
          have hx2 := keep_cell hx HRB.out
          refine hu b o x (by rcases hP with q | q; exact .inl q; exact .inr (by omega)) (hcz b o x (by rcases hP with q | q <;> omega) (HCC.out b o x (by rcases hP with q | q <;> omega) hx2))
        have hF := HFT.out
        exact ⟨⟨HTY.out u hk2, HTO.out u hk2, HDN.out.1, HDN.out.2.1, HDN.out.2.2, hF.klo, hF.khi, hF.llo, hF.lhi, hF.nm, hF.ar⟩, HD.out u hk⟩
    | node h1 k1 r =>
      have hie := hR.i_eq
      have hsb := hR.sub
      have hO := hR.own
      have hok1 := Ck.okF_node' hokr
      have hcr0 := hcr
      simp only [Tm.len, Tm.nodes] at hie hsb
      simp only [Ck.castF, Bool.or_eq_false_iff] at hcr
      obtain ⟨bb, oo, q, hA, hcl, hft, hkl, hrl⟩ := hR.lies
      simp only [Tm.nodes] at hmm
      have hc1 : Ck.castT h1 k1 = false := by unfold Ck.castT; rw [hcr.1.1, hcr.1.2]; rfl
      have hbwl := HWBL.out
      have hcall := fun (W2 : World) (hb : Below wr.heap.size wr W2) => IH.out h1 k1 q m' W2 (by have := HKB.out; omega) ⟨hft, hkl⟩ (hbwl.trans ((HRB.out.trans (hb.mono HRB.out.size)).mono hbwl.size)) (HLL.out.below (HB.out.trans ((HRB.out.trans (hb.mono HRB.out.size)).mono HB.out.size))) hok1.1 hc1 (by unfold Tm.nd; omega)
      have hstp := fun W2 u u2 w3 v' p2 o2 X hW hX hb hI hu2 hu2c hu2s hown hg hat => Ls.LtRel.step (W := W2) (u := u) (u2 := u2) (w3 := w3) (v' := v') (h' := (Ls.lesH L h1 m').1) (k' := (Ls.lsF L k1 (Ls.lesH L h1 m').2).1) (p := p2) (o2 := o2) (X := X) hR hbwl.size hW hX hb hI hu2 hu2c hu2s hown hg hat hrl
      have d0 := keep_cell (hcl 0 _ rfl) (hbwl.trans (HRB.out.mono hbwl.size))
      have d1 := keep_cell (hcl 1 _ rfl) (hbwl.trans (HRB.out.mono hbwl.size))
      have d2 := keep_cell (hcl 2 _ rfl) (hbwl.trans (HRB.out.mono hbwl.size))
      have d3 := keep_cell (hcl 3 _ rfl) (hbwl.trans (HRB.out.mono hbwl.size))
      have d4 := keep_cell (hcl 4 _ rfl) (hbwl.trans (HRB.out.mono hbwl.size))
      have d5 := keep_cell (hcl 5 _ rfl) (hbwl.trans (HRB.out.mono hbwl.size))
      have d6 := keep_cell (hcl 6 _ rfl) (hbwl.trans (HRB.out.mono hbwl.size))
      have d7 := keep_cell (hcl 7 _ rfl) (hbwl.trans (HRB.out.mono hbwl.size))
      have d8 := keep_cell (hcl 8 _ rfl) (hbwl.trans (HRB.out.mono hbwl.size))
      have d9 := keep_cell (hcl 9 _ rfl) (hbwl.trans (HRB.out.mono hbwl.size))
      have d10 := keep_cell (hcl 10 _ rfl) (hbwl.trans (HRB.out.mono hbwl.size))
      rw [Nat.add_zero] at d0
      have HC := Lib.hid hcall
      have HSTP := Lib.hid hstp
      have HTF2 := Lib.hid htf
      have HMF2 := Lib.hid hmf
      have HNX := Lib.hid (And.intro hok1.2 hcr.2)
      have hcnt1 := (Ls.lesH_ok L h1 m' (Tm.len k1) (by have := hok1.1; unfold Tm.okT at this; rw [Bool.and_eq_true] at this; exact this.1) (Ck.castT_parts hc1).1).2.2.2.2.2
      have hcnt2 := Ls.lsF_cnt L k1 (Ls.lesH L h1 m').2 (by have := hok1.1; unfold Tm.okT at this; rw [Bool.and_eq_true] at this; exact this.2) (Ck.castT_parts hc1).2
      have HCNT := Lib.hid (show (Ls.lsF L k1 (Ls.lesH L h1 m').2).2 + Tm.nodes r ≤ 1000000 by omega)
      have j1 : (i : Int) < p.n := by omega
      have hn9 := HN9.out
      have HAA := Lib.hid hA
      have z4 := HRB.out.size
      have hb9 := below_n2 wr (.cells #[.int .i8 h1.kind, .string h1.name, .string h1.arg, .int .i64 h1.num, .int .i8 h1.tk, .slice q.TA q.tn q.tc, .int .i8 h1.uk, .slice q.UA q.un q.uc, .int .i64 h1.label, .int .i64 h1.pos, .slice q.A q.n q.c] 28) (.cells #[.int .i8 0, .string ⟨#[]⟩, .string ⟨#[]⟩, .int .i64 0, .int .i8 0, .slice none 0 0, .int .i8 0, .slice none 0 0, .int .i64 0, .int .i64 0, .slice none 0 0] 28)
      obtain ⟨xa, xb⟩ := heap_n2 wr (.cells #[.int .i8 h1.kind, .string h1.name, .string h1.arg, .int .i64 h1.num, .int .i8 h1.tk, .slice q.TA q.tn q.tc, .int .i8 h1.uk, .slice q.UA q.un q.uc, .int .i64 h1.label, .int .i64 h1.pos, .slice q.A q.n q.c] 28) (.cells #[.int .i8 0, .string ⟨#[]⟩, .string ⟨#[]⟩, .int .i64 0, .int .i8 0, .slice none 0 0, .int .i8 0, .slice none 0 0, .int .i64 0, .int .i64 0, .slice none 0 0] 28)
      have hsz9 : ((wr.alloc (.cells #[.int .i8 h1.kind, .string h1.name, .string h1.arg, .int .i64 h1.num, .int .i8 h1.tk, .slice q.TA q.tn q.tc, .int .i8 h1.uk, .slice q.UA q.un q.uc, .int .i64 h1.label, .int .i64 h1.pos, .slice q.A q.n q.c] 28)).alloc (.cells #[.int .i8 0, .string ⟨#[]⟩, .string ⟨#[]⟩, .int .i64 0, .int .i8 0, .slice none 0 0, .int .i8 0, .slice none 0 0, .int .i64 0, .int .i64 0, .slice none 0 0] 28)).heap.size = wr.heap.size + 2 := by simp
      have hO9 := ownsRow_below hO hb9
      clear hcall hstp hR hcl hft hkl hrl hok1 hcr hcr0 htf hmf hokr hA hsb hcnt1 hcnt2 hc1 hmm
      obtain ⟨PTA, Ptn, Ptc, PUA, Pun, Puc, pA, pn, pc⟩ := p
      dsimp only at *
      obtain rfl : pA = some ⟨bb, oo, none⟩ := HAA.out
      clear HAA
      go_upto_region 16 with fail
      generalize hW2 : (wr.alloc (.cells #[.int .i8 h1.kind, .string h1.name, .string h1.arg, .int .i64 h1.num, .int .i8 h1.tk, .slice q.TA q.tn q.tc, .int .i8 h1.uk, .slice q.UA q.un q.uc, .int .i64 h1.label, .int .i64 h1.pos, .slice q.A q.n q.c] 28)).alloc (.cells #[.int .i8 0, .string ⟨#[]⟩, .string ⟨#[]⟩, .int .i64 0, .int .i8 0, .slice none 0 0, .int .i8 0, .slice none 0 0, .int .i64 0, .int .i64 0, .slice none 0 0] 28) = W2 at *
      have HB9 := Lib.hid hb9
      have XB := Lib.hid xb
      have HO9 := Lib.hid hO9
      have HS9 := Lib.hid hsz9
      clear hW2 hb9 xb hO9 d0 d1 d2 d3 d4 d5 d6 d7 d8 d9 d10
      obtain ⟨q0, q1, q2, q3, q4, q5, q6, q7, q8, q9, q10, ql⟩ := own11 xa
      go_wp2_with fail
      refine (HC.out W2 HB9.out).mono ?_
      rintro e u ⟨p2, rfl, hI, hb⟩
      have HI := Lib.hid hI
      have HBU := Lib.hid hb
      have xbu := heap_below hb (heap_lt XB.out) XB.out
      have XBU := Lib.hid xbu
      have HOU := Lib.hid (ownsRow_below HO9.out hb)
      clear hI hb q0 q1 q2 q3 q4 q5 q6 q7 q8 q9 q10 ql xa
      have hxw : W2.heap.size = wr.heap.size + 2 := HS9.out
      have hlt0 := HOU.out.lt
      have hXO : u8.ownBlock ≠ some (wr.heap.size + 1) := fun e => by have h1 := (hO.lt _ e).2; omega
      have z := set11_own xbu (.int .i8 (Ls.lesH L h1 m').1.kind) (.string (Ls.lesH L h1 m').1.name) (.string (Ls.lesH L h1 m').1.arg) (.int .i64 (Ls.lesH L h1 m').1.num) (.int .i8 (Ls.lesH L h1 m').1.tk) (.slice p2.TA p2.tn p2.tc) (.int .i8 (Ls.lesH L h1 m').1.uk) (.slice p2.UA p2.un p2.uc) (.int .i64 (Ls.lesH L h1 m').1.label) (.int .i64 (Ls.lesH L h1 m').1.pos) (.slice p2.A p2.n p2.c)
      have hbz : Below (wr.heap.size + 1) u (set11 u (wr.heap.size + 1) (.int .i8 (Ls.lesH L h1 m').1.kind) (.string (Ls.lesH L h1 m').1.name) (.string (Ls.lesH L h1 m').1.arg) (.int .i64 (Ls.lesH L h1 m').1.num) (.int .i8 (Ls.lesH L h1 m').1.tk) (.slice p2.TA p2.tn p2.tc) (.int .i8 (Ls.lesH L h1 m').1.uk) (.slice p2.UA p2.un p2.uc) (.int .i64 (Ls.lesH L h1 m').1.label) (.int .i64 (Ls.lesH L h1 m').1.pos) (.slice p2.A p2.n p2.c)) := set11_below (Below.refl _ u) (Nat.le_refl _) (.int .i8 (Ls.lesH L h1 m').1.kind) (.string (Ls.lesH L h1 m').1.name) (.string (Ls.lesH L h1 m').1.arg) (.int .i64 (Ls.lesH L h1 m').1.num) (.int .i8 (Ls.lesH L h1 m').1.tk) (.slice p2.TA p2.tn p2.tc) (.int .i8 (Ls.lesH L h1 m').1.uk) (.slice p2.UA p2.un p2.uc) (.int .i64 (Ls.lesH L h1 m').1.label) (.int .i64 (Ls.lesH L h1 m').1.pos) (.slice p2.A p2.n p2.c)
      have hcz := fun (b o : Nat) (x : Value) (hne : b ≠ wr.heap.size + 1) (hx : u.cell? ⟨b, o, none⟩ = some x) => set11_cell hx hne (.int .i8 (Ls.lesH L h1 m').1.kind) (.string (Ls.lesH L h1 m').1.name) (.string (Ls.lesH L h1 m').1.arg) (.int .i64 (Ls.lesH L h1 m').1.num) (.int .i8 (Ls.lesH L h1 m').1.tk) (.slice p2.TA p2.tn p2.tc) (.int .i8 (Ls.lesH L h1 m').1.uk) (.slice p2.UA p2.un p2.uc) (.int .i64 (Ls.lesH L h1 m').1.label) (.int .i64 (Ls.lesH L h1 m').1.pos) (.slice p2.A p2.n p2.c)
      have hsz2 := set11_size u (wr.heap.size + 1) (.int .i8 (Ls.lesH L h1 m').1.kind) (.string (Ls.lesH L h1 m').1.name) (.string (Ls.lesH L h1 m').1.arg) (.int .i64 (Ls.lesH L h1 m').1.num) (.int .i8 (Ls.lesH L h1 m').1.tk) (.slice p2.TA p2.tn p2.tc) (.int .i8 (Ls.lesH L h1 m').1.uk) (.slice p2.UA p2.un p2.uc) (.int .i64 (Ls.lesH L h1 m').1.label) (.int .i64 (Ls.lesH L h1 m').1.pos) (.slice p2.A p2.n p2.c)
      have hro := set11_row HOU.out hXO (.int .i8 (Ls.lesH L h1 m').1.kind) (.string (Ls.lesH L h1 m').1.name) (.string (Ls.lesH L h1 m').1.arg) (.int .i64 (Ls.lesH L h1 m').1.num) (.int .i8 (Ls.lesH L h1 m').1.tk) (.slice p2.TA p2.tn p2.tc) (.int .i8 (Ls.lesH L h1 m').1.uk) (.slice p2.UA p2.un p2.uc) (.int .i64 (Ls.lesH L h1 m').1.label) (.int .i64 (Ls.lesH L h1 m').1.pos) (.slice p2.A p2.n p2.c)
      have f0 := fz11 xbu 0; have f1 := fz11 xbu 1; have f2 := fz11 xbu 2; have f3 := fz11 xbu 3; have f4 := fz11 xbu 4; have f5 := fz11 xbu 5; have f6 := fz11 xbu 6; have f7 := fz11 xbu 7; have f8 := fz11 xbu 8; have f9 := fz11 xbu 9; have f10 := fz11 xbu 10
      obtain ⟨y0, y1, y2, y3, y4, y5, y6, y7, y8, y9, y10, yl⟩ := own11 xbu
      have HSZ2 := Lib.hid hsz2
      have HXW := Lib.hid hxw
      have HZ4 := Lib.hid z4
      clear hsz2 hxw hlt0 z4 hXO
      go_upto_region 17 with fail
      rw [set11_eq]
      generalize set11 u (wr.heap.size + 1) (.int .i8 (Ls.lesH L h1 m').1.kind) (.string (Ls.lesH L h1 m').1.name) (.string (Ls.lesH L h1 m').1.arg) (.int .i64 (Ls.lesH L h1 m').1.num) (.int .i8 (Ls.lesH L h1 m').1.tk) (.slice p2.TA p2.tn p2.tc) (.int .i8 (Ls.lesH L h1 m').1.uk) (.slice p2.UA p2.un p2.uc) (.int .i64 (Ls.lesH L h1 m').1.label) (.int .i64 (Ls.lesH L h1 m').1.pos) (.slice p2.A p2.n p2.c) = u2 at *
      have HZZ := Lib.hid z
      have HBZ := Lib.hid hbz
      have HCZ := Lib.hid hcz
      have hro2 := hro
      clear xbu hbz hcz y0 y1 y2 y3 y4 y5 y6 y7 y8 y9 y10 yl f0 f1 f2 f3 f4 f5 f6 f7 f8 f9 f10
      obtain ⟨q0, q1, q2, q3, q4, q5, q6, q7, q8, q9, q10, ql⟩ := own11 z
      go_wp2_with (first | (at_builtin; refine wpList_append_own_at _ rfl (.tmp 63) (.tmp 65) 26 rfl wl.heap.size 28 i0 (.agg #[.int .i8 0, .string ⟨#[]⟩, .string ⟨#[]⟩, .int .i64 0, .int .i8 0, .slice none 0 0, .int .i8 0, .slice none 0 0, .int .i64 0, .int .i64 0, .slice none 0 0]) 11 152 Tryz.underlying26 hi hz1 hz2 hz3 rfl (by decide) u8 _ _ rfl (hro2.alloc _) ⟨u2.heap.size, 0, none⟩ 1 1 [.int .i8 (Ls.lesH L h1 m').1.kind, .string (Ls.lesH L h1 m').1.name, .string (Ls.lesH L h1 m').1.arg, .int .i64 (Ls.lesH L h1 m').1.num, .int .i8 (Ls.lesH L h1 m').1.tk, .slice p2.TA p2.tn p2.tc, .int .i8 (Ls.lesH L h1 m').1.uk, .slice p2.UA p2.un p2.uc, .int .i64 (Ls.lesH L h1 m').1.label, .int .i64 (Ls.lesH L h1 m').1.pos, .slice p2.A p2.n p2.c] rfl rfl ?c1 ?c2 ?c3 ?c4 ?c5 ?_))
      case c1 => exact cells_of_heap (heap_new u2 _)
      case c2 => intro x hx; simp at hx; rcases hx with rfl | rfl | rfl | rfl | rfl | rfl | rfl | rfl | rfl | rfl | rfl <;> rfl
      case c3 => unfold maxLen; omega
      case c4 => omega
      case c5 => have h1 := HBU.out.size; have h2 := HSZ2.out; have h3 := HXW.out; have h4 := HRB.out.size; simp; omega
      intro v' w3 hown3 hg3 _ hat
      have hxw := HXW.out
      have hR3 := Lib.hid (HSTP.out W2 u u2 w3 v' p2 _ (wr.heap.size + 1) HB9.out ⟨by omega, by omega⟩ HBU.out HI.out HBZ.out HCZ.out HSZ2.out hown3 hg3 (by simpa using hat))
      clear hxw hown3 hg3 hat hro hro2 hO q0 q1 q2 q3 q4 q5 q6 q7 q8 q9 q10 ql
      go_wp2_with fail
      go_roundw
      case rel =>
        refine ⟨i + 1, _, _, r, _, by go_num, rfl, hR3.out, ?_, ?_, HCNT.out, HNX.out.1, HNX.out.2⟩
        · rw [Ls.tcat_snoc]; exact HTF2.out
        · exact HMF2.out
      case measure => simp [intOf]; omega
end Go.Proofs.YtekjhcfjpedbkaaGreatDoor
