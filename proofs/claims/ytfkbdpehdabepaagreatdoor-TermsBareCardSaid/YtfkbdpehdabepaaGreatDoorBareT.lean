/-
  terms.bare. The reference's bare: what its loop goes by.
-/
import Derived.Test.YtfkbdpehdabepaaGreatDoorCopyT
import Derived.Test.YtfkbdpehdabepaaGreatDoorM5
import Derived.Test.YtfkbdpehdabepaaGreatDoorTmRight
namespace Go.Proofs.YtfkbdpehdabepaaGreatDoor
open Go.RowKit

/-- the copy's block, the result's block -/
structure BareRel (w wx : World) (B R : Nat) (a : Hd) (q : Pl) : Prop where
  bx : wx.heap[B]? = some (.cells #[.int .i8 a.kind, .string a.name, .string a.arg, .int .i64 a.num, .int .i8 a.tk, .slice q.TA q.tn q.tc, .int .i8 a.uk, .slice q.UA q.un q.uc, .int .i64 a.label, .int .i64 a.pos, .slice q.A q.n q.c] 28 (0, 0))
  rx : wx.heap[R]? = some (.cells #[.int .i8 0, .string ⟨#[]⟩, .string ⟨#[]⟩, .int .i64 0, .int .i8 0, .slice none 0 0, .int .i8 0, .slice none 0 0, .int .i64 0, .int .i64 0, .slice none 0 0] 28 (0, 0))
  below : Below w.heap.size w wx
  gt : w.heap.size < B
  ne : R ≠ B
/-- behind the types -/
structure BareRel2 (w wx : World) (B R : Nat) (a : Hd) (q q2 : Pl) : Prop where
  rel : BareRel w wx B R a q2
  ty : Ty.Is (mask (fun b => decide (B < b)) wx) a.tk a.tkids q2.TA q2.tn q2.tc
  tu : Ty.Is (mask (fun b => decide (B < b)) wx) a.uk a.ukids q2.UA q2.un q2.uc
  A : q2.A = q.A
  n : q2.n = q.n
  c : q2.c = q.c

theorem BareRel.types {w u v : World} {B R : Nat} {a : Hd} {q : Pl} {G1 G2 : Option Addr} {m1 c1 m2 c2 n1 n2 : Nat} (hB : v.heap[B]? = some (.cells #[.int .i8 a.kind, .string a.name, .string a.arg, .int .i64 a.num, .int .i8 a.tk, .slice q.TA q.tn q.tc, .int .i8 a.uk, .slice q.UA q.un q.uc, .int .i64 a.label, .int .i64 a.pos, .slice q.A q.n q.c] 28 (0, 0))) (hR : v.heap[R]? = some (.cells #[.int .i8 0, .string ⟨#[]⟩, .string ⟨#[]⟩, .int .i64 0, .int .i8 0, .slice none 0 0, .int .i8 0, .slice none 0 0, .int .i64 0, .int .i64 0, .slice none 0 0] 28 (0, 0))) (hb : Below w.heap.size w v) (hg : w.heap.size < B) (hne : R ≠ B)
    (h1 : Ty.Is (mask (fun b => decide (n1 ≤ b)) u) a.tk a.tkids G1 m1 c1) (hn1 : B < n1) (huv : Below u.heap.size u v) (h2 : Ty.Is (mask (fun b => decide (n2 ≤ b)) v) a.uk a.ukids G2 m2 c2) (hn2 : B < n2) :
    BareRel2 w ((((v.setCell ⟨B, 4, none⟩ (.int .i8 a.tk)).setCell ⟨B, 5, none⟩ (.slice G1 m1 c1)).setCell ⟨B, 6, none⟩ (.int .i8 a.uk)).setCell ⟨B, 7, none⟩ (.slice G2 m2 c2)) B R a q ⟨G1, m1, c1, G2, m2, c2, q.A, q.n, q.c⟩ := by
  have hoth : ∀ (b o : Nat) (x : Value), b ≠ B → v.cell? ⟨b, o, none⟩ = some x → ((((v.setCell ⟨B, 4, none⟩ (.int .i8 a.tk)).setCell ⟨B, 5, none⟩ (.slice G1 m1 c1)).setCell ⟨B, 6, none⟩ (.int .i8 a.uk)).setCell ⟨B, 7, none⟩ (.slice G2 m2 c2)).cell? ⟨b, o, none⟩ = some x := by
    intro b o x hbB hx
    rw [World.cell?_setCell_other _ _ _ _ (fun e => hbB (by injection e with e; exact e.symm)), World.cell?_setCell_other _ _ _ _ (fun e => hbB (by injection e with e; exact e.symm)), World.cell?_setCell_other _ _ _ _ (fun e => hbB (by injection e with e; exact e.symm)), World.cell?_setCell_other _ _ _ _ (fun e => hbB (by injection e with e; exact e.symm))]
    exact hx
  refine ⟨⟨?_, ?_, (((hb.setCell (p := ⟨B, 4, none⟩) (Nat.le_of_lt hg) _).setCell (p := ⟨B, 5, none⟩) (Nat.le_of_lt hg) _).setCell (p := ⟨B, 6, none⟩) (Nat.le_of_lt hg) _).setCell (p := ⟨B, 7, none⟩) (Nat.le_of_lt hg) _, hg, hne⟩, ?_, ?_, rfl, rfl, rfl⟩
  · simp [World.setCell, Array.getElem?_modify, hB]
  · rw [Below.heap_setCell _ _ _ R hne, Below.heap_setCell _ _ _ R hne, Below.heap_setCell _ _ _ R hne, Below.heap_setCell _ _ _ R hne]; exact hR
  · refine h1.kept (kept_mask fun b o x hP hx => ?_)
    have hP' : n1 ≤ b := by simpa using hP
    exact ⟨by simp; omega, hoth b o x (by omega) (by rw [huv.cell (p := ⟨b, o, none⟩) (Ty.cell_lt hx)]; exact hx)⟩
  · refine h2.kept (kept_mask fun b o x hP hx => ?_)
    have hP' : n2 ≤ b := by simpa using hP
    exact ⟨by simp; omega, hoth b o x (by omega) hx⟩

attribute [local go_sem ↓] Go.wp_at_zero Go.wp_at_succ
end Go.Proofs.YtfkbdpehdabepaaGreatDoor
namespace Go.Proofs.YtfkbdpehdabepaaGreatDoor
open Go.RowKit

/-- where a reference's copy may lie -/
def rmask (n0 B : Nat) (v : Value) : Nat → Bool := fun b => decide (b < n0) || (decide (B < b) && decide (v.ownBlock ≠ some b))
/-- a round's state -/
structure RB (n0 : Nat) (w wr : World) (h : Hd) (kids : Tm) (p : Pl) (a : Hd) (q q' : Pl) (i : Nat) (done rest : Tm) (xs : List Value) : Prop where
  eq : Tm.app done (Tm.bF rest) = Tm.bF kids
  len : Tm.len done = i
  i_eq : i + Tm.len rest = p.n
  lies : Tm.Lies (mask (fun b => decide (b < n0)) w) rest p.A i
  below : Below w.heap.size w wr
  xx : wr.heap[w.heap.size]? = some (.cells #[.int .i8 h.kind, .string h.name, .string h.arg, .int .i64 h.num, .int .i8 h.tk, .slice p.TA p.tn p.tc, .int .i8 h.uk, .slice p.UA p.un p.uc, .int .i64 h.label, .int .i64 h.pos, .slice p.A p.n p.c] 28 (0, 0))
  rx : wr.heap[w.heap.size + 1]? = some (.cells #[.int .i8 0, .string ⟨#[]⟩, .string ⟨#[]⟩, .int .i64 0, .int .i8 0, .slice none 0 0, .int .i8 0, .slice none 0 0, .int .i64 0, .int .i64 0, .slice none 0 0] 28 (0, 0))
  bx : wr.heap[w.heap.size + 2]? = some (.cells #[.int .i8 a.kind, .string a.name, .string a.arg, .int .i64 a.num, .int .i8 a.tk, .slice q'.TA q'.tn q'.tc, .int .i8 a.uk, .slice q'.UA q'.un q'.uc, .int .i64 a.label, .int .i64 a.pos, .slice q'.A q'.n q'.c] 28 (0, 0))
  tys : q'.TA = q.TA ∧ q'.tn = q.tn ∧ q'.tc = q.tc ∧ q'.UA = q.UA ∧ q'.un = q.un ∧ q'.uc = q.uc
  own : wr.ownsRow (w.heap.size + 3) 28 11 (.slice q'.A q'.n q'.c) i xs
  flat : Tm.Flat (mask (rmask n0 (w.heap.size + 2) (.slice q'.A q'.n q'.c)) wr) done xs
  n0_le : n0 ≤ w.heap.size
  sub : Tm.nodes rest ≤ Tm.nodes kids

theorem RB.step {n0 n1 : Nat} {w wr u w3 : World} {h h1 a : Hd} {kids kd r done : Tm} {p q q' p' : Pl} {i g cap : Nat} {xs : List Value} {o2 : Obj} (e : RB n0 w wr h kids p a q q' i done (.node h1 kd r) xs)
    (hb : Below wr.heap.size wr u) (hn1 : n1 = wr.heap.size) (hI : Tm.Is (mask (fun b => decide (b < n0) || decide (n1 ≤ b)) u) (Tm.cnt h1) (Tm.bF kd) p')
    (hown : w3.ownsRow (w.heap.size + 3) 28 11 (.slice (some ⟨g, 0, none⟩) (i + 1) cap) (i + 1) (xs ++ (Tm.cnt h1).cells p')) (hg : (u.alloc o2).grownBy w3 (Value.slice q'.A q'.n q'.c).ownBlock)
    (hat : (Value.slice q'.A q'.n q'.c).ownBlock = some g ∨ g = u.heap.size + 1) (hl : Tm.Lies (mask (fun b => decide (b < n0)) w) r p.A (i + 1)) :
    RB n0 w (w3.setCell ⟨w.heap.size + 2, 10, none⟩ (.slice (some ⟨g, 0, none⟩) (i + 1) cap)) h kids p a q ⟨q'.TA, q'.tn, q'.tc, q'.UA, q'.un, q'.uc, some ⟨g, 0, none⟩, i + 1, cap⟩ (i + 1) (Tm.app done (.node (Tm.cnt h1) (Tm.bF kd) .nil)) r (xs ++ (Tm.cnt h1).cells p') := by
  subst hn1
  obtain ⟨k1, k2, k3, k4, k5, k6, k7, k8, k9, k10, k11, k12, k13⟩ := e
  simp only [Tm.len, Tm.nodes, Tm.bF] at k1 k3 k13
  have hlt := k10.lt
  generalize hv : Value.slice q'.A q'.n q'.c = v at *
  have hwu : Below wr.heap.size wr (u.alloc o2) := hb.alloc hb.size o2
  have hs2 := hb.size
  have hs3 : (u.alloc o2).heap.size = u.heap.size + 1 := by simp
  have lx := heap_lt k6
  have lr := heap_lt k7
  have lb := heap_lt k8
  have hgl : w.heap.size + 3 ≤ g := by
    rcases hat with q | q
    · exact (hlt g q).1
    · omega
  have hkeep : ∀ (b : Nat) (x : Obj), b < w.heap.size + 3 → b ≠ w.heap.size + 2 → wr.heap[b]? = some x → (w3.setCell ⟨w.heap.size + 2, 10, none⟩ (.slice (some ⟨g, 0, none⟩) (i + 1) cap)).heap[b]? = some x := by
    intro b x h1 h2 h3
    rw [Below.heap_setCell _ _ _ b h2, hg.block b (by have := heap_lt h3; omega) (fun e => by have := (hlt b e.symm).1; omega)]
    exact heap_below hwu (heap_lt h3) h3
  have hcell : ∀ (b o : Nat) (x : Value), b ≠ w.heap.size + 2 → some b ≠ v.ownBlock → u.cell? ⟨b, o, none⟩ = some x → (w3.setCell ⟨w.heap.size + 2, 10, none⟩ (.slice (some ⟨g, 0, none⟩) (i + 1) cap)).cell? ⟨b, o, none⟩ = some x := by
    intro b o x h1 h2 h3
    rw [World.cell?_setCell_other _ _ _ _ (fun e => h1 (by injection e with e; exact e.symm)), World.cell?_of_block (hg.block b (by have := Ty.cell_lt h3; omega) h2), ((Below.refl u.heap.size u).alloc (Nat.le_refl _) o2).cell (p := ⟨b, o, none⟩) (Ty.cell_lt h3)]
    exact h3
  refine ⟨by rw [Tm.app_snoc]; exact k1, by rw [Tm.len_snoc]; omega, by omega, hl, ?_, hkeep _ _ (by omega) (by omega) k6, hkeep _ _ (by omega) (by omega) k7, ?_, k9, ?_, ?_, k12, by omega⟩
  · exact ((k5.trans (hwu.mono k5.size)).grown hg (Nat.le_trans k5.size hwu.size) fun q hq => by have := (hlt q hq).1; omega).setCell (p := ⟨w.heap.size + 2, 10, none⟩) (by simp) _
  · have hB3 := heap_below hwu lb k8
    have hB4 : w3.heap[w.heap.size + 2]? = (u.alloc o2).heap[w.heap.size + 2]? := hg.block _ (by omega) (fun e => by have := (hlt _ e.symm).1; omega)
    rw [← hB4] at hB3
    simp [World.setCell, Array.getElem?_modify, hB3]
  · exact hown.kept (only_setCell (g := w.heap.size + 2) (only_refl w3 _) (.inl rfl) _) (.inr (by simp [Value.ownBlock]; omega))
  · refine Tm.Flat.snoc (hI.kept (kept_mask fun b' o' x hP hx => ?_)) done xs (k11.kept (kept_mask fun b' o' x hP hx => ?_))
    · have hbl := Ty.cell_lt hx
      simp only [Bool.or_eq_true, decide_eq_true_eq] at hP
      have hne : some b' ≠ v.ownBlock := fun e => by have := hlt b' e.symm; omega
      refine ⟨?_, hcell b' o' x (by omega) hne hx⟩
      unfold rmask
      simp only [Bool.or_eq_true, Bool.and_eq_true, decide_eq_true_eq]
      rcases hP with q | q
      · exact .inl q
      · refine .inr ⟨by omega, fun e => ?_⟩
        simp only [Value.ownBlock, Option.some.injEq] at e
        rcases hat with z | z
        · exact hne (by rw [z, e])
        · omega
    · have hbl := Ty.cell_lt hx
      unfold rmask at hP
      simp only [Bool.or_eq_true, Bool.and_eq_true, decide_eq_true_eq] at hP
      have hne : some b' ≠ v.ownBlock := fun e => by
        rcases hP with q | q
        · have := hlt b' e.symm; omega
        · exact q.2 e.symm
      refine ⟨?_, hcell b' o' x (by omega) hne (by rw [hb.cell (p := ⟨b', o', none⟩) hbl]; exact hx)⟩
      unfold rmask
      simp only [Bool.or_eq_true, Bool.and_eq_true, decide_eq_true_eq]
      rcases hP with q | q
      · exact .inl q
      · refine .inr ⟨q.1, fun e => ?_⟩
        simp only [Value.ownBlock, Option.some.injEq] at e
        rcases hat with z | z
        · exact hne (by rw [z, e])
        · omega


theorem rbare_bx {w u w3 : World} {o2 : Obj} {cs : Array Value} {v : Value} (hB : u.heap[w.heap.size + 2]? = some (.cells cs 28 (0, 0))) (hl : w.heap.size + 2 < u.heap.size) {N : Nat} (hlt : ∀ k, v.ownBlock = some k → w.heap.size + 3 ≤ k ∧ k < N) (hg : (u.alloc o2).grownBy w3 v.ownBlock) :
    w3.heap[w.heap.size + 2]? = some (.cells cs 28 (0, 0)) := by
  rw [hg.block _ (by simp; omega) (fun e => by have := (hlt _ e.symm).1; omega)]
  exact heap_old hB o2
theorem rbare_end {n0 : Nat} {w wr : World} {h a : Hd} {kids : Tm} {p q q' : Pl} {i n : Nat} {done : Tm} {xs : List Value} (hF : Tm.Fit (mask (fun b => decide (b < n0)) w) a q n) (hne : i = Tm.len kids) (e : RB n0 w wr h kids p a q q' i done .nil xs) {W9 : World} (hcell : ∀ (b o : Nat) (x : Value), b ≠ w.heap.size + 1 → wr.cell? ⟨b, o, none⟩ = some x → W9.cell? ⟨b, o, none⟩ = some x) (hbel : Below w.heap.size w W9) :
    ∃ p2, Ending.returned (.agg #[.int .i8 a.kind, .string a.name, .string a.arg, .int .i64 a.num, .int .i8 a.tk, .slice q'.TA q'.tn q'.tc, .int .i8 a.uk, .slice q'.UA q'.un q'.uc, .int .i64 a.label, .int .i64 a.pos, .slice q'.A q'.n q'.c]) = Ending.returned (.agg #[.int .i8 a.kind, .string a.name, .string a.arg, .int .i64 a.num, .int .i8 a.tk, .slice p2.TA p2.tn p2.tc, .int .i8 a.uk, .slice p2.UA p2.un p2.uc, .int .i64 a.label, .int .i64 a.pos, .slice p2.A p2.n p2.c]) ∧ Tm.Is (mask (fun b => decide (b < n0) || decide (w.heap.size ≤ b)) W9) a (Tm.bF kids) p2 ∧ Below w.heap.size w W9 := by
  obtain ⟨k1, k2, k3, k4, k5, k6, k7, k8, ⟨t1, t2, t3, t4, t5, t6⟩, k10, k11, k12, k13⟩ := e
  simp only [Tm.bF] at k1
  rw [Tm.app_nil] at k1
  have hold : Tm.Kept (mask (fun b => decide (b < n0)) w) (mask (fun b => decide (b < n0) || decide (w.heap.size ≤ b)) W9) := kept_mask fun b o x hP hx => by
    have hP' : b < n0 := of_decide_eq_true hP
    exact ⟨by simp [hP'], hcell b o x (by omega) (by rw [k5.cell (p := ⟨b, o, none⟩) (Ty.cell_lt hx)]; exact hx)⟩
  have hqn : q'.n = i ∧ q'.n ≤ q'.c ∧ q'.c ≤ maxLen := by
    rcases k10.2 with ⟨e, e2⟩ | ⟨g, cap, cur, e, _, _, e3, e4, _⟩
    · injection e with _ e3 e4; exact ⟨by omega, by omega, by rw [e4]; exact Nat.zero_le _⟩
    · injection e with _ e5 e6; exact ⟨e5, by omega, by omega⟩
  refine ⟨q', rfl, ⟨⟨?_, ?_, ?_, hqn.2.1, hqn.2.2, hF.klo, hF.khi, hF.llo, hF.lhi, hF.nm, hF.ar⟩, ?_⟩, hbel⟩
  · rw [t1, t2, t3]; exact hF.ty.kept hold
  · rw [t4, t5, t6]; exact hF.to.kept hold
  · rw [Tm.len_bF, hqn.1]; exact hne
  · rw [← k1]
    rcases k10.2 with ⟨e, e2⟩ | ⟨g, cap, cur, e, hb0, _⟩
    · have hk0 : done = .nil := by
        cases done with
        | nil => rfl
        | node _ _ _ => simp only [Tm.len] at k2; omega
      rw [hk0]; trivial
    · have hA : q'.A = some ⟨g, 0, none⟩ := by injection e
      rw [hA]
      refine Tm.Flat.lies done xs 0 (k11.kept (kept_mask fun b o x hP hx => ?_)) fun j u hu => ?_
      · unfold rmask at hP
        simp only [Bool.or_eq_true, Bool.and_eq_true, decide_eq_true_eq] at hP
        exact ⟨by simp only [Bool.or_eq_true, decide_eq_true_eq]; omega, hcell b o x (by omega) hx⟩
      · have := k10.cells (g := g) (by rw [e]; rfl) j u hu
        rw [show (⟨g, 0, none⟩ : Addr).add j = ⟨g, j, none⟩ by unfold Addr.add; by_cases h : j = 0 <;> simp [h]] at this
        rw [show 0 * 11 + j = j by omega]
        exact mask_of (by simp only [Bool.or_eq_true, decide_eq_true_eq]; omega) (hcell g j u (by omega) this)

theorem far11' {wr : World} {R b o : Nat} {v0 v1 v2 v3 v4 v5 v6 v7 v8 v9 v10 : Value} (h1 : b ≠ R) : (((((((((((wr.setCell ⟨R, 0, none⟩ v0).setCell ⟨R, 1, none⟩ v1).setCell ⟨R, 2, none⟩ v2).setCell ⟨R, 3, none⟩ v3).setCell ⟨R, 4, none⟩ v4).setCell ⟨R, 5, none⟩ v5).setCell ⟨R, 6, none⟩ v6).setCell ⟨R, 7, none⟩ v7).setCell ⟨R, 8, none⟩ v8).setCell ⟨R, 9, none⟩ v9).setCell ⟨R, 10, none⟩ v10).cell? ⟨b, o, none⟩ = wr.cell? ⟨b, o, none⟩ :=
  World.cell?_of_block (by rw [Below.heap_setCell _ _ _ b h1, Below.heap_setCell _ _ _ b h1, Below.heap_setCell _ _ _ b h1, Below.heap_setCell _ _ _ b h1, Below.heap_setCell _ _ _ b h1, Below.heap_setCell _ _ _ b h1, Below.heap_setCell _ _ _ b h1, Below.heap_setCell _ _ _ b h1, Below.heap_setCell _ _ _ b h1, Below.heap_setCell _ _ _ b h1, Below.heap_setCell _ _ _ b h1])
theorem far11 {wr : World} {R : Nat} (v0 v1 v2 v3 v4 v5 v6 v7 v8 v9 v10 : Value) (b o : Nat) (x : Value) (h1 : b ≠ R) (h2 : wr.cell? ⟨b, o, none⟩ = some x) : (((((((((((wr.setCell ⟨R, 0, none⟩ v0).setCell ⟨R, 1, none⟩ v1).setCell ⟨R, 2, none⟩ v2).setCell ⟨R, 3, none⟩ v3).setCell ⟨R, 4, none⟩ v4).setCell ⟨R, 5, none⟩ v5).setCell ⟨R, 6, none⟩ v6).setCell ⟨R, 7, none⟩ v7).setCell ⟨R, 8, none⟩ v8).setCell ⟨R, 9, none⟩ v9).setCell ⟨R, 10, none⟩ v10).cell? ⟨b, o, none⟩ = some x := by
  rw [far11' h1]; exact h2
end Go.Proofs.YtfkbdpehdabepaaGreatDoor
