/-
  terms.bare: what is made lies apart from all else, part by part.
-/
import Derived.Test.YtfkbdpehdabepaaGreatDoorCa1
import Derived.Test.YtfkbdpehdabepaaGreatDoorCp
import Derived.Test.YtfkbdpehdabepaaGreatDoorTmAlike
namespace Go.Proofs.YtfkbdpehdabepaaGreatDoor
open Go.RowKit

/-- a bare term in memory of its own -/
def CopySp (w : World) (h : Hd) (kids : Tm) (e : Ending) (w' : World) : Prop :=
  ∃ p, e = .returned (.agg #[.int .i8 (Tm.cnt h).kind, .string (Tm.cnt h).name, .string (Tm.cnt h).arg, .int .i64 (Tm.cnt h).num, .int .i8 (Tm.cnt h).tk, .slice p.TA p.tn p.tc, .int .i8 (Tm.cnt h).uk, .slice p.UA p.un p.uc, .int .i64 (Tm.cnt h).label, .int .i64 (Tm.cnt h).pos, .slice p.A p.n p.c]) ∧ Tm.SepK w' (Tm.cnt h) (Tm.bF kids) p w.heap.size w'.heap.size ∧ Below w.heap.size w w'
theorem froz_of {w : World} {b : Nat} {cs : Array Value} {t : TypeId} (h : w.heap[b]? = some (.cells cs t (0, 0))) (o : Nat) : w.frozen? ⟨b, o, none⟩ = false := by simp [World.frozen?, h]

/-- a copy of a type lies in blocks from n0 on -/
theorem CopyS.mask {w w' : World} {k : Int} {kids : Fo} {e : Ending} (hk : -128 ≤ k ∧ k ≤ 127) (h : CopyS w k kids e w') :
    ∃ G m c, e = .returned (.agg #[.int .i8 k, .slice G m c]) ∧ Ty.Is (mask (fun b => decide (w.heap.size ≤ b)) w') k kids G m c ∧ Below w.heap.size w w' := by
  obtain ⟨G, c, rfl, h1, h2, h3, hb⟩ := h
  exact ⟨G, _, c, rfl, h3.lone hk h1 h2 _ (fun b o v hP hv => mask_of (by simp; exact hP.1) hv), hb⟩

/-- a round's state: wq is the world ahead of the loop, the copy's own box is O -/
structure BaRel (w wq wr : World) (O : Nat) (A : Option Addr) (kids : Tm) (c0 c1 c2 c3 c4 c5 c6 c7 c8 c9 v : Value) (n i : Nat) (done rest : Tm) (xs : List Value) : Prop where
  eq : Tm.app done (Tm.bF rest) = Tm.bF kids
  len : Tm.len done = i
  i_eq : i + Tm.len rest = n
  lies : Tm.Lies w rest A i
  below : Below w.heap.size w wr
  size : wq.heap.size ≤ wr.heap.size
  keep : ∀ b, b < wq.heap.size → b ≠ O → wr.heap[b]? = wq.heap[b]?
  own : wr.ownsRow wq.heap.size 28 11 v i xs
  flat : Tm.FlatS wr v.ownBlock done xs wq.heap.size wr.heap.size
  box : wr.heap[O]? = some (.cells #[c0, c1, c2, c3, c4, c5, c6, c7, c8, c9, v] 28 (0, 0))
  olt : O < wq.heap.size
  ole : w.heap.size ≤ O
  sub : Tm.nodes rest ≤ Tm.nodes kids
theorem BaRel.step {w wq wr W u w3 : World} {O : Nat} {A : Option Addr} {kids : Tm} {c0 c1 c2 c3 c4 c5 c6 c7 c8 c9 v v' : Value} {n i : Nat} {done r kd : Tm} {h : Hd} {xs : List Value} {p : Pl} {o2 : Obj}
    (e : BaRel w wq wr O A kids c0 c1 c2 c3 c4 c5 c6 c7 c8 c9 v n i done (.node h kd r) xs) (hW : Below wr.heap.size wr W) (hb : Below W.heap.size W u) (hI : Tm.SepK u (Tm.cnt h) (Tm.bF kd) p W.heap.size u.heap.size)
    (hown : w3.ownsRow wq.heap.size 28 11 v' (i + 1) (xs ++ (Tm.cnt h).cells p)) (hg : (u.alloc o2).grownBy w3 v.ownBlock) (hat : v'.ownBlock = v.ownBlock ∨ v'.ownBlock = some (u.alloc o2).heap.size) (hl : Tm.Lies w r A (i + 1)) :
    BaRel w wq (w3.setCell ⟨O, 10, none⟩ v') O A kids c0 c1 c2 c3 c4 c5 c6 c7 c8 c9 v' n (i + 1) (Tm.app done (.node (Tm.cnt h) (Tm.bF kd) .nil)) r (xs ++ (Tm.cnt h).cells p) := by
  obtain ⟨h1, h2, h3, h4, h5, hsz, hkp, h6, h7, hbox, h9, h10, h8⟩ := e
  simp only [Tm.len, Tm.nodes, Tm.bF] at h1 h3 h8
  have hlt := h6.lt
  have hs2 := hb.size
  have hs3 : u.heap.size + 1 = (u.alloc o2).heap.size := by simp
  have hwW := hW.size
  have hwu : Below wr.heap.size wr (u.alloc o2) := (hW.trans (hb.mono hwW)).alloc (by omega) o2
  have hg2 := hg.size
  have hvO : some O ≠ v.ownBlock := fun e => by have := (hlt O e.symm).1; omega
  have hb3 : w3.heap[O]? = some (.cells #[c0, c1, c2, c3, c4, c5, c6, c7, c8, c9, v] 28 (0, 0)) := by
    rw [hg.block O (by omega) hvO, hwu.block O (heap_lt hbox)]; exact hbox
  have hss : (w3.setCell ⟨O, 10, none⟩ v').heap.size = w3.heap.size := by simp [World.setCell]
  have hcell : ∀ b', b' ≠ O → (w3.setCell ⟨O, 10, none⟩ v').heap[b']? = w3.heap[b']? := fun b' hne => Below.heap_setCell _ _ _ b' hne
  have hown2 : (w3.setCell ⟨O, 10, none⟩ v').ownsRow wq.heap.size 28 11 v' (i + 1) (xs ++ (Tm.cnt h).cells p) := by
    refine hown.kept (row := some O) ⟨rfl, rfl, rfl, by simp [World.setCell], fun q hq hne => Below.heap_setCell _ _ _ q (fun e => hne (by rw [e]))⟩ ?_
    cases hv : v'.ownBlock with
    | none => exact .inl rfl
    | some g => exact .inr (fun e => by injection e with e; have := (hown.lt g hv).1; omega)
  refine ⟨by rw [Tm.app_snoc]; exact h1, by rw [Tm.len_snoc]; omega, by omega, hl, ?_, by rw [hss]; omega, ?_, hown2, ?_, ?_, h9, h10, by omega⟩
  · exact ((h5.trans (hwu.mono h5.size)).grown hg (Nat.le_trans h5.size hwu.size) fun q hq => by have := (hlt q hq).1; omega).setCell h10 _
  · intro b hbq hne
    rw [hcell b hne, hg.block b (by omega) (fun e => by have := (hlt b e.symm).1; omega), hwu.block b (by omega)]
    exact hkp b hbq hne
  · have hnew : Tm.FlatS (w3.setCell ⟨O, 10, none⟩ v') v'.ownBlock done xs wq.heap.size wr.heap.size := by
      refine Tm.FlatS.to done xs wq.heap.size wr.heap.size (fun b' q1 q2 q3 => ?_) (fun g e => ?_) h7
      · rw [hcell b' (by omega), hg.block b' (by omega) (fun e => q3 e.symm), hwu.block b' q2]
      · rcases hat with q | q
        · exact .inl (by rw [← q]; exact e)
        · rw [q] at e; injection e with e; exact .inr (by omega)
    have hsep : Tm.SepK (w3.setCell ⟨O, 10, none⟩ v') (Tm.cnt h) (Tm.bF kd) p W.heap.size u.heap.size := by
      refine hI.keep fun b' q1 q2 => ?_
      rw [hcell b' (by omega), hg.block b' (by omega) (fun e => by have := (hlt b' e.symm).2; omega), Below.heap_alloc _ _ _ q2]
    have := Tm.FlatS.snoc (fun g e => ?_) hsep done xs wq.heap.size wr.heap.size hwW hnew
    · rw [hss]
      exact Tm.FlatS.up _ _ _ _ _ (by omega) this
    · rcases hat with q | q
      · rw [q] at e; have := (hlt g e).2; left; omega
      · rw [q] at e; injection e with e; right; omega
  · simp [World.setCell, Array.getElem?_modify, hb3]
/-- the loop's end: the kids' row -/
theorem BaRel.done {w wq wr : World} {O : Nat} {A : Option Addr} {kids : Tm} {c0 c1 c2 c3 c4 c5 c6 c7 c8 c9 v : Value} {n : Nat} {done : Tm} {xs : List Value} (e : BaRel w wq wr O A kids c0 c1 c2 c3 c4 c5 c6 c7 c8 c9 v n n done .nil xs) :
    ∃ G cg, v = .slice G n cg ∧ (Tm.bF kids = .nil ∨ ∃ g', G = some ⟨g', 0, none⟩ ∧ wq.heap.size ≤ g' ∧ g' < wr.heap.size ∧ (∀ o, wr.frozen? ⟨g', o, none⟩ = false) ∧ Tm.SepF wr g' (Tm.bF kids) 0 wq.heap.size wr.heap.size) ∧ n = Tm.len (Tm.bF kids) ∧ n ≤ cg ∧ cg ≤ maxLen := by
  have he := e.eq
  simp only [Tm.bF] at he
  rw [Tm.app_nil] at he
  have hfl := e.flat
  have hdl := e.len
  rw [← he]
  rcases e.own.2 with ⟨hv, h0⟩ | ⟨g, cap, cur, hv, hb0, hg, h1, h2, h3⟩
  · have hk0 : done = .nil := by
      cases done with
      | nil => rfl
      | node _ _ _ => simp only [Tm.len] at hdl; omega
    exact ⟨none, 0, by rw [hv, h0], .inl hk0, by omega, by omega, Nat.zero_le _⟩
  · refine ⟨some ⟨g, 0, none⟩, cap, hv, .inr ⟨g, rfl, hb0, heap_lt hg, froz_of hg, ?_⟩, by omega, h1, h2⟩
    rw [show v.ownBlock = some g by rw [hv]; rfl] at hfl
    refine Tm.FlatS.sep done xs 0 _ _ hfl fun j u hu => ?_
    have := e.own.cells (g := g) (by rw [hv]; rfl) j u hu
    rw [show (⟨g, 0, none⟩ : Addr).add j = ⟨g, j, none⟩ by unfold Addr.add; by_cases h : j = 0 <;> simp [h]] at this
    rw [show 0 * 11 + j = j by omega]
    exact this

/-- the term's block, the copy's block, the result's block -/
structure BareRl (w wx : World) (B R : Nat) (h : Hd) (p : Pl) (a : Hd) (q : Pl) : Prop where
  tx : wx.heap[w.heap.size]? = some (.cells #[.int .i8 h.kind, .string h.name, .string h.arg, .int .i64 h.num, .int .i8 h.tk, .slice p.TA p.tn p.tc, .int .i8 h.uk, .slice p.UA p.un p.uc, .int .i64 h.label, .int .i64 h.pos, .slice p.A p.n p.c] 28 (0, 0))
  bx : wx.heap[B]? = some (.cells #[.int .i8 a.kind, .string a.name, .string a.arg, .int .i64 a.num, .int .i8 a.tk, .slice q.TA q.tn q.tc, .int .i8 a.uk, .slice q.UA q.un q.uc, .int .i64 a.label, .int .i64 a.pos, .slice q.A q.n q.c] 28 (0, 0))
  rx : wx.heap[R]? = some (.cells #[.int .i8 0, .string ⟨#[]⟩, .string ⟨#[]⟩, .int .i64 0, .int .i8 0, .slice none 0 0, .int .i8 0, .slice none 0 0, .int .i64 0, .int .i64 0, .slice none 0 0] 28 (0, 0))
  below : Below w.heap.size w wx
  gt : w.heap.size < B
  ne : R ≠ B
/-- behind the types -/
structure BareRl2 (w wx : World) (B R : Nat) (h : Hd) (p : Pl) (a : Hd) (q q2 : Pl) : Prop where
  rel : BareRl w wx B R h p a q2
  ty : Ty.Is (mask (fun b => decide (B < b)) wx) a.tk a.tkids q2.TA q2.tn q2.tc
  tu : Ty.Is (mask (fun b => decide (B < b)) wx) a.uk a.ukids q2.UA q2.un q2.uc

theorem BareRl.names {w u : World} {B R : Nat} {h : Hd} {p : Pl} {a : Hd} {q : Pl} (hT : u.heap[w.heap.size]? = some (.cells #[.int .i8 h.kind, .string h.name, .string h.arg, .int .i64 h.num, .int .i8 h.tk, .slice p.TA p.tn p.tc, .int .i8 h.uk, .slice p.UA p.un p.uc, .int .i64 h.label, .int .i64 h.pos, .slice p.A p.n p.c] 28 (0, 0))) (hB : u.heap[B]? = some (.cells #[.int .i8 a.kind, .string a.name, .string a.arg, .int .i64 a.num, .int .i8 a.tk, .slice q.TA q.tn q.tc, .int .i8 a.uk, .slice q.UA q.un q.uc, .int .i64 a.label, .int .i64 a.pos, .slice q.A q.n q.c] 28 (0, 0))) (hR : u.heap[R]? = some (.cells #[.int .i8 0, .string ⟨#[]⟩, .string ⟨#[]⟩, .int .i64 0, .int .i8 0, .slice none 0 0, .int .i8 0, .slice none 0 0, .int .i64 0, .int .i64 0, .slice none 0 0] 28 (0, 0))) (hb : Below w.heap.size w u) (hg : w.heap.size < B) (hne : R ≠ B) :
    BareRl w ((u.setCell ⟨B, 1, none⟩ (.string a.name)).setCell ⟨B, 2, none⟩ (.string a.arg)) B R h p a q := by
  refine ⟨?_, ?_, ?_, (hb.setCell (p := ⟨B, 1, none⟩) (Nat.le_of_lt hg) _).setCell (p := ⟨B, 2, none⟩) (Nat.le_of_lt hg) _, hg, hne⟩
  · rw [Below.heap_setCell _ _ _ _ (Nat.ne_of_lt hg), Below.heap_setCell _ _ _ _ (Nat.ne_of_lt hg)]; exact hT
  · simp [World.setCell, Array.getElem?_modify, hB]
  · rw [Below.heap_setCell _ _ _ R hne, Below.heap_setCell _ _ _ R hne]; exact hR
theorem BareRl.types {w u v : World} {B R : Nat} {h : Hd} {p : Pl} {a : Hd} {q : Pl} {G1 G2 : Option Addr} {m1 c1 m2 c2 n1 n2 : Nat} (hT : v.heap[w.heap.size]? = some (.cells #[.int .i8 h.kind, .string h.name, .string h.arg, .int .i64 h.num, .int .i8 h.tk, .slice p.TA p.tn p.tc, .int .i8 h.uk, .slice p.UA p.un p.uc, .int .i64 h.label, .int .i64 h.pos, .slice p.A p.n p.c] 28 (0, 0))) (hB : v.heap[B]? = some (.cells #[.int .i8 a.kind, .string a.name, .string a.arg, .int .i64 a.num, .int .i8 a.tk, .slice q.TA q.tn q.tc, .int .i8 a.uk, .slice q.UA q.un q.uc, .int .i64 a.label, .int .i64 a.pos, .slice q.A q.n q.c] 28 (0, 0))) (hR : v.heap[R]? = some (.cells #[.int .i8 0, .string ⟨#[]⟩, .string ⟨#[]⟩, .int .i64 0, .int .i8 0, .slice none 0 0, .int .i8 0, .slice none 0 0, .int .i64 0, .int .i64 0, .slice none 0 0] 28 (0, 0))) (hb : Below w.heap.size w v) (hg : w.heap.size < B) (hne : R ≠ B)
    (h1 : Ty.Is (mask (fun b => decide (n1 ≤ b)) u) a.tk a.tkids G1 m1 c1) (hn1 : B < n1) (huv : Below u.heap.size u v) (h2 : Ty.Is (mask (fun b => decide (n2 ≤ b)) v) a.uk a.ukids G2 m2 c2) (hn2 : B < n2) :
    BareRl2 w ((((v.setCell ⟨B, 4, none⟩ (.int .i8 a.tk)).setCell ⟨B, 5, none⟩ (.slice G1 m1 c1)).setCell ⟨B, 6, none⟩ (.int .i8 a.uk)).setCell ⟨B, 7, none⟩ (.slice G2 m2 c2)) B R h p a q ⟨G1, m1, c1, G2, m2, c2, q.A, q.n, q.c⟩ := by
  have hoth : ∀ (b o : Nat) (x : Value), b ≠ B → v.cell? ⟨b, o, none⟩ = some x → ((((v.setCell ⟨B, 4, none⟩ (.int .i8 a.tk)).setCell ⟨B, 5, none⟩ (.slice G1 m1 c1)).setCell ⟨B, 6, none⟩ (.int .i8 a.uk)).setCell ⟨B, 7, none⟩ (.slice G2 m2 c2)).cell? ⟨b, o, none⟩ = some x := by
    intro b o x hbB hx
    rw [World.cell?_setCell_other _ _ _ _ (fun e => hbB (by injection e with e; exact e.symm)), World.cell?_setCell_other _ _ _ _ (fun e => hbB (by injection e with e; exact e.symm)), World.cell?_setCell_other _ _ _ _ (fun e => hbB (by injection e with e; exact e.symm)), World.cell?_setCell_other _ _ _ _ (fun e => hbB (by injection e with e; exact e.symm))]
    exact hx
  refine ⟨⟨?_, ?_, ?_, (((hb.setCell (p := ⟨B, 4, none⟩) (Nat.le_of_lt hg) _).setCell (p := ⟨B, 5, none⟩) (Nat.le_of_lt hg) _).setCell (p := ⟨B, 6, none⟩) (Nat.le_of_lt hg) _).setCell (p := ⟨B, 7, none⟩) (Nat.le_of_lt hg) _, hg, hne⟩, ?_, ?_⟩
  · have hne' := Nat.ne_of_lt hg
    rw [Below.heap_setCell _ _ _ _ hne', Below.heap_setCell _ _ _ _ hne', Below.heap_setCell _ _ _ _ hne', Below.heap_setCell _ _ _ _ hne']; exact hT
  · simp [World.setCell, Array.getElem?_modify, hB]
  · rw [Below.heap_setCell _ _ _ R hne, Below.heap_setCell _ _ _ R hne, Below.heap_setCell _ _ _ R hne, Below.heap_setCell _ _ _ R hne]; exact hR
  · refine h1.kept (kept_mask fun b o x hP hx => ?_)
    have hP' : n1 ≤ b := by simpa using hP
    exact ⟨by simp; omega, hoth b o x (by omega) (by rw [huv.cell (p := ⟨b, o, none⟩) (Ty.cell_lt hx)]; exact hx)⟩
  · refine h2.kept (kept_mask fun b o x hP hx => ?_)
    have hP' : n2 ≤ b := by simpa using hP
    exact ⟨by simp; omega, hoth b o x (by omega) hx⟩
/-- the types of a right term that count are right -/
theorem Tm.cnt_chk {h : Hd} {n : Nat} (hok : Tm.headOk h n = true) : Ty.chk (Tm.cnt h).tk (Tm.cnt h).tkids = 0 ∧ Ty.chk (Tm.cnt h).uk (Tm.cnt h).ukids = 0 := by
  have hz : Ty.chk 0 .nil = 0 := by decide
  unfold Tm.headOk Tm.tysOk at hok
  simp only [Bool.and_eq_true, Bool.or_eq_true, Bool.not_eq_true', beq_iff_eq] at hok
  obtain ⟨_, h1, h2⟩ := hok
  unfold Tm.cnt
  dsimp only
  constructor
  · cases ht : Tm.hasType h.kind
    · simpa using hz
    · rw [ht] at h1; simpa using h1
  · cases ht : Tm.hasTo h.kind
    · simpa using hz
    · rw [ht] at h2; simpa using h2
/-- the start of the loop -/
theorem BaRel.start {w wx : World} {B R : Nat} {h : Hd} {p : Pl} {kids : Tm} {a : Hd} {q q2 : Pl} (e : BareRl2 w wx B R h p a q q2) (hL : Tm.Lies w kids p.A 0) (hn : p.n = Tm.len kids) :
    BaRel w (wx.setCell ⟨B, 10, none⟩ (.slice none 0 0)) (wx.setCell ⟨B, 10, none⟩ (.slice none 0 0)) B p.A kids (.int .i8 a.kind) (.string a.name) (.string a.arg) (.int .i64 a.num) (.int .i8 a.tk) (.slice q2.TA q2.tn q2.tc) (.int .i8 a.uk) (.slice q2.UA q2.un q2.uc) (.int .i64 a.label) (.int .i64 a.pos) (.slice none 0 0) p.n 0 .nil kids [] :=
  ⟨rfl, rfl, by omega, hL, e.rel.below.setCell (p := ⟨B, 10, none⟩) (Nat.le_of_lt e.rel.gt) _, Nat.le_refl _, fun _ _ _ => rfl, ⟨rfl, .inl ⟨rfl, rfl⟩⟩, ⟨rfl, Nat.le_refl _⟩, by simp [World.setCell, Array.getElem?_modify, e.rel.bx], by simp [World.setCell]; exact heap_lt e.rel.bx, Nat.le_of_lt e.rel.gt, Nat.le_refl _⟩

theorem bare_heap {u3 : World} {R b : Nat} {v0 v1 v2 v3 v4 v5 v6 v7 v8 v9 v10 : Value} (h2 : b ≠ R) : (((((((((((u3.setCell ⟨R, 0, none⟩ v0).setCell ⟨R, 1, none⟩ v1).setCell ⟨R, 2, none⟩ v2).setCell ⟨R, 3, none⟩ v3).setCell ⟨R, 4, none⟩ v4).setCell ⟨R, 5, none⟩ v5).setCell ⟨R, 6, none⟩ v6).setCell ⟨R, 7, none⟩ v7).setCell ⟨R, 8, none⟩ v8).setCell ⟨R, 9, none⟩ v9).setCell ⟨R, 10, none⟩ v10).heap[b]? = u3.heap[b]? := by
  rw [Below.heap_setCell _ _ _ b h2, Below.heap_setCell _ _ _ b h2, Below.heap_setCell _ _ _ b h2, Below.heap_setCell _ _ _ b h2, Below.heap_setCell _ _ _ b h2, Below.heap_setCell _ _ _ b h2, Below.heap_setCell _ _ _ b h2, Below.heap_setCell _ _ _ b h2, Below.heap_setCell _ _ _ b h2, Below.heap_setCell _ _ _ b h2, Below.heap_setCell _ _ _ b h2]
theorem bare_size {u3 : World} {R : Nat} {v0 v1 v2 v3 v4 v5 v6 v7 v8 v9 v10 : Value} : (((((((((((u3.setCell ⟨R, 0, none⟩ v0).setCell ⟨R, 1, none⟩ v1).setCell ⟨R, 2, none⟩ v2).setCell ⟨R, 3, none⟩ v3).setCell ⟨R, 4, none⟩ v4).setCell ⟨R, 5, none⟩ v5).setCell ⟨R, 6, none⟩ v6).setCell ⟨R, 7, none⟩ v7).setCell ⟨R, 8, none⟩ v8).setCell ⟨R, 9, none⟩ v9).setCell ⟨R, 10, none⟩ v10).heap.size = u3.heap.size := by simp [World.setCell]
/-- what is left: the copy, apart from all else -/
theorem bare_end {w wx wr W9 : World} {B : Nat} {h : Hd} {p : Pl} {a : Hd} {q q2 : Pl} {bk : Tm} {G : Option Addr} {m cg : Nat} (e : BareRl2 w wx B (w.heap.size + 1) h p a q q2)
    (k1 : -128 ≤ a.kind) (k2 : a.kind ≤ 127) (k3 : -9223372036854775808 ≤ a.label) (k4 : a.label ≤ 9223372036854775807) (k5 : a.name.size ≤ 281474976710656) (k6 : a.arg.size ≤ 281474976710656)
    (hsz : wx.heap.size ≤ wr.heap.size) (hkp : ∀ b, b < wx.heap.size → b ≠ B → wr.heap[b]? = wx.heap[b]?)
    (hL : bk = .nil ∨ ∃ g', G = some ⟨g', 0, none⟩ ∧ wx.heap.size ≤ g' ∧ g' < wr.heap.size ∧ (∀ o, wr.frozen? ⟨g', o, none⟩ = false) ∧ Tm.SepF wr g' bk 0 wx.heap.size wr.heap.size) (hm : m = Tm.len bk) (hmc : m ≤ cg) (hcg : cg ≤ maxLen)
    (hk : ∀ b, b ≠ w.heap.size + 1 → W9.heap[b]? = wr.heap[b]?) (hs : W9.heap.size = wr.heap.size) : Tm.SepK W9 a bk ⟨q2.TA, q2.tn, q2.tc, q2.UA, q2.un, q2.uc, G, m, cg⟩ w.heap.size W9.heap.size := by
  have hne := e.rel.ne
  have hgt := e.rel.gt
  have hbl := heap_lt e.rel.bx
  have hT : ∀ {k : Int} {f : Fo} {A : Option Addr} {n c : Nat}, Ty.Is (mask (fun b => decide (B < b)) wx) k f A n c → Ty.Is (mask (rng w.heap.size wx.heap.size) W9) k f A n c := fun h => h.kept (kept_mask fun b o x hP hx => by
    have hP' : B < b := of_decide_eq_true hP
    have hlt := Ty.cell_lt hx
    exact ⟨rng_of (by omega) hlt, by rw [World.cell?_of_block (hk b (by omega)), World.cell?_of_block (hkp b hlt (by omega))]; exact hx⟩)
  refine ⟨wx.heap.size, e.rel.below.size, by rw [hs]; exact hsz, ⟨hT e.ty, hT e.tu, hm, hmc, hcg, k1, k2, k3, k4, k5, k6⟩, ?_⟩
  rcases hL with q | ⟨g', e1, e2, e3, e4, e5⟩
  · exact .inl q
  · have hk' := fun (b : Nat) (hb : wx.heap.size ≤ b) => hk b (by omega)
    refine .inr ⟨g', e1, e2, by rw [hs]; exact e3, fun o => by rw [World.frozen?_of_block (hk' g' e2)]; exact e4 o, ?_⟩
    rw [hs]
    exact Tm.SepF.keep _ _ _ _ _ (fun o v _ _ hc => by rw [World.cell?_of_block (hk' g' e2)]; exact hc) (fun b h1 h2 _ => hk' b h1) e5
theorem BareRl2.size {w wx : World} {B R : Nat} {h : Hd} {p : Pl} {a : Hd} {q q2 : Pl} (_ : BareRl2 w wx B R h p a q q2) : (wx.setCell ⟨B, 10, none⟩ (.slice none 0 0)).heap.size = wx.heap.size := by simp [World.setCell]

attribute [local go_sem ↓] Go.wp_at_zero Go.wp_at_succ
set_option maxHeartbeats 8000000 in
set_option maxRecDepth 100000 in
theorem bare_sp (K : Nat) : ∀ (h : Hd) (kids : Tm) (p : Pl) (w : World), Tm.nodes kids < K → Tm.tyN h + Tm.nodes kids ≤ 8192 → Tm.okT h kids = true → Tm.Is w h kids p → TGlob w →
    Calls Tryz.prog 38 #[.agg #[.int .i8 h.kind, .string h.name, .string h.arg, .int .i64 h.num, .int .i8 h.tk, .slice p.TA p.tn p.tc, .int .i8 h.uk, .slice p.UA p.un p.uc, .int .i64 h.label, .int .i64 h.pos, .slice p.A p.n p.c]] w (CopySp w h kids) := by
  induction K with
  | zero => intro _ _ _ _ hK; omega
  | succ K ih =>
    intro h kids p w hK hsm hok hIs hG
    have hS := hG.terms
    have hB0 : Below w.heap.size w ((w.alloc (.cells #[.int .i8 h.kind, .string h.name, .string h.arg, .int .i64 h.num, .int .i8 h.tk, .slice p.TA p.tn p.tc, .int .i8 h.uk, .slice p.UA p.un p.uc, .int .i64 h.label, .int .i64 h.pos, .slice p.A p.n p.c] 28)).alloc (.cells #[.int .i8 0, .string ⟨#[]⟩, .string ⟨#[]⟩, .int .i64 0, .int .i8 0, .slice none 0 0, .int .i8 0, .slice none 0 0, .int .i64 0, .int .i64 0, .slice none 0 0] 28)) := ((Below.refl _ _).alloc (Nat.le_refl _) _).alloc (by simp) _
    obtain ⟨r0, r1, r2⟩ := two_new w (.cells #[.int .i8 h.kind, .string h.name, .string h.arg, .int .i64 h.num, .int .i8 h.tk, .slice p.TA p.tn p.tc, .int .i8 h.uk, .slice p.UA p.un p.uc, .int .i64 h.label, .int .i64 h.pos, .slice p.A p.n p.c] 28) (.cells #[.int .i8 0, .string ⟨#[]⟩, .string ⟨#[]⟩, .int .i64 0, .int .i8 0, .slice none 0 0, .int .i8 0, .slice none 0 0, .int .i64 0, .int .i64 0, .slice none 0 0] 28)
    have HC := Lib.hid (fun (W : World) (hb : Below w.heap.size w W) => show Calls Tryz.prog 72 #[.agg #[.int .i8 h.kind, .string h.name, .string h.arg, .int .i64 h.num, .int .i8 h.tk, .slice p.TA p.tn p.tc, .int .i8 h.uk, .slice p.UA p.un p.uc, .int .i64 h.label, .int .i64 h.pos, .slice p.A p.n p.c]] W (fun e w' => e = .returned (.agg #[.int .i8 (Tm.cnt h).kind, .string (Tm.cnt h).name, .string (Tm.cnt h).arg, .int .i64 (Tm.cnt h).num, .int .i8 (Tm.cnt h).tk, .slice (Tm.cntP h p).TA (Tm.cntP h p).tn (Tm.cntP h p).tc, .int .i8 (Tm.cnt h).uk, .slice (Tm.cntP h p).UA (Tm.cntP h p).un (Tm.cntP h p).uc, .int .i64 (Tm.cnt h).label, .int .i64 (Tm.cnt h).pos, .slice (Tm.cntP h p).A (Tm.cntP h p).n (Tm.cntP h p).c]) ∧ Below W.heap.size W w') from counting_any h _ p W (hIs.below hb).fit (hS.below hb))
    have HI := Lib.hid (fun (W : World) (hb : Below w.heap.size w W) => (hIs.below hb).cnt)
    have HIK := Lib.hid (And.intro hIs.lies hIs.fit.n_eq)
    have HG := Lib.hid (fun (W : World) (hb : Below w.heap.size w W) => hG.below hb)
    have hok2 : Tm.headOk h (Tm.len kids) = true ∧ Tm.okF kids = true := by unfold Tm.okT at hok; simpa using hok
    have HCS := Lib.hid (Tm.cnt_chk hok2.1)
    have HOK := Lib.hid hok2.2
    have R0 := Lib.hid r0
    have R1 := Lib.hid r1
    have IH := Lib.hid ih
    have hln := Tm.len_le_nodes kids
    have hpn : p.n ≤ 8192 := by have := hIs.fit.n_eq; omega
    obtain ⟨q0, q1, q2, q3, q4, q5, q6, q7, q8, q9, q10, ql⟩ := own11 r0
    clear hIs hS hG r0 r1 ih r2 hok hok2
    unfold CopySp
    generalize Tm.cnt h = a at *
    generalize Tm.cntP h p = q at *
    go_enter Tryz.func38, Tryz.ntmps38
    go_wp2_with fail
    refine (HC.out _ hB0).mono ?_
    rintro e u1 ⟨rfl, hb⟩
    have hB1 := hB0.trans (hb.mono hB0.size)
    have hR := heap_below hb (heap_lt R1.out) R1.out
    have hT := heap_below hb (heap_lt R0.out) R0.out
    have zR : w.heap.size + 1 < u1.heap.size := heap_lt hR
    clear hb q0 q1 q2 q3 q4 q5 q6 q7 q8 q9 q10 ql
    go_wp2_with fail
    have hW2 : BareRl w (u1.alloc (.cells #[.int .i8 a.kind, .string a.name, .string a.arg, .int .i64 a.num, .int .i8 a.tk, .slice q.TA q.tn q.tc, .int .i8 a.uk, .slice q.UA q.un q.uc, .int .i64 a.label, .int .i64 a.pos, .slice q.A q.n q.c] 28)) u1.heap.size (w.heap.size + 1) h p a q := ⟨heap_old hT _, heap_new u1 _, heap_old hR _, hB1.alloc hB1.size _, by omega, by omega⟩
    generalize u1.alloc (.cells #[.int .i8 a.kind, .string a.name, .string a.arg, .int .i64 a.num, .int .i8 a.tk, .slice q.TA q.tn q.tc, .int .i8 a.uk, .slice q.UA q.un q.uc, .int .i64 a.label, .int .i64 a.pos, .slice q.A q.n q.c] 28) = w2 at *
    generalize u1.heap.size = B at *
    have HW2 := Lib.hid hW2
    have hbl := heap_lt hW2.bx
    have hrl := heap_lt hW2.rx
    have hg := hW2.gt
    clear hW2 hR hT hB0 hB1 zR
    have CN := Lib.hid (fun (W : World) (hb : Below w.heap.size w W) => clone_any a.name (HI.out W hb).fit.nm W)
    have CM := Lib.hid (fun (W : World) (hb : Below w.heap.size w W) => clone_any a.arg (HI.out W hb).fit.ar W)
    go_cut [8] (fun _ wx => BareRl w wx B (w.heap.size + 1) h p a q)
    case first =>
      have D0 : Below w2.heap.size w2 w2.drew := (Below.refl _ _).drew
      have E0 : Below w.heap.size w w2.drew := HW2.out.below.drew
      obtain ⟨q0, q1, q2, q3, q4, q5, q6, q7, q8, q9, q10, ql⟩ := own11 HW2.out.bx
      go_region_law (first
        | (go_simp; go_at_call 73; (with_reducible refine (CN.out _ E0).mono ?_); rintro e u1 ⟨rfl, hb⟩; have D1 := D0.trans (hb.mono D0.size); have E1 := E0.trans (hb.mono E0.size); have z1 := Nat.lt_of_lt_of_le hbl D1.size; obtain ⟨a0, a1, a2, a3, a4, a5, a6, a7, a8, a9, a10, al⟩ := own11 (heap_below D1 hbl HW2.out.bx); clear hb; go_wp2_with fail)
        | (go_simp; go_at_call 73; (with_reducible refine (CM.out _ E1).mono ?_); rintro e u2 ⟨rfl, hb⟩; have D2 := D1.trans (hb.mono D1.size); have E2 := E1.trans (hb.mono E1.size); have z2 := Nat.lt_of_lt_of_le hbl D2.size; have ST := Lib.hid (heap_below D2 (heap_lt HW2.out.tx) HW2.out.tx); have SB := Lib.hid (heap_below D2 hbl HW2.out.bx); have SR := Lib.hid (heap_below D2 hrl HW2.out.rx); obtain ⟨b0, b1, b2, b3, b4, b5, b6, b7, b8, b9, b10, bl⟩ := own11 SB.out; have f0 := free11 SB.out 0; have f1 := free11 SB.out 1; have f2 := free11 SB.out 2; have f3 := free11 SB.out 3; have f4 := free11 SB.out 4; have f5 := free11 SB.out 5; have f6 := free11 SB.out 6; have f7 := free11 SB.out 7; have f8 := free11 SB.out 8; have f9 := free11 SB.out 9; have f10 := free11 SB.out 10; clear hb; go_wp2_with fail))
      all_goals
        go_wp2_with fail
        go_meet
        exact BareRl.names ST.out SB.out SR.out E2 hg HW2.out.ne
    case rest =>
      clear hbl hrl HW2 CN CM
      have HC3 := Lib.hid hcut
      have hbl := heap_lt hcut.bx
      have hrl := heap_lt hcut.rx
      clear hcut
      go_wp2_with fail
      have CT := Lib.hid (fun (W : World) (hb : Below w.heap.size w W) => (ccopy_any a.tk a.tkids q.TA q.tn q.tc W (HI.out W hb).fit.ty (HG.out W hb).types HCS.out.1).mono fun _ _ h => h.mask ⟨(HI.out W hb).fit.ty.lo, (HI.out W hb).fit.ty.hi⟩)
      have CU := Lib.hid (fun (W : World) (hb : Below w.heap.size w W) => (ccopy_any a.uk a.ukids q.UA q.un q.uc W (HI.out W hb).fit.to (HG.out W hb).types HCS.out.2).mono fun _ _ h => h.mask ⟨(HI.out W hb).fit.to.lo, (HI.out W hb).fit.to.hi⟩)
      obtain ⟨wo, rfl⟩ : ∃ wo : World, wo = wc := ⟨_, rfl⟩
      go_cut [16] (fun _ wx => ∃ q2, BareRl2 w wx B (w.heap.size + 1) h p a q q2)
      case first =>
        have D0 : Below wo.heap.size wo wo.drew := (Below.refl _ _).drew
        have E0 : Below w.heap.size w wo.drew := HC3.out.below.drew
        obtain ⟨q0, q1, q2, q3, q4, q5, q6, q7, q8, q9, q10, ql⟩ := own11 HC3.out.bx
        go_region_law (first
          | (go_simp; go_at_call 74; (with_reducible refine (CT.out _ E0).mono ?_); rintro e u1 ⟨G1, m1, c1, rfl, hI1, hb⟩; have D1 := D0.trans (hb.mono D0.size); have E1 := E0.trans (hb.mono E0.size); have z1 := Nat.lt_of_lt_of_le hbl D1.size; have HI1 := Lib.hid hI1; obtain ⟨a0, a1, a2, a3, a4, a5, a6, a7, a8, a9, a10, al⟩ := own11 (heap_below D1 hbl HC3.out.bx); clear hb hI1; go_wp2_with fail)
          | (go_simp; go_at_call 74; (with_reducible refine (CU.out _ E1).mono ?_); rintro e u2 ⟨G2, m2, c2, rfl, hI2, hb⟩; have D2 := D1.trans (hb.mono D1.size); have E2 := E1.trans (hb.mono E1.size); have z2 := Nat.lt_of_lt_of_le hbl D2.size; have HI2 := Lib.hid hI2; have HB12 := Lib.hid hb; have ST := Lib.hid (heap_below D2 (heap_lt HC3.out.tx) HC3.out.tx); have SB := Lib.hid (heap_below D2 hbl HC3.out.bx); have SR := Lib.hid (heap_below D2 hrl HC3.out.rx); obtain ⟨b0, b1, b2, b3, b4, b5, b6, b7, b8, b9, b10, bl⟩ := own11 SB.out; have f0 := free11 SB.out 0; have f1 := free11 SB.out 1; have f2 := free11 SB.out 2; have f3 := free11 SB.out 3; have f4 := free11 SB.out 4; have f5 := free11 SB.out 5; have f6 := free11 SB.out 6; have f7 := free11 SB.out 7; have f8 := free11 SB.out 8; have f9 := free11 SB.out 9; have f10 := free11 SB.out 10; clear hb hI2; go_wp2_with fail))
        all_goals
          go_wp2_with fail
          go_meet
          exact ⟨_, BareRl.types ST.out SB.out SR.out E2 hg HC3.out.ne HI1.out (show B < wo.drew.heap.size from hbl) HB12.out HI2.out z1⟩
      case rest =>
        obtain ⟨q2, hq2⟩ := hcut
        have HQ := Lib.hid hq2
        have hbl := heap_lt hq2.rel.bx
        have hrl := heap_lt hq2.rel.rx
        have hne := hq2.rel.ne
        have HST := Lib.hid (BaRel.start hq2 HIK.out.1 HIK.out.2)
        have HF := Lib.hid (HI.out _ hq2.rel.below).fit
        obtain ⟨b0, b1, b2, b3, b4, b5, b6, b7, b8, b9, b10, bl⟩ := own11 hq2.rel.bx
        have fb := free11 hq2.rel.bx 10
        obtain ⟨wq, hwq⟩ : ∃ wq, wc.setCell ⟨B, 10, none⟩ (.slice none 0 0) = wq := ⟨_, rfl⟩
        have HSZ := Lib.hid (show wq.heap.size = wc.heap.size from by rw [← hwq]; simp [World.setCell])
        have HKC := Lib.hid (show ∀ b, b ≠ B → wq.heap[b]? = wc.heap[b]? from fun b hb => by rw [← hwq]; exact Below.heap_setCell _ _ _ b hb)
        have htq : wq.heap[w.heap.size]? = some (.cells #[.int .i8 h.kind, .string h.name, .string h.arg, .int .i64 h.num, .int .i8 h.tk, .slice p.TA p.tn p.tc, .int .i8 h.uk, .slice p.UA p.un p.uc, .int .i64 h.label, .int .i64 h.pos, .slice p.A p.n p.c] 28 (0, 0)) := (HKC.out _ (by have := hq2.rel.gt; omega)).trans hq2.rel.tx
        obtain ⟨d0, d1, d2, d3, d4, d5, d6, d7, d8, d9, d10, dl⟩ := own11 htq
        rw [hwq] at HST
        clear hq2 CT CU HC3 HC HI HIK R0 R1 HCS
        obtain ⟨i0, hi, hz0, hz1, hz2⟩ := info_parts info_Term
        have hBW : w.heap.size + 1 < B := by have := hne; omega
        have HBW := Lib.hid hBW
        have hbq : B < wq.heap.size := by rw [HSZ.out]; exact hbl
        have hrq : w.heap.size + 1 < wq.heap.size := by rw [HSZ.out]; exact hrl
        clear hg hbl hrl hBW hne
        go_wp2_with fail
        clear htq hwq d0 d1 d2 d3 d4 d5 d6 d7 d8 d9 d10 dl b0 b1 b2 b3 b4 b5 b6 b7 b8 b9 b10 bl fb
        go_loopw [28] (fun v28 wr => ∃ (i : Nat) (done rest : Tm) (xs : List Value) (v : Value), v28 = .int .i64 i ∧ BaRel w wq wr B p.A kids (.int .i8 a.kind) (.string a.name) (.string a.arg) (.int .i64 a.num) (.int .i8 a.tk) (.slice q2.TA q2.tn q2.tc) (.int .i8 a.uk) (.slice q2.UA q2.un q2.uc) (.int .i64 a.label) (.int .i64 a.pos) v p.n i done rest xs ∧ Tm.okF rest = true) (fun v _ => p.n - (intOf v).toNat)
        case atStart => exact ⟨0, .nil, kids, [], _, rfl, HST.out, HOK.out⟩
        case round =>
          obtain ⟨i, done, rest, xs, v, rfl, hR, hokr⟩ := hrel
          cases rest with
          | nil =>
            have hi2 : i = p.n := by have := hR.i_eq; simpa [Tm.len] using this
            rw [hi2] at hR
            obtain ⟨G, cg, rfl, hL, hm, hmc, hcg⟩ := hR.done
            have HL := Lib.hid hL
            have HM := Lib.hid (And.intro hm (And.intro hmc hcg))
            have HB := Lib.hid hR.below
            have HKP := Lib.hid (And.intro hR.size hR.keep)
            have hrx := (hR.keep _ hrq (by have := HBW.out; omega)).trans ((HKC.out _ (by have := HBW.out; omega)).trans HQ.out.rel.rx)
            obtain ⟨b0, b1, b2, b3, b4, b5, b6, b7, b8, b9, b10, bl⟩ := own11 hR.box
            obtain ⟨y0, y1, y2, y3, y4, y5, y6, y7, y8, y9, y10, yl⟩ := own11 hrx
            have f0 := free11 hrx 0; have f1 := free11 hrx 1; have f2 := free11 hrx 2; have f3 := free11 hrx 3; have f4 := free11 hrx 4; have f5 := free11 hrx 5; have f6 := free11 hrx 6; have f7 := free11 hrx 7; have f8 := free11 hrx 8; have f9 := free11 hrx 9; have f10 := free11 hrx 10
            have hiN : ((i : Nat) : Int) = ((p.n : Nat) : Int) := by rw [hi2]
            clear hR hL hm hmc hcg hrx HST IH hi2
            go_wp2_with fail
            refine bodyPost_ret (v := .agg #[.int .i8 a.kind, .string a.name, .string a.arg, .int .i64 a.num, .int .i8 a.tk, .slice q2.TA q2.tn q2.tc, .int .i8 a.uk, .slice q2.UA q2.un q2.uc, .int .i64 a.label, .int .i64 a.pos, .slice G p.n cg]) (by simp [results, Tryz.results38, go_sem, *]) rfl ⟨⟨q2.TA, q2.tn, q2.tc, q2.UA, q2.un, q2.uc, G, p.n, cg⟩, rfl, ?_, ?_⟩
            · refine bare_end (B := B) HQ.out HF.out.klo HF.out.khi HF.out.llo HF.out.lhi HF.out.nm HF.out.ar (by rw [← HSZ.out]; exact HKP.out.1) (fun b h1 h2 => (HKP.out.2 b (by rw [HSZ.out]; exact h1) h2).trans (HKC.out b h2)) (by rw [← HSZ.out]; exact HL.out) HM.out.1 HM.out.2.1 HM.out.2.2 (fun b h2 => bare_heap h2) bare_size
            · exact below_only11 HB.out (by omega) _ _ _ _ _ _ _ _ _ _ _
          | node h1 kd r =>
            have hie := hR.i_eq
            have h2 := hR.lies
            have h3 := hR.sub
            have h4 := hR.below
            have HR := Lib.hid hR
            simp only [Tm.len, Tm.nodes] at hie h3
            simp only [Tm.okF, Bool.and_eq_true] at hokr
            obtain ⟨bb, oo, p1, hA, hcs, hfit, hl3, hl4⟩ := h2
            have hcs' : ∀ j v, (h1.cells p1)[j]? = some v → wr.cell? ⟨bb, oo + i * 11 + j, none⟩ = some v := fun j v hv => by
              have := hcs j v hv
              rw [h4.cell (p := ⟨bb, _, none⟩) (Ty.cell_lt this)]; exact this
            have HC := Lib.hid (fun (W : World) (hb : Below wr.heap.size wr W) => IH.out h1 kd p1 W (by omega) (by omega) (by unfold Tm.okT; rw [hokr.1.1, hokr.1.2]; rfl) (Tm.Is.below ⟨hfit, hl3⟩ (h4.trans (hb.mono h4.size))) (HG.out _ (h4.trans (hb.mono h4.size))))
            have HL4 := Lib.hid hl4
            have HOKR := Lib.hid hokr.2
            obtain ⟨c0, c1, c2, c3, c4, c5, c6, c7, c8, c9, c10⟩ := Tm.row hcs'
            have j1 : (i : Int) < p.n := by omega
            have HPA := Lib.hid hA
            obtain ⟨b0, b1, b2, b3, b4, b5, b6, b7, b8, b9, b10, bl⟩ := own11 hR.box
            have hsz4 := hR.size
            clear hR hl3 hl4 hcs hcs' hfit h4 h3 hA hokr HST HF HQ
            generalize hPA : p.A = PA at *
            obtain rfl : PA = some ⟨bb, oo, none⟩ := HPA.out
            clear hPA HPA
            go_wp2_with fail
            have hb9 : Below wr.heap.size wr (wr.alloc (.cells #[.int .i8 h1.kind, .string h1.name, .string h1.arg, .int .i64 h1.num, .int .i8 h1.tk, .slice p1.TA p1.tn p1.tc, .int .i8 h1.uk, .slice p1.UA p1.un p1.uc, .int .i64 h1.label, .int .i64 h1.pos, .slice p1.A p1.n p1.c] 28)) := (Below.refl _ _).alloc (Nat.le_refl _) _
            have HBX := Lib.hid (heap_below hb9 bl HR.out.box)
            have HKX := Lib.hid (heap_new wr (.cells #[.int .i8 h1.kind, .string h1.name, .string h1.arg, .int .i64 h1.num, .int .i8 h1.tk, .slice p1.TA p1.tn p1.tc, .int .i8 h1.uk, .slice p1.UA p1.un p1.uc, .int .i64 h1.label, .int .i64 h1.pos, .slice p1.A p1.n p1.c] 28))
            have HO9 := Lib.hid (ownsRow_below HR.out.own hb9)
            clear b0 b1 b2 b3 b4 b5 b6 b7 b8 b9 b10 bl c0 c1 c2 c3 c4 c5 c6 c7 c8 c9 c10
            generalize hwk : wr.alloc (.cells #[.int .i8 h1.kind, .string h1.name, .string h1.arg, .int .i64 h1.num, .int .i8 h1.tk, .slice p1.TA p1.tn p1.tc, .int .i8 h1.uk, .slice p1.UA p1.un p1.uc, .int .i64 h1.label, .int .i64 h1.pos, .slice p1.A p1.n p1.c] 28) = wk at *
            have hws : wk.heap.size = wr.heap.size + 1 := by rw [← hwk]; simp
            have E1 : Below wr.heap.size wr wk.drew := hb9.drew
            obtain ⟨b0, b1, b2, b3, b4, b5, b6, b7, b8, b9, b10, bl⟩ := own11 HBX.out
            obtain ⟨k0, k1, k2, k3, k4, k5, k6, k7, k8, k9, k10, kl⟩ := own11 HKX.out
            clear hb9 hwk
            go_region_law (first
              | (go_simp; go_at_call 38; (with_reducible refine (HC.out _ E1).mono ?_); rintro e u ⟨p2, rfl, hsep, hb⟩; have HNW := Lib.hid hsep; have HBU := Lib.hid hb; have HBO := Lib.hid (heap_below hb (show B < wk.drew.heap.size from bl) (show wk.drew.heap[B]? = _ from HBX.out)); have HOU := Lib.hid (ownsRow_below (show wk.drew.ownsRow _ _ _ _ _ _ from HO9.out) hb); obtain ⟨o0, o1, o2, o3, o4, o5, o6, o7, o8, o9, o10, ol⟩ := own11 HBO.out; have g10 := free11 HBO.out 10; clear hb hsep; go_wp2_with fail)
              | (refine step_append_own_at _ (by rfl) (.tmp 33) (.tmp 36) 26 (by rfl) wq.heap.size 28 i0 (.agg #[.int .i8 0, .string ⟨#[]⟩, .string ⟨#[]⟩, .int .i64 0, .int .i8 0, .slice none 0 0, .int .i8 0, .slice none 0 0, .int .i64 0, .int .i64 0, .slice none 0 0]) 11 152 Tryz.underlying26 hi hz0 hz1 hz2 (by rfl) (by decide) v i xs (by rfl) (HOU.out.alloc _) ⟨u.heap.size, 0, none⟩ 1 1 ((Tm.cnt h1).cells p2) (by rfl) (by rfl) (cells_of_heap (heap_new u (.cells #[.int .i8 (Tm.cnt h1).kind, .string (Tm.cnt h1).name, .string (Tm.cnt h1).arg, .int .i64 (Tm.cnt h1).num, .int .i8 (Tm.cnt h1).tk, .slice p2.TA p2.tn p2.tc, .int .i8 (Tm.cnt h1).uk, .slice p2.UA p2.un p2.uc, .int .i64 (Tm.cnt h1).label, .int .i64 (Tm.cnt h1).pos, .slice p2.A p2.n p2.c] 28))) (by intro x hx; simp at hx; rcases hx with rfl | rfl | rfl | rfl | rfl | rfl | rfl | rfl | rfl | rfl | rfl <;> rfl) (by unfold maxLen; omega) (by omega) (by have h1 := HBO.out; have h2 := heap_lt h1; have h5 := HBU.out.size; have h6 := HR.out.size; simp at h5 ⊢; omega) ?_; intro v' w3 hown3 hg3 hat3; obtain ⟨Av, nv, cv, rfl⟩ := own_slice hown3; have hbx3 := (hg3.block B (by simp; omega) (fun e => by have := (HOU.out.lt _ e.symm).1; omega)).trans (heap_old HBO.out (.cells #[.int .i8 (Tm.cnt h1).kind, .string (Tm.cnt h1).name, .string (Tm.cnt h1).arg, .int .i64 (Tm.cnt h1).num, .int .i8 (Tm.cnt h1).tk, .slice p2.TA p2.tn p2.tc, .int .i8 (Tm.cnt h1).uk, .slice p2.UA p2.un p2.uc, .int .i64 (Tm.cnt h1).label, .int .i64 (Tm.cnt h1).pos, .slice p2.A p2.n p2.c] 28)); obtain ⟨z0, z1, z2, z3, z4, z5, z6, z7, z8, z9, z10, zl⟩ := own11 hbx3; have f10 := free11 hbx3 10; have HOW3 := Lib.hid hown3; have HG3 := Lib.hid hg3; have HAT3 := Lib.hid hat3; clear hown3 hg3 hat3 hbx3))
            all_goals
              go_wp2_with fail
              go_roundw
              case rel => exact ⟨i + 1, _, r, _, .slice Av nv cv, by go_num, HR.out.step E1 HBU.out HNW.out HOW3.out HG3.out (by simpa using HAT3.out) HL4.out, HOKR.out⟩
              case measure => simp [intOf]; omega
/-- a right term's bare copy, in new blocks -/
theorem bare_cp (h : Hd) (kids : Tm) (p : Pl) (w : World) (hc : Tm.chk h kids = 0) (hIs : Tm.Is w h kids p) (hG : TGlob w) :
    Calls Tryz.prog 38 #[.agg #[.int .i8 h.kind, .string h.name, .string h.arg, .int .i64 h.num, .int .i8 h.tk, .slice p.TA p.tn p.tc, .int .i8 h.uk, .slice p.UA p.un p.uc, .int .i64 h.label, .int .i64 h.pos, .slice p.A p.n p.c]] w (CopySp w h kids) := by
  have hx : Tm.tyN h + Tm.nodes kids ≤ 8192 ∧ Tm.okT h kids = true := by
    have e : Tm.nd h kids = 1 + Tm.tyN h + Tm.nodes kids := rfl
    unfold Tm.chk at hc
    by_cases h1 : 8192 < Tm.nd h kids
    · rw [if_pos h1] at hc; omega
    · rw [if_neg h1] at hc
      by_cases h2 : 200 < Tm.dp h kids
      · rw [if_pos h2] at hc; omega
      · rw [if_neg h2] at hc
        refine ⟨by omega, ?_⟩
        cases ho : Tm.okT h kids
        · rw [ho] at hc; simp at hc
        · rfl
  exact bare_sp (Tm.nodes kids + 1) h kids p w (by omega) hx.1 hx.2 hIs hG
theorem bare_cpm (h : Hd) (kids : Tm) (p : Pl) (w : World) (hc : Tm.chk h kids = 0) (hIs : Tm.Is w h kids p) (hG : TGlob w) :
    Calls Tryz.prog 38 #[.agg #[.int .i8 h.kind, .string h.name, .string h.arg, .int .i64 h.num, .int .i8 h.tk, .slice p.TA p.tn p.tc, .int .i8 h.uk, .slice p.UA p.un p.uc, .int .i64 h.label, .int .i64 h.pos, .slice p.A p.n p.c]] w (CopyTm (fun b => decide (w.heap.size ≤ b)) w h kids) :=
  (bare_cp h kids p w hc hIs hG).mono fun e w' hq => by
    obtain ⟨q, rfl, hs, hb⟩ := hq
    exact ⟨q, rfl, hs.is fun b o v h1 _ hv => mask_of (by simpa using h1) hv, hb⟩
end Go.Proofs.YtfkbdpehdabepaaGreatDoor
