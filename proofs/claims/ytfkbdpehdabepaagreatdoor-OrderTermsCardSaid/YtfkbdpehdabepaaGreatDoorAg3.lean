/-
  Types that lie in blocks of which P holds; agree.copied.
-/
import Derived.Test.YtfkbdpehdabepaaGreatDoorM5
import Derived.Maps.AppendAt
import Derived.Deep.RegionLaw
import Derived.Deep.RegionHeld3
import Derived.Deep.DrawnRows
namespace Go.Proofs.YtfkbdpehdabepaaGreatDoor
open Go.RowKit

/-- a type that lies in blocks of which P holds -/
def Lone (P : Nat → Prop) (w : World) (k : Int) (kids : Fo) (G : Option Addr) (m c : Nat) : Prop := ∀ u : World, (∀ b o v, P b → w.cell? ⟨b, o, none⟩ = some v → u.cell? ⟨b, o, none⟩ = some v) → Ty.Is u k kids G m c
theorem Lone.is {P : Nat → Prop} {w : World} {k : Int} {kids : Fo} {G : Option Addr} {m c : Nat} (h : Lone P w k kids G m c) : Ty.Is w k kids G m c := h w fun _ _ _ _ h => h
theorem Lone.to {P P' : Nat → Prop} {w w' : World} {k : Int} {kids : Fo} {G : Option Addr} {m c : Nat} (h : Lone P w k kids G m c) (hk : ∀ b o v, P b → w.cell? ⟨b, o, none⟩ = some v → P' b ∧ w'.cell? ⟨b, o, none⟩ = some v) : Lone P' w' k kids G m c :=
  fun u hu => h u fun b o v hb hc => hu b o v (hk b o v hb hc).1 (hk b o v hb hc).2
namespace Ty
def cat : Fo → Fo → Fo
  | .nil, g => g
  | .node a b k kids r, g => .node a b k kids (cat r g)
theorem cat_nil : ∀ f : Fo, cat f .nil = f
  | .nil => rfl
  | .node a b k kids r => by simp only [cat]; rw [cat_nil r]
theorem cat_snoc : ∀ (f : Fo) (a b : Nat) (k : Int) (kids r : Fo), cat (cat f (.node a b k kids .nil)) r = cat f (.node a b k kids r)
  | .nil, _, _, _, _, _ => rfl
  | .node _ _ _ _ q, a, b, k, kids, r => by simp only [cat]; rw [cat_snoc q]
theorem len_cat : ∀ (f : Fo) (a b : Nat) (k : Int) (kids : Fo), len (cat f (.node a b k kids .nil)) = len f + 1
  | .nil, _, _, _, _ => rfl
  | .node _ _ _ _ q, a, b, k, kids => by simp only [cat, len]; rw [len_cat q]
/-- the cells of a list of types, each of which lies in such blocks -/
def FlatL (P : Nat → Prop) (w : World) : Fo → List Value → Prop
  | .nil, xs => xs = []
  | .node _ _ k kids r, xs => ∃ A m c ys, xs = .int .i8 k :: .slice A m c :: ys ∧ Lone P w k kids A m c ∧ FlatL P w r ys
theorem FlatL.snoc {P : Nat → Prop} {w : World} {a b : Nat} {k : Int} {kids : Fo} {A : Option Addr} {m c : Nat} (hI : Lone P w k kids A m c) : ∀ (f : Fo) (xs : List Value), FlatL P w f xs → FlatL P w (cat f (.node a b k kids .nil)) (xs ++ [.int .i8 k, .slice A m c])
  | .nil, xs, h => by cases h; exact ⟨A, m, c, [], rfl, hI, rfl⟩
  | .node _ _ _ _ q, xs, h => by
    obtain ⟨A', m', c', ys, rfl, h1, h2⟩ := h
    exact ⟨A', m', c', _, rfl, h1, FlatL.snoc hI q ys h2⟩
theorem FlatL.to {P P' : Nat → Prop} {w w' : World} (hk : ∀ b o v, P b → w.cell? ⟨b, o, none⟩ = some v → P' b ∧ w'.cell? ⟨b, o, none⟩ = some v) : ∀ (f : Fo) (xs : List Value), FlatL P w f xs → FlatL P' w' f xs
  | .nil, _, h => h
  | .node _ _ _ _ q, _, h => by
    obtain ⟨A', m', c', ys, rfl, h1, h2⟩ := h
    exact ⟨A', m', c', ys, rfl, h1.to hk, FlatL.to hk q ys h2⟩
theorem FlatL.lies {P : Nat → Prop} {w u : World} {g : Nat} (hu : ∀ b o v, P b → w.cell? ⟨b, o, none⟩ = some v → u.cell? ⟨b, o, none⟩ = some v) : ∀ (f : Fo) (xs : List Value) (i : Nat), FlatL P w f xs → (∀ j x, xs[j]? = some x → u.cell? ⟨g, i * 2 + j, none⟩ = some x) → Lies u f (some ⟨g, 0, none⟩) i
  | .nil, _, _, _, _ => trivial
  | .node _ _ k kids r, _, i, h, hc => by
    obtain ⟨A', m', c', ys, rfl, h1, h2⟩ := h
    have h1 := h1 u hu
    refine ⟨g, 0, A', c', rfl, ⟨h1.lo, h1.hi⟩, by rw [Nat.zero_add]; exact hc 0 _ rfl, by rw [Nat.zero_add, ← h1.n_eq]; exact hc 1 _ rfl, by rw [← h1.n_eq]; exact h1.n_le, h1.c_le, h1.lies, ?_⟩
    exact FlatL.lies hu r ys (i + 1) h2 fun j u hu => by
      have := hc (j + 2) u (by simpa using hu)
      rwa [show i * 2 + (j + 2) = (i + 1) * 2 + j by omega] at this
end Ty
theorem info_Ty : (Tryz.prog.info? 25).map (fun i => (i.zero, i.size, i.bytes)) = some (some (.agg #[.int .i8 0, .slice none 0 0]), 2, 32) := by kernel_rfl

/-- append of a row to a row of the call's own, as a step of a drawn region -/
theorem step_append_own_at {P : Program} (w : World) {ops : Array Oper} {o : Oper} {a : Act} {K : Act → World → Prop} {Q : Exit → Act → World → Prop} {E : Prop} (hgd : o.guard = none) (s x : Operand) (t : TypeId)
    (ho : o.op = .call { callee := .builtin .append, args := #[s, x], argTypes := #[t, t] })
    (base : Nat) (e : TypeId) (i : TypeInfo) (z : Value) (size bytes : Nat) (ht : P.underlying t = some (.slice e)) (hi : P.info? e = some i) (hz : i.zero = some z)
    (hsize : i.size = size) (hby : i.bytes = bytes) (hzs : z.cells.size = size) (hsz : 0 < size)
    (v : Value) (n : Nat) (xs : List Value) (hs : a.eval s = v) (hown : w.ownsRow base e size v n xs)
    (ad : Addr) (m c : Nat) (news : List Value) (hx : a.eval x = .slice (some ad) m c) (hl : news.length = m * size) (hnews : ∀ j u, news[j]? = some u → w.cell? (ad.add j) = some u) (h1 : ∀ u ∈ news, u.oneCell' = true)
    (h63 : n + m ≤ maxLen) (hbytes : (n + m) * bytes ≤ 140737488355328) (hbase : base ≤ w.heap.size)
    (h : ∀ v' w', w'.ownsRow base e size v' (n + m) (xs ++ news) → w.grownBy w' v.ownBlock → (v'.ownBlock = v.ownBlock ∨ v'.ownBlock = some w.heap.size) → K (a.put o.dst v') w') :
    if Region.wanted o (yielded ops a.tmps) = true then Oper.wp P o a w K Q else E := by
  have hw : Region.wanted o (yielded ops a.tmps) = true := by simp [Region.wanted, hgd]
  rw [if_pos hw]
  obtain ⟨v', w', hr, h2, h3, h4, h5⟩ := run_append_own_at (P := P) w base t o.type e i z size bytes ht hi hz hsize hby hzs hsz v n xs hown ad m c news hl hnews h1 h63 hbytes hbase
  unfold Oper.wp execOp
  simp only [ho, resolve, invoke, builtin, Sem.run_bind, Sem.run_pure, Result.andThen_ok, List.map_toArray, List.map_cons, List.map_nil, hs, hx, hr]
  exact h v' w' h2 h3 h5

theorem own_slice {w : World} {base : Nat} {e : TypeId} {size : Nat} {v : Value} {n : Nat} {xs : List Value} (h : w.ownsRow base e size v n xs) : ∃ A m c, v = .slice A m c := by
  rcases h.2 with ⟨h, _⟩ | ⟨g, cap, cur, h, _⟩ <;> exact ⟨_, _, _, h⟩
/-- a round's state: n0 blocks lay before the loop, the copy's own box is O -/
structure CRel (w wr : World) (n0 O : Nat) (A : Option Addr) (k : Int) (kids : Fo) (v : Value) (n i : Nat) (done rest : Fo) (xs : List Value) : Prop where
  eq : Ty.cat done rest = kids
  len : Ty.len done = i
  i_eq : i + Ty.len rest = n
  lies : Ty.Lies w rest A i
  below : Below w.heap.size w wr
  size : n0 ≤ wr.heap.size
  own : wr.ownsRow n0 25 2 v i xs
  flat : Ty.FlatL (fun b => n0 ≤ b ∧ v.ownBlock ≠ some b) wr done xs
  box : wr.heap[O]? = some (.cells #[.int .i8 k, v] 25 (0, 0))
  olt : O < n0
  ole : w.heap.size ≤ O
  sub : Ty.nodes rest ≤ Ty.nodes kids
theorem CRel.step {w wr W u w3 : World} {n0 O : Nat} {A : Option Addr} {k : Int} {kids : Fo} {v v' : Value} {n i a b : Nat} {done r kd : Fo} {kk : Int} {xs : List Value} {G : Option Addr} {m c : Nat} {o2 : Obj}
    (h : CRel w wr n0 O A k kids v n i done (.node a b kk kd r) xs) (hW : Below wr.heap.size wr W) (hb : Below W.heap.size W u) (hI : Lone (fun b => W.heap.size ≤ b) u kk kd G m c)
    (hown : w3.ownsRow n0 25 2 v' (i + 1) (xs ++ [.int .i8 kk, .slice G m c])) (hg : (u.alloc o2).grownBy w3 v.ownBlock) (hat : v'.ownBlock = v.ownBlock ∨ v'.ownBlock = some (u.alloc o2).heap.size) (hl : Ty.Lies w r A (i + 1)) :
    CRel w (w3.setCell ⟨O, 1, none⟩ v') n0 O A k kids v' n (i + 1) (Ty.cat done (.node a b kk kd .nil)) r (xs ++ [.int .i8 kk, .slice G m c]) := by
  obtain ⟨h1, h2, h3, h4, h5, hsz, h6, h7, hbox, h9, h10, h8⟩ := h
  simp only [Ty.len, Ty.nodes] at h3 h8
  have hlt := h6.lt
  have hs2 := hb.size
  have hs3 : u.heap.size < (u.alloc o2).heap.size := by simp
  have hwW := hW.size
  have hwu : Below wr.heap.size wr (u.alloc o2) := (hW.trans (hb.mono hwW)).alloc (by omega) o2
  have hg2 := hg.size
  have hO : O ≠ v'.ownBlock.getD O + 0 ∨ True := .inr trivial
  have hvO : some O ≠ v.ownBlock := fun e => by have := (hlt O e.symm).1; omega
  have hb3 : w3.heap[O]? = some (.cells #[.int .i8 k, v] 25 (0, 0)) := by
    rw [hg.block O (by omega) hvO, hwu.block O (heap_lt hbox)]; exact hbox
  have hcell : ∀ b' o' x, b' ≠ O → w3.cell? ⟨b', o', none⟩ = some x → (w3.setCell ⟨O, 1, none⟩ v').cell? ⟨b', o', none⟩ = some x := fun b' o' x hne hx => by
    rw [World.cell?_setCell_other _ _ _ _ (fun e => hne (by injection e with e; exact e.symm))]; exact hx
  have hown2 : (w3.setCell ⟨O, 1, none⟩ v').ownsRow n0 25 2 v' (i + 1) (xs ++ [.int .i8 kk, .slice G m c]) := by
    refine hown.kept (row := some O) ⟨rfl, rfl, rfl, by simp [World.setCell], fun q hq hne => Below.heap_setCell _ _ _ q (fun e => hne (by rw [e]))⟩ ?_
    cases hv : v'.ownBlock with
    | none => exact .inl rfl
    | some g => exact .inr (fun e => by injection e with e; have := (hown.lt g hv).1; omega)
  refine ⟨by rw [Ty.cat_snoc]; exact h1, by rw [Ty.len_cat]; omega, by omega, hl, ?_, by simp [World.setCell]; omega, hown2, ?_, ?_, h9, h10, by omega⟩
  · exact ((h5.trans (hwu.mono h5.size)).grown hg (Nat.le_trans h5.size hwu.size) fun q hq => by have := (hlt q hq).1; omega).setCell h10 _
  · refine Ty.FlatL.snoc (hI.to fun b' o' x hP hx => ?_) done xs (Ty.FlatL.to (fun b' o' x hP hx => ?_) done xs h7)
    · have hP' : W.heap.size ≤ b' := hP
      have hbl := Ty.cell_lt hx
      have hne : some b' ≠ v.ownBlock := fun e => by have := (hlt b' e.symm).2; omega
      refine ⟨⟨by omega, fun e => ?_⟩, hcell _ _ _ (by omega) ?_⟩
      · rcases hat with q | q
        · exact hne (by rw [← q, e])
        · rw [q] at e; injection e with e; omega
      · rw [World.cell?_of_block (hg.block b' (by omega) hne), ((Below.refl u.heap.size u).alloc (Nat.le_refl _) o2).cell (p := ⟨b', o', none⟩) hbl]; exact hx
    · have hbl := Ty.cell_lt hx
      have hne : some b' ≠ v.ownBlock := fun e => hP.2 e.symm
      have hP1 := hP.1
      refine ⟨⟨hP1, fun e => ?_⟩, hcell _ _ _ (by omega) ?_⟩
      · rcases hat with q | q
        · exact hP.2 (by rw [← q, e])
        · rw [q] at e; injection e with e; have := hwu.size; omega
      · rw [World.cell?_of_block (hg.block b' (Nat.lt_of_lt_of_le hbl hwu.size) hne), hwu.cell (p := ⟨b', o', none⟩) hbl]; exact hx
  · simp [World.setCell, Array.getElem?_modify, hb3]
/-- the loop's end: the copy -/
theorem CRel.done {w wr : World} {n0 O : Nat} {A : Option Addr} {k : Int} {kids done : Fo} {v : Value} {n : Nat} {xs : List Value} (hk1 : -128 ≤ k) (hk2 : k ≤ 127) (h : CRel w wr n0 O A k kids v n n done .nil xs) (hn : n = Ty.len kids) :
    ∃ G c, v = .slice G n c ∧ Lone (fun b => n0 ≤ b) wr k kids G n c := by
  obtain ⟨h1, h2, h3, h4, h5, hsz, h6, h7, hbox, h9, h10, h8⟩ := h
  rw [Ty.cat_nil] at h1
  subst h1
  have hc := fun g hg => h6.cells (g := g) hg
  have hlt := h6.lt
  rcases h6.2 with ⟨hv, h0⟩ | ⟨g, cap, cur, rfl, hb, hg, h1, h2', _⟩
  · have hd : done = .nil := by
      cases done with
      | nil => rfl
      | node _ _ _ _ _ => simp only [Ty.len] at h2; omega
    subst hd
    obtain rfl : n = 0 := by omega
    exact ⟨none, 0, hv, fun u _ => ⟨trivial, rfl, Nat.le_refl _, Nat.zero_le _, hk1, hk2⟩⟩
  · refine ⟨_, cap, rfl, fun u hu => ⟨?_, hn, h1, h2', hk1, hk2⟩⟩
    refine Ty.FlatL.lies (P := fun b => n0 ≤ b ∧ Value.ownBlock (.slice (some ⟨g, 0, none⟩) n cap) ≠ some b) (w := wr) (fun b o x hP hx => hu b o x hP.1 hx) done xs 0 h7 fun j x hx => ?_
    have := hc g rfl j x hx
    rw [show (⟨g, 0, none⟩ : Addr).add j = ⟨g, j, none⟩ by unfold Addr.add; by_cases h : j = 0 <;> simp [h]] at this
    rw [Nat.zero_mul, Nat.zero_add]
    exact hu g j x hb this

end Go.Proofs.YtfkbdpehdabepaaGreatDoor
