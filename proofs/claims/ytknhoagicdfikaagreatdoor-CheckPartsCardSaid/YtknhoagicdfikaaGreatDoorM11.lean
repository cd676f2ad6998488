/-
  Types that lie in blocks of which P holds; agree.copied. Types in memory of their own, each part apart from each other one. copies.copied, copies.Type: a type in memory of its own, each part apart. agree.As, the document's As.
-/
import Derived.Test.YtknhoagicdfikaaGreatDoorM6
import Derived.Maps.AppendAt
import Derived.Deep.RegionLaw
import Derived.Deep.RegionHeld3
import Derived.Deep.DrawnRows
namespace Go.Proofs.YtknhoagicdfikaaGreatDoor
open Go.RowKit

/-- a type that lies in blocks of which P holds -/
def Lone (P : Nat → Prop) (w : World) (k : Int) (kids : Fo) (G : Option Addr) (m c : Nat) : Prop := ∀ u : World, (∀ b o v, P b → w.cell? ⟨b, o, none⟩ = some v → u.cell? ⟨b, o, none⟩ = some v) → Ty.Is u k kids G m c
theorem Lone.is {P : Nat → Prop} {w : World} {k : Int} {kids : Fo} {G : Option Addr} {m c : Nat} (h : Lone P w k kids G m c) : Ty.Is w k kids G m c := h w fun _ _ _ _ h => h
theorem Lone.to {P P' : Nat → Prop} {w w' : World} {k : Int} {kids : Fo} {G : Option Addr} {m c : Nat} (h : Lone P w k kids G m c) (hk : ∀ b o v, P b → w.cell? ⟨b, o, none⟩ = some v → P' b ∧ w'.cell? ⟨b, o, none⟩ = some v) : Lone P' w' k kids G m c :=
  fun u hu => h u fun b o v hb hc => hu b o v (hk b o v hb hc).1 (hk b o v hb hc).2
namespace Ty
def cat : Fo → Fo → Fo
  | .nil, g => g
  | .node a b k kids r, g => .node a b k kids (cat r g)
theorem cat_nil : ∀ f : Fo, cat f .nil = f
  | .nil => rfl
  | .node a b k kids r => by simp only [cat]; rw [cat_nil r]
theorem cat_snoc : ∀ (f : Fo) (a b : Nat) (k : Int) (kids r : Fo), cat (cat f (.node a b k kids .nil)) r = cat f (.node a b k kids r)
  | .nil, _, _, _, _, _ => rfl
  | .node _ _ _ _ q, a, b, k, kids, r => by simp only [cat]; rw [cat_snoc q]
theorem len_cat : ∀ (f : Fo) (a b : Nat) (k : Int) (kids : Fo), len (cat f (.node a b k kids .nil)) = len f + 1
  | .nil, _, _, _, _ => rfl
  | .node _ _ _ _ q, a, b, k, kids => by simp only [cat, len]; rw [len_cat q]
/-- the cells of a list of types, each of which lies in such blocks -/
def FlatL (P : Nat → Prop) (w : World) : Fo → List Value → Prop
  | .nil, xs => xs = []
  | .node _ _ k kids r, xs => ∃ A m c ys, xs = .int .i8 k :: .slice A m c :: ys ∧ Lone P w k kids A m c ∧ FlatL P w r ys
theorem FlatL.snoc {P : Nat → Prop} {w : World} {a b : Nat} {k : Int} {kids : Fo} {A : Option Addr} {m c : Nat} (hI : Lone P w k kids A m c) : ∀ (f : Fo) (xs : List Value), FlatL P w f xs → FlatL P w (cat f (.node a b k kids .nil)) (xs ++ [.int .i8 k, .slice A m c])
  | .nil, xs, h => by cases h; exact ⟨A, m, c, [], rfl, hI, rfl⟩
  | .node _ _ _ _ q, xs, h => by
    obtain ⟨A', m', c', ys, rfl, h1, h2⟩ := h
    exact ⟨A', m', c', _, rfl, h1, FlatL.snoc hI q ys h2⟩
theorem FlatL.to {P P' : Nat → Prop} {w w' : World} (hk : ∀ b o v, P b → w.cell? ⟨b, o, none⟩ = some v → P' b ∧ w'.cell? ⟨b, o, none⟩ = some v) : ∀ (f : Fo) (xs : List Value), FlatL P w f xs → FlatL P' w' f xs
  | .nil, _, h => h
  | .node _ _ _ _ q, _, h => by
    obtain ⟨A', m', c', ys, rfl, h1, h2⟩ := h
    exact ⟨A', m', c', ys, rfl, h1.to hk, FlatL.to hk q ys h2⟩
theorem FlatL.lies {P : Nat → Prop} {w u : World} {g : Nat} (hu : ∀ b o v, P b → w.cell? ⟨b, o, none⟩ = some v → u.cell? ⟨b, o, none⟩ = some v) : ∀ (f : Fo) (xs : List Value) (i : Nat), FlatL P w f xs → (∀ j x, xs[j]? = some x → u.cell? ⟨g, i * 2 + j, none⟩ = some x) → Lies u f (some ⟨g, 0, none⟩) i
  | .nil, _, _, _, _ => trivial
  | .node _ _ k kids r, _, i, h, hc => by
    obtain ⟨A', m', c', ys, rfl, h1, h2⟩ := h
    have h1 := h1 u hu
    refine ⟨g, 0, A', c', rfl, ⟨h1.lo, h1.hi⟩, by rw [Nat.zero_add]; exact hc 0 _ rfl, by rw [Nat.zero_add, ← h1.n_eq]; exact hc 1 _ rfl, by rw [← h1.n_eq]; exact h1.n_le, h1.c_le, h1.lies, ?_⟩
    exact FlatL.lies hu r ys (i + 1) h2 fun j u hu => by
      have := hc (j + 2) u (by simpa using hu)
      rwa [show i * 2 + (j + 2) = (i + 1) * 2 + j by omega] at this
end Ty
theorem info_Ty : (Tryz.prog.info? 25).map (fun i => (i.zero, i.size, i.bytes)) = some (some (.agg #[.int .i8 0, .slice none 0 0]), 2, 32) := by kernel_rfl

/-- append of a row to a row of the call's own, as a step of a drawn region -/
theorem step_append_own_at {P : Program} (w : World) {ops : Array Oper} {o : Oper} {a : Act} {K : Act → World → Prop} {Q : Exit → Act → World → Prop} {E : Prop} (hgd : o.guard = none) (s x : Operand) (t : TypeId)
    (ho : o.op = .call { callee := .builtin .append, args := #[s, x], argTypes := #[t, t] })
    (base : Nat) (e : TypeId) (i : TypeInfo) (z : Value) (size bytes : Nat) (ht : P.underlying t = some (.slice e)) (hi : P.info? e = some i) (hz : i.zero = some z)
    (hsize : i.size = size) (hby : i.bytes = bytes) (hzs : z.cells.size = size) (hsz : 0 < size)
    (v : Value) (n : Nat) (xs : List Value) (hs : a.eval s = v) (hown : w.ownsRow base e size v n xs)
    (ad : Addr) (m c : Nat) (news : List Value) (hx : a.eval x = .slice (some ad) m c) (hl : news.length = m * size) (hnews : ∀ j u, news[j]? = some u → w.cell? (ad.add j) = some u) (h1 : ∀ u ∈ news, u.oneCell' = true)
    (h63 : n + m ≤ maxLen) (hbytes : (n + m) * bytes ≤ 140737488355328) (hbase : base ≤ w.heap.size)
    (h : ∀ v' w', w'.ownsRow base e size v' (n + m) (xs ++ news) → w.grownBy w' v.ownBlock → (v'.ownBlock = v.ownBlock ∨ v'.ownBlock = some w.heap.size) → K (a.put o.dst v') w') :
    if Region.wanted o (yielded ops a.tmps) = true then Oper.wp P o a w K Q else E := by
  have hw : Region.wanted o (yielded ops a.tmps) = true := by simp [Region.wanted, hgd]
  rw [if_pos hw]
  obtain ⟨v', w', hr, h2, h3, h4, h5⟩ := run_append_own_at (P := P) w base t o.type e i z size bytes ht hi hz hsize hby hzs hsz v n xs hown ad m c news hl hnews h1 h63 hbytes hbase
  unfold Oper.wp execOp
  simp only [ho, resolve, invoke, builtin, Sem.run_bind, Sem.run_pure, Result.andThen_ok, List.map_toArray, List.map_cons, List.map_nil, hs, hx, hr]
  exact h v' w' h2 h3 h5

theorem own_slice {w : World} {base : Nat} {e : TypeId} {size : Nat} {v : Value} {n : Nat} {xs : List Value} (h : w.ownsRow base e size v n xs) : ∃ A m c, v = .slice A m c := by
  rcases h.2 with ⟨h, _⟩ | ⟨g, cap, cur, h, _⟩ <;> exact ⟨_, _, _, h⟩
/-- what a copy is: it lies in new blocks -/
def CopyL (w : World) (k : Int) (kids : Fo) (e : Ending) (w' : World) : Prop :=
  ∃ G m c, e = .returned (.agg #[.int .i8 k, .slice G m c]) ∧ Lone (fun b => w.heap.size ≤ b) w' k kids G m c ∧ Below w.heap.size w w'
/-- a round's state: n0 blocks lay before the loop, the copy's own box is O -/
structure CRel (w wr : World) (n0 O : Nat) (A : Option Addr) (k : Int) (kids : Fo) (v : Value) (n i : Nat) (done rest : Fo) (xs : List Value) : Prop where
  eq : Ty.cat done rest = kids
  len : Ty.len done = i
  i_eq : i + Ty.len rest = n
  lies : Ty.Lies w rest A i
  below : Below w.heap.size w wr
  size : n0 ≤ wr.heap.size
  own : wr.ownsRow n0 25 2 v i xs
  flat : Ty.FlatL (fun b => n0 ≤ b ∧ v.ownBlock ≠ some b) wr done xs
  box : wr.heap[O]? = some (.cells #[.int .i8 k, v] 25 (0, 0))
  olt : O < n0
  ole : w.heap.size ≤ O
  sub : Ty.nodes rest ≤ Ty.nodes kids
theorem CRel.step {w wr W u w3 : World} {n0 O : Nat} {A : Option Addr} {k : Int} {kids : Fo} {v v' : Value} {n i a b : Nat} {done r kd : Fo} {kk : Int} {xs : List Value} {G : Option Addr} {m c : Nat} {o2 : Obj}
    (h : CRel w wr n0 O A k kids v n i done (.node a b kk kd r) xs) (hW : Below wr.heap.size wr W) (hb : Below W.heap.size W u) (hI : Lone (fun b => W.heap.size ≤ b) u kk kd G m c)
    (hown : w3.ownsRow n0 25 2 v' (i + 1) (xs ++ [.int .i8 kk, .slice G m c])) (hg : (u.alloc o2).grownBy w3 v.ownBlock) (hat : v'.ownBlock = v.ownBlock ∨ v'.ownBlock = some (u.alloc o2).heap.size) (hl : Ty.Lies w r A (i + 1)) :
    CRel w (w3.setCell ⟨O, 1, none⟩ v') n0 O A k kids v' n (i + 1) (Ty.cat done (.node a b kk kd .nil)) r (xs ++ [.int .i8 kk, .slice G m c]) := by
  obtain ⟨h1, h2, h3, h4, h5, hsz, h6, h7, hbox, h9, h10, h8⟩ := h
  simp only [Ty.len, Ty.nodes] at h3 h8
  have hlt := h6.lt
  have hs2 := hb.size
  have hs3 : u.heap.size < (u.alloc o2).heap.size := by simp
  have hwW := hW.size
  have hwu : Below wr.heap.size wr (u.alloc o2) := (hW.trans (hb.mono hwW)).alloc (by omega) o2
  have hg2 := hg.size
  have hO : O ≠ v'.ownBlock.getD O + 0 ∨ True := .inr trivial
  have hvO : some O ≠ v.ownBlock := fun e => by have := (hlt O e.symm).1; omega
  have hb3 : w3.heap[O]? = some (.cells #[.int .i8 k, v] 25 (0, 0)) := by
    rw [hg.block O (by omega) hvO, hwu.block O (heap_lt hbox)]; exact hbox
  have hcell : ∀ b' o' x, b' ≠ O → w3.cell? ⟨b', o', none⟩ = some x → (w3.setCell ⟨O, 1, none⟩ v').cell? ⟨b', o', none⟩ = some x := fun b' o' x hne hx => by
    rw [World.cell?_setCell_other _ _ _ _ (fun e => hne (by injection e with e; exact e.symm))]; exact hx
  have hown2 : (w3.setCell ⟨O, 1, none⟩ v').ownsRow n0 25 2 v' (i + 1) (xs ++ [.int .i8 kk, .slice G m c]) := by
    refine hown.kept (row := some O) ⟨rfl, rfl, rfl, by simp [World.setCell], fun q hq hne => Below.heap_setCell _ _ _ q (fun e => hne (by rw [e]))⟩ ?_
    cases hv : v'.ownBlock with
    | none => exact .inl rfl
    | some g => exact .inr (fun e => by injection e with e; have := (hown.lt g hv).1; omega)
  refine ⟨by rw [Ty.cat_snoc]; exact h1, by rw [Ty.len_cat]; omega, by omega, hl, ?_, by simp [World.setCell]; omega, hown2, ?_, ?_, h9, h10, by omega⟩
  · exact ((h5.trans (hwu.mono h5.size)).grown hg (Nat.le_trans h5.size hwu.size) fun q hq => by have := (hlt q hq).1; omega).setCell h10 _
  · refine Ty.FlatL.snoc (hI.to fun b' o' x hP hx => ?_) done xs (Ty.FlatL.to (fun b' o' x hP hx => ?_) done xs h7)
    · have hP' : W.heap.size ≤ b' := hP
      have hbl := Ty.cell_lt hx
      have hne : some b' ≠ v.ownBlock := fun e => by have := (hlt b' e.symm).2; omega
      refine ⟨⟨by omega, fun e => ?_⟩, hcell _ _ _ (by omega) ?_⟩
      · rcases hat with q | q
        · exact hne (by rw [← q, e])
        · rw [q] at e; injection e with e; omega
      · rw [World.cell?_of_block (hg.block b' (by omega) hne), ((Below.refl u.heap.size u).alloc (Nat.le_refl _) o2).cell (p := ⟨b', o', none⟩) hbl]; exact hx
    · have hbl := Ty.cell_lt hx
      have hne : some b' ≠ v.ownBlock := fun e => hP.2 e.symm
      have hP1 := hP.1
      refine ⟨⟨hP1, fun e => ?_⟩, hcell _ _ _ (by omega) ?_⟩
      · rcases hat with q | q
        · exact hP.2 (by rw [← q, e])
        · rw [q] at e; injection e with e; have := hwu.size; omega
      · rw [World.cell?_of_block (hg.block b' (Nat.lt_of_lt_of_le hbl hwu.size) hne), hwu.cell (p := ⟨b', o', none⟩) hbl]; exact hx
  · simp [World.setCell, Array.getElem?_modify, hb3]
/-- the loop's end: the copy -/
theorem CRel.done {w wr : World} {n0 O : Nat} {A : Option Addr} {k : Int} {kids done : Fo} {v : Value} {n : Nat} {xs : List Value} (hk1 : -128 ≤ k) (hk2 : k ≤ 127) (h : CRel w wr n0 O A k kids v n n done .nil xs) (hn : n = Ty.len kids) :
    ∃ G c, v = .slice G n c ∧ Lone (fun b => n0 ≤ b) wr k kids G n c := by
  obtain ⟨h1, h2, h3, h4, h5, hsz, h6, h7, hbox, h9, h10, h8⟩ := h
  rw [Ty.cat_nil] at h1
  subst h1
  have hc := fun g hg => h6.cells (g := g) hg
  have hlt := h6.lt
  rcases h6.2 with ⟨hv, h0⟩ | ⟨g, cap, cur, rfl, hb, hg, h1, h2', _⟩
  · have hd : done = .nil := by
      cases done with
      | nil => rfl
      | node _ _ _ _ _ => simp only [Ty.len] at h2; omega
    subst hd
    obtain rfl : n = 0 := by omega
    exact ⟨none, 0, hv, fun u _ => ⟨trivial, rfl, Nat.le_refl _, Nat.zero_le _, hk1, hk2⟩⟩
  · refine ⟨_, cap, rfl, fun u hu => ⟨?_, hn, h1, h2', hk1, hk2⟩⟩
    refine Ty.FlatL.lies (P := fun b => n0 ≤ b ∧ Value.ownBlock (.slice (some ⟨g, 0, none⟩) n cap) ≠ some b) (w := wr) (fun b o x hP hx => hu b o x hP.1 hx) done xs 0 h7 fun j x hx => ?_
    have := hc g rfl j x hx
    rw [show (⟨g, 0, none⟩ : Addr).add j = ⟨g, j, none⟩ by unfold Addr.add; by_cases h : j = 0 <;> simp [h]] at this
    rw [Nat.zero_mul, Nat.zero_add]
    exact hu g j x hb this

end Go.Proofs.YtknhoagicdfikaaGreatDoor
namespace Go.Proofs.YtknhoagicdfikaaGreatDoor
open Go.RowKit

namespace Ty
/-- a list of types, the elements of the row in block g from the i-th place on: what each holds lies in blocks from lo to below hi, each element's apart from the other ones', g in none -/
def SepF (w : World) (g : Nat) : Fo → Nat → Nat → Nat → Prop
  | .nil, _, lo, hi => lo ≤ hi
  | .node _ _ k kids r, i, lo, hi => ∃ A c lo' hi', lo ≤ lo' ∧ lo' ≤ hi' ∧ (g < lo' ∨ hi' ≤ g) ∧ (-128 ≤ k ∧ k ≤ 127) ∧ len kids ≤ c ∧ c ≤ maxLen ∧
      w.cell? ⟨g, i * 2, none⟩ = some (.int .i8 k) ∧ w.cell? ⟨g, i * 2 + 1, none⟩ = some (.slice A (len kids) c) ∧
      (kids = .nil ∨ ∃ g', A = some ⟨g', 0, none⟩ ∧ lo' ≤ g' ∧ g' < hi' ∧ (∀ o, w.frozen? ⟨g', o, none⟩ = false) ∧ SepF w g' kids 0 lo' hi') ∧ SepF w g r (i + 1) hi' hi
/-- a type's kids in memory of their own -/
def SepK (w : World) (kids : Fo) (A : Option Addr) (lo hi : Nat) : Prop :=
  kids = .nil ∨ ∃ g', A = some ⟨g', 0, none⟩ ∧ lo ≤ g' ∧ g' < hi ∧ (∀ o, w.frozen? ⟨g', o, none⟩ = false) ∧ SepF w g' kids 0 lo hi
theorem SepF.le {w : World} {g : Nat} : ∀ (f : Fo) (i lo hi : Nat), SepF w g f i lo hi → lo ≤ hi
  | .nil, _, _, _, h => h
  | .node _ _ _ _ r, i, lo, hi, h => by
    obtain ⟨A, c, lo', hi', h1, h2, _, _, _, _, _, _, _, h3⟩ := h
    have := SepF.le r _ _ _ h3
    omega
theorem SepF.mono {w : World} {g : Nat} : ∀ (f : Fo) (i lo hi lo2 hi2 : Nat), lo2 ≤ lo → hi ≤ hi2 → SepF w g f i lo hi → SepF w g f i lo2 hi2
  | .nil, _, lo, hi, lo2, hi2, h1, h2, h => by have h' : lo ≤ hi := h; show lo2 ≤ hi2; omega
  | .node _ _ _ _ r, i, lo, hi, lo2, hi2, h1, h2, h => by
    obtain ⟨A, c, lo', hi', a1, a2, a3, a4, a5, a6, a7, a8, a9, a10⟩ := h
    exact ⟨A, c, lo', hi', by omega, a2, a3, a4, a5, a6, a7, a8, a9, SepF.mono r _ _ _ _ _ (Nat.le_refl _) h2 a10⟩
theorem SepK.mono {w : World} {kids : Fo} {A : Option Addr} {lo hi lo2 hi2 : Nat} (h1 : lo2 ≤ lo) (h2 : hi ≤ hi2) (h : SepK w kids A lo hi) : SepK w kids A lo2 hi2 := by
  rcases h with h | ⟨g', a1, a2, a3, a4, a5⟩
  · exact .inl h
  · exact .inr ⟨g', a1, by omega, by omega, a4, SepF.mono _ _ _ _ _ _ h1 h2 a5⟩
theorem SepF.keep {w w' : World} : ∀ (f : Fo) (g i lo hi : Nat), (∀ o v, i * 2 ≤ o → w.cell? ⟨g, o, none⟩ = some v → w'.cell? ⟨g, o, none⟩ = some v) → (∀ b, lo ≤ b → b < hi → b ≠ g → w'.heap[b]? = w.heap[b]?) → SepF w g f i lo hi → SepF w' g f i lo hi
  | .nil, _, _, _, _, _, _, h => h
  | .node _ _ _ kids r, g, i, lo, hi, hg, hb, h => by
    obtain ⟨A, c, lo', hi', a1, a2, a3, a4, a5, a6, a7, a8, a9, a10⟩ := h
    have hle := SepF.le r _ _ _ a10
    refine ⟨A, c, lo', hi', a1, a2, a3, a4, a5, a6, hg _ _ (Nat.le_refl _) a7, hg _ _ (by omega) a8, ?_, SepF.keep r g (i + 1) hi' hi (fun o v ho => hg o v (by omega)) (fun b h1 h2 => hb b (by omega) h2) a10⟩
    rcases a9 with e | ⟨g', b1, b2, b3, b4, b5⟩
    · exact .inl e
    · have hbk := fun b (h1 : lo' ≤ b) (h2 : b < hi') => hb b (by omega) (by omega) (by rcases a3 with a3 | a3 <;> omega)
      refine .inr ⟨g', b1, b2, b3, fun o => by rw [World.frozen?_of_block (hbk g' b2 b3)]; exact b4 o, SepF.keep kids g' 0 lo' hi' (fun o v _ hc => by rw [World.cell?_of_block (hbk g' b2 b3)]; exact hc) (fun b h1 h2 _ => hbk b h1 h2) b5⟩
theorem SepK.keep {w w' : World} {kids : Fo} {A : Option Addr} {lo hi : Nat} (hb : ∀ b, lo ≤ b → b < hi → w'.heap[b]? = w.heap[b]?) (h : SepK w kids A lo hi) : SepK w' kids A lo hi := by
  rcases h with h | ⟨g', a1, a2, a3, a4, a5⟩
  · exact .inl h
  · exact .inr ⟨g', a1, a2, a3, fun o => by rw [World.frozen?_of_block (hb g' a2 a3)]; exact a4 o, SepF.keep kids g' 0 lo hi (fun o v _ hc => by rw [World.cell?_of_block (hb g' a2 a3)]; exact hc) (fun b h1 h2 _ => hb b h1 h2) a5⟩
theorem SepF.lies {w u : World} : ∀ (f : Fo) (g i lo hi : Nat), (∀ o v, w.cell? ⟨g, o, none⟩ = some v → u.cell? ⟨g, o, none⟩ = some v) → (∀ b o v, lo ≤ b → b < hi → w.cell? ⟨b, o, none⟩ = some v → u.cell? ⟨b, o, none⟩ = some v) → SepF w g f i lo hi → Lies u f (some ⟨g, 0, none⟩) i
  | .nil, _, _, _, _, _, _, _ => trivial
  | .node _ _ _ kids r, g, i, lo, hi, hg, hb, h => by
    obtain ⟨A, c, lo', hi', a1, a2, a3, a4, a5, a6, a7, a8, a9, a10⟩ := h
    have hle := SepF.le r _ _ _ a10
    refine ⟨g, 0, A, c, rfl, a4, by rw [Nat.zero_add]; exact hg _ _ a7, by rw [Nat.zero_add]; exact hg _ _ a8, a5, a6, ?_, SepF.lies r g (i + 1) hi' hi hg (fun b o v h1 h2 => hb b o v (by omega) h2) a10⟩
    rcases a9 with rfl | ⟨g', rfl, b2, b3, b4, b5⟩
    · trivial
    · have hbk := fun b o v (h1 : lo' ≤ b) (h2 : b < hi') => hb b o v (by omega) (by omega)
      exact SepF.lies kids g' 0 lo' hi' (fun o v hc => hbk g' o v b2 b3 hc) hbk b5
theorem SepK.lone {w : World} {k : Int} {kids : Fo} {A : Option Addr} {lo hi c : Nat} (h : SepK w kids A lo hi) (hk : -128 ≤ k ∧ k ≤ 127) (h1 : len kids ≤ c) (h2 : c ≤ maxLen) : Lone (fun b => lo ≤ b ∧ b < hi) w k kids A (len kids) c := by
  intro u hu
  refine ⟨?_, rfl, h1, h2, hk.1, hk.2⟩
  rcases h with rfl | ⟨g', rfl, a2, a3, a4, a5⟩
  · trivial
  · exact SepF.lies kids g' 0 lo hi (fun o v hc => hu g' o v ⟨a2, a3⟩ hc) (fun b o v h1 h2 hc => hu b o v ⟨h1, h2⟩ hc) a5
/-- a row that grows: its elements, what they hold -/
def FlatS (w : World) (vb : Option Nat) : Fo → List Value → Nat → Nat → Prop
  | .nil, xs, lo, hi => xs = [] ∧ lo ≤ hi
  | .node _ _ k kids r, xs, lo, hi => ∃ A c lo' hi' ys, xs = .int .i8 k :: .slice A (len kids) c :: ys ∧ lo ≤ lo' ∧ lo' ≤ hi' ∧ (∀ g, vb = some g → g < lo' ∨ hi' ≤ g) ∧ (-128 ≤ k ∧ k ≤ 127) ∧ len kids ≤ c ∧ c ≤ maxLen ∧ SepK w kids A lo' hi' ∧ FlatS w vb r ys hi' hi
theorem FlatS.le {w : World} {vb : Option Nat} : ∀ (f : Fo) (xs : List Value) (lo hi : Nat), FlatS w vb f xs lo hi → lo ≤ hi
  | .nil, _, _, _, h => h.2
  | .node _ _ _ _ r, _, lo, hi, h => by
    obtain ⟨A, c, lo', hi', ys, rfl, h1, h2, _, _, _, _, _, h3⟩ := h
    have := FlatS.le r _ _ _ h3
    omega
theorem FlatS.snoc {w : World} {vb : Option Nat} {a b : Nat} {k : Int} {kids : Fo} {A : Option Addr} {c lo' hi' : Nat} (h1 : lo' ≤ hi') (h2 : ∀ g, vb = some g → g < lo' ∨ hi' ≤ g) (hk : -128 ≤ k ∧ k ≤ 127) (h3 : len kids ≤ c) (h4 : c ≤ maxLen) (h5 : SepK w kids A lo' hi') :
    ∀ (f : Fo) (xs : List Value) (lo hi : Nat), hi ≤ lo' → FlatS w vb f xs lo hi → FlatS w vb (cat f (.node a b k kids .nil)) (xs ++ [.int .i8 k, .slice A (len kids) c]) lo hi'
  | .nil, xs, lo, hi, hh, h => by
    obtain ⟨rfl, hl⟩ := h
    exact ⟨A, c, lo', hi', [], rfl, by omega, h1, h2, hk, h3, h4, h5, rfl, Nat.le_refl _⟩
  | .node _ _ _ _ r, xs, lo, hi, hh, h => by
    obtain ⟨A', c', lo2, hi2, ys, rfl, a1, a2, a3, a4, a5, a6, a7, a8⟩ := h
    exact ⟨A', c', lo2, hi2, _, rfl, a1, a2, a3, a4, a5, a6, a7, FlatS.snoc h1 h2 hk h3 h4 h5 r ys hi2 hi hh a8⟩
theorem FlatS.to {w w' : World} {vb vb' : Option Nat} : ∀ (f : Fo) (xs : List Value) (lo hi : Nat), (∀ b, lo ≤ b → b < hi → vb ≠ some b → w'.heap[b]? = w.heap[b]?) → (∀ g, vb' = some g → vb = some g ∨ hi ≤ g) → FlatS w vb f xs lo hi → FlatS w' vb' f xs lo hi
  | .nil, _, _, _, _, _, h => h
  | .node _ _ _ kids r, xs, lo, hi, hb, hv, h => by
    obtain ⟨A', c', lo2, hi2, ys, rfl, a1, a2, a3, a4, a5, a6, a7, a8⟩ := h
    have hle := FlatS.le r _ _ _ a8
    refine ⟨A', c', lo2, hi2, ys, rfl, a1, a2, fun g hg => ?_, a4, a5, a6, a7.keep fun b h1 h2 => hb b (by omega) (by omega) (fun e => by rcases a3 b e with h | h <;> omega), FlatS.to r ys hi2 hi (fun b h1 h2 => hb b (by omega) h2) hv a8⟩
    rcases hv g hg with h | h
    · exact a3 g h
    · right; omega
theorem FlatS.up {w : World} {vb : Option Nat} : ∀ (f : Fo) (xs : List Value) (lo hi hi2 : Nat), hi ≤ hi2 → FlatS w vb f xs lo hi → FlatS w vb f xs lo hi2
  | .nil, _, _, _, _, hh, h => ⟨h.1, Nat.le_trans h.2 hh⟩
  | .node _ _ _ _ r, _, lo, hi, hi2, hh, h => by
    obtain ⟨A, c, lo', hi', ys, e, h1, h2, h3, h4, h5, h6, h7, h8⟩ := h
    exact ⟨A, c, lo', hi', ys, e, h1, h2, h3, h4, h5, h6, h7, FlatS.up r ys hi' hi hi2 hh h8⟩
theorem FlatS.sep {w : World} {g : Nat} : ∀ (f : Fo) (xs : List Value) (i lo hi : Nat), FlatS w (some g) f xs lo hi → (∀ j x, xs[j]? = some x → w.cell? ⟨g, i * 2 + j, none⟩ = some x) → SepF w g f i lo hi
  | .nil, _, _, _, _, h, _ => h.2
  | .node _ _ k kids r, _, i, lo, hi, h, hc => by
    obtain ⟨A', c', lo2, hi2, ys, rfl, a1, a2, a3, a4, a5, a6, a7, a8⟩ := h
    refine ⟨A', c', lo2, hi2, a1, a2, a3 g rfl, a4, a5, a6, hc 0 _ rfl, hc 1 _ rfl, a7, FlatS.sep r ys (i + 1) hi2 hi a8 fun j x hx => ?_⟩
    have := hc (j + 2) x (by simpa using hx)
    rwa [show i * 2 + (j + 2) = (i + 1) * 2 + j by omega] at this
end Ty
/-- what a copy is: it lies in new blocks, each part apart -/
def CopyS (w : World) (k : Int) (kids : Fo) (e : Ending) (w' : World) : Prop :=
  ∃ G c, e = .returned (.agg #[.int .i8 k, .slice G (Ty.len kids) c]) ∧ Ty.len kids ≤ c ∧ c ≤ maxLen ∧ Ty.SepK w' kids G w.heap.size w'.heap.size ∧ Below w.heap.size w w'
/-- a round's state: n0 blocks lay before the loop, the copy's own box is O -/
structure SRel (w wr : World) (n0 O : Nat) (A : Option Addr) (k : Int) (kids : Fo) (v : Value) (n i : Nat) (done rest : Fo) (xs : List Value) : Prop where
  eq : Ty.cat done rest = kids
  len : Ty.len done = i
  i_eq : i + Ty.len rest = n
  lies : Ty.Lies w rest A i
  below : Below w.heap.size w wr
  size : n0 ≤ wr.heap.size
  own : wr.ownsRow n0 25 2 v i xs
  flat : Ty.FlatS wr v.ownBlock done xs n0 wr.heap.size
  box : wr.heap[O]? = some (.cells #[.int .i8 k, v] 25 (0, 0))
  olt : O < n0
  ole : w.heap.size ≤ O
  sub : Ty.nodes rest ≤ Ty.nodes kids
theorem SRel.step {w wr W u w3 : World} {n0 O : Nat} {A : Option Addr} {k : Int} {kids : Fo} {v v' : Value} {n i a b : Nat} {done r kd : Fo} {kk : Int} {xs : List Value} {G : Option Addr} {c : Nat} {o2 : Obj}
    (h : SRel w wr n0 O A k kids v n i done (.node a b kk kd r) xs) (hW : Below wr.heap.size wr W) (hb : Below W.heap.size W u) (hkk : -128 ≤ kk ∧ kk ≤ 127) (hc1 : Ty.len kd ≤ c) (hc2 : c ≤ maxLen) (hI : Ty.SepK u kd G W.heap.size u.heap.size)
    (hown : w3.ownsRow n0 25 2 v' (i + 1) (xs ++ [.int .i8 kk, .slice G (Ty.len kd) c])) (hg : (u.alloc o2).grownBy w3 v.ownBlock) (hat : v'.ownBlock = v.ownBlock ∨ v'.ownBlock = some (u.alloc o2).heap.size) (hl : Ty.Lies w r A (i + 1)) :
    SRel w (w3.setCell ⟨O, 1, none⟩ v') n0 O A k kids v' n (i + 1) (Ty.cat done (.node a b kk kd .nil)) r (xs ++ [.int .i8 kk, .slice G (Ty.len kd) c]) := by
  obtain ⟨h1, h2, h3, h4, h5, hsz, h6, h7, hbox, h9, h10, h8⟩ := h
  simp only [Ty.len, Ty.nodes] at h3 h8
  have hlt := h6.lt
  have hs2 := hb.size
  have hs3 : u.heap.size + 1 = (u.alloc o2).heap.size := by simp
  have hwW := hW.size
  have hwu : Below wr.heap.size wr (u.alloc o2) := (hW.trans (hb.mono hwW)).alloc (by omega) o2
  have hg2 := hg.size
  have hvO : some O ≠ v.ownBlock := fun e => by have := (hlt O e.symm).1; omega
  have hb3 : w3.heap[O]? = some (.cells #[.int .i8 k, v] 25 (0, 0)) := by
    rw [hg.block O (by omega) hvO, hwu.block O (heap_lt hbox)]; exact hbox
  have hss : (w3.setCell ⟨O, 1, none⟩ v').heap.size = w3.heap.size := by simp [World.setCell]
  have hcell : ∀ b', b' ≠ O → (w3.setCell ⟨O, 1, none⟩ v').heap[b']? = w3.heap[b']? := fun b' hne => Below.heap_setCell _ _ _ b' hne
  have hown2 : (w3.setCell ⟨O, 1, none⟩ v').ownsRow n0 25 2 v' (i + 1) (xs ++ [.int .i8 kk, .slice G (Ty.len kd) c]) := by
    refine hown.kept (row := some O) ⟨rfl, rfl, rfl, by simp [World.setCell], fun q hq hne => Below.heap_setCell _ _ _ q (fun e => hne (by rw [e]))⟩ ?_
    cases hv : v'.ownBlock with
    | none => exact .inl rfl
    | some g => exact .inr (fun e => by injection e with e; have := (hown.lt g hv).1; omega)
  refine ⟨by rw [Ty.cat_snoc]; exact h1, by rw [Ty.len_cat]; omega, by omega, hl, ?_, by rw [hss]; omega, hown2, ?_, ?_, h9, h10, by omega⟩
  · exact ((h5.trans (hwu.mono h5.size)).grown hg (Nat.le_trans h5.size hwu.size) fun q hq => by have := (hlt q hq).1; omega).setCell h10 _
  · have hnew : Ty.FlatS (w3.setCell ⟨O, 1, none⟩ v') v'.ownBlock done xs n0 wr.heap.size := by
      refine Ty.FlatS.to done xs n0 wr.heap.size (fun b' q1 q2 q3 => ?_) (fun g e => ?_) h7
      · rw [hcell b' (by omega), hg.block b' (by omega) (fun e => q3 e.symm), hwu.block b' q2]
      · rcases hat with q | q
        · exact .inl (by rw [← q]; exact e)
        · rw [q] at e; injection e with e; exact .inr (by omega)
    have hsep : Ty.SepK (w3.setCell ⟨O, 1, none⟩ v') kd G W.heap.size u.heap.size := by
      refine hI.keep fun b' q1 q2 => ?_
      rw [hcell b' (by omega), hg.block b' (by omega) (fun e => by have := (hlt b' e.symm).2; omega), Below.heap_alloc _ _ _ q2]
    have := Ty.FlatS.snoc (a := a) (b := b) hs2 (fun g e => ?_) hkk hc1 hc2 hsep done xs n0 wr.heap.size hwW hnew
    · rw [hss]
      exact Ty.FlatS.up _ _ _ _ _ (by omega) this
    · rcases hat with q | q
      · rw [q] at e; have := (hlt g e).2; left; omega
      · rw [q] at e; injection e with e; right; omega
  · simp [World.setCell, Array.getElem?_modify, hb3]
/-- the loop's end: the copy -/
theorem SRel.done {w wr : World} {n0 O : Nat} {A : Option Addr} {k : Int} {kids done : Fo} {v : Value} {n : Nat} {xs : List Value} (h : SRel w wr n0 O A k kids v n n done .nil xs) (hn : n = Ty.len kids) :
    ∃ G c, v = .slice G n c ∧ n ≤ c ∧ c ≤ maxLen ∧ Ty.SepK wr kids G n0 wr.heap.size := by
  obtain ⟨h1, h2, h3, h4, h5, hsz, h6, h7, hbox, h9, h10, h8⟩ := h
  rw [Ty.cat_nil] at h1
  subst h1
  have hc := fun g hg => h6.cells (g := g) hg
  rcases h6.2 with ⟨hv, h0⟩ | ⟨g, cap, cur, rfl, hb, hg, h1, h2', _⟩
  · have hd : done = .nil := by
      cases done with
      | nil => rfl
      | node _ _ _ _ _ => simp only [Ty.len] at h2; omega
    subst hd
    obtain rfl : n = 0 := by omega
    exact ⟨none, 0, hv, Nat.le_refl _, Nat.zero_le _, .inl rfl⟩
  · refine ⟨_, cap, rfl, h1, h2', .inr ⟨g, rfl, hb, heap_lt hg, fun o => by simp [World.frozen?, hg], ?_⟩⟩
    refine Ty.FlatS.sep done xs 0 n0 wr.heap.size h7 fun j x hx => ?_
    have := hc g rfl j x hx
    rw [show (⟨g, 0, none⟩ : Addr).add j = ⟨g, j, none⟩ by unfold Addr.add; by_cases h : j = 0 <;> simp [h]] at this
    rw [Nat.zero_mul, Nat.zero_add]
    exact this
end Go.Proofs.YtknhoagicdfikaaGreatDoor
namespace Go.Proofs.YtknhoagicdfikaaGreatDoor
open Go.RowKit

set_option maxHeartbeats 4000000 in
set_option maxRecDepth 100000 in
theorem ccopied_any (K : Nat) : ∀ (k : Int) (kids : Fo) (A : Option Addr) (n c : Nat) (w : World), Ty.nodes kids < K → Ty.Is w k kids A n c → Ty.nodes kids ≤ 8192 →
    Calls Tryz.prog 48 #[.agg #[.int .i8 k, .slice A n c]] w (CopyS w k kids) := by
  induction K with
  | zero => intro _ _ _ _ _ _ hK; omega
  | succ K ih =>
    intro k kids A n c w hK hIs hsm
    have hln := Ty.len_le_nodes kids
    have hneq := hIs.n_eq
    have hlo := hIs.lo
    have hhi := hIs.hi
    have i5 : (n : Int) ≤ 8192 := by omega
    obtain ⟨i0, hi, hz0, hz1, hz2⟩ := info_parts info_Ty
    have hb2 : Below w.heap.size w (((w.alloc (.cells #[.int .i8 k, .slice A n c] 25)).alloc (.cells #[.int .i8 0, .slice none 0 0] 25)).alloc (.cells #[.int .i8 k, .slice none 0 0] 25)) := (((Below.refl _ _).alloc (Nat.le_refl _) _).alloc (by simp) _).alloc (by simp; omega) _
    have hbx : (((w.alloc (.cells #[.int .i8 k, .slice A n c] 25)).alloc (.cells #[.int .i8 0, .slice none 0 0] 25)).alloc (.cells #[.int .i8 k, .slice none 0 0] 25)).heap[w.heap.size + 1 + 1]? = some (.cells #[.int .i8 k, .slice none 0 0] 25) := by
      have := heap_new ((w.alloc (.cells #[.int .i8 k, .slice A n c] 25)).alloc (.cells #[.int .i8 0, .slice none 0 0] 25)) (.cells #[.int .i8 k, .slice none 0 0] 25)
      simpa using this
    have hsz2 : (((w.alloc (.cells #[.int .i8 k, .slice A n c] 25)).alloc (.cells #[.int .i8 0, .slice none 0 0] 25)).alloc (.cells #[.int .i8 k, .slice none 0 0] 25)).heap.size = w.heap.size + 3 := by simp
    have hst : SRel w (((w.alloc (.cells #[.int .i8 k, .slice A n c] 25)).alloc (.cells #[.int .i8 0, .slice none 0 0] 25)).alloc (.cells #[.int .i8 k, .slice none 0 0] 25)) (w.heap.size + 3) (w.heap.size + 1 + 1) A k kids (.slice none 0 0) n 0 .nil kids [] :=
      ⟨rfl, rfl, by omega, hIs.lies, hb2, by omega, ⟨rfl, .inl ⟨rfl, rfl⟩⟩, ⟨rfl, by omega⟩, hbx, by omega, by omega, Nat.le_refl _⟩
    have HS := Lib.hid hst
    have IH := Lib.hid ih
    have HR1 := Lib.hid (show (((w.alloc (.cells #[.int .i8 k, .slice A n c] 25)).alloc (.cells #[.int .i8 0, .slice none 0 0] 25)).alloc (.cells #[.int .i8 k, .slice none 0 0] 25)).heap[w.heap.size + 1]? = _ from heap_old (two_new w _ _).2.1 _)
    have HNE := Lib.hid hneq
    clear hst ih hIs hb2 hbx hsz2 hneq
    go_enter Tryz.func48, Tryz.ntmps48
    go_wp2_with fail
    go_loopw [12] (fun v12 wr => ∃ (i : Nat) (done rest : Fo) (xs : List Value) (v : Value), v12 = .int .i64 i ∧ SRel w wr (w.heap.size + 3) (w.heap.size + 1 + 1) A k kids v n i done rest xs ∧ wr.heap[w.heap.size + 1]? = some (.cells #[.int .i8 0, .slice none 0 0] 25)) (fun v _ => n - (intOf v).toNat)
    case atStart => exact ⟨0, .nil, kids, [], _, rfl, HS.out, HR1.out⟩
    case round =>
      obtain ⟨i, done, rest, xs, v, rfl, hR, hres⟩ := hrel
      cases rest with
      | nil =>
        have hi2 : i = n := by have := hR.i_eq; simpa [Ty.len] using this
        subst hi2
        obtain ⟨G, cg, rfl, hq1, hq2, hL⟩ := hR.done HNE.out
        have HQ := Lib.hid (And.intro hq1 hq2)
        have HSZ := Lib.hid hR.size
        have HB := Lib.hid hR.below
        have HL := Lib.hid hL
        obtain ⟨b0, b1, _, _, hb0⟩ := own2 hR.box
        obtain ⟨d0, d1, f0, f1, hd0⟩ := own2 hres
        clear hR hL hres hq1 hq2
        go_wp2_with fail
        refine bodyPost_ret (v := .agg #[.int .i8 k, .slice G i cg]) (by simp [results, Tryz.results48, go_sem, *]) rfl ⟨G, cg, by rw [HNE.out], by rw [← HNE.out]; exact HQ.out.1, HQ.out.2, ?_, ?_⟩
        · have hsz : ∀ (W : World) (p1 p2 : Addr) (v1 v2 : Value), ((W.setCell p1 v1).setCell p2 v2).heap.size = W.heap.size := fun W p1 p2 v1 v2 => by simp [World.setCell]
          rw [hsz]
          refine (HL.out.keep fun b hP hx => ?_).mono (by omega) (Nat.le_refl _)
          rw [Below.heap_setCell _ _ _ _ (by show b ≠ w.heap.size + 1; omega), Below.heap_setCell _ _ _ _ (by show b ≠ w.heap.size + 1; omega)]
        · exact (HB.out.setCell (p := ⟨w.heap.size + 1, 0, none⟩) (by simp) _).setCell (p := ⟨w.heap.size + 1, 1, none⟩) (by simp) _
      | node a b kk kd r =>
        have h1 := hR.i_eq
        have h2 := hR.lies
        have h3 := hR.sub
        have h4 := hR.below
        have HR := Lib.hid hR
        have HRES := Lib.hid hres
        simp only [Ty.len, Ty.nodes] at h1 h3
        obtain ⟨bb, oo, B, cB, rfl, ⟨hk1, hk2⟩, c1, c2, hl1, hl2, hl3, hl4⟩ := h2
        have c1' : wr.cell? ⟨bb, oo + i * 2, none⟩ = some (.int .i8 kk) := by rw [h4.cell (p := ⟨bb, _, none⟩) (Ty.cell_lt c1)]; exact c1
        have c2' : wr.cell? ⟨bb, oo + i * 2 + 1, none⟩ = some (.slice B (Ty.len kd) cB) := by rw [h4.cell (p := ⟨bb, _, none⟩) (Ty.cell_lt c2)]; exact c2
        have HC := Lib.hid (fun (W : World) (hb : Below wr.heap.size wr W) => IH.out kk kd B (Ty.len kd) cB W (by omega) ((show Ty.Is w kk kd B (Ty.len kd) cB from ⟨hl3, rfl, hl1, hl2, hk1, hk2⟩).below (h4.trans (hb.mono h4.size))) (by omega))
        have HL4 := Lib.hid hl4
        have HKK := Lib.hid (And.intro hk1 hk2)
        have j1 : (i : Int) < n := by omega
        obtain ⟨b0, b1, f0, f1, hb0⟩ := own2 hR.box
        clear hR hres hl1 hl2 hl3 hl4 c1 c2 h4
        go_wp2_with fail
        have hb9 : Below wr.heap.size wr (wr.alloc (.cells #[.int .i8 kk, .slice B (Ty.len kd) cB] 25)) := (Below.refl _ _).alloc (Nat.le_refl _) _
        have HBX := Lib.hid (heap_below hb9 hb0 HR.out.box)
        have HKX := Lib.hid (heap_new wr (.cells #[.int .i8 kk, .slice B (Ty.len kd) cB] 25))
        have HO9 := Lib.hid (ownsRow_below HR.out.own hb9)
        clear b0 b1 f0 f1 c1' c2'
        generalize hwk : wr.alloc (.cells #[.int .i8 kk, .slice B (Ty.len kd) cB] 25) = wk at *
        have hws : wk.heap.size = wr.heap.size + 1 := by rw [← hwk]; simp
        have HWS := Lib.hid hws
        have E1 : Below wr.heap.size wr wk.drew := hb9.drew
        obtain ⟨b0, b1, f0, f1, hb0⟩ := own2 HBX.out
        obtain ⟨k0, k1, _, _, hk0⟩ := own2 HKX.out
        clear hb9 hwk hws
        go_region_law (first
          | (go_simp; go_at_call 48; (with_reducible refine (HC.out _ E1).mono ?_); rintro e u ⟨G, cg, rfl, hq1, hq2, hnew, hb⟩; have HNW := Lib.hid hnew; have HQ := Lib.hid (And.intro hq1 hq2); have HBU := Lib.hid hb; have HBO := Lib.hid (heap_below hb (show w.heap.size + 1 + 1 < wk.drew.heap.size from hb0) (show wk.drew.heap[w.heap.size + 1 + 1]? = _ from HBX.out)); have HOU := Lib.hid (ownsRow_below (show wk.drew.ownsRow _ _ _ _ _ _ from HO9.out) hb); obtain ⟨o0, o1, g0, g1, hol⟩ := own2 HBO.out; clear hnew hb hq1 hq2; go_wp2_with fail)
          | (refine step_append_own_at _ (by rfl) (.tmp 17) (.tmp 20) 23 (by rfl) (w.heap.size + 3) 25 i0 (.agg #[.int .i8 0, .slice none 0 0]) 2 32 Tryz.underlying23 hi hz0 hz1 hz2 (by rfl) (by decide) v i xs (by rfl) (HOU.out.alloc _) ⟨u.heap.size, 0, none⟩ 1 1 [.int .i8 kk, .slice G (Ty.len kd) cg] (by rfl) (by rfl) (cells_of_heap (heap_new u _)) (by intro x hx; simp at hx; rcases hx with rfl | rfl <;> rfl) (by unfold maxLen; omega) (by omega) (by have h1 := HBO.out; have h2 := heap_lt h1; simp; omega) ?_; intro v' w3 hown3 hg3 hat3; obtain ⟨Av, nv, cv, rfl⟩ := own_slice hown3; obtain ⟨q0, q1, r0, r1, ql⟩ := own2 ((hg3.block (w.heap.size + 1 + 1) (by simp; omega) (fun e => by have := (HOU.out.lt _ e.symm).1; omega)).trans (heap_old HBO.out (.cells #[.int .i8 kk, .slice G (Ty.len kd) cg] 25))); have HOW3 := Lib.hid hown3; have HG3 := Lib.hid hg3; have HAT3 := Lib.hid hat3; clear hown3 hg3 hat3))
        all_goals
          go_wp2_with fail
          go_roundw
          case rel =>
            refine ⟨i + 1, _, r, _, .slice Av nv cv, by go_num, HR.out.step E1 HBU.out HKK.out HQ.out.1 HQ.out.2 HNW.out HOW3.out HG3.out (by simpa using HAT3.out) HL4.out, ?_⟩
            have hl := heap_lt HRES.out
            have e1 := heap_below HBU.out (Nat.lt_of_lt_of_le hl E1.size) (heap_below E1 hl HRES.out)
            rw [Below.heap_setCell _ _ _ _ (by show w.heap.size + 1 ≠ w.heap.size + 1 + 1; omega), HG3.out.block _ (by have := heap_lt e1; simp; omega) (fun e => by have := (HOU.out.lt _ e.symm).1; omega)]
            exact heap_old e1 _
          case measure => simp [intOf]; omega

set_option maxHeartbeats 1000000 in
set_option maxRecDepth 100000 in
theorem ccopy_any (k : Int) (kids : Fo) (A : Option Addr) (n c : Nat) (w : World) (hIs : Ty.Is w k kids A n c) (hS : Shapes w) (h0 : Ty.chk k kids = 0) :
    Calls Tryz.prog 27 #[.agg #[.int .i8 k, .slice A n c]] w (CopyS w k kids) := by
  obtain ⟨r0, r1, r2⟩ := two_new w (.cells #[.int .i8 k, .slice A n c] 25) (.cells #[.int .i8 0, .slice none 0 0] 25)
  have hB0 := ((Below.refl w.heap.size w).alloc (Nat.le_refl _) (.cells #[.int .i8 k, .slice A n c] 25)).alloc (by simp) (.cells #[.int .i8 0, .slice none 0 0] 25)
  have HM := Lib.hid (fun (W : World) (hb : Below w.heap.size w W) => check_any k kids A n c W (hIs.below hb) (hS.below hb))
  have HK := Lib.hid (fun (W : World) (hb : Below w.heap.size w W) => ccopied_any (Ty.nodes kids + 1) k kids A n c W (by omega) (hIs.below hb) (by have := (Ty.chk_ok h0).2.1; omega))
  rw [h0] at HM
  have R0 := Lib.hid r0
  have R1 := Lib.hid r1
  clear hIs hS h0 r0 r1 r2
  go_enter Tryz.func27, Tryz.ntmps27
  go_wp2_with fail
  refine (HM.out _ hB0).mono ?_
  rintro e w3 ⟨rfl, hb⟩
  have hB1 := hB0.trans (hb.mono hB0.size)
  have hx0 := heap_below hb (heap_lt R0.out) R0.out
  have X1 := Lib.hid (heap_below hb (heap_lt R1.out) R1.out)
  obtain ⟨b0, b1, _, _, _⟩ := own2 hx0
  clear hb hx0
  go_wp2_with fail
  refine (HK.out _ hB1).mono ?_
  rintro e w4 ⟨G, cg, rfl, h1, h2, h3, hb⟩
  have hlt1 : w.heap.size + 1 < w3.heap.size := heap_lt X1.out
  obtain ⟨d0, d1, f0, f1, hd0⟩ := own2 (heap_below hb (heap_lt X1.out) X1.out)
  have HB4 := Lib.hid (hB1.trans (hb.mono hB1.size))
  have HQ := Lib.hid (And.intro h1 (And.intro h2 h3))
  clear hb h1 h2 h3
  go_wp2_with fail
  refine bodyPost_ret (v := .agg #[.int .i8 k, .slice G (Ty.len kids) cg]) (by simp [results, Tryz.results27, go_sem, *]) rfl ⟨G, cg, rfl, HQ.out.1, HQ.out.2.1, ?_, ?_⟩
  · have hsz : ∀ (W : World) (p1 p2 : Addr) (v1 v2 : Value), ((W.setCell p1 v1).setCell p2 v2).heap.size = W.heap.size := fun W p1 p2 v1 v2 => by simp [World.setCell]
    rw [hsz]
    refine (HQ.out.2.2.keep fun b hP hx => ?_).mono (by omega) (Nat.le_refl _)
    rw [Below.heap_setCell _ _ _ _ (by show b ≠ w.heap.size + 1; omega), Below.heap_setCell _ _ _ _ (by show b ≠ w.heap.size + 1; omega)]
  · exact (HB4.out.setCell (p := ⟨w.heap.size + 1, 0, none⟩) (by simp) _).setCell (p := ⟨w.heap.size + 1, 1, none⟩) (by simp) _
theorem CopyS.toL {w w' : World} {k : Int} {kids : Fo} {e : Ending} (hk : -128 ≤ k ∧ k ≤ 127) (h : CopyS w k kids e w') : CopyL w k kids e w' := by
  obtain ⟨G, c, rfl, h1, h2, h3, hb⟩ := h
  exact ⟨G, _, c, rfl, (h3.lone hk h1 h2).to fun b o v hP hv => ⟨hP.1, hv⟩, hb⟩
theorem ccopyL_any (k : Int) (kids : Fo) (A : Option Addr) (n c : Nat) (w : World) (hIs : Ty.Is w k kids A n c) (hS : Shapes w) (h0 : Ty.chk k kids = 0) :
    Calls Tryz.prog 27 #[.agg #[.int .i8 k, .slice A n c]] w (CopyL w k kids) :=
  (ccopy_any k kids A n c w hIs hS h0).mono fun _ _ h => h.toL ⟨hIs.lo, hIs.hi⟩
theorem Ty.chk_make {k : Int} {kids : Fo} (h1 : Ty.okT k kids = true) (h2 : Ty.nodes kids + 1 ≤ 8192) (h3 : Ty.dep kids + 1 ≤ 200) : Ty.chk k kids = 0 := by
  unfold Ty.okT at h1
  unfold Ty.chk
  rw [if_neg (by omega), if_neg (by omega), h1]; rfl
/-- the parts of a right type are right -/
theorem Ty.chk_both {k : Int} {a b c d : Nat} {k1 k2 : Int} {f1 f2 : Fo} (h : Ty.chk k (.node a b k1 f1 (.node c d k2 f2 .nil)) = 0) : Ty.chk k1 f1 = 0 ∧ Ty.chk k2 f2 = 0 := by
  obtain ⟨x, y, z⟩ := Ty.chk_ok h
  unfold Ty.okT at x
  simp only [Ty.okF, Ty.nodes, Ty.dep, Bool.and_eq_true] at x y z
  exact ⟨Ty.chk_make (by unfold Ty.okT; rw [x.2.1.1, x.2.1.2]; rfl) (by omega) (by omega), Ty.chk_make (by unfold Ty.okT; rw [x.2.2.1.1, x.2.2.1.2]; rfl) (by omega) (by omega)⟩
end Go.Proofs.YtknhoagicdfikaaGreatDoor
namespace Go.Proofs.YtknhoagicdfikaaGreatDoor
open Go.RowKit

namespace Ty
def asOk (kd k : Int) (kids : Fo) : Bool := (chk k kids == 0) && decide (3 ≤ kd ∧ kd ≤ 5) && ((k == kd) || (k == 0))
def kid1 : Fo → Int × Fo
  | .node _ _ k f _ => (k, f)
  | .nil => (0, .nil)
def kid2 : Fo → Int × Fo
  | .node _ _ _ _ (.node _ _ k f _) => (k, f)
  | _ => (0, .nil)
def asL (kd k : Int) (kids : Fo) : Int × Fo := if asOk kd k kids then kid1 kids else (0, .nil)
def asR (kd k : Int) (kids : Fo) : Int × Fo := if asOk kd k kids then kid2 kids else (0, .nil)
theorem as_no {kd k : Int} {kids : Fo} (h : asOk kd k kids = false) : asL kd k kids = (0, .nil) ∧ asR kd k kids = (0, .nil) := by
  unfold asL asR; rw [h]; exact ⟨rfl, rfl⟩
theorem as_open {kd : Int} (h1 : 3 ≤ kd) (h2 : kd ≤ 5) : asOk kd 0 .nil = true ∧ asL kd 0 .nil = (0, .nil) ∧ asR kd 0 .nil = (0, .nil) := by
  have h : asOk kd 0 .nil = true := by unfold asOk; simp [h1, h2, show chk 0 .nil = 0 from rfl]
  unfold asL asR; rw [h]; exact ⟨rfl, rfl, rfl⟩
theorem as_yes {kd : Int} {a b c d : Nat} {k1 k2 : Int} {f1 f2 : Fo} (h1 : 3 ≤ kd) (h2 : kd ≤ 5) (hc : chk kd (.node a b k1 f1 (.node c d k2 f2 .nil)) = 0) :
    asOk kd kd (.node a b k1 f1 (.node c d k2 f2 .nil)) = true ∧ asL kd kd (.node a b k1 f1 (.node c d k2 f2 .nil)) = (k1, f1) ∧ asR kd kd (.node a b k1 f1 (.node c d k2 f2 .nil)) = (k2, f2) := by
  have h : asOk kd kd (.node a b k1 f1 (.node c d k2 f2 .nil)) = true := by unfold asOk; simp [h1, h2, hc]
  unfold asL asR; rw [h]; exact ⟨rfl, rfl, rfl⟩
theorem zero_is (w : World) : Is w 0 .nil none 0 0 := ⟨trivial, rfl, Nat.le_refl _, Nat.zero_le _, by omega, by omega⟩
end Ty
/-- what As leaves -/
def AsPost (w : World) (ok : Bool) (l r : Int × Fo) (e : Ending) (w' : World) : Prop :=
  ∃ G1 m1 c1 G2 m2 c2, e = .returned (.tuple #[.agg #[.int .i8 l.1, .slice G1 m1 c1], .agg #[.int .i8 r.1, .slice G2 m2 c2], .bool ok]) ∧ Ty.Is w' l.1 l.2 G1 m1 c1 ∧ Ty.Is w' r.1 r.2 G2 m2 c2 ∧ Below w.heap.size w w'
theorem keepAt' {wb w2 : World} {b o : Nat} {v : Value} (h : wb.cell? ⟨b, o, none⟩ = some v) (hb : Below wb.heap.size wb w2) : w2.cell? ⟨b, o, none⟩ = some v := by rw [(bcell hb).1 _ _ (Ty.cell_lt h)]; exact h
theorem four_set {w u : World} {X Y : Nat} (h : Below w.heap.size w u) (hX : w.heap.size ≤ X) (hY : w.heap.size ≤ Y) (v0 v1 v2 v3 : Value) : Below w.heap.size w ((((u.setCell ⟨X, 0, none⟩ v0).setCell ⟨X, 1, none⟩ v1).setCell ⟨Y, 0, none⟩ v2).setCell ⟨Y, 1, none⟩ v3) :=
  (((h.setCell (p := ⟨X, 0, none⟩) hX _).setCell (p := ⟨X, 1, none⟩) hX _).setCell (p := ⟨Y, 0, none⟩) hY _).setCell (p := ⟨Y, 1, none⟩) hY _
theorem four_keep {P : Nat → Prop} {u : World} {X Y : Nat} {v0 v1 v2 v3 : Value} (hX : ¬ P X) (hY : ¬ P Y) : ∀ b o v, P b → u.cell? ⟨b, o, none⟩ = some v → ((((u.setCell ⟨X, 0, none⟩ v0).setCell ⟨X, 1, none⟩ v1).setCell ⟨Y, 0, none⟩ v2).setCell ⟨Y, 1, none⟩ v3).cell? ⟨b, o, none⟩ = some v := by
  intro b o v hb hc
  have n1 : b ≠ X := fun e => hX (e ▸ hb)
  have n2 : b ≠ Y := fun e => hY (e ▸ hb)
  rw [World.cell?_setCell_other _ _ _ _ (fun e => n2 (by injection e with e; exact e.symm)), World.cell?_setCell_other _ _ _ _ (fun e => n2 (by injection e with e; exact e.symm)), World.cell?_setCell_other _ _ _ _ (fun e => n1 (by injection e with e; exact e.symm)), World.cell?_setCell_other _ _ _ _ (fun e => n1 (by injection e with e; exact e.symm))]
  exact hc

end Go.Proofs.YtknhoagicdfikaaGreatDoor
