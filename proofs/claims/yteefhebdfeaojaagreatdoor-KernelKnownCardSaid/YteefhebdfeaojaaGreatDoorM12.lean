/-
  Types that lie in blocks of which P holds; agree.copied. Types in memory of their own, each part apart from each other one.
-/
import Derived.Test.YteefhebdfeaojaaGreatDoorM7
import Derived.Maps.AppendAt
import Derived.Deep.RegionLaw
import Derived.Deep.RegionHeld3
import Derived.Deep.DrawnRows
namespace Go.Proofs.YteefhebdfeaojaaGreatDoor
open Go.RowKit

/-- a type that lies in blocks of which P holds -/
def Lone (P : Nat → Prop) (w : World) (k : Int) (kids : Fo) (G : Option Addr) (m c : Nat) : Prop := ∀ u : World, (∀ b o v, P b → w.cell? ⟨b, o, none⟩ = some v → u.cell? ⟨b, o, none⟩ = some v) → Ty.Is u k kids G m c
theorem Lone.is {P : Nat → Prop} {w : World} {k : Int} {kids : Fo} {G : Option Addr} {m c : Nat} (h : Lone P w k kids G m c) : Ty.Is w k kids G m c := h w fun _ _ _ _ h => h
theorem Lone.to {P P' : Nat → Prop} {w w' : World} {k : Int} {kids : Fo} {G : Option Addr} {m c : Nat} (h : Lone P w k kids G m c) (hk : ∀ b o v, P b → w.cell? ⟨b, o, none⟩ = some v → P' b ∧ w'.cell? ⟨b, o, none⟩ = some v) : Lone P' w' k kids G m c :=
  fun u hu => h u fun b o v hb hc => hu b o v (hk b o v hb hc).1 (hk b o v hb hc).2
namespace Ty
def cat : Fo → Fo → Fo
  | .nil, g => g
  | .node a b k kids r, g => .node a b k kids (cat r g)
theorem cat_nil : ∀ f : Fo, cat f .nil = f
  | .nil => rfl
  | .node a b k kids r => by simp only [cat]; rw [cat_nil r]
theorem cat_snoc : ∀ (f : Fo) (a b : Nat) (k : Int) (kids r : Fo), cat (cat f (.node a b k kids .nil)) r = cat f (.node a b k kids r)
  | .nil, _, _, _, _, _ => rfl
  | .node _ _ _ _ q, a, b, k, kids, r => by simp only [cat]; rw [cat_snoc q]
theorem len_cat : ∀ (f : Fo) (a b : Nat) (k : Int) (kids : Fo), len (cat f (.node a b k kids .nil)) = len f + 1
  | .nil, _, _, _, _ => rfl
  | .node _ _ _ _ q, a, b, k, kids => by simp only [cat, len]; rw [len_cat q]
/-- the cells of a list of types, each of which lies in such blocks -/
def FlatL (P : Nat → Prop) (w : World) : Fo → List Value → Prop
  | .nil, xs => xs = []
  | .node _ _ k kids r, xs => ∃ A m c ys, xs = .int .i8 k :: .slice A m c :: ys ∧ Lone P w k kids A m c ∧ FlatL P w r ys
theorem FlatL.snoc {P : Nat → Prop} {w : World} {a b : Nat} {k : Int} {kids : Fo} {A : Option Addr} {m c : Nat} (hI : Lone P w k kids A m c) : ∀ (f : Fo) (xs : List Value), FlatL P w f xs → FlatL P w (cat f (.node a b k kids .nil)) (xs ++ [.int .i8 k, .slice A m c])
  | .nil, xs, h => by cases h; exact ⟨A, m, c, [], rfl, hI, rfl⟩
  | .node _ _ _ _ q, xs, h => by
    obtain ⟨A', m', c', ys, rfl, h1, h2⟩ := h
    exact ⟨A', m', c', _, rfl, h1, FlatL.snoc hI q ys h2⟩
theorem FlatL.to {P P' : Nat → Prop} {w w' : World} (hk : ∀ b o v, P b → w.cell? ⟨b, o, none⟩ = some v → P' b ∧ w'.cell? ⟨b, o, none⟩ = some v) : ∀ (f : Fo) (xs : List Value), FlatL P w f xs → FlatL P' w' f xs
  | .nil, _, h => h
  | .node _ _ _ _ q, _, h => by
    obtain ⟨A', m', c', ys, rfl, h1, h2⟩ := h
    exact ⟨A', m', c', ys, rfl, h1.to hk, FlatL.to hk q ys h2⟩
theorem FlatL.lies {P : Nat → Prop} {w u : World} {g : Nat} (hu : ∀ b o v, P b → w.cell? ⟨b, o, none⟩ = some v → u.cell? ⟨b, o, none⟩ = some v) : ∀ (f : Fo) (xs : List Value) (i : Nat), FlatL P w f xs → (∀ j x, xs[j]? = some x → u.cell? ⟨g, i * 2 + j, none⟩ = some x) → Lies u f (some ⟨g, 0, none⟩) i
  | .nil, _, _, _, _ => trivial
  | .node _ _ k kids r, _, i, h, hc => by
    obtain ⟨A', m', c', ys, rfl, h1, h2⟩ := h
    have h1 := h1 u hu
    refine ⟨g, 0, A', c', rfl, ⟨h1.lo, h1.hi⟩, by rw [Nat.zero_add]; exact hc 0 _ rfl, by rw [Nat.zero_add, ← h1.n_eq]; exact hc 1 _ rfl, by rw [← h1.n_eq]; exact h1.n_le, h1.c_le, h1.lies, ?_⟩
    exact FlatL.lies hu r ys (i + 1) h2 fun j u hu => by
      have := hc (j + 2) u (by simpa using hu)
      rwa [show i * 2 + (j + 2) = (i + 1) * 2 + j by omega] at this
end Ty
theorem info_Ty : (Tryz.prog.info? 25).map (fun i => (i.zero, i.size, i.bytes)) = some (some (.agg #[.int .i8 0, .slice none 0 0]), 2, 32) := by kernel_rfl

/-- append of a row to a row of the call's own, as a step of a drawn region -/
theorem step_append_own_at {P : Program} (w : World) {ops : Array Oper} {o : Oper} {a : Act} {K : Act → World → Prop} {Q : Exit → Act → World → Prop} {E : Prop} (hgd : o.guard = none) (s x : Operand) (t : TypeId)
    (ho : o.op = .call { callee := .builtin .append, args := #[s, x], argTypes := #[t, t] })
    (base : Nat) (e : TypeId) (i : TypeInfo) (z : Value) (size bytes : Nat) (ht : P.underlying t = some (.slice e)) (hi : P.info? e = some i) (hz : i.zero = some z)
    (hsize : i.size = size) (hby : i.bytes = bytes) (hzs : z.cells.size = size) (hsz : 0 < size)
    (v : Value) (n : Nat) (xs : List Value) (hs : a.eval s = v) (hown : w.ownsRow base e size v n xs)
    (ad : Addr) (m c : Nat) (news : List Value) (hx : a.eval x = .slice (some ad) m c) (hl : news.length = m * size) (hnews : ∀ j u, news[j]? = some u → w.cell? (ad.add j) = some u) (h1 : ∀ u ∈ news, u.oneCell' = true)
    (h63 : n + m ≤ maxLen) (hbytes : (n + m) * bytes ≤ 140737488355328) (hbase : base ≤ w.heap.size)
    (h : ∀ v' w', w'.ownsRow base e size v' (n + m) (xs ++ news) → w.grownBy w' v.ownBlock → (v'.ownBlock = v.ownBlock ∨ v'.ownBlock = some w.heap.size) → K (a.put o.dst v') w') :
    if Region.wanted o (yielded ops a.tmps) = true then Oper.wp P o a w K Q else E := by
  have hw : Region.wanted o (yielded ops a.tmps) = true := by simp [Region.wanted, hgd]
  rw [if_pos hw]
  obtain ⟨v', w', hr, h2, h3, h4, h5⟩ := run_append_own_at (P := P) w base t o.type e i z size bytes ht hi hz hsize hby hzs hsz v n xs hown ad m c news hl hnews h1 h63 hbytes hbase
  unfold Oper.wp execOp
  simp only [ho, resolve, invoke, builtin, Sem.run_bind, Sem.run_pure, Result.andThen_ok, List.map_toArray, List.map_cons, List.map_nil, hs, hx, hr]
  exact h v' w' h2 h3 h5

theorem own_slice {w : World} {base : Nat} {e : TypeId} {size : Nat} {v : Value} {n : Nat} {xs : List Value} (h : w.ownsRow base e size v n xs) : ∃ A m c, v = .slice A m c := by
  rcases h.2 with ⟨h, _⟩ | ⟨g, cap, cur, h, _⟩ <;> exact ⟨_, _, _, h⟩
/-- what a copy is: it lies in new blocks -/
def CopyL (w : World) (k : Int) (kids : Fo) (e : Ending) (w' : World) : Prop :=
  ∃ G m c, e = .returned (.agg #[.int .i8 k, .slice G m c]) ∧ Lone (fun b => w.heap.size ≤ b) w' k kids G m c ∧ Below w.heap.size w w'
/-- a round's state: n0 blocks lay before the loop, the copy's own box is O -/
structure CRel (w wr : World) (n0 O : Nat) (A : Option Addr) (k : Int) (kids : Fo) (v : Value) (n i : Nat) (done rest : Fo) (xs : List Value) : Prop where
  eq : Ty.cat done rest = kids
  len : Ty.len done = i
  i_eq : i + Ty.len rest = n
  lies : Ty.Lies w rest A i
  below : Below w.heap.size w wr
  size : n0 ≤ wr.heap.size
  own : wr.ownsRow n0 25 2 v i xs
  flat : Ty.FlatL (fun b => n0 ≤ b ∧ v.ownBlock ≠ some b) wr done xs
  box : wr.heap[O]? = some (.cells #[.int .i8 k, v] 25 (0, 0))
  olt : O < n0
  ole : w.heap.size ≤ O
  sub : Ty.nodes rest ≤ Ty.nodes kids
theorem CRel.step {w wr W u w3 : World} {n0 O : Nat} {A : Option Addr} {k : Int} {kids : Fo} {v v' : Value} {n i a b : Nat} {done r kd : Fo} {kk : Int} {xs : List Value} {G : Option Addr} {m c : Nat} {o2 : Obj}
    (h : CRel w wr n0 O A k kids v n i done (.node a b kk kd r) xs) (hW : Below wr.heap.size wr W) (hb : Below W.heap.size W u) (hI : Lone (fun b => W.heap.size ≤ b) u kk kd G m c)
    (hown : w3.ownsRow n0 25 2 v' (i + 1) (xs ++ [.int .i8 kk, .slice G m c])) (hg : (u.alloc o2).grownBy w3 v.ownBlock) (hat : v'.ownBlock = v.ownBlock ∨ v'.ownBlock = some (u.alloc o2).heap.size) (hl : Ty.Lies w r A (i + 1)) :
    CRel w (w3.setCell ⟨O, 1, none⟩ v') n0 O A k kids v' n (i + 1) (Ty.cat done (.node a b kk kd .nil)) r (xs ++ [.int .i8 kk, .slice G m c]) := by
  obtain ⟨h1, h2, h3, h4, h5, hsz, h6, h7, hbox, h9, h10, h8⟩ := h
  simp only [Ty.len, Ty.nodes] at h3 h8
  have hlt := h6.lt
  have hs2 := hb.size
  have hs3 : u.heap.size < (u.alloc o2).heap.size := by simp
  have hwW := hW.size
  have hwu : Below wr.heap.size wr (u.alloc o2) := (hW.trans (hb.mono hwW)).alloc (by omega) o2
  have hg2 := hg.size
  have hO : O ≠ v'.ownBlock.getD O + 0 ∨ True := .inr trivial
  have hvO : some O ≠ v.ownBlock := fun e => by have := (hlt O e.symm).1; omega
  have hb3 : w3.heap[O]? = some (.cells #[.int .i8 k, v] 25 (0, 0)) := by
    rw [hg.block O (by omega) hvO, hwu.block O (heap_lt hbox)]; exact hbox
  have hcell : ∀ b' o' x, b' ≠ O → w3.cell? ⟨b', o', none⟩ = some x → (w3.setCell ⟨O, 1, none⟩ v').cell? ⟨b', o', none⟩ = some x := fun b' o' x hne hx => by
    rw [World.cell?_setCell_other _ _ _ _ (fun e => hne (by injection e with e; exact e.symm))]; exact hx
  have hown2 : (w3.setCell ⟨O, 1, none⟩ v').ownsRow n0 25 2 v' (i + 1) (xs ++ [.int .i8 kk, .slice G m c]) := by
    refine hown.kept (row := some O) ⟨rfl, rfl, rfl, by simp [World.setCell], fun q hq hne => Below.heap_setCell _ _ _ q (fun e => hne (by rw [e]))⟩ ?_
    cases hv : v'.ownBlock with
    | none => exact .inl rfl
    | some g => exact .inr (fun e => by injection e with e; have := (hown.lt g hv).1; omega)
  refine ⟨by rw [Ty.cat_snoc]; exact h1, by rw [Ty.len_cat]; omega, by omega, hl, ?_, by simp [World.setCell]; omega, hown2, ?_, ?_, h9, h10, by omega⟩
  · exact ((h5.trans (hwu.mono h5.size)).grown hg (Nat.le_trans h5.size hwu.size) fun q hq => by have := (hlt q hq).1; omega).setCell h10 _
  · refine Ty.FlatL.snoc (hI.to fun b' o' x hP hx => ?_) done xs (Ty.FlatL.to (fun b' o' x hP hx => ?_) done xs h7)
    · have hP' : W.heap.size ≤ b' := hP
      have hbl := Ty.cell_lt hx
      have hne : some b' ≠ v.ownBlock := fun e => by have := (hlt b' e.symm).2; omega
      refine ⟨⟨by omega, fun e => ?_⟩, hcell _ _ _ (by omega) ?_⟩
      · rcases hat with q | q
        · exact hne (by rw [← q, e])
        · rw [q] at e; injection e with e; omega
      · rw [World.cell?_of_block (hg.block b' (by omega) hne), ((Below.refl u.heap.size u).alloc (Nat.le_refl _) o2).cell (p := ⟨b', o', none⟩) hbl]; exact hx
    · have hbl := Ty.cell_lt hx
      have hne : some b' ≠ v.ownBlock := fun e => hP.2 e.symm
      have hP1 := hP.1
      refine ⟨⟨hP1, fun e => ?_⟩, hcell _ _ _ (by omega) ?_⟩
      · rcases hat with q | q
        · exact hP.2 (by rw [← q, e])
        · rw [q] at e; injection e with e; have := hwu.size; omega
      · rw [World.cell?_of_block (hg.block b' (Nat.lt_of_lt_of_le hbl hwu.size) hne), hwu.cell (p := ⟨b', o', none⟩) hbl]; exact hx
  · simp [World.setCell, Array.getElem?_modify, hb3]
/-- the loop's end: the copy -/
theorem CRel.done {w wr : World} {n0 O : Nat} {A : Option Addr} {k : Int} {kids done : Fo} {v : Value} {n : Nat} {xs : List Value} (hk1 : -128 ≤ k) (hk2 : k ≤ 127) (h : CRel w wr n0 O A k kids v n n done .nil xs) (hn : n = Ty.len kids) :
    ∃ G c, v = .slice G n c ∧ Lone (fun b => n0 ≤ b) wr k kids G n c := by
  obtain ⟨h1, h2, h3, h4, h5, hsz, h6, h7, hbox, h9, h10, h8⟩ := h
  rw [Ty.cat_nil] at h1
  subst h1
  have hc := fun g hg => h6.cells (g := g) hg
  have hlt := h6.lt
  rcases h6.2 with ⟨hv, h0⟩ | ⟨g, cap, cur, rfl, hb, hg, h1, h2', _⟩
  · have hd : done = .nil := by
      cases done with
      | nil => rfl
      | node _ _ _ _ _ => simp only [Ty.len] at h2; omega
    subst hd
    obtain rfl : n = 0 := by omega
    exact ⟨none, 0, hv, fun u _ => ⟨trivial, rfl, Nat.le_refl _, Nat.zero_le _, hk1, hk2⟩⟩
  · refine ⟨_, cap, rfl, fun u hu => ⟨?_, hn, h1, h2', hk1, hk2⟩⟩
    refine Ty.FlatL.lies (P := fun b => n0 ≤ b ∧ Value.ownBlock (.slice (some ⟨g, 0, none⟩) n cap) ≠ some b) (w := wr) (fun b o x hP hx => hu b o x hP.1 hx) done xs 0 h7 fun j x hx => ?_
    have := hc g rfl j x hx
    rw [show (⟨g, 0, none⟩ : Addr).add j = ⟨g, j, none⟩ by unfold Addr.add; by_cases h : j = 0 <;> simp [h]] at this
    rw [Nat.zero_mul, Nat.zero_add]
    exact hu g j x hb this

end Go.Proofs.YteefhebdfeaojaaGreatDoor
namespace Go.Proofs.YteefhebdfeaojaaGreatDoor
open Go.RowKit

namespace Ty
/-- a list of types, the elements of the row in block g from the i-th place on: what each holds lies in blocks from lo to below hi, each element's apart from the other ones', g in none -/
def SepF (w : World) (g : Nat) : Fo → Nat → Nat → Nat → Prop
  | .nil, _, lo, hi => lo ≤ hi
  | .node _ _ k kids r, i, lo, hi => ∃ A c lo' hi', lo ≤ lo' ∧ lo' ≤ hi' ∧ (g < lo' ∨ hi' ≤ g) ∧ (-128 ≤ k ∧ k ≤ 127) ∧ len kids ≤ c ∧ c ≤ maxLen ∧
      w.cell? ⟨g, i * 2, none⟩ = some (.int .i8 k) ∧ w.cell? ⟨g, i * 2 + 1, none⟩ = some (.slice A (len kids) c) ∧
      (kids = .nil ∨ ∃ g', A = some ⟨g', 0, none⟩ ∧ lo' ≤ g' ∧ g' < hi' ∧ (∀ o, w.frozen? ⟨g', o, none⟩ = false) ∧ SepF w g' kids 0 lo' hi') ∧ SepF w g r (i + 1) hi' hi
/-- a type's kids in memory of their own -/
def SepK (w : World) (kids : Fo) (A : Option Addr) (lo hi : Nat) : Prop :=
  kids = .nil ∨ ∃ g', A = some ⟨g', 0, none⟩ ∧ lo ≤ g' ∧ g' < hi ∧ (∀ o, w.frozen? ⟨g', o, none⟩ = false) ∧ SepF w g' kids 0 lo hi
theorem SepF.le {w : World} {g : Nat} : ∀ (f : Fo) (i lo hi : Nat), SepF w g f i lo hi → lo ≤ hi
  | .nil, _, _, _, h => h
  | .node _ _ _ _ r, i, lo, hi, h => by
    obtain ⟨A, c, lo', hi', h1, h2, _, _, _, _, _, _, _, h3⟩ := h
    have := SepF.le r _ _ _ h3
    omega
theorem SepF.mono {w : World} {g : Nat} : ∀ (f : Fo) (i lo hi lo2 hi2 : Nat), lo2 ≤ lo → hi ≤ hi2 → SepF w g f i lo hi → SepF w g f i lo2 hi2
  | .nil, _, lo, hi, lo2, hi2, h1, h2, h => by have h' : lo ≤ hi := h; show lo2 ≤ hi2; omega
  | .node _ _ _ _ r, i, lo, hi, lo2, hi2, h1, h2, h => by
    obtain ⟨A, c, lo', hi', a1, a2, a3, a4, a5, a6, a7, a8, a9, a10⟩ := h
    exact ⟨A, c, lo', hi', by omega, a2, a3, a4, a5, a6, a7, a8, a9, SepF.mono r _ _ _ _ _ (Nat.le_refl _) h2 a10⟩
theorem SepK.mono {w : World} {kids : Fo} {A : Option Addr} {lo hi lo2 hi2 : Nat} (h1 : lo2 ≤ lo) (h2 : hi ≤ hi2) (h : SepK w kids A lo hi) : SepK w kids A lo2 hi2 := by
  rcases h with h | ⟨g', a1, a2, a3, a4, a5⟩
  · exact .inl h
  · exact .inr ⟨g', a1, by omega, by omega, a4, SepF.mono _ _ _ _ _ _ h1 h2 a5⟩
theorem SepF.keep {w w' : World} : ∀ (f : Fo) (g i lo hi : Nat), (∀ o v, i * 2 ≤ o → w.cell? ⟨g, o, none⟩ = some v → w'.cell? ⟨g, o, none⟩ = some v) → (∀ b, lo ≤ b → b < hi → b ≠ g → w'.heap[b]? = w.heap[b]?) → SepF w g f i lo hi → SepF w' g f i lo hi
  | .nil, _, _, _, _, _, _, h => h
  | .node _ _ _ kids r, g, i, lo, hi, hg, hb, h => by
    obtain ⟨A, c, lo', hi', a1, a2, a3, a4, a5, a6, a7, a8, a9, a10⟩ := h
    have hle := SepF.le r _ _ _ a10
    refine ⟨A, c, lo', hi', a1, a2, a3, a4, a5, a6, hg _ _ (Nat.le_refl _) a7, hg _ _ (by omega) a8, ?_, SepF.keep r g (i + 1) hi' hi (fun o v ho => hg o v (by omega)) (fun b h1 h2 => hb b (by omega) h2) a10⟩
    rcases a9 with e | ⟨g', b1, b2, b3, b4, b5⟩
    · exact .inl e
    · have hbk := fun b (h1 : lo' ≤ b) (h2 : b < hi') => hb b (by omega) (by omega) (by rcases a3 with a3 | a3 <;> omega)
      refine .inr ⟨g', b1, b2, b3, fun o => by rw [World.frozen?_of_block (hbk g' b2 b3)]; exact b4 o, SepF.keep kids g' 0 lo' hi' (fun o v _ hc => by rw [World.cell?_of_block (hbk g' b2 b3)]; exact hc) (fun b h1 h2 _ => hbk b h1 h2) b5⟩
theorem SepK.keep {w w' : World} {kids : Fo} {A : Option Addr} {lo hi : Nat} (hb : ∀ b, lo ≤ b → b < hi → w'.heap[b]? = w.heap[b]?) (h : SepK w kids A lo hi) : SepK w' kids A lo hi := by
  rcases h with h | ⟨g', a1, a2, a3, a4, a5⟩
  · exact .inl h
  · exact .inr ⟨g', a1, a2, a3, fun o => by rw [World.frozen?_of_block (hb g' a2 a3)]; exact a4 o, SepF.keep kids g' 0 lo hi (fun o v _ hc => by rw [World.cell?_of_block (hb g' a2 a3)]; exact hc) (fun b h1 h2 _ => hb b h1 h2) a5⟩
theorem SepF.lies {w u : World} : ∀ (f : Fo) (g i lo hi : Nat), (∀ o v, w.cell? ⟨g, o, none⟩ = some v → u.cell? ⟨g, o, none⟩ = some v) → (∀ b o v, lo ≤ b → b < hi → w.cell? ⟨b, o, none⟩ = some v → u.cell? ⟨b, o, none⟩ = some v) → SepF w g f i lo hi → Lies u f (some ⟨g, 0, none⟩) i
  | .nil, _, _, _, _, _, _, _ => trivial
  | .node _ _ _ kids r, g, i, lo, hi, hg, hb, h => by
    obtain ⟨A, c, lo', hi', a1, a2, a3, a4, a5, a6, a7, a8, a9, a10⟩ := h
    have hle := SepF.le r _ _ _ a10
    refine ⟨g, 0, A, c, rfl, a4, by rw [Nat.zero_add]; exact hg _ _ a7, by rw [Nat.zero_add]; exact hg _ _ a8, a5, a6, ?_, SepF.lies r g (i + 1) hi' hi hg (fun b o v h1 h2 => hb b o v (by omega) h2) a10⟩
    rcases a9 with rfl | ⟨g', rfl, b2, b3, b4, b5⟩
    · trivial
    · have hbk := fun b o v (h1 : lo' ≤ b) (h2 : b < hi') => hb b o v (by omega) (by omega)
      exact SepF.lies kids g' 0 lo' hi' (fun o v hc => hbk g' o v b2 b3 hc) hbk b5
theorem SepK.lone {w : World} {k : Int} {kids : Fo} {A : Option Addr} {lo hi c : Nat} (h : SepK w kids A lo hi) (hk : -128 ≤ k ∧ k ≤ 127) (h1 : len kids ≤ c) (h2 : c ≤ maxLen) : Lone (fun b => lo ≤ b ∧ b < hi) w k kids A (len kids) c := by
  intro u hu
  refine ⟨?_, rfl, h1, h2, hk.1, hk.2⟩
  rcases h with rfl | ⟨g', rfl, a2, a3, a4, a5⟩
  · trivial
  · exact SepF.lies kids g' 0 lo hi (fun o v hc => hu g' o v ⟨a2, a3⟩ hc) (fun b o v h1 h2 hc => hu b o v ⟨h1, h2⟩ hc) a5
/-- a row that grows: its elements, what they hold -/
def FlatS (w : World) (vb : Option Nat) : Fo → List Value → Nat → Nat → Prop
  | .nil, xs, lo, hi => xs = [] ∧ lo ≤ hi
  | .node _ _ k kids r, xs, lo, hi => ∃ A c lo' hi' ys, xs = .int .i8 k :: .slice A (len kids) c :: ys ∧ lo ≤ lo' ∧ lo' ≤ hi' ∧ (∀ g, vb = some g → g < lo' ∨ hi' ≤ g) ∧ (-128 ≤ k ∧ k ≤ 127) ∧ len kids ≤ c ∧ c ≤ maxLen ∧ SepK w kids A lo' hi' ∧ FlatS w vb r ys hi' hi
theorem FlatS.le {w : World} {vb : Option Nat} : ∀ (f : Fo) (xs : List Value) (lo hi : Nat), FlatS w vb f xs lo hi → lo ≤ hi
  | .nil, _, _, _, h => h.2
  | .node _ _ _ _ r, _, lo, hi, h => by
    obtain ⟨A, c, lo', hi', ys, rfl, h1, h2, _, _, _, _, _, h3⟩ := h
    have := FlatS.le r _ _ _ h3
    omega
theorem FlatS.snoc {w : World} {vb : Option Nat} {a b : Nat} {k : Int} {kids : Fo} {A : Option Addr} {c lo' hi' : Nat} (h1 : lo' ≤ hi') (h2 : ∀ g, vb = some g → g < lo' ∨ hi' ≤ g) (hk : -128 ≤ k ∧ k ≤ 127) (h3 : len kids ≤ c) (h4 : c ≤ maxLen) (h5 : SepK w kids A lo' hi') :
    ∀ (f : Fo) (xs : List Value) (lo hi : Nat), hi ≤ lo' → FlatS w vb f xs lo hi → FlatS w vb (cat f (.node a b k kids .nil)) (xs ++ [.int .i8 k, .slice A (len kids) c]) lo hi'
  | .nil, xs, lo, hi, hh, h => by
    obtain ⟨rfl, hl⟩ := h
    exact ⟨A, c, lo', hi', [], rfl, by omega, h1, h2, hk, h3, h4, h5, rfl, Nat.le_refl _⟩
  | .node _ _ _ _ r, xs, lo, hi, hh, h => by
    obtain ⟨A', c', lo2, hi2, ys, rfl, a1, a2, a3, a4, a5, a6, a7, a8⟩ := h
    exact ⟨A', c', lo2, hi2, _, rfl, a1, a2, a3, a4, a5, a6, a7, FlatS.snoc h1 h2 hk h3 h4 h5 r ys hi2 hi hh a8⟩
theorem FlatS.to {w w' : World} {vb vb' : Option Nat} : ∀ (f : Fo) (xs : List Value) (lo hi : Nat), (∀ b, lo ≤ b → b < hi → vb ≠ some b → w'.heap[b]? = w.heap[b]?) → (∀ g, vb' = some g → vb = some g ∨ hi ≤ g) → FlatS w vb f xs lo hi → FlatS w' vb' f xs lo hi
  | .nil, _, _, _, _, _, h => h
  | .node _ _ _ kids r, xs, lo, hi, hb, hv, h => by
    obtain ⟨A', c', lo2, hi2, ys, rfl, a1, a2, a3, a4, a5, a6, a7, a8⟩ := h
    have hle := FlatS.le r _ _ _ a8
    refine ⟨A', c', lo2, hi2, ys, rfl, a1, a2, fun g hg => ?_, a4, a5, a6, a7.keep fun b h1 h2 => hb b (by omega) (by omega) (fun e => by rcases a3 b e with h | h <;> omega), FlatS.to r ys hi2 hi (fun b h1 h2 => hb b (by omega) h2) hv a8⟩
    rcases hv g hg with h | h
    · exact a3 g h
    · right; omega
theorem FlatS.up {w : World} {vb : Option Nat} : ∀ (f : Fo) (xs : List Value) (lo hi hi2 : Nat), hi ≤ hi2 → FlatS w vb f xs lo hi → FlatS w vb f xs lo hi2
  | .nil, _, _, _, _, hh, h => ⟨h.1, Nat.le_trans h.2 hh⟩
  | .node _ _ _ _ r, _, lo, hi, hi2, hh, h => by
    obtain ⟨A, c, lo', hi', ys, e, h1, h2, h3, h4, h5, h6, h7, h8⟩ := h
    exact ⟨A, c, lo', hi', ys, e, h1, h2, h3, h4, h5, h6, h7, FlatS.up r ys hi' hi hi2 hh h8⟩
theorem FlatS.sep {w : World} {g : Nat} : ∀ (f : Fo) (xs : List Value) (i lo hi : Nat), FlatS w (some g) f xs lo hi → (∀ j x, xs[j]? = some x → w.cell? ⟨g, i * 2 + j, none⟩ = some x) → SepF w g f i lo hi
  | .nil, _, _, _, _, h, _ => h.2
  | .node _ _ k kids r, _, i, lo, hi, h, hc => by
    obtain ⟨A', c', lo2, hi2, ys, rfl, a1, a2, a3, a4, a5, a6, a7, a8⟩ := h
    refine ⟨A', c', lo2, hi2, a1, a2, a3 g rfl, a4, a5, a6, hc 0 _ rfl, hc 1 _ rfl, a7, FlatS.sep r ys (i + 1) hi2 hi a8 fun j x hx => ?_⟩
    have := hc (j + 2) x (by simpa using hx)
    rwa [show i * 2 + (j + 2) = (i + 1) * 2 + j by omega] at this
end Ty
/-- what a copy is: it lies in new blocks, each part apart -/
def CopyS (w : World) (k : Int) (kids : Fo) (e : Ending) (w' : World) : Prop :=
  ∃ G c, e = .returned (.agg #[.int .i8 k, .slice G (Ty.len kids) c]) ∧ Ty.len kids ≤ c ∧ c ≤ maxLen ∧ Ty.SepK w' kids G w.heap.size w'.heap.size ∧ Below w.heap.size w w'
/-- a round's state: n0 blocks lay before the loop, the copy's own box is O -/
structure SRel (w wr : World) (n0 O : Nat) (A : Option Addr) (k : Int) (kids : Fo) (v : Value) (n i : Nat) (done rest : Fo) (xs : List Value) : Prop where
  eq : Ty.cat done rest = kids
  len : Ty.len done = i
  i_eq : i + Ty.len rest = n
  lies : Ty.Lies w rest A i
  below : Below w.heap.size w wr
  size : n0 ≤ wr.heap.size
  own : wr.ownsRow n0 25 2 v i xs
  flat : Ty.FlatS wr v.ownBlock done xs n0 wr.heap.size
  box : wr.heap[O]? = some (.cells #[.int .i8 k, v] 25 (0, 0))
  olt : O < n0
  ole : w.heap.size ≤ O
  sub : Ty.nodes rest ≤ Ty.nodes kids
theorem SRel.step {w wr W u w3 : World} {n0 O : Nat} {A : Option Addr} {k : Int} {kids : Fo} {v v' : Value} {n i a b : Nat} {done r kd : Fo} {kk : Int} {xs : List Value} {G : Option Addr} {c : Nat} {o2 : Obj}
    (h : SRel w wr n0 O A k kids v n i done (.node a b kk kd r) xs) (hW : Below wr.heap.size wr W) (hb : Below W.heap.size W u) (hkk : -128 ≤ kk ∧ kk ≤ 127) (hc1 : Ty.len kd ≤ c) (hc2 : c ≤ maxLen) (hI : Ty.SepK u kd G W.heap.size u.heap.size)
    (hown : w3.ownsRow n0 25 2 v' (i + 1) (xs ++ [.int .i8 kk, .slice G (Ty.len kd) c])) (hg : (u.alloc o2).grownBy w3 v.ownBlock) (hat : v'.ownBlock = v.ownBlock ∨ v'.ownBlock = some (u.alloc o2).heap.size) (hl : Ty.Lies w r A (i + 1)) :
    SRel w (w3.setCell ⟨O, 1, none⟩ v') n0 O A k kids v' n (i + 1) (Ty.cat done (.node a b kk kd .nil)) r (xs ++ [.int .i8 kk, .slice G (Ty.len kd) c]) := by
  obtain ⟨h1, h2, h3, h4, h5, hsz, h6, h7, hbox, h9, h10, h8⟩ := h
  simp only [Ty.len, Ty.nodes] at h3 h8
  have hlt := h6.lt
  have hs2 := hb.size
  have hs3 : u.heap.size + 1 = (u.alloc o2).heap.size := by simp
  have hwW := hW.size
  have hwu : Below wr.heap.size wr (u.alloc o2) := (hW.trans (hb.mono hwW)).alloc (by omega) o2
  have hg2 := hg.size
  have hvO : some O ≠ v.ownBlock := fun e => by have := (hlt O e.symm).1; omega
  have hb3 : w3.heap[O]? = some (.cells #[.int .i8 k, v] 25 (0, 0)) := by
    rw [hg.block O (by omega) hvO, hwu.block O (heap_lt hbox)]; exact hbox
  have hss : (w3.setCell ⟨O, 1, none⟩ v').heap.size = w3.heap.size := by simp [World.setCell]
  have hcell : ∀ b', b' ≠ O → (w3.setCell ⟨O, 1, none⟩ v').heap[b']? = w3.heap[b']? := fun b' hne => Below.heap_setCell _ _ _ b' hne
  have hown2 : (w3.setCell ⟨O, 1, none⟩ v').ownsRow n0 25 2 v' (i + 1) (xs ++ [.int .i8 kk, .slice G (Ty.len kd) c]) := by
    refine hown.kept (row := some O) ⟨rfl, rfl, rfl, by simp [World.setCell], fun q hq hne => Below.heap_setCell _ _ _ q (fun e => hne (by rw [e]))⟩ ?_
    cases hv : v'.ownBlock with
    | none => exact .inl rfl
    | some g => exact .inr (fun e => by injection e with e; have := (hown.lt g hv).1; omega)
  refine ⟨by rw [Ty.cat_snoc]; exact h1, by rw [Ty.len_cat]; omega, by omega, hl, ?_, by rw [hss]; omega, hown2, ?_, ?_, h9, h10, by omega⟩
  · exact ((h5.trans (hwu.mono h5.size)).grown hg (Nat.le_trans h5.size hwu.size) fun q hq => by have := (hlt q hq).1; omega).setCell h10 _
  · have hnew : Ty.FlatS (w3.setCell ⟨O, 1, none⟩ v') v'.ownBlock done xs n0 wr.heap.size := by
      refine Ty.FlatS.to done xs n0 wr.heap.size (fun b' q1 q2 q3 => ?_) (fun g e => ?_) h7
      · rw [hcell b' (by omega), hg.block b' (by omega) (fun e => q3 e.symm), hwu.block b' q2]
      · rcases hat with q | q
        · exact .inl (by rw [← q]; exact e)
        · rw [q] at e; injection e with e; exact .inr (by omega)
    have hsep : Ty.SepK (w3.setCell ⟨O, 1, none⟩ v') kd G W.heap.size u.heap.size := by
      refine hI.keep fun b' q1 q2 => ?_
      rw [hcell b' (by omega), hg.block b' (by omega) (fun e => by have := (hlt b' e.symm).2; omega), Below.heap_alloc _ _ _ q2]
    have := Ty.FlatS.snoc (a := a) (b := b) hs2 (fun g e => ?_) hkk hc1 hc2 hsep done xs n0 wr.heap.size hwW hnew
    · rw [hss]
      exact Ty.FlatS.up _ _ _ _ _ (by omega) this
    · rcases hat with q | q
      · rw [q] at e; have := (hlt g e).2; left; omega
      · rw [q] at e; injection e with e; right; omega
  · simp [World.setCell, Array.getElem?_modify, hb3]
/-- the loop's end: the copy -/
theorem SRel.done {w wr : World} {n0 O : Nat} {A : Option Addr} {k : Int} {kids done : Fo} {v : Value} {n : Nat} {xs : List Value} (h : SRel w wr n0 O A k kids v n n done .nil xs) (hn : n = Ty.len kids) :
    ∃ G c, v = .slice G n c ∧ n ≤ c ∧ c ≤ maxLen ∧ Ty.SepK wr kids G n0 wr.heap.size := by
  obtain ⟨h1, h2, h3, h4, h5, hsz, h6, h7, hbox, h9, h10, h8⟩ := h
  rw [Ty.cat_nil] at h1
  subst h1
  have hc := fun g hg => h6.cells (g := g) hg
  rcases h6.2 with ⟨hv, h0⟩ | ⟨g, cap, cur, rfl, hb, hg, h1, h2', _⟩
  · have hd : done = .nil := by
      cases done with
      | nil => rfl
      | node _ _ _ _ _ => simp only [Ty.len] at h2; omega
    subst hd
    obtain rfl : n = 0 := by omega
    exact ⟨none, 0, hv, Nat.le_refl _, Nat.zero_le _, .inl rfl⟩
  · refine ⟨_, cap, rfl, h1, h2', .inr ⟨g, rfl, hb, heap_lt hg, fun o => by simp [World.frozen?, hg], ?_⟩⟩
    refine Ty.FlatS.sep done xs 0 n0 wr.heap.size h7 fun j x hx => ?_
    have := hc g rfl j x hx
    rw [show (⟨g, 0, none⟩ : Addr).add j = ⟨g, j, none⟩ by unfold Addr.add; by_cases h : j = 0 <;> simp [h]] at this
    rw [Nat.zero_mul, Nat.zero_add]
    exact this
end Go.Proofs.YteefhebdfeaojaaGreatDoor
