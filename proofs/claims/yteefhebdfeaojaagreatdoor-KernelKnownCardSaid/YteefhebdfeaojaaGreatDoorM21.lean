/-
  A world with some blocks struck out: where a type, a term lies. terms.each over types; terms.copied. terms.each over terms. terms.bare. terms.Bare, terms.Same. Terms that are less and more precise; slices.EqualFunc over them. Layer 9: what the rules tell of a term that is less precise is less precise. Layer 9: the rules tell of a term that is less precise a type that is less precise.
-/
import Derived.Test.YteefhebdfeaojaaGreatDoorM5
import Derived.Maps.AppendAt
import Derived.Test.YteefhebdfeaojaaGreatDoorM7
import Derived.Deep.RegionLaw
import Derived.Deep.RegionHeld3
import Derived.Deep.DrawnRows
import Derived.Test.YteefhebdfeaojaaGreatDoorM18
import Derived.Test.YteefhebdfeaojaaGreatDoorM11
import Derived.Test.YteefhebdfeaojaaGreatDoorM14
import Derived.Test.YteefhebdfeaojaaGreatDoorM16
namespace Go.Proofs.YteefhebdfeaojaaGreatDoor
open Go.RowKit

/-- the world with those blocks alone of which P holds -/
def mask (P : Nat → Bool) (w : World) : World := { w with heap := w.heap.mapIdx fun i o => if P i then o else .cells #[] 0 (0, 0) }
theorem mask_of {P : Nat → Bool} {w : World} {b o : Nat} {v : Value} (hP : P b = true) (h : w.cell? ⟨b, o, none⟩ = some v) : (mask P w).cell? ⟨b, o, none⟩ = some v := by
  unfold mask
  simp only [World.cell?, Array.getElem?_mapIdx] at h ⊢
  cases hb : w.heap[b]? with
  | none => simp [hb] at h
  | some x => rw [hb] at h; simpa [hP] using h
theorem mask_at {P : Nat → Bool} {w : World} {b o : Nat} {v : Value} (h : (mask P w).cell? ⟨b, o, none⟩ = some v) : P b = true ∧ w.cell? ⟨b, o, none⟩ = some v := by
  unfold mask at h
  simp only [World.cell?, Array.getElem?_mapIdx] at h ⊢
  cases hb : w.heap[b]? with
  | none => simp [hb] at h
  | some x =>
    rw [hb] at h
    cases hp : P b
    · simp [hp] at h
    · exact ⟨rfl, by simpa [hp] using h⟩
/-- what keeps the blocks that are looked into -/
theorem kept_mask {P P' : Nat → Bool} {w w' : World} (hk : ∀ b o v, P b = true → w.cell? ⟨b, o, none⟩ = some v → P' b = true ∧ w'.cell? ⟨b, o, none⟩ = some v) : Tm.Kept (mask P w) (mask P' w') := fun b _ o v h => by
  obtain ⟨h1, h2⟩ := mask_at h
  obtain ⟨h3, h4⟩ := hk b o v h1 h2
  exact mask_of h3 h4
namespace Ty
def app : Fo → Fo → Fo
  | .nil, g => g
  | .node a b k kids r, g => .node a b k kids (app r g)
theorem app_snoc : ∀ (f : Fo) (a b : Nat) (k : Int) (kids r : Fo), app (app f (.node a b k kids .nil)) r = app f (.node a b k kids r)
  | .nil, _, _, _, _, _ => rfl
  | .node _ _ _ _ q, a, b, k, kids, r => by simp only [app]; rw [app_snoc q]
theorem len_snoc : ∀ (f : Fo) (a b : Nat) (k : Int) (kids : Fo), len (app f (.node a b k kids .nil)) = len f + 1
  | .nil, _, _, _, _ => rfl
  | .node _ _ _ _ q, a, b, k, kids => by simp only [app, len]; rw [len_snoc q]
/-- the cells of a list of types, each of which lies in the world -/
def Flat (w : World) : Fo → List Value → Prop
  | .nil, xs => xs = []
  | .node _ _ k kids r, xs => ∃ A m c ys, xs = .int .i8 k :: .slice A m c :: ys ∧ Is w k kids A m c ∧ Flat w r ys
theorem Flat.snoc {w : World} {a b : Nat} {k : Int} {kids : Fo} {A : Option Addr} {m c : Nat} (hI : Is w k kids A m c) : ∀ (f : Fo) (xs : List Value), Flat w f xs → Flat w (app f (.node a b k kids .nil)) (xs ++ [.int .i8 k, .slice A m c])
  | .nil, xs, h => by cases h; exact ⟨A, m, c, [], rfl, hI, rfl⟩
  | .node _ _ _ _ q, xs, h => by
    obtain ⟨A', m', c', ys, rfl, h1, h2⟩ := h
    exact ⟨A', m', c', _, rfl, h1, Flat.snoc hI q ys h2⟩
theorem Flat.kept {w w' : World} (hk : Tm.Kept w w') : ∀ (f : Fo) (xs : List Value), Flat w f xs → Flat w' f xs
  | .nil, _, h => h
  | .node _ _ _ _ q, _, h => by
    obtain ⟨A', m', c', ys, rfl, h1, h2⟩ := h
    exact ⟨A', m', c', ys, rfl, h1.kept hk, Flat.kept hk q ys h2⟩
theorem Flat.lies {w : World} {g : Nat} : ∀ (f : Fo) (xs : List Value) (i : Nat), Flat w f xs → (∀ j u, xs[j]? = some u → w.cell? ⟨g, i * 2 + j, none⟩ = some u) → Lies w f (some ⟨g, 0, none⟩) i
  | .nil, _, _, _, _ => trivial
  | .node _ _ k kids r, _, i, h, hc => by
    obtain ⟨A', m', c', ys, rfl, h1, h2⟩ := h
    refine ⟨g, 0, A', c', rfl, ⟨h1.lo, h1.hi⟩, by rw [Nat.zero_add]; exact hc 0 _ rfl, by rw [Nat.zero_add, ← h1.n_eq]; exact hc 1 _ rfl, by rw [← h1.n_eq]; exact h1.n_le, h1.c_le, h1.lies, ?_⟩
    exact Flat.lies r ys (i + 1) h2 fun j u hu => by
      have := hc (j + 2) u (by simpa using hu)
      rwa [show i * 2 + (j + 2) = (i + 1) * 2 + j by omega] at this
end Ty
end Go.Proofs.YteefhebdfeaojaaGreatDoor
namespace Go.Proofs.YteefhebdfeaojaaGreatDoor
open Go.RowKit

/-- a round's state -/
structure EachRel (w wr : World) (A : Option Addr) (kids : Fo) (v : Value) (n i : Nat) (done rest : Fo) (xs : List Value) : Prop where
  eq : Ty.app done rest = kids
  len : Ty.len done = i
  i_eq : i + Ty.len rest = n
  lies : Ty.Lies w rest A i
  below : Below w.heap.size w wr
  own : wr.ownsRow w.heap.size 25 2 v i xs
  flat : Ty.Flat (mask (fun b => decide (w.heap.size ≤ b) && decide (v.ownBlock ≠ some b)) wr) done xs
  sub : Ty.nodes rest ≤ Ty.nodes kids

theorem EachRel.step {w wr u w3 : World} {A : Option Addr} {kids : Fo} {v v' : Value} {n i a b : Nat} {done r kd : Fo} {k : Int} {xs : List Value} {G : Option Addr} {m c : Nat} {o1 o2 : Obj}
    (h : EachRel w wr A kids v n i done (.node a b k kd r) xs) (hb : Below (wr.alloc o1).heap.size (wr.alloc o1) u) (hI : Ty.Is (mask (fun b => decide ((wr.alloc o1).heap.size ≤ b)) u) k kd G m c)
    (hown : w3.ownsRow w.heap.size 25 2 v' (i + 1) (xs ++ [.int .i8 k, .slice G m c])) (hg : (u.alloc o2).grownBy w3 v.ownBlock) (hat : v'.ownBlock = v.ownBlock ∨ v'.ownBlock = some (u.alloc o2).heap.size) (hl : Ty.Lies w r A (i + 1)) :
    EachRel w w3 A kids v' n (i + 1) (Ty.app done (.node a b k kd .nil)) r (xs ++ [.int .i8 k, .slice G m c]) := by
  obtain ⟨h1, h2, h3, h4, h5, h6, h7, h8⟩ := h
  simp only [Ty.len, Ty.nodes] at h3 h8
  have hlt := h6.lt
  have hs1 : wr.heap.size < (wr.alloc o1).heap.size := by simp
  have hs2 := hb.size
  have hs3 : u.heap.size < (u.alloc o2).heap.size := by simp
  have hwu : Below wr.heap.size wr (u.alloc o2) := (((Below.refl _ _).alloc (Nat.le_refl _) o1).trans (hb.mono (by omega))).alloc (by omega) o2
  refine ⟨by rw [Ty.app_snoc]; exact h1, by rw [Ty.len_snoc]; omega, by omega, hl, ?_, hown, ?_, by omega⟩
  · exact (h5.trans (hwu.mono h5.size)).grown hg (Nat.le_trans h5.size hwu.size) fun q hq => (hlt q hq).1
  · refine Ty.Flat.snoc (hI.kept (kept_mask fun b' o' x hP hx => ?_)) done xs (h7.kept (kept_mask fun b' o' x hP hx => ?_))
    · have hP' : (wr.alloc o1).heap.size ≤ b' := by simpa using hP
      have hbl := Ty.cell_lt hx
      have hne : some b' ≠ v.ownBlock := fun e => by have := (hlt b' e.symm).2; omega
      refine ⟨?_, ?_⟩
      · simp only [Bool.and_eq_true, decide_eq_true_eq]
        refine ⟨by have := h5.size; omega, fun e => ?_⟩
        rcases hat with q | q
        · exact hne (by rw [← q, e])
        · rw [q] at e; injection e with e; omega
      · rw [World.cell?_of_block (hg.block b' (by omega) hne), ((Below.refl u.heap.size u).alloc (Nat.le_refl _) o2).cell (p := ⟨b', o', none⟩) hbl]; exact hx
    · simp only [Bool.and_eq_true, decide_eq_true_eq] at hP
      have hbl := Ty.cell_lt hx
      have hne : some b' ≠ v.ownBlock := fun e => hP.2 e.symm
      refine ⟨?_, ?_⟩
      · simp only [Bool.and_eq_true, decide_eq_true_eq]
        refine ⟨hP.1, fun e => ?_⟩
        rcases hat with q | q
        · exact hP.2 (by rw [← q, e])
        · rw [q] at e; injection e with e; have := hwu.size; omega
      · rw [World.cell?_of_block (hg.block b' (Nat.lt_of_lt_of_le hbl hwu.size) hne), hwu.cell (p := ⟨b', o', none⟩) hbl]; exact hx

attribute [local go_sem ↓] Go.wp_at_zero Go.wp_at_succ
end Go.Proofs.YteefhebdfeaojaaGreatDoor
namespace Go.Proofs.YteefhebdfeaojaaGreatDoor
open Go.RowKit

namespace Tm
/-- what counts of a list of terms -/
def bF : Tm → Tm
  | .nil => .nil
  | .node h kids r => .node (cnt h) (bF kids) (bF r)
def app : Tm → Tm → Tm
  | .nil, g => g
  | .node h kids r, g => .node h kids (app r g)
theorem app_snoc : ∀ (f : Tm) (h : Hd) (kids r : Tm), app (app f (.node h kids .nil)) r = app f (.node h kids r)
  | .nil, _, _, _ => rfl
  | .node _ _ q, h, kids, r => by simp only [app]; rw [app_snoc q]
theorem len_snoc : ∀ (f : Tm) (h : Hd) (kids : Tm), len (app f (.node h kids .nil)) = len f + 1
  | .nil, _, _ => rfl
  | .node _ _ q, h, kids => by simp only [app, len]; rw [len_snoc q]
/-- the cells of a list of terms, each of which lies in the world -/
def Flat (w : World) : Tm → List Value → Prop
  | .nil, xs => xs = []
  | .node h kids r, xs => ∃ p ys, xs = h.cells p ++ ys ∧ Is w h kids p ∧ Flat w r ys
theorem Flat.snoc {w : World} {h : Hd} {kids : Tm} {p : Pl} (hI : Is w h kids p) : ∀ (f : Tm) (xs : List Value), Flat w f xs → Flat w (app f (.node h kids .nil)) (xs ++ h.cells p)
  | .nil, xs, e => by cases e; exact ⟨p, [], by simp, hI, rfl⟩
  | .node _ _ q, xs, e => by
    obtain ⟨p', ys, rfl, h1, h2⟩ := e
    exact ⟨p', ys ++ h.cells p, by rw [List.append_assoc], h1, Flat.snoc hI q ys h2⟩
theorem Flat.kept {w w' : World} (hk : Kept w w') : ∀ (f : Tm) (xs : List Value), Flat w f xs → Flat w' f xs
  | .nil, _, e => e
  | .node _ _ q, _, e => by
    obtain ⟨p', ys, rfl, h1, h2⟩ := e
    exact ⟨p', ys, rfl, h1.kept hk, Flat.kept hk q ys h2⟩
theorem Flat.lies {w : World} {g : Nat} : ∀ (f : Tm) (xs : List Value) (i : Nat), Flat w f xs → (∀ j u, xs[j]? = some u → w.cell? ⟨g, i * 11 + j, none⟩ = some u) → Lies w f (some ⟨g, 0, none⟩) i
  | .nil, _, _, _, _ => trivial
  | .node h kids r, _, i, e, hc => by
    obtain ⟨p, ys, rfl, h1, h2⟩ := e
    have hlen : (h.cells p).length = 11 := rfl
    refine ⟨g, 0, p, rfl, fun j v hv => ?_, h1.fit, h1.lies, ?_⟩
    · have hj : j < (h.cells p).length := by
        rcases Nat.lt_or_ge j (h.cells p).length with q | q
        · exact q
        · rw [List.getElem?_eq_none q] at hv; cases hv
      rw [Nat.zero_add]
      exact hc j v (by rw [List.getElem?_append_left hj]; exact hv)
    · exact Flat.lies r ys (i + 1) h2 fun j u hu => by
        have := hc (j + 11) u (by rw [List.getElem?_append_right (by rw [hlen]; omega), hlen, show j + 11 - 11 = j by omega]; exact hu)
        rwa [show i * 11 + (j + 11) = (i + 1) * 11 + j by omega] at this
end Tm

/-- a round's state -/
structure EachRelT (w wr : World) (A : Option Addr) (kids : Tm) (v : Value) (n i : Nat) (done rest : Tm) (xs : List Value) : Prop where
  eq : Tm.app done (Tm.bF rest) = Tm.bF kids
  len : Tm.len done = i
  i_eq : i + Tm.len rest = n
  lies : Tm.Lies w rest A i
  below : Below w.heap.size w wr
  own : wr.ownsRow w.heap.size 28 11 v i xs
  flat : Tm.Flat (mask (fun b => decide (w.heap.size ≤ b) && decide (v.ownBlock ≠ some b)) wr) done xs
  sub : Tm.nodes rest ≤ Tm.nodes kids

theorem EachRelT.step {w wr u w3 : World} {A : Option Addr} {kids : Tm} {v v' : Value} {n i : Nat} {done r kd : Tm} {h : Hd} {xs : List Value} {p : Pl} {o1 o2 : Obj}
    (e : EachRelT w wr A kids v n i done (.node h kd r) xs) (hb : Below (wr.alloc o1).heap.size (wr.alloc o1) u) (hI : Tm.Is (mask (fun b => decide ((wr.alloc o1).heap.size ≤ b)) u) (Tm.cnt h) (Tm.bF kd) p)
    (hown : w3.ownsRow w.heap.size 28 11 v' (i + 1) (xs ++ (Tm.cnt h).cells p)) (hg : (u.alloc o2).grownBy w3 v.ownBlock) (hat : v'.ownBlock = v.ownBlock ∨ v'.ownBlock = some (u.alloc o2).heap.size) (hl : Tm.Lies w r A (i + 1)) :
    EachRelT w w3 A kids v' n (i + 1) (Tm.app done (.node (Tm.cnt h) (Tm.bF kd) .nil)) r (xs ++ (Tm.cnt h).cells p) := by
  obtain ⟨h1, h2, h3, h4, h5, h6, h7, h8⟩ := e
  simp only [Tm.len, Tm.nodes, Tm.bF] at h1 h3 h8
  have hlt := h6.lt
  have hs1 : wr.heap.size < (wr.alloc o1).heap.size := by simp
  have hs2 := hb.size
  have hs3 : u.heap.size < (u.alloc o2).heap.size := by simp
  have hwu : Below wr.heap.size wr (u.alloc o2) := (((Below.refl _ _).alloc (Nat.le_refl _) o1).trans (hb.mono (by omega))).alloc (by omega) o2
  refine ⟨by rw [Tm.app_snoc]; exact h1, by rw [Tm.len_snoc]; omega, by omega, hl, ?_, hown, ?_, by omega⟩
  · exact (h5.trans (hwu.mono h5.size)).grown hg (Nat.le_trans h5.size hwu.size) fun q hq => (hlt q hq).1
  · refine Tm.Flat.snoc (hI.kept (kept_mask fun b' o' x hP hx => ?_)) done xs (h7.kept (kept_mask fun b' o' x hP hx => ?_))
    · have hP' : (wr.alloc o1).heap.size ≤ b' := by simpa using hP
      have hbl := Ty.cell_lt hx
      have hne : some b' ≠ v.ownBlock := fun e => by have := (hlt b' e.symm).2; omega
      refine ⟨?_, ?_⟩
      · simp only [Bool.and_eq_true, decide_eq_true_eq]
        refine ⟨by have := h5.size; omega, fun e => ?_⟩
        rcases hat with q | q
        · exact hne (by rw [← q, e])
        · rw [q] at e; injection e with e; omega
      · rw [World.cell?_of_block (hg.block b' (by omega) hne), ((Below.refl u.heap.size u).alloc (Nat.le_refl _) o2).cell (p := ⟨b', o', none⟩) hbl]; exact hx
    · simp only [Bool.and_eq_true, decide_eq_true_eq] at hP
      have hbl := Ty.cell_lt hx
      have hne : some b' ≠ v.ownBlock := fun e => hP.2 e.symm
      refine ⟨?_, ?_⟩
      · simp only [Bool.and_eq_true, decide_eq_true_eq]
        refine ⟨hP.1, fun e => ?_⟩
        rcases hat with q | q
        · exact hP.2 (by rw [← q, e])
        · rw [q] at e; injection e with e; have := hwu.size; omega
      · rw [World.cell?_of_block (hg.block b' (Nat.lt_of_lt_of_le hbl hwu.size) hne), hwu.cell (p := ⟨b', o', none⟩) hbl]; exact hx

end Go.Proofs.YteefhebdfeaojaaGreatDoor
namespace Go.Proofs.YteefhebdfeaojaaGreatDoor
open Go.RowKit

/-- the copy's block, the result's block -/
structure BareRel (w wx : World) (B R : Nat) (a : Hd) (q : Pl) : Prop where
  bx : wx.heap[B]? = some (.cells #[.int .i8 a.kind, .string a.name, .string a.arg, .int .i64 a.num, .int .i8 a.tk, .slice q.TA q.tn q.tc, .int .i8 a.uk, .slice q.UA q.un q.uc, .int .i64 a.label, .int .i64 a.pos, .slice q.A q.n q.c] 28 (0, 0))
  rx : wx.heap[R]? = some (.cells #[.int .i8 0, .string ⟨#[]⟩, .string ⟨#[]⟩, .int .i64 0, .int .i8 0, .slice none 0 0, .int .i8 0, .slice none 0 0, .int .i64 0, .int .i64 0, .slice none 0 0] 28 (0, 0))
  below : Below w.heap.size w wx
  gt : w.heap.size < B
  ne : R ≠ B
/-- behind the types -/
structure BareRel2 (w wx : World) (B R : Nat) (a : Hd) (q q2 : Pl) : Prop where
  rel : BareRel w wx B R a q2
  ty : Ty.Is (mask (fun b => decide (B < b)) wx) a.tk a.tkids q2.TA q2.tn q2.tc
  tu : Ty.Is (mask (fun b => decide (B < b)) wx) a.uk a.ukids q2.UA q2.un q2.uc
  A : q2.A = q.A
  n : q2.n = q.n
  c : q2.c = q.c

theorem BareRel.types {w u v : World} {B R : Nat} {a : Hd} {q : Pl} {G1 G2 : Option Addr} {m1 c1 m2 c2 n1 n2 : Nat} (hB : v.heap[B]? = some (.cells #[.int .i8 a.kind, .string a.name, .string a.arg, .int .i64 a.num, .int .i8 a.tk, .slice q.TA q.tn q.tc, .int .i8 a.uk, .slice q.UA q.un q.uc, .int .i64 a.label, .int .i64 a.pos, .slice q.A q.n q.c] 28 (0, 0))) (hR : v.heap[R]? = some (.cells #[.int .i8 0, .string ⟨#[]⟩, .string ⟨#[]⟩, .int .i64 0, .int .i8 0, .slice none 0 0, .int .i8 0, .slice none 0 0, .int .i64 0, .int .i64 0, .slice none 0 0] 28 (0, 0))) (hb : Below w.heap.size w v) (hg : w.heap.size < B) (hne : R ≠ B)
    (h1 : Ty.Is (mask (fun b => decide (n1 ≤ b)) u) a.tk a.tkids G1 m1 c1) (hn1 : B < n1) (huv : Below u.heap.size u v) (h2 : Ty.Is (mask (fun b => decide (n2 ≤ b)) v) a.uk a.ukids G2 m2 c2) (hn2 : B < n2) :
    BareRel2 w ((((v.setCell ⟨B, 4, none⟩ (.int .i8 a.tk)).setCell ⟨B, 5, none⟩ (.slice G1 m1 c1)).setCell ⟨B, 6, none⟩ (.int .i8 a.uk)).setCell ⟨B, 7, none⟩ (.slice G2 m2 c2)) B R a q ⟨G1, m1, c1, G2, m2, c2, q.A, q.n, q.c⟩ := by
  have hoth : ∀ (b o : Nat) (x : Value), b ≠ B → v.cell? ⟨b, o, none⟩ = some x → ((((v.setCell ⟨B, 4, none⟩ (.int .i8 a.tk)).setCell ⟨B, 5, none⟩ (.slice G1 m1 c1)).setCell ⟨B, 6, none⟩ (.int .i8 a.uk)).setCell ⟨B, 7, none⟩ (.slice G2 m2 c2)).cell? ⟨b, o, none⟩ = some x := by
    intro b o x hbB hx
    rw [World.cell?_setCell_other _ _ _ _ (fun e => hbB (by injection e with e; exact e.symm)), World.cell?_setCell_other _ _ _ _ (fun e => hbB (by injection e with e; exact e.symm)), World.cell?_setCell_other _ _ _ _ (fun e => hbB (by injection e with e; exact e.symm)), World.cell?_setCell_other _ _ _ _ (fun e => hbB (by injection e with e; exact e.symm))]
    exact hx
  refine ⟨⟨?_, ?_, (((hb.setCell (p := ⟨B, 4, none⟩) (Nat.le_of_lt hg) _).setCell (p := ⟨B, 5, none⟩) (Nat.le_of_lt hg) _).setCell (p := ⟨B, 6, none⟩) (Nat.le_of_lt hg) _).setCell (p := ⟨B, 7, none⟩) (Nat.le_of_lt hg) _, hg, hne⟩, ?_, ?_, rfl, rfl, rfl⟩
  · simp [World.setCell, Array.getElem?_modify, hB]
  · rw [Below.heap_setCell _ _ _ R hne, Below.heap_setCell _ _ _ R hne, Below.heap_setCell _ _ _ R hne, Below.heap_setCell _ _ _ R hne]; exact hR
  · refine h1.kept (kept_mask fun b o x hP hx => ?_)
    have hP' : n1 ≤ b := by simpa using hP
    exact ⟨by simp; omega, hoth b o x (by omega) (by rw [huv.cell (p := ⟨b, o, none⟩) (Ty.cell_lt hx)]; exact hx)⟩
  · refine h2.kept (kept_mask fun b o x hP hx => ?_)
    have hP' : n2 ≤ b := by simpa using hP
    exact ⟨by simp; omega, hoth b o x (by omega) hx⟩

attribute [local go_sem ↓] Go.wp_at_zero Go.wp_at_succ
end Go.Proofs.YteefhebdfeaojaaGreatDoor
namespace Go.Proofs.YteefhebdfeaojaaGreatDoor
open Go.RowKit

def Tm.zero : Hd := ⟨0, ⟨#[]⟩, ⟨#[]⟩, 0, 0, .nil, 0, .nil, 0, 0⟩
def RowEl (w : World) (g : Nat) (h : Hd) (p : Pl) : Prop :=
  w.cell? ⟨g, 0, none⟩ = some (.int .i8 h.kind) ∧ w.cell? ⟨g, 1, none⟩ = some (.string h.name) ∧ w.cell? ⟨g, 2, none⟩ = some (.string h.arg) ∧ w.cell? ⟨g, 3, none⟩ = some (.int .i64 h.num) ∧ w.cell? ⟨g, 4, none⟩ = some (.int .i8 h.tk) ∧
  w.cell? ⟨g, 5, none⟩ = some (.slice p.TA p.tn p.tc) ∧ w.cell? ⟨g, 6, none⟩ = some (.int .i8 h.uk) ∧ w.cell? ⟨g, 7, none⟩ = some (.slice p.UA p.un p.uc) ∧ w.cell? ⟨g, 8, none⟩ = some (.int .i64 h.label) ∧ w.cell? ⟨g, 9, none⟩ = some (.int .i64 h.pos) ∧
  w.cell? ⟨g, 10, none⟩ = some (.slice p.A p.n p.c)
theorem RowEl.below {w w' : World} {g : Nat} {h : Hd} {p : Pl} (hr : RowEl w g h p) (hb : Below w.heap.size w w') : RowEl w' g h p := by
  have hl := Ty.cell_lt hr.1
  have hc := fun o => (bcell hb).1 g o hl
  unfold RowEl at *
  rw [hc, hc, hc, hc, hc, hc, hc, hc, hc, hc, hc]
  exact hr
end Go.Proofs.YteefhebdfeaojaaGreatDoor
namespace Go.Proofs.YteefhebdfeaojaaGreatDoor
open Go.RowKit

namespace Tm
/-- the same, as the document has it: what counts alone is looked at -/
def reH (h h' : Hd) : Bool := (h.kind == h'.kind) && ((!hasName h.kind || (h.name.toList == h'.name.toList)) && ((!hasArg h.kind || (h.arg.toList == h'.arg.toList)) && ((!hasNum h.kind || (h.num == h'.num)) &&
    ((!hasType h.kind || Ty.leT h.tk h.tkids h'.tk h'.tkids) && (!hasTo h.kind || Ty.leT h.uk h.ukids h'.uk h'.ukids)))))
theorem headOk_tys {h : Hd} {n : Nat} (ho : headOk h n = true) : tysOk h = true := by
  unfold headOk at ho
  rw [Bool.and_eq_true] at ho
  exact ho.2
end Tm

end Go.Proofs.YteefhebdfeaojaaGreatDoor
namespace Go.Proofs.YteefhebdfeaojaaGreatDoor
namespace Ty
end Ty
end Go.Proofs.YteefhebdfeaojaaGreatDoor
namespace Go.Proofs.YteefhebdfeaojaaGreatDoor
namespace Ck
def le2 (a b : T2) : Prop := chk a = 0 ∧ chk b = 0 ∧ Ty.leT a.1 a.2 b.1 b.2 = true
theorem le2.refl {a : T2} (h : chk a = 0) : le2 a a := ⟨h, h, by unfold Ty.leT; simp [Ty.leF_refl]⟩
/-- what is around is less precise -/
def eLe : Env → Env → Prop
  | [], [] => True
  | b' :: l', b :: l => (b'.1.toList = b.1.toList ∧ le2 b'.2 b.2) ∧ eLe l' l
  | _, _ => False
theorem eLe.snoc : ∀ {l' l : Env} {x' x : ByteArray} {a' a : T2}, eLe l' l → x'.toList = x.toList → le2 a' a → eLe (l' ++ [(x', a')]) (l ++ [(x, a)])
  | [], [], _, _, _, _, _, h1, h2 => ⟨⟨h1, h2⟩, trivial⟩
  | _ :: _, _ :: _, _, _, _, _, h, h1, h2 => ⟨h.1, eLe.snoc h.2 h1 h2⟩
  | [], _ :: _, _, _, _, _, h, _, _ => h.elim
  | _ :: _, [], _, _, _, _, h, _, _ => h.elim
/-- a term's own types -/
theorem tt_chk {h : Hd} {n : Nat} (ho : Tm.headOk h n = true) (hk : Tm.hasType h.kind = true) : chk (TT h) = 0 := by
  have := Tm.headOk_tys ho
  unfold Tm.tysOk at this
  rw [hk] at this
  simp only [Bool.not_true, Bool.false_or, Bool.and_eq_true, beq_iff_eq] at this
  exact this.1
theorem uu_chk {h : Hd} {n : Nat} (ho : Tm.headOk h n = true) (hk : Tm.hasTo h.kind = true) : chk (UU h) = 0 := by
  have := Tm.headOk_tys ho
  unfold Tm.tysOk at this
  rw [hk] at this
  simp only [Bool.not_true, Bool.false_or, Bool.and_eq_true, beq_iff_eq] at this
  exact this.2
structure HdLe (h' h : Hd) : Prop where
  kind : h'.kind = h.kind
  name : Tm.hasName h.kind = true → h'.name.toList = h.name.toList
  arg : Tm.hasArg h.kind = true → h'.arg.toList = h.arg.toList
  tt : Tm.hasType h.kind = true → le2 (TT h') (TT h)
  uu : Tm.hasTo h.kind = true → le2 (UU h') (UU h)
theorem HdLe.of {h' h : Hd} {n m : Nat} (e : Tm.reH h' h = true) (h1 : Tm.headOk h' n = true) (h2 : Tm.headOk h m = true) : HdLe h' h := by
  unfold Tm.reH at e
  simp only [Bool.and_eq_true, beq_iff_eq] at e
  obtain ⟨ek, en, ea, -, et, eu⟩ := e
  rw [ek] at en ea et eu
  refine ⟨ek, fun q => ?_, fun q => ?_, fun q => ?_, fun q => ?_⟩
  · rw [q] at en; simpa using en
  · rw [q] at ea; simpa using ea
  · rw [q] at et
    exact ⟨tt_chk h1 (by rw [ek]; exact q), tt_chk h2 q, by rw [Bool.not_true, Bool.false_or] at et; exact et⟩
  · rw [q] at eu
    exact ⟨uu_chk h1 (by rw [ek]; exact q), uu_chk h2 q, by rw [Bool.not_true, Bool.false_or] at eu; exact eu⟩
end Ck
end Go.Proofs.YteefhebdfeaojaaGreatDoor
