/-
  slices.EqualFunc over terms; terms.alike, Same. A world with some blocks struck out: where a type, a term lies. terms.each over types; terms.copied. terms.each over terms. terms.alike. terms.bare. The law's kind and Whole, where both are the same. terms.Bare, terms.Same.
-/
import Derived.Test.YtocehfklacjgbaaGreatDoorM9
import Derived.Deep.RegionLaw
import Derived.Deep.DeepCutAuto
import Derived.Test.YtocehfklacjgbaaGreatDoorM4
import Derived.Maps.AppendAt
import Derived.Test.YtocehfklacjgbaaGreatDoorM7
import Derived.Deep.RegionHeld3
import Derived.Deep.DrawnRows
import Derived.StillTailTactics
namespace Go.Proofs.YtocehfklacjgbaaGreatDoor
open Go.RowKit

namespace Tm
/-- are two heads the same? -/
def eqH (a b : Hd) : Bool := (a.kind == b.kind) && ((a.name.toList == b.name.toList) && ((a.arg.toList == b.arg.toList) && ((a.num == b.num) && ((a.label == b.label) && (Ty.sameT a.tk a.tkids b.tk b.tkids && Ty.sameT a.uk a.ukids b.uk b.ukids)))))
def alF : Tm → Tm → Bool
  | .nil, .nil => true
  | .nil, .node _ _ _ => false
  | .node _ _ _, .nil => false
  | .node h kids r, .node h' kids' r' => (eqH (cnt h) (cnt h') && alF kids kids') && alF r r'
def alT (h : Hd) (kids : Tm) (h' : Hd) (kids' : Tm) : Bool := eqH (cnt h) (cnt h') && alF kids kids'
def sameT (h : Hd) (kids : Tm) (h' : Hd) (kids' : Tm) : Bool := (((chk h kids : Nat) : Int) == 0) && ((((chk h' kids' : Nat) : Int) == 0) && alT h kids h' kids')
theorem alF_len : ∀ f g : Tm, alF f g = true → len f = len g
  | .nil, .nil, _ => rfl
  | .nil, .node _ _ _, h => by simp [alF] at h
  | .node _ _ _, .nil, h => by simp [alF] at h
  | .node h kids r, .node h' kids' r', hh => by
    simp only [alF, Bool.and_eq_true] at hh
    simp only [len]; rw [alF_len r r' hh.2]
end Tm

set_option maxHeartbeats 4000000 in
set_option maxRecDepth 100000 in
theorem tm_equal_any (f : FuncId) (kids kids2 : Tm) (A A2 : Option Addr) (n c n2 c2 : Nat) (w : World) (hL : Tm.Lies w kids A 0) (hn : n = Tm.len kids) (hnc : n ≤ c) (hc : c ≤ maxLen)
    (hL2 : Tm.Lies w kids2 A2 0) (hn2 : n2 = Tm.len kids2) (hnc2 : n2 ≤ c2) (hc2 : c2 ≤ maxLen)
    (hcf : ∀ (args : Array Value) (W : World), (callFunc f args).run Tryz.prog W = .ok (.enter f args) W)
    (hf : ∀ (h : Hd) (kd : Tm) (p : Pl) (h' : Hd) (kd' : Tm) (p' : Pl) (W : World), Tm.nodes kd < Tm.nodes kids → Tm.Is W h kd p → Tm.Is W h' kd' p' → Below w.heap.size w W →
      Calls Tryz.prog f #[.agg #[.int .i8 h.kind, .string h.name, .string h.arg, .int .i64 h.num, .int .i8 h.tk, .slice p.TA p.tn p.tc, .int .i8 h.uk, .slice p.UA p.un p.uc, .int .i64 h.label, .int .i64 h.pos, .slice p.A p.n p.c], .agg #[.int .i8 h'.kind, .string h'.name, .string h'.arg, .int .i64 h'.num, .int .i8 h'.tk, .slice p'.TA p'.tn p'.tc, .int .i8 h'.uk, .slice p'.UA p'.un p'.uc, .int .i64 h'.label, .int .i64 h'.pos, .slice p'.A p'.n p'.c]] W fun e w' => e = .returned (.bool (Tm.alT h kd h' kd')) ∧ Below W.heap.size W w') :
    Calls Tryz.prog 52 #[.slice A n c, .slice A2 n2 c2, .func (Fn.func f) #[] #[]] w fun e w' => e = .returned (.bool (Tm.alF kids kids2)) ∧ Below w.heap.size w w' := by
  have i5 : (n : Int) ≤ 9223372036854775807 := by unfold maxLen at hc; omega
  have i6 : (n2 : Int) ≤ 9223372036854775807 := by unfold maxLen at hc2; omega
  by_cases hnn : n = n2
  · have hst := OverT.start hL hn
    have hst2 := OverT.start hL2 hn2
    have HF := Lib.hid hf
    have HS := Lib.hid hst
    have HS2 := Lib.hid hst2
    clear hst hst2 hn hn2 hf hL hL2
    subst hnn
    obtain ⟨R, hR⟩ : ∃ R, Tm.alF kids kids2 = R := ⟨_, rfl⟩
    rw [hR]
    have HR := Lib.hid hR
    clear hR
    go_enter Tryz.func52, Tryz.ntmps52
    go_wp2_with fail
    go_loopw [17] (fun v wr => ∃ (i : Nat) (rest rest2 : Tm), v = .int .i64 i ∧ OverT w wr A n (Tm.nodes kids) i rest ∧ OverT w wr A2 n (Tm.nodes kids2) i rest2 ∧ Tm.alF rest rest2 = R) (fun v _ => n - (intOf v).toNat)
    case atStart => exact ⟨0, kids, kids2, rfl, HS.out, HS2.out, HR.out⟩
    case round =>
      obtain ⟨i, rest, rest2, rfl, hO, hO2, hR⟩ := hrel
      cases rest with
      | nil =>
        have hi : i = n := by have := hO.i_eq; simpa [Tm.len] using this
        have hB := hO.below
        cases rest2 with
        | node _ _ _ => have := hO2.i_eq; simp only [Tm.len] at this; omega
        | nil =>
        clear hO hO2
        simp only [Tm.alF] at hR
        subst hi
        subst hR
        go_wp2_with fail
        go_ret
        exact ⟨rfl, hB⟩
      | node h kd r =>
        cases rest2 with
        | nil => have h1 := hO2.i_eq; have h2 := hO.i_eq; simp only [Tm.len] at h1 h2; omega
        | node h' kd' r2 =>
        have hst := fun w2 hb => OverT.step (w2 := w2) hO hb
        have hst2 := fun w2 hb => OverT.step (w2 := w2) hO2 hb
        have h1 := hO.i_eq
        have h2 := hO.lies
        have h22 := hO2.lies
        have h3 := hO.sub
        have h4 := hO.below
        simp only [Tm.len, Tm.nodes, Tm.alF] at h1 h3 hR
        obtain ⟨bb, oo, p, rfl, hcs, hfit, hl3, hl4⟩ := h2
        obtain ⟨bb2, oo2, p', rfl, hcs2, hfit2, hl32, hl42⟩ := h22
        have hB2 : Below wr.heap.size wr ((wr.alloc (.cells #[.int .i8 h.kind, .string h.name, .string h.arg, .int .i64 h.num, .int .i8 h.tk, .slice p.TA p.tn p.tc, .int .i8 h.uk, .slice p.UA p.un p.uc, .int .i64 h.label, .int .i64 h.pos, .slice p.A p.n p.c] 30)).alloc (.cells #[.int .i8 h'.kind, .string h'.name, .string h'.arg, .int .i64 h'.num, .int .i8 h'.tk, .slice p'.TA p'.tn p'.tc, .int .i8 h'.uk, .slice p'.UA p'.un p'.uc, .int .i64 h'.label, .int .i64 h'.pos, .slice p'.A p'.n p'.c] 30)) := ((Below.refl _ _).alloc (Nat.le_refl _) _).alloc (by simp) _
        have hcall := HF.out h kd p h' kd' p' _ (by omega) (Tm.Is.below ⟨hfit, hl3⟩ hB2) (Tm.Is.below ⟨hfit2, hl32⟩ hB2) (h4.trans (hB2.mono h4.size))
        obtain ⟨c0, c1, c2, c3, c4, c5, c6, c7, c8, c9, c10⟩ := Tm.row hcs
        obtain ⟨d0, d1, d2, d3, d4, d5, d6, d7, d8, d9, d10⟩ := Tm.row hcs2
        have l1 := Ty.cell_lt c0
        have l2 := Ty.cell_lt d0
        have HST := Lib.hid hst
        have HST2 := Lib.hid hst2
        have HL := Lib.hid hl4
        have HL2 := Lib.hid hl42
        have HRR := Lib.hid hR
        have hal : Tm.alT h kd h' kd' = (Tm.eqH (Tm.cnt h) (Tm.cnt h') && Tm.alF kd kd') := rfl
        rw [← hal] at HRR
        have j1 : (i : Int) < n := by omega
        clear hst hst2 hl3 hl4 hl32 hl42 hO hO2 hR hcs hcs2 hfit hfit2 hal
        cases hp : Tm.alT h kd h' kd'
        · have hp0 : R = false := by rw [← HRR.out, hp]; rfl
          rw [hp] at hcall
          have HC := Lib.hid hcall
          clear hp hcall
          subst hp0
          go_wp2_with fail
          refine HC.out.mono ?_
          rintro e w2 ⟨rfl, hb⟩
          go_wp2_with fail
          go_ret
          exact ⟨rfl, h4.trans ((hB2.trans (hb.mono hB2.size)).mono h4.size)⟩
        · have hp0 := HRR.out
          rw [hp, Bool.true_and] at hp0
          have HP := Lib.hid hp0
          rw [hp] at hcall
          have HC := Lib.hid hcall
          clear hp hp0 hcall
          go_wp2_with fail
          refine HC.out.mono ?_
          rintro e w2 ⟨rfl, hb⟩
          have hbw := hB2.trans (hb.mono hB2.size)
          have hbb := Lib.hid (HST.out w2 hbw HL.out)
          have hbb2 := Lib.hid (HST2.out w2 hbw HL2.out)
          clear hb hbw
          go_wp2_with fail
          go_roundw
          case rel => exact ⟨i + 1, r, r2, by go_num, hbb.out, hbb2.out, HP.out⟩
          case measure => simp [intOf]; omega
  · have hne : ((n : Int) != (n2 : Int)) = true := by simp; omega
    have hres : Tm.alF kids kids2 = false := by
      cases hq : Tm.alF kids kids2
      · rfl
      · have := Tm.alF_len _ _ hq; omega
    rw [hres]
    clear hf hL hL2 hres hnn hn hn2
    go_enter Tryz.func52, Tryz.ntmps52
    go_wp2_with fail
    go_ret
    exact ⟨rfl, Below.refl _ _⟩
end Go.Proofs.YtocehfklacjgbaaGreatDoor
namespace Go.Proofs.YtocehfklacjgbaaGreatDoor
open Go.RowKit

/-- the world with those blocks alone of which P holds -/
def mask (P : Nat → Bool) (w : World) : World := { w with heap := w.heap.mapIdx fun i o => if P i then o else .cells #[] 0 (0, 0) }
theorem mask_of {P : Nat → Bool} {w : World} {b o : Nat} {v : Value} (hP : P b = true) (h : w.cell? ⟨b, o, none⟩ = some v) : (mask P w).cell? ⟨b, o, none⟩ = some v := by
  unfold mask
  simp only [World.cell?, Array.getElem?_mapIdx] at h ⊢
  cases hb : w.heap[b]? with
  | none => simp [hb] at h
  | some x => rw [hb] at h; simpa [hP] using h
theorem mask_at {P : Nat → Bool} {w : World} {b o : Nat} {v : Value} (h : (mask P w).cell? ⟨b, o, none⟩ = some v) : P b = true ∧ w.cell? ⟨b, o, none⟩ = some v := by
  unfold mask at h
  simp only [World.cell?, Array.getElem?_mapIdx] at h ⊢
  cases hb : w.heap[b]? with
  | none => simp [hb] at h
  | some x =>
    rw [hb] at h
    cases hp : P b
    · simp [hp] at h
    · exact ⟨rfl, by simpa [hp] using h⟩
/-- what keeps the blocks that are looked into -/
theorem kept_mask {P P' : Nat → Bool} {w w' : World} (hk : ∀ b o v, P b = true → w.cell? ⟨b, o, none⟩ = some v → P' b = true ∧ w'.cell? ⟨b, o, none⟩ = some v) : Tm.Kept (mask P w) (mask P' w') := fun b _ o v h => by
  obtain ⟨h1, h2⟩ := mask_at h
  obtain ⟨h3, h4⟩ := hk b o v h1 h2
  exact mask_of h3 h4
namespace Ty
def app : Fo → Fo → Fo
  | .nil, g => g
  | .node a b k kids r, g => .node a b k kids (app r g)
theorem app_snoc : ∀ (f : Fo) (a b : Nat) (k : Int) (kids r : Fo), app (app f (.node a b k kids .nil)) r = app f (.node a b k kids r)
  | .nil, _, _, _, _, _ => rfl
  | .node _ _ _ _ q, a, b, k, kids, r => by simp only [app]; rw [app_snoc q]
theorem len_snoc : ∀ (f : Fo) (a b : Nat) (k : Int) (kids : Fo), len (app f (.node a b k kids .nil)) = len f + 1
  | .nil, _, _, _, _ => rfl
  | .node _ _ _ _ q, a, b, k, kids => by simp only [app, len]; rw [len_snoc q]
/-- the cells of a list of types, each of which lies in the world -/
def Flat (w : World) : Fo → List Value → Prop
  | .nil, xs => xs = []
  | .node _ _ k kids r, xs => ∃ A m c ys, xs = .int .i8 k :: .slice A m c :: ys ∧ Is w k kids A m c ∧ Flat w r ys
theorem Flat.snoc {w : World} {a b : Nat} {k : Int} {kids : Fo} {A : Option Addr} {m c : Nat} (hI : Is w k kids A m c) : ∀ (f : Fo) (xs : List Value), Flat w f xs → Flat w (app f (.node a b k kids .nil)) (xs ++ [.int .i8 k, .slice A m c])
  | .nil, xs, h => by cases h; exact ⟨A, m, c, [], rfl, hI, rfl⟩
  | .node _ _ _ _ q, xs, h => by
    obtain ⟨A', m', c', ys, rfl, h1, h2⟩ := h
    exact ⟨A', m', c', _, rfl, h1, Flat.snoc hI q ys h2⟩
theorem Flat.kept {w w' : World} (hk : Tm.Kept w w') : ∀ (f : Fo) (xs : List Value), Flat w f xs → Flat w' f xs
  | .nil, _, h => h
  | .node _ _ _ _ q, _, h => by
    obtain ⟨A', m', c', ys, rfl, h1, h2⟩ := h
    exact ⟨A', m', c', ys, rfl, h1.kept hk, Flat.kept hk q ys h2⟩
theorem Flat.lies {w : World} {g : Nat} : ∀ (f : Fo) (xs : List Value) (i : Nat), Flat w f xs → (∀ j u, xs[j]? = some u → w.cell? ⟨g, i * 2 + j, none⟩ = some u) → Lies w f (some ⟨g, 0, none⟩) i
  | .nil, _, _, _, _ => trivial
  | .node _ _ k kids r, _, i, h, hc => by
    obtain ⟨A', m', c', ys, rfl, h1, h2⟩ := h
    refine ⟨g, 0, A', c', rfl, ⟨h1.lo, h1.hi⟩, by rw [Nat.zero_add]; exact hc 0 _ rfl, by rw [Nat.zero_add, ← h1.n_eq]; exact hc 1 _ rfl, by rw [← h1.n_eq]; exact h1.n_le, h1.c_le, h1.lies, ?_⟩
    exact Flat.lies r ys (i + 1) h2 fun j u hu => by
      have := hc (j + 2) u (by simpa using hu)
      rwa [show i * 2 + (j + 2) = (i + 1) * 2 + j by omega] at this
end Ty
end Go.Proofs.YtocehfklacjgbaaGreatDoor
namespace Go.Proofs.YtocehfklacjgbaaGreatDoor
open Go.RowKit

/-- a round's state -/
structure EachRel (w wr : World) (A : Option Addr) (kids : Fo) (v : Value) (n i : Nat) (done rest : Fo) (xs : List Value) : Prop where
  eq : Ty.app done rest = kids
  len : Ty.len done = i
  i_eq : i + Ty.len rest = n
  lies : Ty.Lies w rest A i
  below : Below w.heap.size w wr
  own : wr.ownsRow w.heap.size 27 2 v i xs
  flat : Ty.Flat (mask (fun b => decide (w.heap.size ≤ b) && decide (v.ownBlock ≠ some b)) wr) done xs
  sub : Ty.nodes rest ≤ Ty.nodes kids

theorem EachRel.step {w wr u w3 : World} {A : Option Addr} {kids : Fo} {v v' : Value} {n i a b : Nat} {done r kd : Fo} {k : Int} {xs : List Value} {G : Option Addr} {m c : Nat} {o1 o2 : Obj}
    (h : EachRel w wr A kids v n i done (.node a b k kd r) xs) (hb : Below (wr.alloc o1).heap.size (wr.alloc o1) u) (hI : Ty.Is (mask (fun b => decide ((wr.alloc o1).heap.size ≤ b)) u) k kd G m c)
    (hown : w3.ownsRow w.heap.size 27 2 v' (i + 1) (xs ++ [.int .i8 k, .slice G m c])) (hg : (u.alloc o2).grownBy w3 v.ownBlock) (hat : v'.ownBlock = v.ownBlock ∨ v'.ownBlock = some (u.alloc o2).heap.size) (hl : Ty.Lies w r A (i + 1)) :
    EachRel w w3 A kids v' n (i + 1) (Ty.app done (.node a b k kd .nil)) r (xs ++ [.int .i8 k, .slice G m c]) := by
  obtain ⟨h1, h2, h3, h4, h5, h6, h7, h8⟩ := h
  simp only [Ty.len, Ty.nodes] at h3 h8
  have hlt := h6.lt
  have hs1 : wr.heap.size < (wr.alloc o1).heap.size := by simp
  have hs2 := hb.size
  have hs3 : u.heap.size < (u.alloc o2).heap.size := by simp
  have hwu : Below wr.heap.size wr (u.alloc o2) := (((Below.refl _ _).alloc (Nat.le_refl _) o1).trans (hb.mono (by omega))).alloc (by omega) o2
  refine ⟨by rw [Ty.app_snoc]; exact h1, by rw [Ty.len_snoc]; omega, by omega, hl, ?_, hown, ?_, by omega⟩
  · exact (h5.trans (hwu.mono h5.size)).grown hg (Nat.le_trans h5.size hwu.size) fun q hq => (hlt q hq).1
  · refine Ty.Flat.snoc (hI.kept (kept_mask fun b' o' x hP hx => ?_)) done xs (h7.kept (kept_mask fun b' o' x hP hx => ?_))
    · have hP' : (wr.alloc o1).heap.size ≤ b' := by simpa using hP
      have hbl := Ty.cell_lt hx
      have hne : some b' ≠ v.ownBlock := fun e => by have := (hlt b' e.symm).2; omega
      refine ⟨?_, ?_⟩
      · simp only [Bool.and_eq_true, decide_eq_true_eq]
        refine ⟨by have := h5.size; omega, fun e => ?_⟩
        rcases hat with q | q
        · exact hne (by rw [← q, e])
        · rw [q] at e; injection e with e; omega
      · rw [World.cell?_of_block (hg.block b' (by omega) hne), ((Below.refl u.heap.size u).alloc (Nat.le_refl _) o2).cell (p := ⟨b', o', none⟩) hbl]; exact hx
    · simp only [Bool.and_eq_true, decide_eq_true_eq] at hP
      have hbl := Ty.cell_lt hx
      have hne : some b' ≠ v.ownBlock := fun e => hP.2 e.symm
      refine ⟨?_, ?_⟩
      · simp only [Bool.and_eq_true, decide_eq_true_eq]
        refine ⟨hP.1, fun e => ?_⟩
        rcases hat with q | q
        · exact hP.2 (by rw [← q, e])
        · rw [q] at e; injection e with e; have := hwu.size; omega
      · rw [World.cell?_of_block (hg.block b' (Nat.lt_of_lt_of_le hbl hwu.size) hne), hwu.cell (p := ⟨b', o', none⟩) hbl]; exact hx

attribute [local go_sem ↓] Go.wp_at_zero Go.wp_at_succ
end Go.Proofs.YtocehfklacjgbaaGreatDoor
namespace Go.Proofs.YtocehfklacjgbaaGreatDoor
open Go.RowKit

namespace Tm
/-- what counts of a list of terms -/
def bF : Tm → Tm
  | .nil => .nil
  | .node h kids r => .node (cnt h) (bF kids) (bF r)
def app : Tm → Tm → Tm
  | .nil, g => g
  | .node h kids r, g => .node h kids (app r g)
theorem app_snoc : ∀ (f : Tm) (h : Hd) (kids r : Tm), app (app f (.node h kids .nil)) r = app f (.node h kids r)
  | .nil, _, _, _ => rfl
  | .node _ _ q, h, kids, r => by simp only [app]; rw [app_snoc q]
theorem len_snoc : ∀ (f : Tm) (h : Hd) (kids : Tm), len (app f (.node h kids .nil)) = len f + 1
  | .nil, _, _ => rfl
  | .node _ _ q, h, kids => by simp only [app, len]; rw [len_snoc q]
/-- the cells of a list of terms, each of which lies in the world -/
def Flat (w : World) : Tm → List Value → Prop
  | .nil, xs => xs = []
  | .node h kids r, xs => ∃ p ys, xs = h.cells p ++ ys ∧ Is w h kids p ∧ Flat w r ys
theorem Flat.snoc {w : World} {h : Hd} {kids : Tm} {p : Pl} (hI : Is w h kids p) : ∀ (f : Tm) (xs : List Value), Flat w f xs → Flat w (app f (.node h kids .nil)) (xs ++ h.cells p)
  | .nil, xs, e => by cases e; exact ⟨p, [], by simp, hI, rfl⟩
  | .node _ _ q, xs, e => by
    obtain ⟨p', ys, rfl, h1, h2⟩ := e
    exact ⟨p', ys ++ h.cells p, by rw [List.append_assoc], h1, Flat.snoc hI q ys h2⟩
theorem Flat.kept {w w' : World} (hk : Kept w w') : ∀ (f : Tm) (xs : List Value), Flat w f xs → Flat w' f xs
  | .nil, _, e => e
  | .node _ _ q, _, e => by
    obtain ⟨p', ys, rfl, h1, h2⟩ := e
    exact ⟨p', ys, rfl, h1.kept hk, Flat.kept hk q ys h2⟩
theorem Flat.lies {w : World} {g : Nat} : ∀ (f : Tm) (xs : List Value) (i : Nat), Flat w f xs → (∀ j u, xs[j]? = some u → w.cell? ⟨g, i * 11 + j, none⟩ = some u) → Lies w f (some ⟨g, 0, none⟩) i
  | .nil, _, _, _, _ => trivial
  | .node h kids r, _, i, e, hc => by
    obtain ⟨p, ys, rfl, h1, h2⟩ := e
    have hlen : (h.cells p).length = 11 := rfl
    refine ⟨g, 0, p, rfl, fun j v hv => ?_, h1.fit, h1.lies, ?_⟩
    · have hj : j < (h.cells p).length := by
        rcases Nat.lt_or_ge j (h.cells p).length with q | q
        · exact q
        · rw [List.getElem?_eq_none q] at hv; cases hv
      rw [Nat.zero_add]
      exact hc j v (by rw [List.getElem?_append_left hj]; exact hv)
    · exact Flat.lies r ys (i + 1) h2 fun j u hu => by
        have := hc (j + 11) u (by rw [List.getElem?_append_right (by rw [hlen]; omega), hlen, show j + 11 - 11 = j by omega]; exact hu)
        rwa [show i * 11 + (j + 11) = (i + 1) * 11 + j by omega] at this
end Tm

/-- a round's state -/
structure EachRelT (w wr : World) (A : Option Addr) (kids : Tm) (v : Value) (n i : Nat) (done rest : Tm) (xs : List Value) : Prop where
  eq : Tm.app done (Tm.bF rest) = Tm.bF kids
  len : Tm.len done = i
  i_eq : i + Tm.len rest = n
  lies : Tm.Lies w rest A i
  below : Below w.heap.size w wr
  own : wr.ownsRow w.heap.size 30 11 v i xs
  flat : Tm.Flat (mask (fun b => decide (w.heap.size ≤ b) && decide (v.ownBlock ≠ some b)) wr) done xs
  sub : Tm.nodes rest ≤ Tm.nodes kids

theorem EachRelT.step {w wr u w3 : World} {A : Option Addr} {kids : Tm} {v v' : Value} {n i : Nat} {done r kd : Tm} {h : Hd} {xs : List Value} {p : Pl} {o1 o2 : Obj}
    (e : EachRelT w wr A kids v n i done (.node h kd r) xs) (hb : Below (wr.alloc o1).heap.size (wr.alloc o1) u) (hI : Tm.Is (mask (fun b => decide ((wr.alloc o1).heap.size ≤ b)) u) (Tm.cnt h) (Tm.bF kd) p)
    (hown : w3.ownsRow w.heap.size 30 11 v' (i + 1) (xs ++ (Tm.cnt h).cells p)) (hg : (u.alloc o2).grownBy w3 v.ownBlock) (hat : v'.ownBlock = v.ownBlock ∨ v'.ownBlock = some (u.alloc o2).heap.size) (hl : Tm.Lies w r A (i + 1)) :
    EachRelT w w3 A kids v' n (i + 1) (Tm.app done (.node (Tm.cnt h) (Tm.bF kd) .nil)) r (xs ++ (Tm.cnt h).cells p) := by
  obtain ⟨h1, h2, h3, h4, h5, h6, h7, h8⟩ := e
  simp only [Tm.len, Tm.nodes, Tm.bF] at h1 h3 h8
  have hlt := h6.lt
  have hs1 : wr.heap.size < (wr.alloc o1).heap.size := by simp
  have hs2 := hb.size
  have hs3 : u.heap.size < (u.alloc o2).heap.size := by simp
  have hwu : Below wr.heap.size wr (u.alloc o2) := (((Below.refl _ _).alloc (Nat.le_refl _) o1).trans (hb.mono (by omega))).alloc (by omega) o2
  refine ⟨by rw [Tm.app_snoc]; exact h1, by rw [Tm.len_snoc]; omega, by omega, hl, ?_, hown, ?_, by omega⟩
  · exact (h5.trans (hwu.mono h5.size)).grown hg (Nat.le_trans h5.size hwu.size) fun q hq => (hlt q hq).1
  · refine Tm.Flat.snoc (hI.kept (kept_mask fun b' o' x hP hx => ?_)) done xs (h7.kept (kept_mask fun b' o' x hP hx => ?_))
    · have hP' : (wr.alloc o1).heap.size ≤ b' := by simpa using hP
      have hbl := Ty.cell_lt hx
      have hne : some b' ≠ v.ownBlock := fun e => by have := (hlt b' e.symm).2; omega
      refine ⟨?_, ?_⟩
      · simp only [Bool.and_eq_true, decide_eq_true_eq]
        refine ⟨by have := h5.size; omega, fun e => ?_⟩
        rcases hat with q | q
        · exact hne (by rw [← q, e])
        · rw [q] at e; injection e with e; omega
      · rw [World.cell?_of_block (hg.block b' (by omega) hne), ((Below.refl u.heap.size u).alloc (Nat.le_refl _) o2).cell (p := ⟨b', o', none⟩) hbl]; exact hx
    · simp only [Bool.and_eq_true, decide_eq_true_eq] at hP
      have hbl := Ty.cell_lt hx
      have hne : some b' ≠ v.ownBlock := fun e => hP.2 e.symm
      refine ⟨?_, ?_⟩
      · simp only [Bool.and_eq_true, decide_eq_true_eq]
        refine ⟨hP.1, fun e => ?_⟩
        rcases hat with q | q
        · exact hP.2 (by rw [← q, e])
        · rw [q] at e; injection e with e; have := hwu.size; omega
      · rw [World.cell?_of_block (hg.block b' (Nat.lt_of_lt_of_le hbl hwu.size) hne), hwu.cell (p := ⟨b', o', none⟩) hbl]; exact hx

end Go.Proofs.YtocehfklacjgbaaGreatDoor
namespace Go.Proofs.YtocehfklacjgbaaGreatDoor
open Go.RowKit

theorem heap_set11 {w : World} {g : Nat} {u0 u1 u2 u3 u4 u5 u6 u7 u8 u9 u10 v0 v1 v2 v3 v4 v5 v6 v7 v8 v9 v10 : Value} {t : TypeId} (h : w.heap[g]? = some (.cells #[u0, u1, u2, u3, u4, u5, u6, u7, u8, u9, u10] t (0, 0))) :
    (((((((((((w.setCell ⟨g, 0, none⟩ v0).setCell ⟨g, 1, none⟩ v1).setCell ⟨g, 2, none⟩ v2).setCell ⟨g, 3, none⟩ v3).setCell ⟨g, 4, none⟩ v4).setCell ⟨g, 5, none⟩ v5).setCell ⟨g, 6, none⟩ v6).setCell ⟨g, 7, none⟩ v7).setCell ⟨g, 8, none⟩ v8).setCell ⟨g, 9, none⟩ v9).setCell ⟨g, 10, none⟩ v10).heap[g]? = some (.cells #[v0, v1, v2, v3, v4, v5, v6, v7, v8, v9, v10] t (0, 0)) := by
  simp [World.setCell, Array.getElem?_modify, h]
theorem heap_far11 {w : World} {g k : Nat} {x : Obj} (h : w.heap[k]? = some x) (hk : k ≠ g) (v0 v1 v2 v3 v4 v5 v6 v7 v8 v9 v10 : Value) : (((((((((((w.setCell ⟨g, 0, none⟩ v0).setCell ⟨g, 1, none⟩ v1).setCell ⟨g, 2, none⟩ v2).setCell ⟨g, 3, none⟩ v3).setCell ⟨g, 4, none⟩ v4).setCell ⟨g, 5, none⟩ v5).setCell ⟨g, 6, none⟩ v6).setCell ⟨g, 7, none⟩ v7).setCell ⟨g, 8, none⟩ v8).setCell ⟨g, 9, none⟩ v9).setCell ⟨g, 10, none⟩ v10).heap[k]? = some x := by
  rw [Below.heap_setCell _ _ _ k hk, Below.heap_setCell _ _ _ k hk, Below.heap_setCell _ _ _ k hk, Below.heap_setCell _ _ _ k hk, Below.heap_setCell _ _ _ k hk, Below.heap_setCell _ _ _ k hk, Below.heap_setCell _ _ _ k hk, Below.heap_setCell _ _ _ k hk, Below.heap_setCell _ _ _ k hk, Below.heap_setCell _ _ _ k hk, Below.heap_setCell _ _ _ k hk]; exact h
theorem below_only11 {B g : Nat} {a w : World} (hb : Below B a w) (h : B ≤ g) (v0 v1 v2 v3 v4 v5 v6 v7 v8 v9 v10 : Value) : Below B a (((((((((((w.setCell ⟨g, 0, none⟩ v0).setCell ⟨g, 1, none⟩ v1).setCell ⟨g, 2, none⟩ v2).setCell ⟨g, 3, none⟩ v3).setCell ⟨g, 4, none⟩ v4).setCell ⟨g, 5, none⟩ v5).setCell ⟨g, 6, none⟩ v6).setCell ⟨g, 7, none⟩ v7).setCell ⟨g, 8, none⟩ v8).setCell ⟨g, 9, none⟩ v9).setCell ⟨g, 10, none⟩ v10) :=
  ((((((((((hb.setCell (p := ⟨g, 0, none⟩) h _).setCell (p := ⟨g, 1, none⟩) h _).setCell (p := ⟨g, 2, none⟩) h _).setCell (p := ⟨g, 3, none⟩) h _).setCell (p := ⟨g, 4, none⟩) h _).setCell (p := ⟨g, 5, none⟩) h _).setCell (p := ⟨g, 6, none⟩) h _).setCell (p := ⟨g, 7, none⟩) h _).setCell (p := ⟨g, 8, none⟩) h _).setCell (p := ⟨g, 9, none⟩) h _).setCell (p := ⟨g, 10, none⟩) h _

/-- both boxes hold what counts -/
structure Counted2 (w wx : World) (X Y : Nat) (a : Hd) (q : Pl) (b : Hd) (r : Pl) : Prop where
  x : wx.heap[X]? = some (.cells #[.int .i8 a.kind, .string a.name, .string a.arg, .int .i64 a.num, .int .i8 a.tk, .slice q.TA q.tn q.tc, .int .i8 a.uk, .slice q.UA q.un q.uc, .int .i64 a.label, .int .i64 a.pos, .slice q.A q.n q.c] 30 (0, 0))
  y : wx.heap[Y]? = some (.cells #[.int .i8 b.kind, .string b.name, .string b.arg, .int .i64 b.num, .int .i8 b.tk, .slice r.TA r.tn r.tc, .int .i8 b.uk, .slice r.UA r.un r.uc, .int .i64 b.label, .int .i64 b.pos, .slice r.A r.n r.c] 30 (0, 0))
  below : Below w.heap.size w wx

attribute [local go_sem ↓] Go.wp_at_zero Go.wp_at_succ
set_option maxHeartbeats 8000000 in
set_option maxRecDepth 100000 in
theorem talike_any (K : Nat) : ∀ (h : Hd) (kids : Tm) (p : Pl) (h' : Hd) (kids' : Tm) (p' : Pl) (w : World), Tm.nodes kids < K → Tm.Is w h kids p → Tm.Is w h' kids' p' → TGlob w →
    Calls Tryz.prog 30 #[.agg #[.int .i8 h.kind, .string h.name, .string h.arg, .int .i64 h.num, .int .i8 h.tk, .slice p.TA p.tn p.tc, .int .i8 h.uk, .slice p.UA p.un p.uc, .int .i64 h.label, .int .i64 h.pos, .slice p.A p.n p.c], .agg #[.int .i8 h'.kind, .string h'.name, .string h'.arg, .int .i64 h'.num, .int .i8 h'.tk, .slice p'.TA p'.tn p'.tc, .int .i8 h'.uk, .slice p'.UA p'.un p'.uc, .int .i64 h'.label, .int .i64 h'.pos, .slice p'.A p'.n p'.c]] w fun e w' => e = .returned (.bool (Tm.alT h kids h' kids')) ∧ Below w.heap.size w w' := by
  induction K with
  | zero => intro _ _ _ _ _ _ _ hK; omega
  | succ K ih =>
    intro h kids p h' kids' p' w hK hIs hIs' hG
    have hB0 : Below w.heap.size w ((w.alloc (.cells #[.int .i8 h.kind, .string h.name, .string h.arg, .int .i64 h.num, .int .i8 h.tk, .slice p.TA p.tn p.tc, .int .i8 h.uk, .slice p.UA p.un p.uc, .int .i64 h.label, .int .i64 h.pos, .slice p.A p.n p.c] 30)).alloc (.cells #[.int .i8 h'.kind, .string h'.name, .string h'.arg, .int .i64 h'.num, .int .i8 h'.tk, .slice p'.TA p'.tn p'.tc, .int .i8 h'.uk, .slice p'.UA p'.un p'.uc, .int .i64 h'.label, .int .i64 h'.pos, .slice p'.A p'.n p'.c] 30)) := ((Below.refl _ _).alloc (Nat.le_refl _) _).alloc (by simp) _
    obtain ⟨r0, r1, r2⟩ := two_new w (.cells #[.int .i8 h.kind, .string h.name, .string h.arg, .int .i64 h.num, .int .i8 h.tk, .slice p.TA p.tn p.tc, .int .i8 h.uk, .slice p.UA p.un p.uc, .int .i64 h.label, .int .i64 h.pos, .slice p.A p.n p.c] 30) (.cells #[.int .i8 h'.kind, .string h'.name, .string h'.arg, .int .i64 h'.num, .int .i8 h'.tk, .slice p'.TA p'.tn p'.tc, .int .i8 h'.uk, .slice p'.UA p'.un p'.uc, .int .i64 h'.label, .int .i64 h'.pos, .slice p'.A p'.n p'.c] 30)
    have hI1 := hIs.below hB0
    have hI2 := hIs'.below hB0
    have hG1 := hG.below hB0
    have IH := Lib.hid ih
    have HI := Lib.hid (fun (W : World) (hb : Below w.heap.size w W) => (hIs.below hb).cnt)
    have HI' := Lib.hid (fun (W : World) (hb : Below w.heap.size w W) => (hIs'.below hb).cnt)
    have HG := Lib.hid (fun (W : World) (hb : Below w.heap.size w W) => hG.below hb)
    clear ih hIs hIs' hG
    obtain ⟨b0, hk0⟩ : ∃ b, ((Tm.cnt h).kind == (Tm.cnt h').kind) = b := ⟨_, rfl⟩
    obtain ⟨b1, hk1⟩ : ∃ b, ((Tm.cnt h).name.toList == (Tm.cnt h').name.toList) = b := ⟨_, rfl⟩
    obtain ⟨b2, hk2⟩ : ∃ b, ((Tm.cnt h).arg.toList == (Tm.cnt h').arg.toList) = b := ⟨_, rfl⟩
    obtain ⟨b3, hk3⟩ : ∃ b, ((Tm.cnt h).num == (Tm.cnt h').num) = b := ⟨_, rfl⟩
    obtain ⟨b4, hk4⟩ : ∃ b, ((Tm.cnt h).label == (Tm.cnt h').label) = b := ⟨_, rfl⟩
    obtain ⟨b5, hk5⟩ : ∃ b, Ty.sameT (Tm.cnt h).tk (Tm.cnt h).tkids (Tm.cnt h').tk (Tm.cnt h').tkids = b := ⟨_, rfl⟩
    obtain ⟨b6, hk6⟩ : ∃ b, Ty.sameT (Tm.cnt h).uk (Tm.cnt h).ukids (Tm.cnt h').uk (Tm.cnt h').ukids = b := ⟨_, rfl⟩
    obtain ⟨b7, hk7⟩ : ∃ b, Tm.alF kids kids' = b := ⟨_, rfl⟩
    have hR : Tm.alT h kids h' kids' = ((b0 && (b1 && (b2 && (b3 && (b4 && (b5 && b6)))))) && b7) := by
      rw [← hk0, ← hk1, ← hk2, ← hk3, ← hk4, ← hk5, ← hk6, ← hk7]; rfl
    rw [hR]
    have HK := Lib.hid (And.intro hk0 (And.intro hk1 (And.intro hk2 (And.intro hk3 (And.intro hk4 (And.intro hk5 (And.intro hk6 hk7)))))))
    clear hR hk0 hk1 hk2 hk3 hk4 hk5 hk6 hk7
    go_enter Tryz.func30, Tryz.ntmps30
    go_upto_region 2 with fail
    generalize hw1 : (w.alloc (.cells #[.int .i8 h.kind, .string h.name, .string h.arg, .int .i64 h.num, .int .i8 h.tk, .slice p.TA p.tn p.tc, .int .i8 h.uk, .slice p.UA p.un p.uc, .int .i64 h.label, .int .i64 h.pos, .slice p.A p.n p.c] 30)).alloc (.cells #[.int .i8 h'.kind, .string h'.name, .string h'.arg, .int .i64 h'.num, .int .i8 h'.tk, .slice p'.TA p'.tn p'.tc, .int .i8 h'.uk, .slice p'.UA p'.un p'.uc, .int .i64 h'.label, .int .i64 h'.pos, .slice p'.A p'.n p'.c] 30) = w1 at *
    have HB0 := Lib.hid hB0
    have hD0 : Below w1.heap.size w1 w1.drew := (Below.refl _ _).drew
    have CA := Lib.hid (fun (W : World) (hb : Below w1.heap.size w1 W) => counting_any h _ p W (hI1.below hb).fit (hG1.terms.below hb))
    have CB := Lib.hid (fun (W : World) (hb : Below w1.heap.size w1 W) => counting_any h' _ p' W (hI2.below hb).fit (hG1.terms.below hb))
    have HI1 := Lib.hid hI1
    have HI2 := Lib.hid hI2
    have HG1 := Lib.hid hG1
    have R0 := Lib.hid r0
    have R1 := Lib.hid r1
    have HSZ := Lib.hid r2
    clear hI1 hI2 hG1 hB0 hw1
    have x0 : w.heap.size < w1.heap.size := by omega
    have x1 : w.heap.size + 1 < w1.heap.size := by omega
    clear r0 r1 r2
    go_cut [5] (fun _ wx => Counted2 w wx w.heap.size (w.heap.size + 1) (Tm.cnt h) (Tm.cntP h p) (Tm.cnt h') (Tm.cntP h' p'))
    case first =>
      have Q0 := R0.out
      have Q1 := R1.out
      obtain ⟨q0, q1, q2, q3, q4, q5, q6, q7, q8, q9, q10, ql⟩ := own11 R0.out
      obtain ⟨y0, y1, y2, y3, y4, y5, y6, y7, y8, y9, y10, yl⟩ := own11 R1.out
      clear Q0 Q1
      go_region_law (first
        | (go_simp; go_at_call 50; (with_reducible refine (CA.out _ hD0).mono ?_); rintro e u1 ⟨rfl, hb⟩; have D1 := hD0.trans (hb.mono hD0.size); have z1 := Nat.lt_of_lt_of_le x1 D1.size; have P0 := Lib.hid (heap_below D1 x0 R0.out); have P1 := Lib.hid (heap_below D1 x1 R1.out); clear hb; obtain ⟨a0, a1, a2, a3, a4, a5, a6, a7, a8, a9, a10, al⟩ := own11 P1.out; go_wp2_with fail)
        | (go_simp; go_at_call 50; (with_reducible refine (CB.out _ D1).mono ?_); rintro e u2 ⟨rfl, hb⟩; have D2 := D1.trans (hb.mono D1.size); have z2 := Nat.lt_of_lt_of_le x1 D2.size; have S0 := Lib.hid (heap_below D2 x0 R0.out); have S1 := Lib.hid (heap_below D2 x1 R1.out); clear hb; obtain ⟨b0, b1, b2, b3, b4, b5, b6, b7, b8, b9, b10, bl⟩ := own11 S0.out; obtain ⟨c0, c1, c2, c3, c4, c5, c6, c7, c8, c9, c10, cl⟩ := own11 S1.out; have f0 := free11 S0.out 0; have f1 := free11 S0.out 1; have f2 := free11 S0.out 2; have f3 := free11 S0.out 3; have f4 := free11 S0.out 4; have f5 := free11 S0.out 5; have f6 := free11 S0.out 6; have f7 := free11 S0.out 7; have f8 := free11 S0.out 8; have f9 := free11 S0.out 9; have f10 := free11 S0.out 10; have g0 := free11 S1.out 0; have g1 := free11 S1.out 1; have g2 := free11 S1.out 2; have g3 := free11 S1.out 3; have g4 := free11 S1.out 4; have g5 := free11 S1.out 5; have g6 := free11 S1.out 6; have g7 := free11 S1.out 7; have g8 := free11 S1.out 8; have g9 := free11 S1.out 9; have g10 := free11 S1.out 10; go_wp2_with fail))
      all_goals
        go_wp2_with fail
        go_meet
        refine ⟨heap_far11 (heap_set11 S0.out) (by omega) _ _ _ _ _ _ _ _ _ _ _, heap_set11 (heap_far11 S1.out (by omega) _ _ _ _ _ _ _ _ _ _ _), ?_⟩
        exact below_only11 (below_only11 (HB0.out.trans (D2.mono HB0.out.size)) (Nat.le_refl _) _ _ _ _ _ _ _ _ _ _ _) (by omega) _ _ _ _ _ _ _ _ _ _ _
    case rest =>
      obtain ⟨hx, hy, hbc⟩ := hcut
      have HA := Lib.hid (HI.out _ hbc)
      have HA' := Lib.hid (HI'.out _ hbc)
      have HGc := Lib.hid (HG.out _ hbc)
      have HX := Lib.hid hx
      have HY := Lib.hid hy
      have HBC := Lib.hid hbc
      obtain ⟨hk0, hk1, hk2, hk3, hk4, hk5, hk6, hk7⟩ := HK.out
      clear hx hy hbc HK HI1 HI2 HG1 R0 R1 HSZ CA CB hD0 x0 x1 HI HI' HG HB0
      generalize Tm.cnt h = a at *
      generalize Tm.cnt h' = a' at *
      generalize Tm.cntP h p = q at *
      generalize Tm.cntP h' p' = q' at *
      have C1 := Lib.hid (fun (W : World) (hb : Below wc.heap.size wc W) => same_any a.tk a.tkids q.TA q.tn q.tc a'.tk a'.tkids q'.TA q'.tn q'.tc W (HA.out.below hb).fit.ty (HA'.out.below hb).fit.ty (HGc.out.types.below hb))
      have C2 := Lib.hid (fun (W : World) (hb : Below wc.heap.size wc W) => same_any a.uk a.ukids q.UA q.un q.uc a'.uk a'.ukids q'.UA q'.un q'.uc W (HA.out.below hb).fit.to (HA'.out.below hb).fit.to (HGc.out.types.below hb))
      have C3 := Lib.hid (fun (W : World) (hb : Below wc.heap.size wc W) => tm_equal_any 30 kids kids' q.A q'.A q.n q.c q'.n q'.c W (HA.out.below hb).lies HA.out.fit.n_eq HA.out.fit.n_le HA.out.fit.c_le (HA'.out.below hb).lies HA'.out.fit.n_eq HA'.out.fit.n_le HA'.out.fit.c_le
        (fun args W => by simp [go_sem]) (fun h1 kd p1 h2 kd' p2 W' h3 h4 h5 h6 => IH.out h1 kd p1 h2 kd' p2 W' (by omega) h4 h5 ((HGc.out.below hb).below h6)))
      rw [hk5] at C1
      rw [hk6] at C2
      rw [hk7] at C3
      clear IH HA HA' HGc hk5 hk6 hk7
      have D0 : Below wc.heap.size wc wc := Below.refl _ _
      cases b0
      · obtain ⟨q0, q1, q2, q3, q4, q5, q6, q7, q8, q9, q10, ql⟩ := own11 HX.out
        obtain ⟨y0, y1, y2, y3, y4, y5, y6, y7, y8, y9, y10, yl⟩ := own11 HY.out
        go_wp2_with fail
        go_ret
        exact ⟨rfl, HBC.out.trans (D0.mono HBC.out.size)⟩
      cases b1
      · obtain ⟨q0, q1, q2, q3, q4, q5, q6, q7, q8, q9, q10, ql⟩ := own11 HX.out
        obtain ⟨y0, y1, y2, y3, y4, y5, y6, y7, y8, y9, y10, yl⟩ := own11 HY.out
        go_wp2_with fail
        go_ret
        exact ⟨rfl, HBC.out.trans (D0.mono HBC.out.size)⟩
      cases b2
      · obtain ⟨q0, q1, q2, q3, q4, q5, q6, q7, q8, q9, q10, ql⟩ := own11 HX.out
        obtain ⟨y0, y1, y2, y3, y4, y5, y6, y7, y8, y9, y10, yl⟩ := own11 HY.out
        go_wp2_with fail
        go_ret
        exact ⟨rfl, HBC.out.trans (D0.mono HBC.out.size)⟩
      cases b3
      · obtain ⟨q0, q1, q2, q3, q4, q5, q6, q7, q8, q9, q10, ql⟩ := own11 HX.out
        obtain ⟨y0, y1, y2, y3, y4, y5, y6, y7, y8, y9, y10, yl⟩ := own11 HY.out
        go_wp2_with fail
        go_ret
        exact ⟨rfl, HBC.out.trans (D0.mono HBC.out.size)⟩
      cases b4
      · obtain ⟨q0, q1, q2, q3, q4, q5, q6, q7, q8, q9, q10, ql⟩ := own11 HX.out
        obtain ⟨y0, y1, y2, y3, y4, y5, y6, y7, y8, y9, y10, yl⟩ := own11 HY.out
        go_wp2_with fail
        go_ret
        exact ⟨rfl, HBC.out.trans (D0.mono HBC.out.size)⟩
      cases b5
      · obtain ⟨q0, q1, q2, q3, q4, q5, q6, q7, q8, q9, q10, ql⟩ := own11 HX.out
        obtain ⟨y0, y1, y2, y3, y4, y5, y6, y7, y8, y9, y10, yl⟩ := own11 HY.out
        go_wp2_with fail
        refine (C1.out _ D0).mono ?_
        rintro e u1 ⟨rfl, hb⟩
        have D1 := D0.trans (hb.mono D0.size)
        clear hb q0 q1 q2 q3 q4 q5 q6 q7 q8 q9 q10 ql y0 y1 y2 y3 y4 y5 y6 y7 y8 y9 y10 yl
        obtain ⟨q0, q1, q2, q3, q4, q5, q6, q7, q8, q9, q10, ql⟩ := own11 (heap_below D1 (heap_lt HX.out) HX.out)
        obtain ⟨y0, y1, y2, y3, y4, y5, y6, y7, y8, y9, y10, yl⟩ := own11 (heap_below D1 (heap_lt HY.out) HY.out)
        go_wp2_with fail
        go_ret
        exact ⟨rfl, HBC.out.trans (D1.mono HBC.out.size)⟩
      cases b6
      · obtain ⟨q0, q1, q2, q3, q4, q5, q6, q7, q8, q9, q10, ql⟩ := own11 HX.out
        obtain ⟨y0, y1, y2, y3, y4, y5, y6, y7, y8, y9, y10, yl⟩ := own11 HY.out
        go_wp2_with fail
        refine (C1.out _ D0).mono ?_
        rintro e u1 ⟨rfl, hb⟩
        have D1 := D0.trans (hb.mono D0.size)
        clear hb q0 q1 q2 q3 q4 q5 q6 q7 q8 q9 q10 ql y0 y1 y2 y3 y4 y5 y6 y7 y8 y9 y10 yl
        obtain ⟨q0, q1, q2, q3, q4, q5, q6, q7, q8, q9, q10, ql⟩ := own11 (heap_below D1 (heap_lt HX.out) HX.out)
        obtain ⟨y0, y1, y2, y3, y4, y5, y6, y7, y8, y9, y10, yl⟩ := own11 (heap_below D1 (heap_lt HY.out) HY.out)
        go_wp2_with fail
        refine (C2.out _ D1).mono ?_
        rintro e u2 ⟨rfl, hb⟩
        have D2 := D1.trans (hb.mono D1.size)
        clear hb q0 q1 q2 q3 q4 q5 q6 q7 q8 q9 q10 ql y0 y1 y2 y3 y4 y5 y6 y7 y8 y9 y10 yl
        obtain ⟨q0, q1, q2, q3, q4, q5, q6, q7, q8, q9, q10, ql⟩ := own11 (heap_below D2 (heap_lt HX.out) HX.out)
        obtain ⟨y0, y1, y2, y3, y4, y5, y6, y7, y8, y9, y10, yl⟩ := own11 (heap_below D2 (heap_lt HY.out) HY.out)
        go_wp2_with fail
        go_ret
        exact ⟨rfl, HBC.out.trans (D2.mono HBC.out.size)⟩
      obtain ⟨q0, q1, q2, q3, q4, q5, q6, q7, q8, q9, q10, ql⟩ := own11 HX.out
      obtain ⟨y0, y1, y2, y3, y4, y5, y6, y7, y8, y9, y10, yl⟩ := own11 HY.out
      go_wp2_with fail
      refine (C1.out _ D0).mono ?_
      rintro e u1 ⟨rfl, hb⟩
      have D1 := D0.trans (hb.mono D0.size)
      clear hb q0 q1 q2 q3 q4 q5 q6 q7 q8 q9 q10 ql y0 y1 y2 y3 y4 y5 y6 y7 y8 y9 y10 yl
      obtain ⟨q0, q1, q2, q3, q4, q5, q6, q7, q8, q9, q10, ql⟩ := own11 (heap_below D1 (heap_lt HX.out) HX.out)
      obtain ⟨y0, y1, y2, y3, y4, y5, y6, y7, y8, y9, y10, yl⟩ := own11 (heap_below D1 (heap_lt HY.out) HY.out)
      go_wp2_with fail
      refine (C2.out _ D1).mono ?_
      rintro e u2 ⟨rfl, hb⟩
      have D2 := D1.trans (hb.mono D1.size)
      clear hb q0 q1 q2 q3 q4 q5 q6 q7 q8 q9 q10 ql y0 y1 y2 y3 y4 y5 y6 y7 y8 y9 y10 yl
      obtain ⟨q0, q1, q2, q3, q4, q5, q6, q7, q8, q9, q10, ql⟩ := own11 (heap_below D2 (heap_lt HX.out) HX.out)
      obtain ⟨y0, y1, y2, y3, y4, y5, y6, y7, y8, y9, y10, yl⟩ := own11 (heap_below D2 (heap_lt HY.out) HY.out)
      go_wp2_with fail
      refine (C3.out _ D2).mono ?_
      rintro e u3 ⟨rfl, hb⟩
      have D3 := D2.trans (hb.mono D2.size)
      clear hb q0 q1 q2 q3 q4 q5 q6 q7 q8 q9 q10 ql y0 y1 y2 y3 y4 y5 y6 y7 y8 y9 y10 yl
      obtain ⟨q0, q1, q2, q3, q4, q5, q6, q7, q8, q9, q10, ql⟩ := own11 (heap_below D3 (heap_lt HX.out) HX.out)
      obtain ⟨y0, y1, y2, y3, y4, y5, y6, y7, y8, y9, y10, yl⟩ := own11 (heap_below D3 (heap_lt HY.out) HY.out)
      go_wp2_with fail
      go_ret
      exact ⟨rfl, HBC.out.trans (D3.mono HBC.out.size)⟩
end Go.Proofs.YtocehfklacjgbaaGreatDoor
namespace Go.Proofs.YtocehfklacjgbaaGreatDoor
open Go.RowKit

/-- the copy's block, the result's block -/
structure BareRel (w wx : World) (B R : Nat) (a : Hd) (q : Pl) : Prop where
  bx : wx.heap[B]? = some (.cells #[.int .i8 a.kind, .string a.name, .string a.arg, .int .i64 a.num, .int .i8 a.tk, .slice q.TA q.tn q.tc, .int .i8 a.uk, .slice q.UA q.un q.uc, .int .i64 a.label, .int .i64 a.pos, .slice q.A q.n q.c] 30 (0, 0))
  rx : wx.heap[R]? = some (.cells #[.int .i8 0, .string ⟨#[]⟩, .string ⟨#[]⟩, .int .i64 0, .int .i8 0, .slice none 0 0, .int .i8 0, .slice none 0 0, .int .i64 0, .int .i64 0, .slice none 0 0] 30 (0, 0))
  below : Below w.heap.size w wx
  gt : w.heap.size < B
  ne : R ≠ B
/-- behind the types -/
structure BareRel2 (w wx : World) (B R : Nat) (a : Hd) (q q2 : Pl) : Prop where
  rel : BareRel w wx B R a q2
  ty : Ty.Is (mask (fun b => decide (B < b)) wx) a.tk a.tkids q2.TA q2.tn q2.tc
  tu : Ty.Is (mask (fun b => decide (B < b)) wx) a.uk a.ukids q2.UA q2.un q2.uc
  A : q2.A = q.A
  n : q2.n = q.n
  c : q2.c = q.c

theorem BareRel.names {w u : World} {B R : Nat} {a : Hd} {q : Pl} (hB : u.heap[B]? = some (.cells #[.int .i8 a.kind, .string a.name, .string a.arg, .int .i64 a.num, .int .i8 a.tk, .slice q.TA q.tn q.tc, .int .i8 a.uk, .slice q.UA q.un q.uc, .int .i64 a.label, .int .i64 a.pos, .slice q.A q.n q.c] 30 (0, 0))) (hR : u.heap[R]? = some (.cells #[.int .i8 0, .string ⟨#[]⟩, .string ⟨#[]⟩, .int .i64 0, .int .i8 0, .slice none 0 0, .int .i8 0, .slice none 0 0, .int .i64 0, .int .i64 0, .slice none 0 0] 30 (0, 0))) (hb : Below w.heap.size w u) (hg : w.heap.size < B) (hne : R ≠ B) :
    BareRel w ((u.setCell ⟨B, 1, none⟩ (.string a.name)).setCell ⟨B, 2, none⟩ (.string a.arg)) B R a q := by
  refine ⟨?_, ?_, (hb.setCell (p := ⟨B, 1, none⟩) (Nat.le_of_lt hg) _).setCell (p := ⟨B, 2, none⟩) (Nat.le_of_lt hg) _, hg, hne⟩
  · simp [World.setCell, Array.getElem?_modify, hB]
  · rw [Below.heap_setCell _ _ _ R hne, Below.heap_setCell _ _ _ R hne]; exact hR
theorem BareRel.types {w u v : World} {B R : Nat} {a : Hd} {q : Pl} {G1 G2 : Option Addr} {m1 c1 m2 c2 n1 n2 : Nat} (hB : v.heap[B]? = some (.cells #[.int .i8 a.kind, .string a.name, .string a.arg, .int .i64 a.num, .int .i8 a.tk, .slice q.TA q.tn q.tc, .int .i8 a.uk, .slice q.UA q.un q.uc, .int .i64 a.label, .int .i64 a.pos, .slice q.A q.n q.c] 30 (0, 0))) (hR : v.heap[R]? = some (.cells #[.int .i8 0, .string ⟨#[]⟩, .string ⟨#[]⟩, .int .i64 0, .int .i8 0, .slice none 0 0, .int .i8 0, .slice none 0 0, .int .i64 0, .int .i64 0, .slice none 0 0] 30 (0, 0))) (hb : Below w.heap.size w v) (hg : w.heap.size < B) (hne : R ≠ B)
    (h1 : Ty.Is (mask (fun b => decide (n1 ≤ b)) u) a.tk a.tkids G1 m1 c1) (hn1 : B < n1) (huv : Below u.heap.size u v) (h2 : Ty.Is (mask (fun b => decide (n2 ≤ b)) v) a.uk a.ukids G2 m2 c2) (hn2 : B < n2) :
    BareRel2 w ((((v.setCell ⟨B, 4, none⟩ (.int .i8 a.tk)).setCell ⟨B, 5, none⟩ (.slice G1 m1 c1)).setCell ⟨B, 6, none⟩ (.int .i8 a.uk)).setCell ⟨B, 7, none⟩ (.slice G2 m2 c2)) B R a q ⟨G1, m1, c1, G2, m2, c2, q.A, q.n, q.c⟩ := by
  have hoth : ∀ (b o : Nat) (x : Value), b ≠ B → v.cell? ⟨b, o, none⟩ = some x → ((((v.setCell ⟨B, 4, none⟩ (.int .i8 a.tk)).setCell ⟨B, 5, none⟩ (.slice G1 m1 c1)).setCell ⟨B, 6, none⟩ (.int .i8 a.uk)).setCell ⟨B, 7, none⟩ (.slice G2 m2 c2)).cell? ⟨b, o, none⟩ = some x := by
    intro b o x hbB hx
    rw [World.cell?_setCell_other _ _ _ _ (fun e => hbB (by injection e with e; exact e.symm)), World.cell?_setCell_other _ _ _ _ (fun e => hbB (by injection e with e; exact e.symm)), World.cell?_setCell_other _ _ _ _ (fun e => hbB (by injection e with e; exact e.symm)), World.cell?_setCell_other _ _ _ _ (fun e => hbB (by injection e with e; exact e.symm))]
    exact hx
  refine ⟨⟨?_, ?_, (((hb.setCell (p := ⟨B, 4, none⟩) (Nat.le_of_lt hg) _).setCell (p := ⟨B, 5, none⟩) (Nat.le_of_lt hg) _).setCell (p := ⟨B, 6, none⟩) (Nat.le_of_lt hg) _).setCell (p := ⟨B, 7, none⟩) (Nat.le_of_lt hg) _, hg, hne⟩, ?_, ?_, rfl, rfl, rfl⟩
  · simp [World.setCell, Array.getElem?_modify, hB]
  · rw [Below.heap_setCell _ _ _ R hne, Below.heap_setCell _ _ _ R hne, Below.heap_setCell _ _ _ R hne, Below.heap_setCell _ _ _ R hne]; exact hR
  · refine h1.kept (kept_mask fun b o x hP hx => ?_)
    have hP' : n1 ≤ b := by simpa using hP
    exact ⟨by simp; omega, hoth b o x (by omega) (by rw [huv.cell (p := ⟨b, o, none⟩) (Ty.cell_lt hx)]; exact hx)⟩
  · refine h2.kept (kept_mask fun b o x hP hx => ?_)
    have hP' : n2 ≤ b := by simpa using hP
    exact ⟨by simp; omega, hoth b o x (by omega) hx⟩

attribute [local go_sem ↓] Go.wp_at_zero Go.wp_at_succ
end Go.Proofs.YtocehfklacjgbaaGreatDoor
namespace Go.Proofs.YtocehfklacjgbaaGreatDoor
open Go.RowKit

end Go.Proofs.YtocehfklacjgbaaGreatDoor
namespace Go.Proofs.YtocehfklacjgbaaGreatDoor
open Go.RowKit

def Tm.zero : Hd := ⟨0, ⟨#[]⟩, ⟨#[]⟩, 0, 0, .nil, 0, .nil, 0, 0⟩
set_option maxHeartbeats 4000000 in
set_option maxRecDepth 100000 in
theorem tm_same_any (h : Hd) (kids : Tm) (p : Pl) (h' : Hd) (kids' : Tm) (p' : Pl) (w : World) (hIs : Tm.Is w h kids p) (hIs' : Tm.Is w h' kids' p') (hG : TGlob w) :
    Calls Tryz.prog 11 #[.agg #[.int .i8 h.kind, .string h.name, .string h.arg, .int .i64 h.num, .int .i8 h.tk, .slice p.TA p.tn p.tc, .int .i8 h.uk, .slice p.UA p.un p.uc, .int .i64 h.label, .int .i64 h.pos, .slice p.A p.n p.c], .agg #[.int .i8 h'.kind, .string h'.name, .string h'.arg, .int .i64 h'.num, .int .i8 h'.tk, .slice p'.TA p'.tn p'.tc, .int .i8 h'.uk, .slice p'.UA p'.un p'.uc, .int .i64 h'.label, .int .i64 h'.pos, .slice p'.A p'.n p'.c]] w fun e w' => e = .returned (.bool (Tm.sameT h kids h' kids')) ∧ Below w.heap.size w w' := by
  have hB0 : Below w.heap.size w ((w.alloc (.cells #[.int .i8 h.kind, .string h.name, .string h.arg, .int .i64 h.num, .int .i8 h.tk, .slice p.TA p.tn p.tc, .int .i8 h.uk, .slice p.UA p.un p.uc, .int .i64 h.label, .int .i64 h.pos, .slice p.A p.n p.c] 30)).alloc (.cells #[.int .i8 h'.kind, .string h'.name, .string h'.arg, .int .i64 h'.num, .int .i8 h'.tk, .slice p'.TA p'.tn p'.tc, .int .i8 h'.uk, .slice p'.UA p'.un p'.uc, .int .i64 h'.label, .int .i64 h'.pos, .slice p'.A p'.n p'.c] 30)) := ((Below.refl _ _).alloc (Nat.le_refl _) _).alloc (by simp) _
  obtain ⟨r0, r1, _⟩ := two_new w (.cells #[.int .i8 h.kind, .string h.name, .string h.arg, .int .i64 h.num, .int .i8 h.tk, .slice p.TA p.tn p.tc, .int .i8 h.uk, .slice p.UA p.un p.uc, .int .i64 h.label, .int .i64 h.pos, .slice p.A p.n p.c] 30) (.cells #[.int .i8 h'.kind, .string h'.name, .string h'.arg, .int .i64 h'.num, .int .i8 h'.tk, .slice p'.TA p'.tn p'.tc, .int .i8 h'.uk, .slice p'.UA p'.un p'.uc, .int .i64 h'.label, .int .i64 h'.pos, .slice p'.A p'.n p'.c] 30)
  have HM := Lib.hid (fun (W : World) (hb : Below w.heap.size w W) => tcheck_any h kids p W (hIs.below hb) (hG.below hb))
  have HM' := Lib.hid (fun (W : World) (hb : Below w.heap.size w W) => tcheck_any h' kids' p' W (hIs'.below hb) (hG.below hb))
  have HA := Lib.hid (fun (W : World) (hb : Below w.heap.size w W) => talike_any (Tm.nodes kids + 1) h kids p h' kids' p' W (by omega) (hIs.below hb) (hIs'.below hb) (hG.below hb))
  have R0 := Lib.hid r0
  have R1 := Lib.hid r1
  obtain ⟨b0, hk0⟩ : ∃ b, (((Tm.chk h kids : Nat) : Int) == 0) = b := ⟨_, rfl⟩
  obtain ⟨b1, hk1⟩ : ∃ b, (((Tm.chk h' kids' : Nat) : Int) == 0) = b := ⟨_, rfl⟩
  have hR : Tm.sameT h kids h' kids' = (b0 && (b1 && Tm.alT h kids h' kids')) := by unfold Tm.sameT; rw [hk0, hk1]
  rw [hR]
  generalize Tm.alT h kids h' kids' = b2 at *
  generalize ((Tm.chk h kids : Nat) : Int) = x0 at *
  generalize ((Tm.chk h' kids' : Nat) : Int) = x1 at *
  clear hIs hIs' r0 r1 hR hG
  cases b0
  · go_enter Tryz.func11, Tryz.ntmps11
    go_wp2_with fail
    refine (HM.out _ hB0).mono ?_
    rintro e w3 ⟨rfl, hb⟩
    go_wp2_with fail
    go_ret
    exact ⟨rfl, hB0.trans (hb.mono hB0.size)⟩
  · cases b1
    · go_enter Tryz.func11, Tryz.ntmps11
      go_wp2_with fail
      refine (HM.out _ hB0).mono ?_
      rintro e w3 ⟨rfl, hb⟩
      have hB1 := hB0.trans (hb.mono hB0.size)
      obtain ⟨y0, y1, y2, y3, y4, y5, y6, y7, y8, y9, y10, yl⟩ := own11 (heap_below hb (heap_lt R1.out) R1.out)
      clear hb
      go_wp2_with fail
      refine (HM'.out _ hB1).mono ?_
      rintro e w4 ⟨rfl, hb⟩
      go_wp2_with fail
      go_ret
      exact ⟨rfl, hB1.trans (hb.mono hB1.size)⟩
    · go_enter Tryz.func11, Tryz.ntmps11
      go_wp2_with fail
      refine (HM.out _ hB0).mono ?_
      rintro e w3 ⟨rfl, hb⟩
      have hB1 := hB0.trans (hb.mono hB0.size)
      have S0 := Lib.hid (heap_below hb (heap_lt R0.out) R0.out)
      have S1 := Lib.hid (heap_below hb (heap_lt R1.out) R1.out)
      obtain ⟨y0, y1, y2, y3, y4, y5, y6, y7, y8, y9, y10, yl⟩ := own11 S1.out
      clear hb
      go_wp2_with fail
      refine (HM'.out _ hB1).mono ?_
      rintro e w4 ⟨rfl, hb⟩
      have hB2 := hB1.trans (hb.mono hB1.size)
      clear y0 y1 y2 y3 y4 y5 y6 y7 y8 y9 y10 yl
      obtain ⟨q0, q1, q2, q3, q4, q5, q6, q7, q8, q9, q10, ql⟩ := own11 (heap_below hb (heap_lt S0.out) S0.out)
      obtain ⟨y0, y1, y2, y3, y4, y5, y6, y7, y8, y9, y10, yl⟩ := own11 (heap_below hb (heap_lt S1.out) S1.out)
      clear hb
      go_wp2_with fail
      refine (HA.out _ hB2).mono ?_
      rintro e w5 ⟨rfl, hb⟩
      go_wp2_with fail
      go_ret
      exact ⟨rfl, hB2.trans (hb.mono hB2.size)⟩
def RowEl (w : World) (g : Nat) (h : Hd) (p : Pl) : Prop :=
  w.cell? ⟨g, 0, none⟩ = some (.int .i8 h.kind) ∧ w.cell? ⟨g, 1, none⟩ = some (.string h.name) ∧ w.cell? ⟨g, 2, none⟩ = some (.string h.arg) ∧ w.cell? ⟨g, 3, none⟩ = some (.int .i64 h.num) ∧ w.cell? ⟨g, 4, none⟩ = some (.int .i8 h.tk) ∧
  w.cell? ⟨g, 5, none⟩ = some (.slice p.TA p.tn p.tc) ∧ w.cell? ⟨g, 6, none⟩ = some (.int .i8 h.uk) ∧ w.cell? ⟨g, 7, none⟩ = some (.slice p.UA p.un p.uc) ∧ w.cell? ⟨g, 8, none⟩ = some (.int .i64 h.label) ∧ w.cell? ⟨g, 9, none⟩ = some (.int .i64 h.pos) ∧
  w.cell? ⟨g, 10, none⟩ = some (.slice p.A p.n p.c)
theorem RowEl.below {w w' : World} {g : Nat} {h : Hd} {p : Pl} (hr : RowEl w g h p) (hb : Below w.heap.size w w') : RowEl w' g h p := by
  have hl := Ty.cell_lt hr.1
  have hc := fun o => (bcell hb).1 g o hl
  unfold RowEl at *
  rw [hc, hc, hc, hc, hc, hc, hc, hc, hc, hc, hc]
  exact hr
end Go.Proofs.YtocehfklacjgbaaGreatDoor
