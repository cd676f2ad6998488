/-
  What all layers' walks ask of blocks that a call made: plain facts on memory. New boxes, one after another. A region that draws its order, by what stays true: one obligation an operation, whatever the order.
-/
import Derived.Test.YtknhoagicdfikaaGreatDoorChecked
import Derived.WalkKit
import Derived.Below
import Derived.OwnWalk
import Derived.Laws.AppendOwn
import Derived.Deep.AppendLies
import Derived.Lib.Hide
import Derived.BigQuiet
import Derived.Deep.QuietTactic
import Derived.Orders
namespace Go.Proofs.YtknhoagicdfikaaGreatDoor
open Go.RowKit

/-- what a call that only makes memory leaves: old cells and marks read as before -/
theorem bcell {W w1 : World} (hb : Below W.heap.size W w1) : (∀ b o, b < W.heap.size → w1.cell? ⟨b, o, none⟩ = W.cell? ⟨b, o, none⟩) ∧ (∀ b o, b < W.heap.size → w1.frozen? ⟨b, o, none⟩ = W.frozen? ⟨b, o, none⟩) :=
  ⟨fun b o h => hb.cell (p := ⟨b, o, none⟩) h, fun b o h => hb.frozen (p := ⟨b, o, none⟩) h⟩
theorem heap_new (w : World) (o : Obj) : (w.alloc o).heap[w.heap.size]? = some o := by show (w.heap.push o)[w.heap.size]? = _; simp
theorem heap_lt {w : World} {b : Nat} {x : Obj} (h : w.heap[b]? = some x) : b < w.heap.size := by
  rcases Nat.lt_or_ge b w.heap.size with h1 | h1
  · exact h1
  · rw [Array.getElem?_eq_none h1] at h; cases h
theorem heap_old {w : World} {b : Nat} {x : Obj} (h : w.heap[b]? = some x) (o : Obj) : (w.alloc o).heap[b]? = some x := by
  rw [Below.heap_alloc w o b (heap_lt h)]; exact h
theorem heap_below {B b : Nat} {w w1 : World} {x : Obj} (hb : Below B w w1) (hB : b < B) (h : w.heap[b]? = some x) : w1.heap[b]? = some x := by
  rw [hb.block b hB]; exact h
theorem own1 {w : World} {b : Nat} {v0 : Value} {t : TypeId} (h : w.heap[b]? = some (.cells #[v0] t (0, 0))) : w.cell? ⟨b, 0, none⟩ = some v0 ∧ w.frozen? ⟨b, 0, none⟩ = false ∧ b < w.heap.size := by
  refine ⟨?_, ?_, heap_lt h⟩ <;> simp [World.cell?, World.frozen?, h]
theorem own2 {w : World} {b : Nat} {v0 v1 : Value} {t : TypeId} (h : w.heap[b]? = some (.cells #[v0, v1] t (0, 0))) :
    w.cell? ⟨b, 0, none⟩ = some v0 ∧ w.cell? ⟨b, 1, none⟩ = some v1 ∧ w.frozen? ⟨b, 0, none⟩ = false ∧ w.frozen? ⟨b, 1, none⟩ = false ∧ b < w.heap.size := by
  refine ⟨?_, ?_, ?_, ?_, heap_lt h⟩ <;> simp [World.cell?, World.frozen?, h]
/-- a block of four cells that the call itself made: what the walk asks of it -/
theorem own4 {w : World} {b : Nat} {v0 v1 v2 v3 : Value} {t : TypeId} (h : w.heap[b]? = some (.cells #[v0, v1, v2, v3] t (0, 0))) :
    w.cell? ⟨b, 0, none⟩ = some v0 ∧ w.cell? ⟨b, 1, none⟩ = some v1 ∧ w.cell? ⟨b, 2, none⟩ = some v2 ∧ w.cell? ⟨b, 3, none⟩ = some v3 ∧
    w.frozen? ⟨b, 0, none⟩ = false ∧ w.frozen? ⟨b, 1, none⟩ = false ∧ w.frozen? ⟨b, 2, none⟩ = false ∧ w.frozen? ⟨b, 3, none⟩ = false ∧ b < w.heap.size := by
  refine ⟨?_, ?_, ?_, ?_, ?_, ?_, ?_, ?_, heap_lt h⟩ <;> simp [World.cell?, World.frozen?, h]
theorem two_new (w : World) (o1 o2 : Obj) : ((w.alloc o1).alloc o2).heap[w.heap.size]? = some o1 ∧ ((w.alloc o1).alloc o2).heap[w.heap.size + 1]? = some o2 ∧ ((w.alloc o1).alloc o2).heap.size = w.heap.size + 2 := by
  refine ⟨heap_old (heap_new w _) _, ?_, by simp⟩
  have := heap_new (w.alloc o1) o2
  simpa using this
theorem below_drewN {B : Nat} {a w : World} (h : Below B a w) (n : Nat) : Below B a (w.drewN n) := ⟨h.os, h.tape, h.output, h.size, h.block⟩
theorem heap_new2 (w : World) (o o' : Obj) : ((w.alloc o).alloc o').heap[w.heap.size + 1]? = some o' := by
  have := heap_new (w.alloc o) o'
  simpa using this
theorem cells_of_heap {w : World} {b : Nat} {cs : Array Value} {t : TypeId} (h : w.heap[b]? = some (.cells cs t)) : ∀ j u, cs.toList[j]? = some u → w.cell? ((⟨b, 0, none⟩ : Addr).add j) = some u := by
  intro j u hj
  have e : (⟨b, 0, none⟩ : Addr).add j = ⟨b, j, none⟩ := by simp [Addr.add]; intro h; exact h.symm
  rw [e]
  rw [Array.getElem?_toList] at hj
  simp [World.cell?, h, hj]
theorem cell_of_heap {w : World} {b : Nat} {cs : Array Value} {t : TypeId} (h : w.heap[b]? = some (.cells cs t (0, 0))) (j : Nat) {v : Value} (hj : cs[j]? = some v) : w.cell? ⟨b, j, none⟩ = some v := by
  simp [World.cell?, h, hj]
theorem ownsRow_below {w w1 : World} {base : Nat} {e : TypeId} {size : Nat} {v : Value} {n : Nat} {xs : List Value} (h : w.ownsRow base e size v n xs) (hb : Below w.heap.size w w1) : w1.ownsRow base e size v n xs := by
  refine h.kept (row := none) ⟨hb.os, hb.tape, hb.output, hb.size, fun k hk _ => hb.block k hk⟩ ?_
  cases hv : v.ownBlock with
  | none => exact .inl rfl
  | some g => exact .inr (by simp)
/-- a row of the call's own, read -/
theorem row_reads {w : World} {base : Nat} {e : TypeId} {size : Nat} {v : Value} {n : Nat} {xs : List Value} (h : w.ownsRow base e size v n xs) (hn : 0 < n) :
    ∃ g cap, v = .slice (some ⟨g, 0, none⟩) n cap ∧ base ≤ g ∧ g < w.heap.size ∧ n ≤ cap ∧ cap ≤ maxLen ∧ ∀ j u, xs[j]? = some u → w.cell? ⟨g, j, none⟩ = some u := by
  have hc := fun g hg => h.cells (g := g) hg
  rcases h.2 with ⟨_, h0⟩ | ⟨g, cap, cur, rfl, hb, hg, h1, h2, _⟩
  · omega
  · refine ⟨g, cap, rfl, hb, heap_lt hg, h1, h2, fun j u hu => ?_⟩
    have := hc g rfl j u hu
    rwa [show (⟨g, 0, none⟩ : Addr).add j = ⟨g, j, none⟩ by unfold Addr.add; by_cases h : j = 0 <;> simp [h]] at this
/-- a block of eleven cells that the call itself made -/
theorem own11 {w : World} {b : Nat} {v0 v1 v2 v3 v4 v5 v6 v7 v8 v9 v10 : Value} {t : TypeId} (h : w.heap[b]? = some (.cells #[v0, v1, v2, v3, v4, v5, v6, v7, v8, v9, v10] t (0, 0))) :
    w.cell? ⟨b, 0, none⟩ = some v0 ∧ w.cell? ⟨b, 1, none⟩ = some v1 ∧ w.cell? ⟨b, 2, none⟩ = some v2 ∧ w.cell? ⟨b, 3, none⟩ = some v3 ∧ w.cell? ⟨b, 4, none⟩ = some v4 ∧ w.cell? ⟨b, 5, none⟩ = some v5 ∧
    w.cell? ⟨b, 6, none⟩ = some v6 ∧ w.cell? ⟨b, 7, none⟩ = some v7 ∧ w.cell? ⟨b, 8, none⟩ = some v8 ∧ w.cell? ⟨b, 9, none⟩ = some v9 ∧ w.cell? ⟨b, 10, none⟩ = some v10 ∧ b < w.heap.size :=
  ⟨cell_of_heap h 0 rfl, cell_of_heap h 1 rfl, cell_of_heap h 2 rfl, cell_of_heap h 3 rfl, cell_of_heap h 4 rfl, cell_of_heap h 5 rfl, cell_of_heap h 6 rfl, cell_of_heap h 7 rfl, cell_of_heap h 8 rfl, cell_of_heap h 9 rfl, cell_of_heap h 10 rfl, heap_lt h⟩
theorem own7 {w : World} {b : Nat} {v0 v1 v2 v3 v4 v5 v6 : Value} {t : TypeId} (h : w.heap[b]? = some (.cells #[v0, v1, v2, v3, v4, v5, v6] t (0, 0))) :
    w.cell? ⟨b, 0, none⟩ = some v0 ∧ w.cell? ⟨b, 1, none⟩ = some v1 ∧ w.cell? ⟨b, 2, none⟩ = some v2 ∧ w.cell? ⟨b, 3, none⟩ = some v3 ∧ w.cell? ⟨b, 4, none⟩ = some v4 ∧ w.cell? ⟨b, 5, none⟩ = some v5 ∧
    w.cell? ⟨b, 6, none⟩ = some v6 ∧ b < w.heap.size :=
  ⟨cell_of_heap h 0 rfl, cell_of_heap h 1 rfl, cell_of_heap h 2 rfl, cell_of_heap h 3 rfl, cell_of_heap h 4 rfl, cell_of_heap h 5 rfl, cell_of_heap h 6 rfl, heap_lt h⟩
end Go.Proofs.YtknhoagicdfikaaGreatDoor
namespace Go.Proofs.YtknhoagicdfikaaGreatDoor
open Go.RowKit
theorem below_n1 (w : World) (a : Obj) : Below w.heap.size w (w.alloc a) := (Below.refl _ _).alloc (Nat.le_refl _) _
theorem below_n2 (w : World) (a b : Obj) : Below w.heap.size w ((w.alloc a).alloc b) := (below_n1 w a).alloc (by simp) _
theorem below_n3 (w : World) (a b c : Obj) : Below w.heap.size w (((w.alloc a).alloc b).alloc c) := (below_n2 w a b).alloc (by simp; omega) _
theorem below_n4 (w : World) (a b c d : Obj) : Below w.heap.size w ((((w.alloc a).alloc b).alloc c).alloc d) := (below_n3 w a b c).alloc (by simp; omega) _
theorem below_n5 (w : World) (a b c d e : Obj) : Below w.heap.size w (((((w.alloc a).alloc b).alloc c).alloc d).alloc e) := (below_n4 w a b c d).alloc (by simp; omega) _
theorem heap_n2 (w : World) (a b : Obj) : ((w.alloc a).alloc b).heap[w.heap.size]? = some a ∧ ((w.alloc a).alloc b).heap[w.heap.size + 1]? = some b := ⟨heap_old (heap_new w a) b, heap_new2 w a b⟩
theorem heap_n3 (w : World) (a b c : Obj) : (((w.alloc a).alloc b).alloc c).heap[w.heap.size]? = some a ∧ (((w.alloc a).alloc b).alloc c).heap[w.heap.size + 1]? = some b ∧ (((w.alloc a).alloc b).alloc c).heap[w.heap.size + 1 + 1]? = some c := by
  obtain ⟨h1, h2⟩ := heap_n2 w a b
  refine ⟨heap_old h1 c, heap_old h2 c, ?_⟩
  have := heap_new ((w.alloc a).alloc b) c
  simpa using this
theorem heap_n4 (w : World) (a b c d : Obj) : ((((w.alloc a).alloc b).alloc c).alloc d).heap[w.heap.size]? = some a ∧ ((((w.alloc a).alloc b).alloc c).alloc d).heap[w.heap.size + 1]? = some b ∧ ((((w.alloc a).alloc b).alloc c).alloc d).heap[w.heap.size + 1 + 1]? = some c ∧ ((((w.alloc a).alloc b).alloc c).alloc d).heap[w.heap.size + 1 + 1 + 1]? = some d := by
  obtain ⟨h1, h2, h3⟩ := heap_n3 w a b c
  refine ⟨heap_old h1 d, heap_old h2 d, heap_old h3 d, ?_⟩
  have := heap_new (((w.alloc a).alloc b).alloc c) d
  simpa using this
theorem heap_n5 (w : World) (a b c d e : Obj) : (((((w.alloc a).alloc b).alloc c).alloc d).alloc e).heap[w.heap.size]? = some a ∧ (((((w.alloc a).alloc b).alloc c).alloc d).alloc e).heap[w.heap.size + 1]? = some b ∧ (((((w.alloc a).alloc b).alloc c).alloc d).alloc e).heap[w.heap.size + 1 + 1]? = some c ∧ (((((w.alloc a).alloc b).alloc c).alloc d).alloc e).heap[w.heap.size + 1 + 1 + 1]? = some d ∧ (((((w.alloc a).alloc b).alloc c).alloc d).alloc e).heap[w.heap.size + 1 + 1 + 1 + 1]? = some e := by
  obtain ⟨h1, h2, h3, h4⟩ := heap_n4 w a b c d
  refine ⟨heap_old h1 e, heap_old h2 e, heap_old h3 e, heap_old h4 e, ?_⟩
  have := heap_new ((((w.alloc a).alloc b).alloc c).alloc d) e
  simpa using this

theorem boxes3 (w : World) (a b c : Obj) : ∃ w1, w1 = ((w.alloc a).alloc b).alloc c ∧ Below w.heap.size w w1 ∧ w1.heap[w.heap.size]? = some a ∧ w1.heap[w.heap.size + 1]? = some b ∧ w1.heap[w.heap.size + 1 + 1]? = some c ∧ w1.heap.size = w.heap.size + 3 :=
  ⟨_, rfl, below_n3 w a b c, (heap_n3 w a b c).1, (heap_n3 w a b c).2.1, (heap_n3 w a b c).2.2, by simp⟩
end Go.Proofs.YtknhoagicdfikaaGreatDoor
namespace Go.Proofs.YtknhoagicdfikaaGreatDoor
open Go.RowKit
/-- each edge that binds goes back in the text -/
def lexOk (ops : Array Oper) : Bool := (List.range ops.size).all fun i => match ops[i]? with
  | some o => o.after.all fun e => !Region.binds .any e || decide (e.on < i)
  | none => true
theorem lexOk_of {ops : Array Oper} (h : lexOk ops = true) {i : Nat} {o : Oper} (ho : ops[i]? = some o) : ∀ e ∈ o.after, Region.binds .any e = true → e.on < i := by
  intro e he hb
  have hi : i < ops.size := by
    rcases Nat.lt_or_ge i ops.size with q | q
    · exact q
    · rw [Array.getElem?_eq_none q] at ho; cases ho
  have h1 := List.all_eq_true.1 h i (List.mem_range.2 hi)
  rw [ho] at h1
  have h2 := Array.all_eq_true_iff_forall_mem.1 h1 e he
  rw [hb] at h2
  simpa using h2
theorem ready_of {ops : Array Oper} {listed : Array Bool} {i : Nat} : i ∈ Region.ready .any ops listed ↔ i < ops.size ∧ listed.getD i true = false ∧ ∃ o, ops[i]? = some o ∧ ∀ e ∈ o.after, Region.binds .any e = true → listed.getD e.on false = true := by
  unfold Region.ready
  rw [List.mem_filter, List.mem_range, Bool.and_eq_true, Bool.not_eq_true']
  constructor
  · rintro ⟨h1, h2, h3⟩
    refine ⟨h1, h2, ops[i], Array.getElem?_eq_getElem h1, fun e he hb => ?_⟩
    rw [Array.getElem?_eq_getElem h1] at h3
    have h4 := Array.all_eq_true_iff_forall_mem.1 (show (ops[i].after.all fun e => !Region.binds .any e || listed.getD e.on false) = true from h3) e he
    rw [hb] at h4
    simpa using h4
  · rintro ⟨h1, h2, o, ho, h3⟩
    refine ⟨h1, h2, ?_⟩
    rw [ho]
    show (o.after.all fun e => !Region.binds .any e || listed.getD e.on false) = true
    refine Array.all_eq_true_iff_forall_mem.2 fun e he => ?_
    cases hb : Region.binds .any e
    · rfl
    · rw [h3 e he hb]; rfl
/-- where one has not come up, one may -/
theorem ready_some {ops : Array Oper} (hl : lexOk ops = true) {listed : Array Bool} (hz : listed.size = ops.size) : ∀ (K i : Nat), i < K → listed[i]? = some false → ∃ j, j ∈ Region.ready .any ops listed
  | 0, _, h, _ => absurd h (Nat.not_lt_zero _)
  | K + 1, i, hK, hi => by
    have hlt : i < ops.size := by
      rw [← hz]
      rcases Nat.lt_or_ge i listed.size with q | q
      · exact q
      · rw [Array.getElem?_eq_none q] at hi; cases hi
    by_cases h : ∃ e ∈ (ops[i]).after, Region.binds .any e = true ∧ listed.getD e.on false = false
    · obtain ⟨e, he, hb, hf⟩ := h
      have hj := lexOk_of hl (Array.getElem?_eq_getElem hlt) e he hb
      have hj2 : listed[e.on]? = some false := by
        have : e.on < listed.size := by omega
        rw [Array.getElem?_eq_getElem this]
        rw [Array.getD_eq_getD_getElem?, Array.getElem?_eq_getElem this] at hf
        simpa using hf
      exact ready_some hl hz K e.on (by omega) hj2
    · refine ⟨i, ready_of.2 ⟨hlt, ?_, _, Array.getElem?_eq_getElem hlt, fun e he hb => ?_⟩⟩
      · rw [Array.getD_eq_getD_getElem?, hi]; rfl
      · cases hf : listed.getD e.on false
        · exact absurd ⟨e, he, hb, hf⟩ h
        · rfl
/-- how many have not come up -/
def left (listed : Array Bool) : Nat := (listed.toList.filter (!·)).length
theorem left_set : ∀ (l : List Bool) (i : Nat), l[i]? = some false → ((l.set i true).filter (!·)).length + 1 = (l.filter (!·)).length
  | [], _, h => by simp at h
  | b :: l, 0, h => by
    simp at h; subst h; simp
  | b :: l, i + 1, h => by
    rw [List.getElem?_cons_succ] at h
    have := left_set l i h
    cases b <;> simp [List.set_cons_succ] <;> omega
theorem wpAny_inv {P : Program} {ops : Array Oper} {Q : Exit → Act → World → Prop} (hl : lexOk ops = true) (I : Array Bool → Act → World → Prop)
    (hs : ∀ (listed : Array Bool) (a : Act) (w : World) (i : Nat) (o : Oper), I listed a w → listed.size = ops.size → ops[i]? = some o → listed[i]? = some false → (∀ e ∈ o.after, Region.binds .any e = true → listed.getD e.on false = true) → wpOp P ops Q i (fun a' w' => I (listed.setIfInBounds i true) a' w') a w)
    (hd : ∀ (listed : Array Bool) (a : Act) (w : World), I listed a w → listed.size = ops.size → (∀ i, i < ops.size → listed[i]? = some true) → Q .normal a w) :
    ∀ (fuel : Nat) (listed : Array Bool) (a : Act) (w : World), left listed = fuel → listed.size = ops.size → I listed a w → wpAny P .any ops Q fuel listed a w := by
  have fin : ∀ (listed : Array Bool) (a : Act) (w : World), listed.size = ops.size → I listed a w → Region.ready .any ops listed = [] → Q .normal a w := fun listed a w hz hI hr => by
    refine hd listed a w hI hz fun i hi => ?_
    have h1 : i < listed.size := by omega
    rw [Array.getElem?_eq_getElem h1]
    cases hb : listed[i] with
    | true => rfl
    | false =>
      obtain ⟨j, hj⟩ := ready_some hl hz (i + 1) i (Nat.lt_succ_self _) (by rw [Array.getElem?_eq_getElem h1, hb])
      rw [hr] at hj; cases hj
  intro fuel
  induction fuel with
  | zero =>
    intro listed a w hf hz hI
    have hr : Region.ready .any ops listed = [] := by
      rcases hq : Region.ready .any ops listed with _ | ⟨i, r⟩
      · rfl
      · have hi : i ∈ Region.ready .any ops listed := by rw [hq]; exact List.mem_cons_self
        obtain ⟨h1, h2, -⟩ := ready_of.1 hi
        have h3 : i < listed.size := by omega
        rw [Array.getD_eq_getD_getElem?, Array.getElem?_eq_getElem h3] at h2
        have h4 : listed.toList[i]? = some false := by rw [Array.getElem?_toList, Array.getElem?_eq_getElem h3]; simpa using h2
        have := left_set listed.toList i h4
        unfold left at hf
        omega
    exact ⟨hr, fin listed a w hz hI hr⟩
  | succ fuel ih =>
    intro listed a w hf hz hI
    refine ⟨fin listed a w hz hI, fun i hi => ?_⟩
    obtain ⟨h1, h2, o, ho, h5⟩ := ready_of.1 hi
    have h3 : i < listed.size := by omega
    have h4 : listed[i]? = some false := by
      rw [Array.getD_eq_getD_getElem?, Array.getElem?_eq_getElem h3] at h2
      rw [Array.getElem?_eq_getElem h3]; simpa using h2
    refine wpOp_mono (fun a' w' h => ih _ a' w' ?_ (by simp [hz]) h) (hs listed a w i o hI hz ho h4 h5)
    have := left_set listed.toList i (by rw [Array.getElem?_toList]; exact h4)
    unfold left at hf ⊢
    rw [Array.toList_setIfInBounds]
    omega
/-- a region that draws its order -/
theorem region_inv {P : Program} {id : Nat} {ops : Array Oper} {Q : Exit → Act → World → Prop} {a : Act} {w : World} (hm : P.follows .mixedOrders = true) (hl : lexOk ops = true) (I : Array Bool → Act → World → Prop)
    (h0 : I (Array.replicate ops.size false) a w.drew)
    (hs : ∀ (listed : Array Bool) (a : Act) (w : World) (i : Nat) (o : Oper), I listed a w → listed.size = ops.size → ops[i]? = some o → listed[i]? = some false → (∀ e ∈ o.after, Region.binds .any e = true → listed.getD e.on false = true) → wpOp P ops Q i (fun a' w' => I (listed.setIfInBounds i true) a' w') a w)
    (hd : ∀ (listed : Array Bool) (a : Act) (w : World), I listed a w → listed.size = ops.size → (∀ i, i < ops.size → listed[i]? = some true) → Q .normal a w) : (Code.region id ops true).wp P Q a w := by
  refine wp_region_any hm (wpAny_inv hl I hs hd _ _ a _ ?_ (by simp) h0)
  unfold left
  rw [Array.toList_replicate, List.filter_replicate]
  simp
/-- an operation writes its own slot alone -/
theorem wpOp_own {P : Program} {ops : Array Oper} {Q : Exit → Act → World → Prop} {i : Nat} {o : Oper} {K : Act → World → Prop} {a : Act} {w : World} (ho : ops[i]? = some o) (h : wpOp P ops Q i K a w) :
    wpOp P ops Q i (fun a' w' => K a' w' ∧ ((∃ v, a' = a.put o.dst v) ∨ ∃ d v, a' = ({ a with defers := d :: a.defers } : Act).put o.dst v)) a w := by
  unfold wpOp at h ⊢
  rw [ho] at h ⊢
  dsimp only at h ⊢
  split
  · rename_i hw
    rw [if_pos hw] at h
    rcases h with h | h
    · refine .inl ?_
      unfold Oper.wp at h ⊢
      generalize (execOp a.eval o).run P w = r at *
      cases r with
      | ok n w' =>
        cases n <;> simp only [Oper.upon] at h ⊢
        case value u => exact ⟨h, .inl ⟨_, rfl⟩⟩
        case skip => exact ⟨h, .inl ⟨_, rfl⟩⟩
        case defer d => exact ⟨h, .inr ⟨_, _, rfl⟩⟩
        case enter f args =>
          refine Calls.mono h fun e w'' he => ?_
          cases e with
          | returned u => exact ⟨he, .inl ⟨_, rfl⟩⟩
          | panicked c => exact he
          | outgrown => exact he
        case row row args => exact Rows.mono h fun u w'' he => ⟨he, .inl ⟨_, rfl⟩⟩
      | halt x w' =>
        cases x <;> simp only [Oper.upon] at h ⊢
        case panic u => exact h
    · exact .inr h
  · rename_i hw
    rw [if_neg hw] at h
    exact ⟨h, .inl ⟨_, rfl⟩⟩
/-- the slots of a list, written over -/
def over (t : Array Value) (u : Nat → Value) : List Nat → Array Value
  | [] => t
  | d :: ds => (over t u ds).setIfInBounds d (u d)
theorem over_size (t : Array Value) (u : Nat → Value) : ∀ ds, (over t u ds).size = t.size
  | [] => rfl
  | d :: ds => by simp [over, over_size t u ds]
theorem over_eq {t t' : Array Value} (hz : t'.size = t.size) : ∀ (ds : List Nat), (∀ k, k ∉ ds → t'[k]? = t[k]?) → t' = over t (fun d => t'.getD d undef) ds
  | ds, h => by
    refine Array.ext_getElem? fun k => ?_
    have key : ∀ ds' : List Nat, (over t (fun d => t'.getD d undef) ds')[k]? = if k ∈ ds' then t'[k]? else t[k]? := by
      intro ds'
      induction ds' with
      | nil => simp [over]
      | cons d ds' ih =>
        simp only [over]
        rw [Array.getElem?_setIfInBounds]
        by_cases hd : d = k
        · subst hd
          rw [if_pos rfl, if_pos List.mem_cons_self]
          by_cases hlt : d < (over t (fun d => t'.getD d undef) ds').size
          · rw [if_pos hlt]
            have h1 : d < t'.size := by rw [over_size] at hlt; omega
            rw [Array.getD_eq_getD_getElem?, Array.getElem?_eq_getElem h1]; rfl
          · rw [if_neg hlt]
            have h1 : ¬ d < t'.size := by rw [over_size] at hlt; omega
            rw [Array.getElem?_eq_none (by omega)]
        · rw [if_neg hd, ih]
          have : (k ∈ d :: ds') ↔ k ∈ ds' := by simp [List.mem_cons, Ne.symm hd]
          by_cases hm : k ∈ ds'
          · rw [if_pos hm, if_pos (this.2 hm)]
          · rw [if_neg hm, if_neg (fun q => hm (this.1 q))]
    rw [key]
    by_cases hm : k ∈ ds
    · rw [if_pos hm]
    · rw [if_neg hm]; exact h k hm
/-- a region that draws its order, and comes to its end: the frame is written out -/
theorem region_inv_end {P : Program} {id : Nat} {ops : Array Oper} {Q : Exit → Act → World → Prop} {t0 : Array Value} {w : World} (ds : List Nat) (hm : P.follows .mixedOrders = true) (hl : lexOk ops = true)
    (hds : (ops.toList.all fun o => match o.dst with | some d => ds.contains d | none => true) = true) (I : Array Bool → Act → World → Prop) (hI : ∀ l a w, I l a w → a.defers = [])
    (h0 : I (Array.replicate ops.size false) { tmps := t0, defers := [] } w.drew)
    (hs : ∀ (listed : Array Bool) (a : Act) (w : World) (i : Nat) (o : Oper), I listed a w → listed.size = ops.size → a.tmps.size = t0.size → ops[i]? = some o → listed[i]? = some false → (∀ e ∈ o.after, Region.binds .any e = true → listed.getD e.on false = true) → wpOp P ops Q i (fun a' w' => I (listed.setIfInBounds i true) a' w') a w)
    (hd : ∀ (listed : Array Bool) (u : Nat → Value) (w : World), I listed { tmps := over t0 u ds, defers := [] } w → (∀ i, i < ops.size → listed[i]? = some true) → Q .normal { tmps := over t0 u ds, defers := [] } w) : (Code.region id ops true).wp P Q { tmps := t0, defers := [] } w := by
  refine region_inv hm hl (fun listed a w => I listed a w ∧ a.tmps.size = t0.size ∧ ∀ k, k ∉ ds → a.tmps[k]? = t0[k]?) ⟨h0, rfl, fun _ _ => rfl⟩ ?_ ?_
  · rintro listed a w i o ⟨h1, h2, h3⟩ hz ho hi hp
    refine wpOp_mono (fun a' w' h => ?_) (wpOp_own ho (hs listed a w i o h1 hz h2 ho hi hp))
    obtain ⟨h, hf⟩ := h
    have hmem : ∀ d, o.dst = some d → d ∈ ds := fun d hdd => by
      have q := List.all_eq_true.1 hds o (List.mem_of_getElem? (by rw [Array.getElem?_toList]; exact ho))
      rw [hdd] at q
      simpa using q
    have hput : ∀ (b : Act) (v : Value), b.tmps = a.tmps → ((b.put o.dst v).tmps.size = t0.size ∧ ∀ k, k ∉ ds → (b.put o.dst v).tmps[k]? = t0[k]?) := fun b v hb => by
      cases hdd : o.dst with
      | none => exact ⟨by show b.tmps.size = _; rw [hb]; exact h2, fun k hk => by show b.tmps[k]? = _; rw [hb]; exact h3 k hk⟩
      | some d =>
        refine ⟨by simp [Act.put, hb, h2], fun k hk => ?_⟩
        have hne : d ≠ k := fun e => hk (e ▸ hmem d hdd)
        show (b.tmps.setIfInBounds d v)[k]? = _
        rw [Array.getElem?_setIfInBounds_ne hne, hb]; exact h3 k hk
    rcases hf with ⟨v, rfl⟩ | ⟨d, v, rfl⟩
    · exact ⟨h, hput a v rfl⟩
    · exact ⟨h, hput _ v rfl⟩
  · rintro listed a w ⟨h1, h2, h3⟩ hz hall
    have hdf := hI _ _ _ h1
    have ht := over_eq h2 ds h3
    obtain ⟨tm, df⟩ := a
    have hdf : df = [] := hdf
    subst hdf
    have ht : tm = over t0 (fun d => tm.getD d undef) ds := ht
    generalize (fun d => tm.getD d undef) = u at ht
    subst ht
    exact hd listed u w h1 hall
theorem wpOp_at {P : Program} {ops : Array Oper} {Q : Exit → Act → World → Prop} {i : Nat} {o : Oper} {K : Act → World → Prop} {a : Act} {w : World} (ho : ops[i]? = some o) (hg : o.guard = none) (h : o.wp P a w K Q) : wpOp P ops Q i K a w := by
  unfold wpOp
  rw [ho]
  show (if Region.wanted o _ then _ else _)
  rw [if_pos (by unfold Region.wanted; rw [hg])]
  exact .inl h
/-- an operation that gives a value -/
theorem wp_value {P : Program} {Q : Exit → Act → World → Prop} {o : Oper} {K : Act → World → Prop} {a : Act} {w : World} {v : Value} (d : Nat) (hd : o.dst = some d) (hr : (execOp a.eval o).run P w = .ok (.value v) w) (h : K (a.put (some d) v) w) : o.wp P a w K Q := by
  unfold Oper.wp
  rw [hr]
  rw [← hd] at h
  exact h
theorem wp_value2 {P : Program} {Q : Exit → Act → World → Prop} {o : Oper} {K : Act → World → Prop} {a : Act} {w w2 : World} {v : Value} (d : Nat) (hd : o.dst = some d) (hr : (execOp a.eval o).run P w = .ok (.value v) w2) (h : K (a.put (some d) v) w2) : o.wp P a w K Q := by
  unfold Oper.wp
  rw [hr]
  rw [← hd] at h
  exact h
theorem at_true {l : Array Bool} {i : Nat} (h : l.getD i false = true) : l[i]? = some true := by
  rw [Array.getD_eq_getD_getElem?] at h
  cases e : l[i]? with
  | none => rw [e] at h; cases h
  | some b => rw [e] at h; simpa using h
theorem put_same {a : Act} {d : Nat} (h : d < a.tmps.size) (v : Value) : (a.put (some d) v).eval (.tmp d) = v := by
  unfold Act.put Act.eval
  simp [h]
theorem put_ne {a : Act} {d k : Nat} (h : d ≠ k) (v : Value) : (a.put (some d) v).eval (.tmp k) = a.eval (.tmp k) := by
  unfold Act.put Act.eval
  simp [h]
theorem put_size {a : Act} {d : Option Nat} (v : Value) : (a.put d v).tmps.size = a.tmps.size := by cases d <;> simp [Act.put]
theorem put_defers {a : Act} {d : Option Nat} (v : Value) : (a.put d v).defers = a.defers := by cases d <;> rfl
theorem set_at {l : Array Bool} {i j : Nat} (h : i ≠ j) : (l.setIfInBounds i true)[j]? = l[j]? := by rw [Array.getElem?_setIfInBounds_ne h]
end Go.Proofs.YtknhoagicdfikaaGreatDoor
