/-
  What a drawn region by an invariant wants, apart from the checkers' texts. A region that draws its order, what each operation gives being told by a relation: calls may give what hangs on the order, guards are told ahead.
-/
import Derived.Test.YtfkbdpehdabepaaGreatDoorM2
import Derived.Deep.RegionLaw
namespace Go.Proofs.YtfkbdpehdabepaaGreatDoor
open Go.RowKit
namespace Rg
/-- a call that comes back -/
theorem wp_calls {P : Program} {Q : Exit → Act → World → Prop} {o : Oper} {K : Act → World → Prop} {a : Act} {w : World} (d : Nat) (hd : o.dst = some d) {f : FuncId} {args : Array Value} {C : Ending → World → Prop} (hr : (execOp a.eval o).run P w = .ok (.enter f args) w) (hc : Calls P f args w C) (h : ∀ e w', C e w' → ∃ v, e = .returned v ∧ K (a.put (some d) v) w') : o.wp P a w K Q := by
  unfold Oper.wp
  rw [hr]
  refine hc.mono fun e w' hC => ?_
  obtain ⟨v, rfl, hq⟩ := h e w' hC
  rw [← hd] at hq
  exact hq
/-- an operation that writes -/
theorem wp_store {P : Program} {Q : Exit → Act → World → Prop} {o : Oper} {K : Act → World → Prop} {a : Act} {w w2 : World} (hd : o.dst = none) (hr : (execOp a.eval o).run P w = .ok .skip w2) (h : K a w2) : o.wp P a w K Q := by
  unfold Oper.wp
  rw [hr]
  show K (a.put o.dst undef) w2
  rw [hd]
  exact h
theorem hpv {o : Oper} {l : Array Bool} (hp : ∀ e ∈ o.after, Region.binds .any e = true → l.getD e.on false = true) (d : Nat) (h : ⟨d, .data⟩ ∈ o.after) : l[d]? = some true := at_true (hp ⟨d, .data⟩ h rfl)
theorem set_keep {l : Array Bool} {i j : Nat} (h : l[j]? = some true) : (l.setIfInBounds i true)[j]? = some true := by
  rw [Array.getElem?_setIfInBounds]
  split
  · subst_vars
    split
    · rfl
    · rename_i q
      rw [Array.getElem?_eq_none (by omega)] at h; cases h
  · exact h
theorem over_at {t : Array Value} {u : Nat → Value} {n : Nat} {ds : List Nat} {d : Nat} (hd : d ∈ ds) (hz : (over t u ds).size = n) (hlt : d < n) : Act.eval { tmps := over t u ds, defers := [] } (.tmp d) = u d := by
  have hz : t.size = n := by rw [← hz, over_size]
  have key : ∀ ds : List Nat, d ∈ ds → (over t u ds)[d]? = some (u d) := by
    intro ds hd
    induction ds with
    | nil => cases hd
    | cons e ds ih =>
      simp only [over]
      rw [Array.getElem?_setIfInBounds]
      by_cases h : e = d
      · subst h
        rw [if_pos rfl, if_pos (by rw [over_size]; omega)]
      · rw [if_neg h]
        rcases List.mem_cons.1 hd with q | q
        · exact absurd q.symm h
        · exact ih q
  show (over t u ds).getD d undef = u d
  rw [Array.getD_eq_getD_getElem?, key ds hd]
  rfl
/-- region_inv_end, the frame under a name -/
theorem region_inv_end2 {P : Program} {id : Nat} {ops : Array Oper} {Q : Exit → Act → World → Prop} {t0 : Array Value} {w : World} (n : Nat) (hn : t0.size = n) (ds : List Nat) (hm : P.follows .mixedOrders = true) (hl : lexOk ops = true)
    (hds : (ops.toList.all fun o => match o.dst with | some d => ds.contains d | none => true) = true) (I : Array Bool → Act → World → Prop) (hI : ∀ l a w, I l a w → a.defers = [])
    (h0 : I (Array.replicate ops.size false) { tmps := t0, defers := [] } w.drew)
    (hs : ∀ (listed : Array Bool) (a : Act) (w : World) (i : Nat) (o : Oper), I listed a w → listed.size = ops.size → a.tmps.size = t0.size → ops[i]? = some o → listed[i]? = some false → (∀ e ∈ o.after, Region.binds .any e = true → listed.getD e.on false = true) → wpOp P ops Q i (fun a' w' => I (listed.setIfInBounds i true) a' w') a w)
    (hd : ∀ (listed : Array Bool) (u : Nat → Value) (w : World) (t : Array Value), t = over t0 u ds → (∀ d, d ∈ ds → d < n → Act.eval { tmps := t, defers := [] } (.tmp d) = u d) → I listed { tmps := t, defers := [] } w → (∀ i, i < ops.size → listed[i]? = some true) → Q .normal { tmps := t, defers := [] } w) : (Code.region id ops true).wp P Q { tmps := t0, defers := [] } w :=
  region_inv_end ds hm hl hds I hI h0 hs fun l u w h hall => hd l u w _ rfl (fun _ hdd hlt => over_at hdd (by rw [over_size]; exact hn) hlt) h hall
theorem set_self_false {l : Array Bool} {i : Nat} (h : (l.setIfInBounds i true)[i]? = some false) : False := by
  rw [Array.getElem?_setIfInBounds] at h
  split at h
  · split at h <;> cases h
  · rename_i q; exact q rfl
theorem pn {a : Act} {d k : Nat} {v x : Value} (q : a.eval (.tmp k) = x) (h : d ≠ k := by decide) : (a.put (some d) v).eval (.tmp k) = x := by rw [put_ne h]; exact q
theorem pd {a : Act} {d : Option Nat} {v : Value} (h : a.defers = []) : (a.put d v).defers = [] := by rw [put_defers]; exact h
theorem ps {a : Act} {d : Option Nat} {v : Value} {n : Nat} (h : a.tmps.size = n) : (a.put d v).tmps.size = n := by rw [put_size]; exact h
theorem pS {a : Act} {d : Nat} {v : Value} {n : Nat} (h : a.tmps.size = n) (hd : d < n := by decide) : (a.put (some d) v).eval (.tmp d) = v := put_same (by rw [h]; exact hd) v
theorem kF {l : Array Bool} {i j : Nat} {A B : Prop} (y : l[j]? = some true → A) (f : A → B) (h : i ≠ j := by decide) : (l.setIfInBounds i true)[j]? = some true → B := fun hj => f (y (by rwa [set_at h] at hj))
theorem kU {l : Array Bool} {i j : Nat} {A B : Prop} (y : l[j]? = some false → A) (f : A → B) (h : i ≠ j := by decide) : (l.setIfInBounds i true)[j]? = some false → B := fun hj => f (y (by rwa [set_at h] at hj))
theorem evc (a : Act) : (∀ v, a.eval (.const v) = v) ∧ ∀ f, a.eval (.func f) = .func (.func f) #[] #[] := ⟨fun _ => rfl, fun _ => rfl⟩
theorem FH {i n : Nat} {P : Prop} (h : (Array.replicate n false)[i]? = some true) : P := by
  rw [Array.getElem?_replicate] at h
  split at h <;> cases h
theorem SI {α : Type} {a b : α} (h : some a = some b) : a = b := Option.some.inj h
theorem no_yet {l : Array Bool} {i j : Nat} (hS : l[j]? = some false) (q : (l.setIfInBounds i true)[j]? = some true) (h : i ≠ j := by decide) : False := by rw [set_at h, hS] at q; cases q
theorem no_false {l : Array Bool} {j : Nat} (h : l[j]? = some true) (q : l[j]? = some false) : False := by rw [h] at q; cases q
theorem wpOp_at' {P : Program} {ops : Array Oper} {Q : Exit → Act → World → Prop} {i : Nat} {o : Oper} {K : Act → World → Prop} {a : Act} {w : World} {v : Value} (ho : ops[i]? = some o) (d : Nat) (h : K (a.put (some d) v) w) (hr : (execOp a.eval o).run P w = .ok (.value v) w) (hg : o.guard = none := by exact rfl) (hd : o.dst = some d := by exact rfl) : wpOp P ops Q i K a w := wpOp_at ho hg (wp_value d hd hr h)
theorem wpOp_call {P : Program} {ops : Array Oper} {Q : Exit → Act → World → Prop} {i : Nat} {o : Oper} {K : Act → World → Prop} {a : Act} {w : World} {f : FuncId} {args : Array Value} {C : Ending → World → Prop} (ho : ops[i]? = some o) (d : Nat) (hc : Calls P f args w C) (h : ∀ e w', C e w' → ∃ v, e = .returned v ∧ K (a.put (some d) v) w') (hr : (execOp a.eval o).run P w = .ok (.enter f args) w) (hg : o.guard = none := by exact rfl) (hd : o.dst = some d := by exact rfl) : wpOp P ops Q i K a w := wpOp_at ho hg (wp_calls d hd hr hc h)
theorem wpOp_store {P : Program} {ops : Array Oper} {Q : Exit → Act → World → Prop} {i : Nat} {o : Oper} {K : Act → World → Prop} {a : Act} {w w2 : World} (ho : ops[i]? = some o) (h : K a w2) (hr : (execOp a.eval o).run P w = .ok .skip w2) (hg : o.guard = none := by exact rfl) (hd : o.dst = none := by exact rfl) : wpOp P ops Q i K a w := wpOp_at ho hg (wp_store hd hr h)
theorem nf {l : Array Bool} {i s : Nat} (h : s < l.size) (y : l[s]? = some true → l[i]? = some true) (hi : l[i]? = some false) : l[s]? = some false := by
  cases e : l[s]? with
  | none => rw [Array.getElem?_eq_none_iff] at e; omega
  | some b =>
    cases b with
    | false => rfl
    | true => rw [y e] at hi; cases hi
end Rg
end Go.Proofs.YtfkbdpehdabepaaGreatDoor
namespace Go.Proofs.YtfkbdpehdabepaaGreatDoor
open Go.RowKit
namespace Rg
/-- what is told of an operation's value: what it is, or what holds of it, in every later world too -/
inductive Gd where
  | is (c : Value)
  | sp (P : Value → World → Prop)
def G (L : List Gd) (i : Nat) (v : Value) (w : World) : Prop := match L[i]? with
  | some (.is c) => v = c
  | some (.sp P) => P v w
  | none => True
def Mono (L : List Gd) : Prop := ∀ P, Gd.sp P ∈ L → ∀ (v : Value) (w w' : World), P v w → Below w.heap.size w w' → P v w'
theorem G.mono {L : List Gd} (hm : Mono L) {i : Nat} {v : Value} {w w' : World} (h : G L i v w) (hb : Below w.heap.size w w') : G L i v w' := by
  unfold G at h ⊢
  cases e : L[i]? with
  | none => trivial
  | some g =>
    rw [e] at h
    cases g with
    | is c => exact h
    | sp P => exact hm P (List.mem_of_getElem? e) v w w' h hb
/-- the operations' slots, each another one -/
def dstOk (ops : Array Oper) (ds : List Nat) (n : Nat) : Bool := (ops.toList.map (·.dst)) == ds.map some && decide ds.Nodup && ds.all (decide <| · < n)
def Step (L : List Gd) (i : Nat) (o : Oper) (a : Act) (u : World) (a' : Act) (u' : World) : Prop := ∃ v, a' = a.put o.dst v ∧ G L i v u' ∧ Below u.heap.size u u'
structure Fx (n : Nat) (fx : List (Nat × Value)) (a : Act) : Prop where
  df : a.defers = []
  sz : a.tmps.size = n
  fx : ∀ s v, (s, v) ∈ fx → a.eval (.tmp s) = v
theorem region_rel {P : Program} {id : Nat} {ops : Array Oper} {Q : Exit → Act → World → Prop} {t0 : Array Value} {w : World} (n : Nat) (hn : t0.size = n) (ds : List Nat) (fx : List (Nat × Value)) (L : List Gd) (hm : P.follows .mixedOrders = true) (hl : lexOk ops = true) (hok : dstOk ops ds n = true) (hfx : (fx.all fun x => !ds.contains x.1) = true)
    (hmono : Mono L) (h0 : ∀ s v, (s, v) ∈ fx → Act.eval { tmps := t0, defers := [] } (.tmp s) = v)
    (hs : ∀ (i : Nat) (o : Oper) (a : Act) (u : World), ops[i]? = some o → Fx n fx a → Below w.heap.size w u → (∀ e ∈ o.after, Region.binds .any e = true → ∀ o' d, ops[e.on]? = some o' → o'.dst = some d → G L e.on (a.eval (.tmp d)) u) →
      (Region.wanted o (yielded ops a.tmps) = true ∧ o.wp P a u (Step L i o a u) Q) ∨ (Region.wanted o (yielded ops a.tmps) = false ∧ G L i undef u))
    (hd : ∀ (u : Nat → Value) (w' : World) (t : Array Value), t = over t0 u ds → Below w.heap.size w w' → (∀ i o d, ops[i]? = some o → o.dst = some d → G L i (u d) w') → Q .normal { tmps := t, defers := [] } w') : (Code.region id ops true).wp P Q { tmps := t0, defers := [] } w := by
  unfold dstOk at hok
  simp only [Bool.and_eq_true, beq_iff_eq, decide_eq_true_eq, List.all_eq_true] at hok
  obtain ⟨⟨hds, hnd⟩, hlt⟩ := hok
  have hdst : ∀ (i : Nat) (o : Oper), ops[i]? = some o → ∃ d, o.dst = some d ∧ ds[i]? = some d := fun i o ho => by
    have h1 : (ops.toList.map (·.dst))[i]? = some o.dst := by rw [List.getElem?_map, Array.getElem?_toList, ho]; rfl
    rw [hds, List.getElem?_map] at h1
    cases e : ds[i]? with
    | none => rw [e] at h1; cases h1
    | some d => rw [e] at h1; exact ⟨d, by injection h1 with h1; exact h1.symm, rfl⟩
  have hne : ∀ {i j : Nat} {d d' : Nat}, ds[i]? = some d → ds[j]? = some d' → i ≠ j → d ≠ d' := fun {i j d d'} h1 h2 hij e => by
    subst e
    obtain ⟨l1, e1⟩ := List.getElem?_eq_some_iff.mp h1
    obtain ⟨l2, e2⟩ := List.getElem?_eq_some_iff.mp h2
    have hpw := List.pairwise_iff_getElem.mp hnd
    rcases Nat.lt_or_gt_of_ne hij with q | q
    · exact hpw i j l1 l2 q (e1.trans e2.symm)
    · exact hpw j i l2 l1 q (e2.trans e1.symm)
  refine region_inv_end2 n hn ds hm hl ?_ (fun listed a u => Fx n fx a ∧ Below w.heap.size w u ∧ ∀ i o d, listed[i]? = some true → ops[i]? = some o → o.dst = some d → G L i (a.eval (.tmp d)) u) (fun _ _ _ h => h.1.df) ⟨⟨rfl, hn, h0⟩, (Below.refl _ _).drew, fun i o d hi => FH hi⟩ ?_ ?_
  · rw [List.all_eq_true]
    intro o ho
    obtain ⟨i, hi⟩ := List.getElem?_of_mem ho
    obtain ⟨d, e1, e2⟩ := hdst i o (by rw [← Array.getElem?_toList]; exact hi)
    rw [e1]
    simpa using List.mem_of_getElem? e2
  · intro listed a u i o ⟨hF, hb, hG⟩ hz hsz ho hi hp
    have hdep : ∀ e ∈ o.after, Region.binds .any e = true → ∀ o' d, ops[e.on]? = some o' → o'.dst = some d → G L e.on (a.eval (.tmp d)) u := fun e he hbd o' d h1 h2 => hG _ _ _ (at_true (hp e he hbd)) h1 h2
    obtain ⟨d, hod, hid⟩ := hdst i o ho
    have hdn : d < n := by simpa using hlt d (List.mem_of_getElem? hid)
    have key : ∀ (v : Value) (u' : World), G L i v u' → Below u.heap.size u u' → (Fx n fx (a.put o.dst v) ∧ Below w.heap.size w u' ∧ ∀ j o' d', (listed.setIfInBounds i true)[j]? = some true → ops[j]? = some o' → o'.dst = some d' → G L j ((a.put o.dst v).eval (.tmp d')) u') := fun v u' hv hbu => by
      rw [hod]
      refine ⟨⟨pd hF.df, ps hF.sz, fun s x hx => ?_⟩, hb.trans (hbu.mono hb.size), fun j o' d' hj hoj hdj => ?_⟩
      · have h1 := List.all_eq_true.mp hfx _ hx
        simp only [Bool.not_eq_true', List.contains_eq_mem, decide_eq_false_iff_not] at h1
        exact pn (hF.fx s x hx) (fun e => h1 (e ▸ List.mem_of_getElem? hid))
      · by_cases hij : i = j
        · subst hij
          rw [ho] at hoj
          injection hoj with hoj
          subst hoj
          rw [hod] at hdj
          injection hdj with hdj
          subst hdj
          rw [put_same (by rw [hF.sz]; exact hdn)]
          exact hv
        · rw [set_at hij] at hj
          obtain ⟨d2, hd2, hid2⟩ := hdst j o' hoj
          rw [hd2] at hdj
          injection hdj with hdj
          subst hdj
          rw [put_ne (hne hid hid2 hij)]
          exact (hG j o' d2 hj hoj hd2).mono hmono hbu
    unfold wpOp
    rw [ho]
    rcases hs i o a u ho hF hb hdep with ⟨hw, hwp⟩ | ⟨hw, hg⟩
    · show (if _ then _ else _)
      rw [if_pos hw]
      exact .inl (Oper.wp_mono (fun a' u' h => by
        obtain ⟨v, rfl, h1, h2⟩ := h
        exact key v u' h1 h2) hwp)
    · show (if _ then _ else _)
      rw [if_neg (by rw [hw]; decide)]
      exact key undef u hg (Below.refl _ _)
  · intro listed u w' t ht hu ⟨hF, hb, hG⟩ hall
    refine hd u w' t ht hb fun i o d ho hod => ?_
    have hi : i < ops.size := by
      rcases Nat.lt_or_ge i ops.size with q | q
      · exact q
      · rw [Array.getElem?_eq_none q] at ho; cases ho
    have := hG i o d (hall i hi) ho hod
    obtain ⟨d2, hd2, hid2⟩ := hdst i o ho
    rw [hod] at hd2
    injection hd2 with hd2
    subst hd2
    rwa [hu d (List.mem_of_getElem? hid2) (by simpa using hlt d (List.mem_of_getElem? hid2))] at this
theorem want_none {o : Oper} {ops : Array Oper} {t : Array Value} (hg : o.guard = none) : Region.wanted o (yielded ops t) = true := by unfold Region.wanted; rw [hg]
theorem want_at {o oj : Oper} {ops : Array Oper} {a : Act} {j s n : Nat} {b : Bool} (hg : o.guard = some (j, b)) (hj : ops[j]? = some oj) (hd : oj.dst = some s) (hsz : a.tmps.size = n) (hs : s < n) (he : a.eval (.tmp s) = .bool b) : Region.wanted o (yielded ops a.tmps) = true := by
  have h1 : a.tmps[s]? = some (.bool b) := by
    have : a.tmps.getD s undef = .bool b := he
    rw [Array.getD_eq_getD_getElem?, Array.getElem?_eq_getElem (by omega)] at this
    rw [Array.getElem?_eq_getElem (by omega)]
    exact congrArg some this
  unfold Region.wanted yielded
  rw [hg]
  simp [hj, hd, h1]
theorem want_not {o oj : Oper} {ops : Array Oper} {a : Act} {j s n : Nat} {b : Bool} (hg : o.guard = some (j, b)) (hj : ops[j]? = some oj) (hd : oj.dst = some s) (hsz : a.tmps.size = n) (hs : s < n) (he : a.eval (.tmp s) = .bool (!b)) : Region.wanted o (yielded ops a.tmps) = false := by
  have h1 : a.tmps[s]? = some (.bool (!b)) := by
    have : a.tmps.getD s undef = .bool (!b) := he
    rw [Array.getD_eq_getD_getElem?, Array.getElem?_eq_getElem (by omega)] at this
    rw [Array.getElem?_eq_getElem (by omega)]
    exact congrArg some this
  unfold Region.wanted yielded
  rw [hg]
  cases b <;> simp [hj, hd, h1]
theorem want_undef {o oj : Oper} {ops : Array Oper} {a : Act} {j s n : Nat} {b : Bool} (hg : o.guard = some (j, b)) (hj : ops[j]? = some oj) (hd : oj.dst = some s) (hsz : a.tmps.size = n) (hs : s < n) (he : a.eval (.tmp s) = undef) : Region.wanted o (yielded ops a.tmps) = false := by
  have h1 : a.tmps[s]? = some undef := by
    have : a.tmps.getD s undef = undef := he
    rw [Array.getD_eq_getD_getElem?, Array.getElem?_eq_getElem (by omega)] at this
    rw [Array.getElem?_eq_getElem (by omega)]
    exact congrArg some this
  unfold Region.wanted yielded
  rw [hg]
  simp [hj, hd, h1, undef]
/-- a value -/
theorem rel_val {P : Program} {Q : Exit → Act → World → Prop} {L : List Gd} {i : Nat} {o : Oper} {a : Act} {u : World} {v : Value} (d : Nat) (hd : o.dst = some d) (hg : G L i v u) (hr : (execOp a.eval o).run P u = .ok (.value v) u) : o.wp P a u (Step L i o a u) Q :=
  wp_value d hd hr (by rw [← hd]; exact ⟨v, rfl, hg, Below.refl _ _⟩)
/-- a value in new memory -/
theorem rel_new {P : Program} {Q : Exit → Act → World → Prop} {L : List Gd} {i : Nat} {o : Oper} {a : Act} {u u' : World} {v : Value} (d : Nat) (hd : o.dst = some d) (hg : G L i v u') (hb : Below u.heap.size u u') (hr : (execOp a.eval o).run P u = .ok (.value v) u') : o.wp P a u (Step L i o a u) Q :=
  wp_value2 d hd hr (by rw [← hd]; exact ⟨v, rfl, hg, hb⟩)
/-- a call -/
theorem rel_call {P : Program} {Q : Exit → Act → World → Prop} {L : List Gd} {i : Nat} {o : Oper} {a : Act} {u : World} {f : FuncId} {args : Array Value} {C : Ending → World → Prop} (d : Nat) (hd : o.dst = some d) (hc : Calls P f args u C) (h : ∀ e w', C e w' → ∃ v, e = .returned v ∧ G L i v w' ∧ Below u.heap.size u w') (hr : (execOp a.eval o).run P u = .ok (.enter f args) u) : o.wp P a u (Step L i o a u) Q :=
  wp_calls d hd hr hc fun e w' hC => by
    obtain ⟨v, h1, h2, h3⟩ := h e w' hC
    exact ⟨v, h1, by rw [← hd]; exact ⟨v, rfl, h2, h3⟩⟩
end Rg
end Go.Proofs.YtfkbdpehdabepaaGreatDoor
