/-
  A region that draws its order, by what stays true: one obligation an operation, whatever the order.
-/
import Derived.Test.YtmcmdlaedpdoiaaGreatDoorM2
import Derived.Orders
namespace Go.Proofs.YtmcmdlaedpdoiaaGreatDoor
open Go.RowKit
/-- each edge that binds goes back in the text -/
def lexOk (ops : Array Oper) : Bool := (List.range ops.size).all fun i => match ops[i]? with
  | some o => o.after.all fun e => !Region.binds .any e || decide (e.on < i)
  | none => true
theorem lexOk_of {ops : Array Oper} (h : lexOk ops = true) {i : Nat} {o : Oper} (ho : ops[i]? = some o) : ∀ e ∈ o.after, Region.binds .any e = true → e.on < i := by
  intro e he hb
  have hi : i < ops.size := by
    rcases Nat.lt_or_ge i ops.size with q | q
    · exact q
    · rw [Array.getElem?_eq_none q] at ho; cases ho
  have h1 := List.all_eq_true.1 h i (List.mem_range.2 hi)
  rw [ho] at h1
  have h2 := Array.all_eq_true_iff_forall_mem.1 h1 e he
  rw [hb] at h2
  simpa using h2
theorem ready_of {ops : Array Oper} {listed : Array Bool} {i : Nat} : i ∈ Region.ready .any ops listed ↔ i < ops.size ∧ listed.getD i true = false ∧ ∃ o, ops[i]? = some o ∧ ∀ e ∈ o.after, Region.binds .any e = true → listed.getD e.on false = true := by
  unfold Region.ready
  rw [List.mem_filter, List.mem_range, Bool.and_eq_true, Bool.not_eq_true']
  constructor
  · rintro ⟨h1, h2, h3⟩
    refine ⟨h1, h2, ops[i], Array.getElem?_eq_getElem h1, fun e he hb => ?_⟩
    rw [Array.getElem?_eq_getElem h1] at h3
    have h4 := Array.all_eq_true_iff_forall_mem.1 (show (ops[i].after.all fun e => !Region.binds .any e || listed.getD e.on false) = true from h3) e he
    rw [hb] at h4
    simpa using h4
  · rintro ⟨h1, h2, o, ho, h3⟩
    refine ⟨h1, h2, ?_⟩
    rw [ho]
    show (o.after.all fun e => !Region.binds .any e || listed.getD e.on false) = true
    refine Array.all_eq_true_iff_forall_mem.2 fun e he => ?_
    cases hb : Region.binds .any e
    · rfl
    · rw [h3 e he hb]; rfl
/-- where one has not come up, one may -/
theorem ready_some {ops : Array Oper} (hl : lexOk ops = true) {listed : Array Bool} (hz : listed.size = ops.size) : ∀ (K i : Nat), i < K → listed[i]? = some false → ∃ j, j ∈ Region.ready .any ops listed
  | 0, _, h, _ => absurd h (Nat.not_lt_zero _)
  | K + 1, i, hK, hi => by
    have hlt : i < ops.size := by
      rw [← hz]
      rcases Nat.lt_or_ge i listed.size with q | q
      · exact q
      · rw [Array.getElem?_eq_none q] at hi; cases hi
    by_cases h : ∃ e ∈ (ops[i]).after, Region.binds .any e = true ∧ listed.getD e.on false = false
    · obtain ⟨e, he, hb, hf⟩ := h
      have hj := lexOk_of hl (Array.getElem?_eq_getElem hlt) e he hb
      have hj2 : listed[e.on]? = some false := by
        have : e.on < listed.size := by omega
        rw [Array.getElem?_eq_getElem this]
        rw [Array.getD_eq_getD_getElem?, Array.getElem?_eq_getElem this] at hf
        simpa using hf
      exact ready_some hl hz K e.on (by omega) hj2
    · refine ⟨i, ready_of.2 ⟨hlt, ?_, _, Array.getElem?_eq_getElem hlt, fun e he hb => ?_⟩⟩
      · rw [Array.getD_eq_getD_getElem?, hi]; rfl
      · cases hf : listed.getD e.on false
        · exact absurd ⟨e, he, hb, hf⟩ h
        · rfl
/-- how many have not come up -/
def left (listed : Array Bool) : Nat := (listed.toList.filter (!·)).length
theorem left_set : ∀ (l : List Bool) (i : Nat), l[i]? = some false → ((l.set i true).filter (!·)).length + 1 = (l.filter (!·)).length
  | [], _, h => by simp at h
  | b :: l, 0, h => by
    simp at h; subst h; simp
  | b :: l, i + 1, h => by
    rw [List.getElem?_cons_succ] at h
    have := left_set l i h
    cases b <;> simp [List.set_cons_succ] <;> omega
theorem wpAny_inv {P : Program} {ops : Array Oper} {Q : Exit → Act → World → Prop} (hl : lexOk ops = true) (I : Array Bool → Act → World → Prop)
    (hs : ∀ (listed : Array Bool) (a : Act) (w : World) (i : Nat) (o : Oper), I listed a w → listed.size = ops.size → ops[i]? = some o → listed[i]? = some false → (∀ e ∈ o.after, Region.binds .any e = true → listed.getD e.on false = true) → wpOp P ops Q i (fun a' w' => I (listed.setIfInBounds i true) a' w') a w)
    (hd : ∀ (listed : Array Bool) (a : Act) (w : World), I listed a w → listed.size = ops.size → (∀ i, i < ops.size → listed[i]? = some true) → Q .normal a w) :
    ∀ (fuel : Nat) (listed : Array Bool) (a : Act) (w : World), left listed = fuel → listed.size = ops.size → I listed a w → wpAny P .any ops Q fuel listed a w := by
  have fin : ∀ (listed : Array Bool) (a : Act) (w : World), listed.size = ops.size → I listed a w → Region.ready .any ops listed = [] → Q .normal a w := fun listed a w hz hI hr => by
    refine hd listed a w hI hz fun i hi => ?_
    have h1 : i < listed.size := by omega
    rw [Array.getElem?_eq_getElem h1]
    cases hb : listed[i] with
    | true => rfl
    | false =>
      obtain ⟨j, hj⟩ := ready_some hl hz (i + 1) i (Nat.lt_succ_self _) (by rw [Array.getElem?_eq_getElem h1, hb])
      rw [hr] at hj; cases hj
  intro fuel
  induction fuel with
  | zero =>
    intro listed a w hf hz hI
    have hr : Region.ready .any ops listed = [] := by
      rcases hq : Region.ready .any ops listed with _ | ⟨i, r⟩
      · rfl
      · have hi : i ∈ Region.ready .any ops listed := by rw [hq]; exact List.mem_cons_self
        obtain ⟨h1, h2, -⟩ := ready_of.1 hi
        have h3 : i < listed.size := by omega
        rw [Array.getD_eq_getD_getElem?, Array.getElem?_eq_getElem h3] at h2
        have h4 : listed.toList[i]? = some false := by rw [Array.getElem?_toList, Array.getElem?_eq_getElem h3]; simpa using h2
        have := left_set listed.toList i h4
        unfold left at hf
        omega
    exact ⟨hr, fin listed a w hz hI hr⟩
  | succ fuel ih =>
    intro listed a w hf hz hI
    refine ⟨fin listed a w hz hI, fun i hi => ?_⟩
    obtain ⟨h1, h2, o, ho, h5⟩ := ready_of.1 hi
    have h3 : i < listed.size := by omega
    have h4 : listed[i]? = some false := by
      rw [Array.getD_eq_getD_getElem?, Array.getElem?_eq_getElem h3] at h2
      rw [Array.getElem?_eq_getElem h3]; simpa using h2
    refine wpOp_mono (fun a' w' h => ih _ a' w' ?_ (by simp [hz]) h) (hs listed a w i o hI hz ho h4 h5)
    have := left_set listed.toList i (by rw [Array.getElem?_toList]; exact h4)
    unfold left at hf ⊢
    rw [Array.toList_setIfInBounds]
    omega
/-- a region that draws its order -/
theorem region_inv {P : Program} {id : Nat} {ops : Array Oper} {Q : Exit → Act → World → Prop} {a : Act} {w : World} (hm : P.follows .mixedOrders = true) (hl : lexOk ops = true) (I : Array Bool → Act → World → Prop)
    (h0 : I (Array.replicate ops.size false) a w.drew)
    (hs : ∀ (listed : Array Bool) (a : Act) (w : World) (i : Nat) (o : Oper), I listed a w → listed.size = ops.size → ops[i]? = some o → listed[i]? = some false → (∀ e ∈ o.after, Region.binds .any e = true → listed.getD e.on false = true) → wpOp P ops Q i (fun a' w' => I (listed.setIfInBounds i true) a' w') a w)
    (hd : ∀ (listed : Array Bool) (a : Act) (w : World), I listed a w → listed.size = ops.size → (∀ i, i < ops.size → listed[i]? = some true) → Q .normal a w) : (Code.region id ops true).wp P Q a w := by
  refine wp_region_any hm (wpAny_inv hl I hs hd _ _ a _ ?_ (by simp) h0)
  unfold left
  rw [Array.toList_replicate, List.filter_replicate]
  simp
/-- an operation writes its own slot alone -/
theorem wpOp_own {P : Program} {ops : Array Oper} {Q : Exit → Act → World → Prop} {i : Nat} {o : Oper} {K : Act → World → Prop} {a : Act} {w : World} (ho : ops[i]? = some o) (h : wpOp P ops Q i K a w) :
    wpOp P ops Q i (fun a' w' => K a' w' ∧ ((∃ v, a' = a.put o.dst v) ∨ ∃ d v, a' = ({ a with defers := d :: a.defers } : Act).put o.dst v)) a w := by
  unfold wpOp at h ⊢
  rw [ho] at h ⊢
  dsimp only at h ⊢
  split
  · rename_i hw
    rw [if_pos hw] at h
    rcases h with h | h
    · refine .inl ?_
      unfold Oper.wp at h ⊢
      generalize (execOp a.eval o).run P w = r at *
      cases r with
      | ok n w' =>
        cases n <;> simp only [Oper.upon] at h ⊢
        case value u => exact ⟨h, .inl ⟨_, rfl⟩⟩
        case skip => exact ⟨h, .inl ⟨_, rfl⟩⟩
        case defer d => exact ⟨h, .inr ⟨_, _, rfl⟩⟩
        case enter f args =>
          refine Calls.mono h fun e w'' he => ?_
          cases e with
          | returned u => exact ⟨he, .inl ⟨_, rfl⟩⟩
          | panicked c => exact he
          | outgrown => exact he
        case row row args => exact Rows.mono h fun u w'' he => ⟨he, .inl ⟨_, rfl⟩⟩
      | halt x w' =>
        cases x <;> simp only [Oper.upon] at h ⊢
        case panic u => exact h
    · exact .inr h
  · rename_i hw
    rw [if_neg hw] at h
    exact ⟨h, .inl ⟨_, rfl⟩⟩
/-- the slots of a list, written over -/
def over (t : Array Value) (u : Nat → Value) : List Nat → Array Value
  | [] => t
  | d :: ds => (over t u ds).setIfInBounds d (u d)
theorem over_size (t : Array Value) (u : Nat → Value) : ∀ ds, (over t u ds).size = t.size
  | [] => rfl
  | d :: ds => by simp [over, over_size t u ds]
theorem over_eq {t t' : Array Value} (hz : t'.size = t.size) : ∀ (ds : List Nat), (∀ k, k ∉ ds → t'[k]? = t[k]?) → t' = over t (fun d => t'.getD d undef) ds
  | ds, h => by
    refine Array.ext_getElem? fun k => ?_
    have key : ∀ ds' : List Nat, (over t (fun d => t'.getD d undef) ds')[k]? = if k ∈ ds' then t'[k]? else t[k]? := by
      intro ds'
      induction ds' with
      | nil => simp [over]
      | cons d ds' ih =>
        simp only [over]
        rw [Array.getElem?_setIfInBounds]
        by_cases hd : d = k
        · subst hd
          rw [if_pos rfl, if_pos List.mem_cons_self]
          by_cases hlt : d < (over t (fun d => t'.getD d undef) ds').size
          · rw [if_pos hlt]
            have h1 : d < t'.size := by rw [over_size] at hlt; omega
            rw [Array.getD_eq_getD_getElem?, Array.getElem?_eq_getElem h1]; rfl
          · rw [if_neg hlt]
            have h1 : ¬ d < t'.size := by rw [over_size] at hlt; omega
            rw [Array.getElem?_eq_none (by omega)]
        · rw [if_neg hd, ih]
          have : (k ∈ d :: ds') ↔ k ∈ ds' := by simp [List.mem_cons, Ne.symm hd]
          by_cases hm : k ∈ ds'
          · rw [if_pos hm, if_pos (this.2 hm)]
          · rw [if_neg hm, if_neg (fun q => hm (this.1 q))]
    rw [key]
    by_cases hm : k ∈ ds
    · rw [if_pos hm]
    · rw [if_neg hm]; exact h k hm
/-- a region that draws its order, and comes to its end: the frame is written out -/
theorem region_inv_end {P : Program} {id : Nat} {ops : Array Oper} {Q : Exit → Act → World → Prop} {t0 : Array Value} {w : World} (ds : List Nat) (hm : P.follows .mixedOrders = true) (hl : lexOk ops = true)
    (hds : (ops.toList.all fun o => match o.dst with | some d => ds.contains d | none => true) = true) (I : Array Bool → Act → World → Prop) (hI : ∀ l a w, I l a w → a.defers = [])
    (h0 : I (Array.replicate ops.size false) { tmps := t0, defers := [] } w.drew)
    (hs : ∀ (listed : Array Bool) (a : Act) (w : World) (i : Nat) (o : Oper), I listed a w → listed.size = ops.size → a.tmps.size = t0.size → ops[i]? = some o → listed[i]? = some false → (∀ e ∈ o.after, Region.binds .any e = true → listed.getD e.on false = true) → wpOp P ops Q i (fun a' w' => I (listed.setIfInBounds i true) a' w') a w)
    (hd : ∀ (listed : Array Bool) (u : Nat → Value) (w : World), I listed { tmps := over t0 u ds, defers := [] } w → (∀ i, i < ops.size → listed[i]? = some true) → Q .normal { tmps := over t0 u ds, defers := [] } w) : (Code.region id ops true).wp P Q { tmps := t0, defers := [] } w := by
  refine region_inv hm hl (fun listed a w => I listed a w ∧ a.tmps.size = t0.size ∧ ∀ k, k ∉ ds → a.tmps[k]? = t0[k]?) ⟨h0, rfl, fun _ _ => rfl⟩ ?_ ?_
  · rintro listed a w i o ⟨h1, h2, h3⟩ hz ho hi hp
    refine wpOp_mono (fun a' w' h => ?_) (wpOp_own ho (hs listed a w i o h1 hz h2 ho hi hp))
    obtain ⟨h, hf⟩ := h
    have hmem : ∀ d, o.dst = some d → d ∈ ds := fun d hdd => by
      have q := List.all_eq_true.1 hds o (List.mem_of_getElem? (by rw [Array.getElem?_toList]; exact ho))
      rw [hdd] at q
      simpa using q
    have hput : ∀ (b : Act) (v : Value), b.tmps = a.tmps → ((b.put o.dst v).tmps.size = t0.size ∧ ∀ k, k ∉ ds → (b.put o.dst v).tmps[k]? = t0[k]?) := fun b v hb => by
      cases hdd : o.dst with
      | none => exact ⟨by show b.tmps.size = _; rw [hb]; exact h2, fun k hk => by show b.tmps[k]? = _; rw [hb]; exact h3 k hk⟩
      | some d =>
        refine ⟨by simp [Act.put, hb, h2], fun k hk => ?_⟩
        have hne : d ≠ k := fun e => hk (e ▸ hmem d hdd)
        show (b.tmps.setIfInBounds d v)[k]? = _
        rw [Array.getElem?_setIfInBounds_ne hne, hb]; exact h3 k hk
    rcases hf with ⟨v, rfl⟩ | ⟨d, v, rfl⟩
    · exact ⟨h, hput a v rfl⟩
    · exact ⟨h, hput _ v rfl⟩
  · rintro listed a w ⟨h1, h2, h3⟩ hz hall
    have hdf := hI _ _ _ h1
    have ht := over_eq h2 ds h3
    obtain ⟨tm, df⟩ := a
    have hdf : df = [] := hdf
    subst hdf
    have ht : tm = over t0 (fun d => tm.getD d undef) ds := ht
    generalize (fun d => tm.getD d undef) = u at ht
    subst ht
    exact hd listed u w h1 hall
theorem wpOp_at {P : Program} {ops : Array Oper} {Q : Exit → Act → World → Prop} {i : Nat} {o : Oper} {K : Act → World → Prop} {a : Act} {w : World} (ho : ops[i]? = some o) (hg : o.guard = none) (h : o.wp P a w K Q) : wpOp P ops Q i K a w := by
  unfold wpOp
  rw [ho]
  show (if Region.wanted o _ then _ else _)
  rw [if_pos (by unfold Region.wanted; rw [hg])]
  exact .inl h
/-- an operation that gives a value -/
theorem wp_value {P : Program} {Q : Exit → Act → World → Prop} {o : Oper} {K : Act → World → Prop} {a : Act} {w : World} {v : Value} (d : Nat) (hd : o.dst = some d) (hr : (execOp a.eval o).run P w = .ok (.value v) w) (h : K (a.put (some d) v) w) : o.wp P a w K Q := by
  unfold Oper.wp
  rw [hr]
  rw [← hd] at h
  exact h
theorem at_true {l : Array Bool} {i : Nat} (h : l.getD i false = true) : l[i]? = some true := by
  rw [Array.getD_eq_getD_getElem?] at h
  cases e : l[i]? with
  | none => rw [e] at h; cases h
  | some b => rw [e] at h; simpa using h
theorem put_same {a : Act} {d : Nat} (h : d < a.tmps.size) (v : Value) : (a.put (some d) v).eval (.tmp d) = v := by
  unfold Act.put Act.eval
  simp [h]
theorem put_ne {a : Act} {d k : Nat} (h : d ≠ k) (v : Value) : (a.put (some d) v).eval (.tmp k) = a.eval (.tmp k) := by
  unfold Act.put Act.eval
  simp [h]
theorem put_size {a : Act} {d : Option Nat} (v : Value) : (a.put d v).tmps.size = a.tmps.size := by cases d <;> simp [Act.put]
theorem put_defers {a : Act} {d : Option Nat} (v : Value) : (a.put d v).defers = a.defers := by cases d <;> rfl
theorem set_at {l : Array Bool} {i j : Nat} (h : i ≠ j) : (l.setIfInBounds i true)[j]? = l[j]? := by rw [Array.getElem?_setIfInBounds_ne h]
end Go.Proofs.YtmcmdlaedpdoiaaGreatDoor
