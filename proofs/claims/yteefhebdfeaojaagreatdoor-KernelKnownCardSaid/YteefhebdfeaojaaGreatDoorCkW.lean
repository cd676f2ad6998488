/-
  Layer 9: a kid's cells; what is asked of the rules over a kid; rows that a region builds.
-/
import Derived.Test.YteefhebdfeaojaaGreatDoorCkR
namespace Go.Proofs.YteefhebdfeaojaaGreatDoor
open Go.RowKit
theorem leaf_is {k : Int} (hk : -128 ≤ k ∧ k ≤ 127) (w : World) : Ty.Is w k .nil none 0 0 := ⟨trivial, rfl, Nat.le_refl _, Nat.zero_le _, hk.1, hk.2⟩
theorem opAns_ly (Q : Nat → Prop) (w : World) (s : ByteArray) : Ck.Ly Q w (Ck.opAns s) none 0 0 := fun u _ => by
  unfold Ck.opAns
  split
  · exact leaf_is (by decide) u
  · exact leaf_is (by decide) u
/-- an operation that writes -/
theorem wp_store {P : Program} {Q : Exit → Act → World → Prop} {o : Oper} {K : Act → World → Prop} {a : Act} {w w2 : World} (hd : o.dst = none) (hr : (execOp a.eval o).run P w = .ok .skip w2) (h : K a w2) : o.wp P a w K Q := by
  unfold Oper.wp
  rw [hr]
  show K (a.put o.dst undef) w2
  rw [hd]
  exact h
theorem hpv {o : Oper} {l : Array Bool} (hp : ∀ e ∈ o.after, Region.binds .any e = true → l.getD e.on false = true) (d : Nat) (h : ⟨d, .data⟩ ∈ o.after) : l[d]? = some true := at_true (hp ⟨d, .data⟩ h rfl)
theorem set_keep {l : Array Bool} {i j : Nat} (h : l[j]? = some true) : (l.setIfInBounds i true)[j]? = some true := by
  rw [Array.getElem?_setIfInBounds]
  split
  · subst_vars
    split
    · rfl
    · rename_i q
      rw [Array.getElem?_eq_none (by omega)] at h; cases h
  · exact h
theorem over_at {t : Array Value} {u : Nat → Value} {n : Nat} {ds : List Nat} {d : Nat} (hd : d ∈ ds) (hz : (over t u ds).size = n) (hlt : d < n) : Act.eval { tmps := over t u ds, defers := [] } (.tmp d) = u d := by
  have hz : t.size = n := by rw [← hz, over_size]
  have key : ∀ ds : List Nat, d ∈ ds → (over t u ds)[d]? = some (u d) := by
    intro ds hd
    induction ds with
    | nil => cases hd
    | cons e ds ih =>
      simp only [over]
      rw [Array.getElem?_setIfInBounds]
      by_cases h : e = d
      · subst h
        rw [if_pos rfl, if_pos (by rw [over_size]; omega)]
      · rw [if_neg h]
        rcases List.mem_cons.1 hd with q | q
        · exact absurd q.symm h
        · exact ih q
  show (over t u ds).getD d undef = u d
  rw [Array.getD_eq_getD_getElem?, key ds hd]
  rfl
/-- region_inv_end, the frame under a name -/
theorem region_inv_end2 {P : Program} {id : Nat} {ops : Array Oper} {Q : Exit → Act → World → Prop} {t0 : Array Value} {w : World} (n : Nat) (hn : t0.size = n) (ds : List Nat) (hm : P.follows .mixedOrders = true) (hl : lexOk ops = true)
    (hds : (ops.toList.all fun o => match o.dst with | some d => ds.contains d | none => true) = true) (I : Array Bool → Act → World → Prop) (hI : ∀ l a w, I l a w → a.defers = [])
    (h0 : I (Array.replicate ops.size false) { tmps := t0, defers := [] } w.drew)
    (hs : ∀ (listed : Array Bool) (a : Act) (w : World) (i : Nat) (o : Oper), I listed a w → listed.size = ops.size → a.tmps.size = t0.size → ops[i]? = some o → listed[i]? = some false → (∀ e ∈ o.after, Region.binds .any e = true → listed.getD e.on false = true) → wpOp P ops Q i (fun a' w' => I (listed.setIfInBounds i true) a' w') a w)
    (hd : ∀ (listed : Array Bool) (u : Nat → Value) (w : World) (t : Array Value), t = over t0 u ds → (∀ d, d ∈ ds → d < n → Act.eval { tmps := t, defers := [] } (.tmp d) = u d) → I listed { tmps := t, defers := [] } w → (∀ i, i < ops.size → listed[i]? = some true) → Q .normal { tmps := t, defers := [] } w) : (Code.region id ops true).wp P Q { tmps := t0, defers := [] } w :=
  region_inv_end ds hm hl hds I hI h0 hs fun l u w h hall => hd l u w _ rfl (fun _ hdd hlt => over_at hdd (by rw [over_size]; exact hn) hlt) h hall
theorem set_self_false {l : Array Bool} {i : Nat} (h : (l.setIfInBounds i true)[i]? = some false) : False := by
  rw [Array.getElem?_setIfInBounds] at h
  split at h
  · split at h <;> cases h
  · rename_i q; exact q rfl
theorem pn {a : Act} {d k : Nat} {v x : Value} (q : a.eval (.tmp k) = x) (h : d ≠ k := by decide) : (a.put (some d) v).eval (.tmp k) = x := by rw [put_ne h]; exact q
theorem pd {a : Act} {d : Option Nat} {v : Value} (h : a.defers = []) : (a.put d v).defers = [] := by rw [put_defers]; exact h
theorem ps {a : Act} {d : Option Nat} {v : Value} {n : Nat} (h : a.tmps.size = n) : (a.put d v).tmps.size = n := by rw [put_size]; exact h
theorem pS {a : Act} {d : Nat} {v : Value} {n : Nat} (h : a.tmps.size = n) (hd : d < n := by decide) : (a.put (some d) v).eval (.tmp d) = v := put_same (by rw [h]; exact hd) v
theorem kF {l : Array Bool} {i j : Nat} {A B : Prop} (y : l[j]? = some true → A) (f : A → B) (h : i ≠ j := by decide) : (l.setIfInBounds i true)[j]? = some true → B := fun hj => f (y (by rwa [set_at h] at hj))
theorem kU {l : Array Bool} {i j : Nat} {A B : Prop} (y : l[j]? = some false → A) (f : A → B) (h : i ≠ j := by decide) : (l.setIfInBounds i true)[j]? = some false → B := fun hj => f (y (by rwa [set_at h] at hj))
theorem kN {l : Array Bool} {i j : Nat} {A B : Prop} (y : l[j]? = some true → A) (f : A → l[i]? = some true) (hi : l[i]? = some false) (h : i ≠ j := by decide) : (l.setIfInBounds i true)[j]? = some true → B := fun hj => by
  have q := f (y (by rwa [set_at h] at hj))
  rw [q] at hi; cases hi
theorem kT {l : Array Bool} {i t : Nat} {B : Prop} (v : l[t]? = some true) (h : i ≠ t := by decide) : (l.setIfInBounds i true)[t]? = some false → B := fun hj => by
  rw [set_at h, v] at hj; cases hj
theorem nf {l : Array Bool} {i s : Nat} (h : s < l.size) (y : l[s]? = some true → l[i]? = some true) (hi : l[i]? = some false) : l[s]? = some false := by
  cases e : l[s]? with
  | none => rw [Array.getElem?_eq_none_iff] at e; omega
  | some b =>
    cases b with
    | false => rfl
    | true => rw [y e] at hi; cases hi
theorem evc (a : Act) : (∀ v, a.eval (.const v) = v) ∧ ∀ f, a.eval (.func f) = .func (.func f) #[] #[] := ⟨fun _ => rfl, fun _ => rfl⟩
/-- a call that comes back or gives up -/
theorem wp_may {P : Program} {Q : Exit → Act → World → Prop} {o : Oper} {K : Act → World → Prop} {a : Act} {w : World} (d : Nat) (hd : o.dst = some d) {f : FuncId} {args : Array Value} {C : Ending → World → Prop} (hr : (execOp a.eval o).run P w = .ok (.enter f args) w) (hc : Calls P f args w C) (h : ∀ e w', C e w' → (∃ v, e = .returned v ∧ K (a.put (some d) v) w') ∨ ∃ ch, e = .panicked ch ∧ Q (.panic ch) a w') : o.wp P a w K Q := by
  unfold Oper.wp
  rw [hr]
  refine hc.mono fun e w' hC => ?_
  rcases h e w' hC with ⟨v, rfl, hq⟩ | ⟨ch, rfl, hq⟩
  · rw [← hd] at hq
    exact hq
  · exact hq
theorem ne_of_false {b : Bool} (h : b = false) : ¬ b = true := by rw [h]; decide
theorem eh_old {w : World} {X : Nat} {o : Obj} (q : ∃ u0 u1, w.heap[X]? = some (.cells #[u0, u1] 25 (0, 0))) : ∃ u0 u1, (w.alloc o).heap[X]? = some (.cells #[u0, u1] 25 (0, 0)) := q.elim fun _ q => q.elim fun _ q => ⟨_, _, heap_old q _⟩
theorem eh_below {w u : World} {X : Nat} (hb : Below w.heap.size w u) (q : ∃ u0 u1, w.heap[X]? = some (.cells #[u0, u1] 25 (0, 0))) : ∃ u0 u1, u.heap[X]? = some (.cells #[u0, u1] 25 (0, 0)) := q.elim fun _ q => q.elim fun _ q => ⟨_, _, heap_below hb (heap_lt q) q⟩
theorem eh_set {w : World} {X : Nat} {a b : Value} (q : ∃ u0 u1, w.heap[X]? = some (.cells #[u0, u1] 25 (0, 0))) : ∃ u0 u1, ((w.setCell ⟨X, 0, none⟩ a).setCell ⟨X, 1, none⟩ b).heap[X]? = some (.cells #[u0, u1] 25 (0, 0)) := q.elim fun _ q => q.elim fun _ q => ⟨_, _, set_two q _ _⟩
theorem eh_set_ne {w : World} {X Y : Nat} {a b : Value} (q : ∃ u0 u1, w.heap[Y]? = some (.cells #[u0, u1] 25 (0, 0))) (h : X ≠ Y) : ∃ u0 u1, ((w.setCell ⟨X, 0, none⟩ a).setCell ⟨X, 1, none⟩ b).heap[Y]? = some (.cells #[u0, u1] 25 (0, 0)) := q.elim fun _ q => q.elim fun _ q => ⟨_, _, set_two_ne q h _ _⟩
theorem Ck.Post.split {Q : Nat → Prop} {w w' : World} {r : Ck.R} {e : Ending} (h : Ck.Post Q w r e w') : (∃ E p x, r = .bad E p x ∧ Ck.Gave w E p x e w') ∨ (∃ a, r = .ok a ∧ Ck.Gives Q w a e w') := by
  cases r with
  | ok a => exact .inr ⟨a, rfl, h⟩
  | bad E p x => exact .inl ⟨E, p, x, rfl, h⟩
theorem ckwant_any (rv : Cg.Rv) (h : Hd) (p : Pl) (k : Int) (kids : Fo) (A : Option Addr) (n c : Nat) (k' : Int) (kids' : Fo) (A' : Option Addr) (n' c' : Nat) (w : World) (hIs : Ty.Is w k kids A n c) (hIs' : Ty.Is w k' kids' A' n' c') (hS : Shapes w) :
    Calls Tryz.prog 68 #[.agg #[.func (Fn.func rv.fr) #[] rv.cpt, .func (Fn.func rv.fa) #[] #[], .func (Fn.func rv.fm) #[] #[], .func (Fn.func rv.ft) #[] #[], rv.vg], .agg #[.int .i8 h.kind, .string h.name, .string h.arg, .int .i64 h.num, .int .i8 h.tk, .slice p.TA p.tn p.tc, .int .i8 h.uk, .slice p.UA p.un p.uc, .int .i64 h.label, .int .i64 h.pos, .slice p.A p.n p.c], .agg #[.int .i8 k, .slice A n c], .agg #[.int .i8 k', .slice A' n' c']] w fun e w' => (rv.D.ag (k, kids) (k', kids') = false ∧ Ck.Gave w 91 h.pos Ck.e0 e w') ∨ (rv.D.ag (k, kids) (k', kids') = true ∧ e = .returned (.tuple #[]) ∧ Below w.heap.size w w') := by
  cases hq : rv.D.ag (k, kids) (k', kids')
  · exact (ckwant_no rv h p k kids A n c k' kids' A' n' c' w hIs hIs' hS hq).mono fun e w' q => .inl ⟨rfl, q⟩
  · exact (ckwant_yes rv h p k kids A n c k' kids' A' n' c' w hIs hIs' hS hq).mono fun e w' q => .inr ⟨rfl, q⟩
theorem ckmeet_any (rv : Cg.Rv) (Q : Nat → Prop) (h : Hd) (p : Pl) (a : Ck.T2) (A : Option Addr) (n c : Nat) (b : Ck.T2) (A' : Option Addr) (n' c' : Nat) (w : World) (hL : Ck.Ly Q w a A n c) (hL' : Ck.Ly Q w b A' n' c') (hS : Shapes w) :
    Calls Tryz.prog 70 #[.agg #[.func (Fn.func rv.fr) #[] rv.cpt, .func (Fn.func rv.fa) #[] #[], .func (Fn.func rv.fm) #[] #[], .func (Fn.func rv.ft) #[] #[], rv.vg], .agg #[.int .i8 h.kind, .string h.name, .string h.arg, .int .i64 h.num, .int .i8 h.tk, .slice p.TA p.tn p.tc, .int .i8 h.uk, .slice p.UA p.un p.uc, .int .i64 h.label, .int .i64 h.pos, .slice p.A p.n p.c], .agg #[.int .i8 a.1, .slice A n c], .agg #[.int .i8 b.1, .slice A' n' c']] w fun e w' => (rv.D.ag a b = false ∧ Ck.Gave w 91 h.pos Ck.e0 e w') ∨ (rv.D.ag a b = true ∧ Ck.Gives Q w (rv.D.mt a b) e w') := by
  cases hq : rv.D.ag a b
  · exact (ckmeet_no rv Q h p a A n c b A' n' c' w hL hL' hS hq).mono fun e w' q => .inl ⟨rfl, q⟩
  · exact (ckmeet_yes rv Q h p a A n c b A' n' c' w hL hL' hS hq).mono fun e w' q => .inr ⟨rfl, q⟩
theorem ckparts_any (rv : Cg.Rv) (Q : Nat → Prop) (h : Hd) (p : Pl) (kd : Int) (a : Ck.T2) (A : Option Addr) (n c : Nat) (w : World) (hkd : 3 ≤ kd ∧ kd ≤ 5) (hL : Ck.Ly Q w a A n c) (hok : Ty.okT a.1 a.2 = true) (hS : Shapes w) :
    Calls Tryz.prog 69 #[.agg #[.func (Fn.func rv.fr) #[] rv.cpt, .func (Fn.func rv.fa) #[] #[], .func (Fn.func rv.fm) #[] #[], .func (Fn.func rv.ft) #[] #[], rv.vg], .agg #[.int .i8 h.kind, .string h.name, .string h.arg, .int .i64 h.num, .int .i8 h.tk, .slice p.TA p.tn p.tc, .int .i8 h.uk, .slice p.UA p.un p.uc, .int .i64 h.label, .int .i64 h.pos, .slice p.A p.n p.c], .int .i8 kd, .agg #[.int .i8 a.1, .slice A n c]] w fun e w' => (rv.D.asO kd a = false ∧ Ck.Gave w 90 h.pos Ck.e0 e w') ∨ (rv.D.asO kd a = true ∧ AsPost2 Q w (rv.D.asl kd a) (rv.D.asr kd a) e w') := by
  cases hq : rv.D.asO kd a
  · exact (ckparts_no rv Q h p kd a A n c w hkd hL hok hS hq).mono fun e w' q => .inl ⟨rfl, q⟩
  · exact (ckparts_yes rv Q h p kd a A n c w hkd hL hok hS hq).mono fun e w' q => .inr ⟨rfl, q⟩
theorem zne_of {Q : Nat → Prop} {w W : World} {Z b : Nat} (_hz : w.heap.size + 3 ≤ W.heap.size) (h : Z = w.heap.size + 2 ∨ W.heap.size ≤ Z) (hl : b < W.heap.size) (hq : Ck.Cut Q w.heap.size (w.heap.size + 3) b) : b ≠ Z := by
  rcases h with rfl | h
  · exact hq.ne (by omega) (by omega)
  · omega
theorem zne_of2 {Q : Nat → Prop} {wb w W : World} {Z b : Nat} (hwb : Below wb.heap.size wb W) (hQ : ∀ b, b < wb.heap.size → Ck.Cut Q w.heap.size (w.heap.size + 3) b) (_hz : w.heap.size + 3 ≤ W.heap.size) (h : Z = w.heap.size + 2 ∨ W.heap.size ≤ Z) (hb : b < wb.heap.size) : b ≠ Z :=
  zne_of _hz h (Nat.lt_of_lt_of_le hb hwb.size) (hQ b hb)
theorem cutz2_in {Q : Nat → Prop} {N M S Z Z' b : Nat} (hS : M ≤ S) (hZ : Z < S) (hZ' : Z' < S) (h : Ck.Cut (fun b => Ck.Cut Q N M b ∧ b ≠ Z ∧ b ≠ Z') S S b) : Ck.Cut Q N M b ∧ b ≠ Z ∧ b ≠ Z' := by
  rcases h with ⟨h, -⟩ | h
  · exact h
  · exact ⟨.inr (by omega), by omega, by omega⟩
theorem cutz_in {Q : Nat → Prop} {N M S Z b : Nat} (hS : M ≤ S) (hZ : Z < S) (h : Ck.Cut (fun b => Ck.Cut Q N M b ∧ b ≠ Z) S S b) : Ck.Cut Q N M b ∧ b ≠ Z := by
  rcases h with ⟨h, -⟩ | h
  · exact h
  · exact ⟨.inr (by omega), by omega⟩
namespace Ck
/-- a term's cells stand here -/
def KidAt (w : World) (b o : Nat) (h : Hd) (p : Pl) : Prop := ∀ (j : Nat) (v : Value), (h.cells p)[j]? = some v → w.cell? ⟨b, o + j, none⟩ = some v
/-- what the rules tell of this term, which lies in wb, whatever is around -/
def TellsOf (rv : Cg.Rv) (K : Nat) (wb : World) (h : Hd) (kids : Tm) (p : Pl) : Prop :=
  ∀ (Q : Nat → Prop) (l : Env) (A : Option Addr) (n c : Nat) (W : World), Below wb.heap.size wb W → (∀ b, b < wb.heap.size → Q b) → Shapes W → EAt Q W l A n c → l.length + 2 * (Tm.nodes kids + 1) ≤ 20000 →
    Calls Tryz.prog 23 #[.agg #[.func (Fn.func rv.fr) #[] rv.cpt, .func (Fn.func rv.fa) #[] #[], .func (Fn.func rv.fm) #[] #[], .func (Fn.func rv.ft) #[] #[], rv.vg], .agg #[.int .i8 h.kind, .string h.name, .string h.arg, .int .i64 h.num, .int .i8 h.tk, .slice p.TA p.tn p.tc, .int .i8 h.uk, .slice p.UA p.un p.uc, .int .i64 h.label, .int .i64 h.pos, .slice p.A p.n p.c], .slice A n c] W (Post Q W (Cg.ty rv.D K h kids l))
/-- a row of one name -/
theorem EAt.one {Q : Nat → Prop} {w : World} {X : Nat} {nm : ByteArray} {t : T2} {G : Option Addr} {m k : Nat} {ty : TypeId} (hX : w.heap[X]? = some (.cells #[.string nm, .int .i8 t.1, .slice G m k] ty (0, 0))) (hL : Ly Q w t G m k) : EAt Q w [(nm, t)] (some ⟨X, 0, none⟩) 1 1 := by
  refine ⟨rfl, Nat.le_refl _, by decide, (fun h => by cases h), [.string nm, .int .i8 t.1, .slice G m k], ⟨⟨rfl, rfl, G, m, k, rfl, hL⟩, trivial⟩, fun a ha => ?_⟩
  injection ha with ha
  subst ha
  refine ⟨X, 0, rfl, heap_lt hX, fun j u hu => ?_⟩
  rw [Nat.zero_add]
  exact cell_of_heap hX j (by rw [← Array.getElem?_toList]; exact hu)
/-- a row of two names -/
theorem EAt.two {Q : Nat → Prop} {w : World} {X : Nat} {nm nm' : ByteArray} {t t' : T2} {G G' : Option Addr} {m k m' k' : Nat} {ty : TypeId} (hX : w.heap[X]? = some (.cells #[.string nm, .int .i8 t.1, .slice G m k, .string nm', .int .i8 t'.1, .slice G' m' k'] ty (0, 0))) (hL : Ly Q w t G m k) (hL' : Ly Q w t' G' m' k') : EAt Q w [(nm, t), (nm', t')] (some ⟨X, 0, none⟩) 2 2 := by
  refine ⟨rfl, Nat.le_refl _, by decide, (fun h => by cases h), [.string nm, .int .i8 t.1, .slice G m k, .string nm', .int .i8 t'.1, .slice G' m' k'], ⟨⟨rfl, rfl, G, m, k, rfl, hL⟩, ⟨rfl, rfl, G', m', k', rfl, hL'⟩, trivial⟩, fun a ha => ?_⟩
  injection ha with ha
  subst ha
  refine ⟨X, 0, rfl, heap_lt hX, fun j u hu => ?_⟩
  rw [Nat.zero_add]
  exact cell_of_heap hX j (by rw [← Array.getElem?_toList]; exact hu)
/-- a type over two that a block holds -/
theorem Ly.two {Q : Nat → Prop} {w : World} {a b : T2} {Y : Nat} {G G' : Option Addr} {m k m' k' : Nat} {ty : TypeId} (hX : w.heap[Y]? = some (.cells #[.int .i8 a.1, .slice G m k, .int .i8 b.1, .slice G' m' k'] ty (0, 0))) (hQ : Q Y) (hL : Ly Q w a G m k) (hL' : Ly Q w b G' m' k') (kd : Int) (hk : -128 ≤ kd ∧ kd ≤ 127) : Ly Q w (mk2 kd a b) (some ⟨Y, 0, none⟩) 2 2 := by
  obtain ⟨e0, e1, e2, e3, -⟩ := own4 hX
  refine Row.two ⟨hQ, heap_lt hX, fun i t ht => ?_⟩ kd hk 2 (Nat.le_refl _) (by decide)
  match i, ht with
  | 0, ht => injection ht with ht; subst ht; exact ⟨G, m, k, e0, e1, hL⟩
  | 1, ht => injection ht with ht; subst ht; exact ⟨G', m', k', e2, e3, hL'⟩
  | i + 2, ht => simp at ht
end Ck
end Go.Proofs.YteefhebdfeaojaaGreatDoor
