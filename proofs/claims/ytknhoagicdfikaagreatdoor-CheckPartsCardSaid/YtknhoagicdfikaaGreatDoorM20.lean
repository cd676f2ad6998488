/-
  Layer 9: a kid's cells; what is asked of the rules over a kid; rows that a region builds. What closes a drawn region's goals, by the names that genw.py gives. Layer 9: over, a cast. Layers 9 and 11: rules.copied: a right type, in new memory.
-/
import Derived.Test.YtknhoagicdfikaaGreatDoorCkR
namespace Go.Proofs.YtknhoagicdfikaaGreatDoor
open Go.RowKit
theorem leaf_is {k : Int} (hk : -128 ≤ k ∧ k ≤ 127) (w : World) : Ty.Is w k .nil none 0 0 := ⟨trivial, rfl, Nat.le_refl _, Nat.zero_le _, hk.1, hk.2⟩
theorem opAns_ly (Q : Nat → Prop) (w : World) (s : ByteArray) : Ck.Ly Q w (Ck.opAns s) none 0 0 := fun u _ => by
  unfold Ck.opAns
  split
  · exact leaf_is (by decide) u
  · exact leaf_is (by decide) u
/-- an operation that writes -/
theorem wp_store {P : Program} {Q : Exit → Act → World → Prop} {o : Oper} {K : Act → World → Prop} {a : Act} {w w2 : World} (hd : o.dst = none) (hr : (execOp a.eval o).run P w = .ok .skip w2) (h : K a w2) : o.wp P a w K Q := by
  unfold Oper.wp
  rw [hr]
  show K (a.put o.dst undef) w2
  rw [hd]
  exact h
theorem hpv {o : Oper} {l : Array Bool} (hp : ∀ e ∈ o.after, Region.binds .any e = true → l.getD e.on false = true) (d : Nat) (h : ⟨d, .data⟩ ∈ o.after) : l[d]? = some true := at_true (hp ⟨d, .data⟩ h rfl)
theorem set_keep {l : Array Bool} {i j : Nat} (h : l[j]? = some true) : (l.setIfInBounds i true)[j]? = some true := by
  rw [Array.getElem?_setIfInBounds]
  split
  · subst_vars
    split
    · rfl
    · rename_i q
      rw [Array.getElem?_eq_none (by omega)] at h; cases h
  · exact h
theorem over_at {t : Array Value} {u : Nat → Value} {n : Nat} {ds : List Nat} {d : Nat} (hd : d ∈ ds) (hz : (over t u ds).size = n) (hlt : d < n) : Act.eval { tmps := over t u ds, defers := [] } (.tmp d) = u d := by
  have hz : t.size = n := by rw [← hz, over_size]
  have key : ∀ ds : List Nat, d ∈ ds → (over t u ds)[d]? = some (u d) := by
    intro ds hd
    induction ds with
    | nil => cases hd
    | cons e ds ih =>
      simp only [over]
      rw [Array.getElem?_setIfInBounds]
      by_cases h : e = d
      · subst h
        rw [if_pos rfl, if_pos (by rw [over_size]; omega)]
      · rw [if_neg h]
        rcases List.mem_cons.1 hd with q | q
        · exact absurd q.symm h
        · exact ih q
  show (over t u ds).getD d undef = u d
  rw [Array.getD_eq_getD_getElem?, key ds hd]
  rfl
/-- region_inv_end, the frame under a name -/
theorem region_inv_end2 {P : Program} {id : Nat} {ops : Array Oper} {Q : Exit → Act → World → Prop} {t0 : Array Value} {w : World} (n : Nat) (hn : t0.size = n) (ds : List Nat) (hm : P.follows .mixedOrders = true) (hl : lexOk ops = true)
    (hds : (ops.toList.all fun o => match o.dst with | some d => ds.contains d | none => true) = true) (I : Array Bool → Act → World → Prop) (hI : ∀ l a w, I l a w → a.defers = [])
    (h0 : I (Array.replicate ops.size false) { tmps := t0, defers := [] } w.drew)
    (hs : ∀ (listed : Array Bool) (a : Act) (w : World) (i : Nat) (o : Oper), I listed a w → listed.size = ops.size → a.tmps.size = t0.size → ops[i]? = some o → listed[i]? = some false → (∀ e ∈ o.after, Region.binds .any e = true → listed.getD e.on false = true) → wpOp P ops Q i (fun a' w' => I (listed.setIfInBounds i true) a' w') a w)
    (hd : ∀ (listed : Array Bool) (u : Nat → Value) (w : World) (t : Array Value), t = over t0 u ds → (∀ d, d ∈ ds → d < n → Act.eval { tmps := t, defers := [] } (.tmp d) = u d) → I listed { tmps := t, defers := [] } w → (∀ i, i < ops.size → listed[i]? = some true) → Q .normal { tmps := t, defers := [] } w) : (Code.region id ops true).wp P Q { tmps := t0, defers := [] } w :=
  region_inv_end ds hm hl hds I hI h0 hs fun l u w h hall => hd l u w _ rfl (fun _ hdd hlt => over_at hdd (by rw [over_size]; exact hn) hlt) h hall
theorem set_self_false {l : Array Bool} {i : Nat} (h : (l.setIfInBounds i true)[i]? = some false) : False := by
  rw [Array.getElem?_setIfInBounds] at h
  split at h
  · split at h <;> cases h
  · rename_i q; exact q rfl
theorem pn {a : Act} {d k : Nat} {v x : Value} (q : a.eval (.tmp k) = x) (h : d ≠ k := by decide) : (a.put (some d) v).eval (.tmp k) = x := by rw [put_ne h]; exact q
theorem pd {a : Act} {d : Option Nat} {v : Value} (h : a.defers = []) : (a.put d v).defers = [] := by rw [put_defers]; exact h
theorem ps {a : Act} {d : Option Nat} {v : Value} {n : Nat} (h : a.tmps.size = n) : (a.put d v).tmps.size = n := by rw [put_size]; exact h
theorem pS {a : Act} {d : Nat} {v : Value} {n : Nat} (h : a.tmps.size = n) (hd : d < n := by decide) : (a.put (some d) v).eval (.tmp d) = v := put_same (by rw [h]; exact hd) v
theorem kF {l : Array Bool} {i j : Nat} {A B : Prop} (y : l[j]? = some true → A) (f : A → B) (h : i ≠ j := by decide) : (l.setIfInBounds i true)[j]? = some true → B := fun hj => f (y (by rwa [set_at h] at hj))
theorem kU {l : Array Bool} {i j : Nat} {A B : Prop} (y : l[j]? = some false → A) (f : A → B) (h : i ≠ j := by decide) : (l.setIfInBounds i true)[j]? = some false → B := fun hj => f (y (by rwa [set_at h] at hj))
theorem kN {l : Array Bool} {i j : Nat} {A B : Prop} (y : l[j]? = some true → A) (f : A → l[i]? = some true) (hi : l[i]? = some false) (h : i ≠ j := by decide) : (l.setIfInBounds i true)[j]? = some true → B := fun hj => by
  have q := f (y (by rwa [set_at h] at hj))
  rw [q] at hi; cases hi
theorem kT {l : Array Bool} {i t : Nat} {B : Prop} (v : l[t]? = some true) (h : i ≠ t := by decide) : (l.setIfInBounds i true)[t]? = some false → B := fun hj => by
  rw [set_at h, v] at hj; cases hj
theorem nf {l : Array Bool} {i s : Nat} (h : s < l.size) (y : l[s]? = some true → l[i]? = some true) (hi : l[i]? = some false) : l[s]? = some false := by
  cases e : l[s]? with
  | none => rw [Array.getElem?_eq_none_iff] at e; omega
  | some b =>
    cases b with
    | false => rfl
    | true => rw [y e] at hi; cases hi
theorem evc (a : Act) : (∀ v, a.eval (.const v) = v) ∧ ∀ f, a.eval (.func f) = .func (.func f) #[] #[] := ⟨fun _ => rfl, fun _ => rfl⟩
/-- a call that comes back or gives up -/
theorem wp_may {P : Program} {Q : Exit → Act → World → Prop} {o : Oper} {K : Act → World → Prop} {a : Act} {w : World} (d : Nat) (hd : o.dst = some d) {f : FuncId} {args : Array Value} {C : Ending → World → Prop} (hr : (execOp a.eval o).run P w = .ok (.enter f args) w) (hc : Calls P f args w C) (h : ∀ e w', C e w' → (∃ v, e = .returned v ∧ K (a.put (some d) v) w') ∨ ∃ ch, e = .panicked ch ∧ Q (.panic ch) a w') : o.wp P a w K Q := by
  unfold Oper.wp
  rw [hr]
  refine hc.mono fun e w' hC => ?_
  rcases h e w' hC with ⟨v, rfl, hq⟩ | ⟨ch, rfl, hq⟩
  · rw [← hd] at hq
    exact hq
  · exact hq
theorem ne_of_false {b : Bool} (h : b = false) : ¬ b = true := by rw [h]; decide
theorem eh_old {w : World} {X : Nat} {o : Obj} (q : ∃ u0 u1, w.heap[X]? = some (.cells #[u0, u1] 25 (0, 0))) : ∃ u0 u1, (w.alloc o).heap[X]? = some (.cells #[u0, u1] 25 (0, 0)) := q.elim fun _ q => q.elim fun _ q => ⟨_, _, heap_old q _⟩
theorem eh_below {w u : World} {X : Nat} (hb : Below w.heap.size w u) (q : ∃ u0 u1, w.heap[X]? = some (.cells #[u0, u1] 25 (0, 0))) : ∃ u0 u1, u.heap[X]? = some (.cells #[u0, u1] 25 (0, 0)) := q.elim fun _ q => q.elim fun _ q => ⟨_, _, heap_below hb (heap_lt q) q⟩
theorem eh_set {w : World} {X : Nat} {a b : Value} (q : ∃ u0 u1, w.heap[X]? = some (.cells #[u0, u1] 25 (0, 0))) : ∃ u0 u1, ((w.setCell ⟨X, 0, none⟩ a).setCell ⟨X, 1, none⟩ b).heap[X]? = some (.cells #[u0, u1] 25 (0, 0)) := q.elim fun _ q => q.elim fun _ q => ⟨_, _, set_two q _ _⟩
theorem eh_set_ne {w : World} {X Y : Nat} {a b : Value} (q : ∃ u0 u1, w.heap[Y]? = some (.cells #[u0, u1] 25 (0, 0))) (h : X ≠ Y) : ∃ u0 u1, ((w.setCell ⟨X, 0, none⟩ a).setCell ⟨X, 1, none⟩ b).heap[Y]? = some (.cells #[u0, u1] 25 (0, 0)) := q.elim fun _ q => q.elim fun _ q => ⟨_, _, set_two_ne q h _ _⟩
theorem Ck.Post.split {Q : Nat → Prop} {w w' : World} {r : Ck.R} {e : Ending} (h : Ck.Post Q w r e w') : (∃ E p x, r = .bad E p x ∧ Ck.Gave w E p x e w') ∨ (∃ a, r = .ok a ∧ Ck.Gives Q w a e w') := by
  cases r with
  | ok a => exact .inr ⟨a, rfl, h⟩
  | bad E p x => exact .inl ⟨E, p, x, rfl, h⟩
theorem ckwant_any (rv : Cg.Rv) (h : Hd) (p : Pl) (k : Int) (kids : Fo) (A : Option Addr) (n c : Nat) (k' : Int) (kids' : Fo) (A' : Option Addr) (n' c' : Nat) (w : World) (hIs : Ty.Is w k kids A n c) (hIs' : Ty.Is w k' kids' A' n' c') (hS : Shapes w) :
    Calls Tryz.prog 88 #[.agg #[.func (Fn.func rv.fr) #[] rv.cpt, .func (Fn.func rv.fa) #[] #[], .func (Fn.func rv.fm) #[] #[], .func (Fn.func rv.ft) #[] #[], rv.vg], .agg #[.int .i8 h.kind, .string h.name, .string h.arg, .int .i64 h.num, .int .i8 h.tk, .slice p.TA p.tn p.tc, .int .i8 h.uk, .slice p.UA p.un p.uc, .int .i64 h.label, .int .i64 h.pos, .slice p.A p.n p.c], .agg #[.int .i8 k, .slice A n c], .agg #[.int .i8 k', .slice A' n' c']] w fun e w' => (rv.D.ag (k, kids) (k', kids') = false ∧ Ck.Gave w 91 h.pos Ck.e0 e w') ∨ (rv.D.ag (k, kids) (k', kids') = true ∧ e = .returned (.tuple #[]) ∧ Below w.heap.size w w') := by
  cases hq : rv.D.ag (k, kids) (k', kids')
  · exact (ckwant_no rv h p k kids A n c k' kids' A' n' c' w hIs hIs' hS hq).mono fun e w' q => .inl ⟨rfl, q⟩
  · exact (ckwant_yes rv h p k kids A n c k' kids' A' n' c' w hIs hIs' hS hq).mono fun e w' q => .inr ⟨rfl, q⟩
theorem ckmeet_any (rv : Cg.Rv) (Q : Nat → Prop) (h : Hd) (p : Pl) (a : Ck.T2) (A : Option Addr) (n c : Nat) (b : Ck.T2) (A' : Option Addr) (n' c' : Nat) (w : World) (hL : Ck.Ly Q w a A n c) (hL' : Ck.Ly Q w b A' n' c') (hS : Shapes w) :
    Calls Tryz.prog 90 #[.agg #[.func (Fn.func rv.fr) #[] rv.cpt, .func (Fn.func rv.fa) #[] #[], .func (Fn.func rv.fm) #[] #[], .func (Fn.func rv.ft) #[] #[], rv.vg], .agg #[.int .i8 h.kind, .string h.name, .string h.arg, .int .i64 h.num, .int .i8 h.tk, .slice p.TA p.tn p.tc, .int .i8 h.uk, .slice p.UA p.un p.uc, .int .i64 h.label, .int .i64 h.pos, .slice p.A p.n p.c], .agg #[.int .i8 a.1, .slice A n c], .agg #[.int .i8 b.1, .slice A' n' c']] w fun e w' => (rv.D.ag a b = false ∧ Ck.Gave w 91 h.pos Ck.e0 e w') ∨ (rv.D.ag a b = true ∧ Ck.Gives Q w (rv.D.mt a b) e w') := by
  cases hq : rv.D.ag a b
  · exact (ckmeet_no rv Q h p a A n c b A' n' c' w hL hL' hS hq).mono fun e w' q => .inl ⟨rfl, q⟩
  · exact (ckmeet_yes rv Q h p a A n c b A' n' c' w hL hL' hS hq).mono fun e w' q => .inr ⟨rfl, q⟩
theorem ckparts_any (rv : Cg.Rv) (Q : Nat → Prop) (h : Hd) (p : Pl) (kd : Int) (a : Ck.T2) (A : Option Addr) (n c : Nat) (w : World) (hkd : 3 ≤ kd ∧ kd ≤ 5) (hL : Ck.Ly Q w a A n c) (hok : Ty.okT a.1 a.2 = true) (hS : Shapes w) :
    Calls Tryz.prog 89 #[.agg #[.func (Fn.func rv.fr) #[] rv.cpt, .func (Fn.func rv.fa) #[] #[], .func (Fn.func rv.fm) #[] #[], .func (Fn.func rv.ft) #[] #[], rv.vg], .agg #[.int .i8 h.kind, .string h.name, .string h.arg, .int .i64 h.num, .int .i8 h.tk, .slice p.TA p.tn p.tc, .int .i8 h.uk, .slice p.UA p.un p.uc, .int .i64 h.label, .int .i64 h.pos, .slice p.A p.n p.c], .int .i8 kd, .agg #[.int .i8 a.1, .slice A n c]] w fun e w' => (rv.D.asO kd a = false ∧ Ck.Gave w 90 h.pos Ck.e0 e w') ∨ (rv.D.asO kd a = true ∧ AsPost2 Q w (rv.D.asl kd a) (rv.D.asr kd a) e w') := by
  cases hq : rv.D.asO kd a
  · exact (ckparts_no rv Q h p kd a A n c w hkd hL hok hS hq).mono fun e w' q => .inl ⟨rfl, q⟩
  · exact (ckparts_yes rv Q h p kd a A n c w hkd hL hok hS hq).mono fun e w' q => .inr ⟨rfl, q⟩
theorem zne_of {Q : Nat → Prop} {w W : World} {Z b : Nat} (_hz : w.heap.size + 3 ≤ W.heap.size) (h : Z = w.heap.size + 2 ∨ W.heap.size ≤ Z) (hl : b < W.heap.size) (hq : Ck.Cut Q w.heap.size (w.heap.size + 3) b) : b ≠ Z := by
  rcases h with rfl | h
  · exact hq.ne (by omega) (by omega)
  · omega
theorem zne_of2 {Q : Nat → Prop} {wb w W : World} {Z b : Nat} (hwb : Below wb.heap.size wb W) (hQ : ∀ b, b < wb.heap.size → Ck.Cut Q w.heap.size (w.heap.size + 3) b) (_hz : w.heap.size + 3 ≤ W.heap.size) (h : Z = w.heap.size + 2 ∨ W.heap.size ≤ Z) (hb : b < wb.heap.size) : b ≠ Z :=
  zne_of _hz h (Nat.lt_of_lt_of_le hb hwb.size) (hQ b hb)
theorem cutz2_in {Q : Nat → Prop} {N M S Z Z' b : Nat} (hS : M ≤ S) (hZ : Z < S) (hZ' : Z' < S) (h : Ck.Cut (fun b => Ck.Cut Q N M b ∧ b ≠ Z ∧ b ≠ Z') S S b) : Ck.Cut Q N M b ∧ b ≠ Z ∧ b ≠ Z' := by
  rcases h with ⟨h, -⟩ | h
  · exact h
  · exact ⟨.inr (by omega), by omega, by omega⟩
theorem cutz_in {Q : Nat → Prop} {N M S Z b : Nat} (hS : M ≤ S) (hZ : Z < S) (h : Ck.Cut (fun b => Ck.Cut Q N M b ∧ b ≠ Z) S S b) : Ck.Cut Q N M b ∧ b ≠ Z := by
  rcases h with ⟨h, -⟩ | h
  · exact h
  · exact ⟨.inr (by omega), by omega⟩
namespace Ck
/-- a term's cells stand here -/
def KidAt (w : World) (b o : Nat) (h : Hd) (p : Pl) : Prop := ∀ (j : Nat) (v : Value), (h.cells p)[j]? = some v → w.cell? ⟨b, o + j, none⟩ = some v
/-- what the rules tell of this term, which lies in wb, whatever is around -/
def TellsOf (rv : Cg.Rv) (K : Nat) (wb : World) (h : Hd) (kids : Tm) (p : Pl) : Prop :=
  ∀ (Q : Nat → Prop) (l : Env) (A : Option Addr) (n c : Nat) (W : World), Below wb.heap.size wb W → (∀ b, b < wb.heap.size → Q b) → Shapes W → EAt Q W l A n c → l.length + 2 * (Tm.nodes kids + 1) ≤ 20000 →
    Calls Tryz.prog 28 #[.agg #[.func (Fn.func rv.fr) #[] rv.cpt, .func (Fn.func rv.fa) #[] #[], .func (Fn.func rv.fm) #[] #[], .func (Fn.func rv.ft) #[] #[], rv.vg], .agg #[.int .i8 h.kind, .string h.name, .string h.arg, .int .i64 h.num, .int .i8 h.tk, .slice p.TA p.tn p.tc, .int .i8 h.uk, .slice p.UA p.un p.uc, .int .i64 h.label, .int .i64 h.pos, .slice p.A p.n p.c], .slice A n c] W (Post Q W (Cg.ty rv.D K h kids l))
/-- a row of one name -/
theorem EAt.one {Q : Nat → Prop} {w : World} {X : Nat} {nm : ByteArray} {t : T2} {G : Option Addr} {m k : Nat} {ty : TypeId} (hX : w.heap[X]? = some (.cells #[.string nm, .int .i8 t.1, .slice G m k] ty (0, 0))) (hL : Ly Q w t G m k) : EAt Q w [(nm, t)] (some ⟨X, 0, none⟩) 1 1 := by
  refine ⟨rfl, Nat.le_refl _, by decide, (fun h => by cases h), [.string nm, .int .i8 t.1, .slice G m k], ⟨⟨rfl, rfl, G, m, k, rfl, hL⟩, trivial⟩, fun a ha => ?_⟩
  injection ha with ha
  subst ha
  refine ⟨X, 0, rfl, heap_lt hX, fun j u hu => ?_⟩
  rw [Nat.zero_add]
  exact cell_of_heap hX j (by rw [← Array.getElem?_toList]; exact hu)
/-- a row of two names -/
theorem EAt.two {Q : Nat → Prop} {w : World} {X : Nat} {nm nm' : ByteArray} {t t' : T2} {G G' : Option Addr} {m k m' k' : Nat} {ty : TypeId} (hX : w.heap[X]? = some (.cells #[.string nm, .int .i8 t.1, .slice G m k, .string nm', .int .i8 t'.1, .slice G' m' k'] ty (0, 0))) (hL : Ly Q w t G m k) (hL' : Ly Q w t' G' m' k') : EAt Q w [(nm, t), (nm', t')] (some ⟨X, 0, none⟩) 2 2 := by
  refine ⟨rfl, Nat.le_refl _, by decide, (fun h => by cases h), [.string nm, .int .i8 t.1, .slice G m k, .string nm', .int .i8 t'.1, .slice G' m' k'], ⟨⟨rfl, rfl, G, m, k, rfl, hL⟩, ⟨rfl, rfl, G', m', k', rfl, hL'⟩, trivial⟩, fun a ha => ?_⟩
  injection ha with ha
  subst ha
  refine ⟨X, 0, rfl, heap_lt hX, fun j u hu => ?_⟩
  rw [Nat.zero_add]
  exact cell_of_heap hX j (by rw [← Array.getElem?_toList]; exact hu)
/-- a type over two that a block holds -/
theorem Ly.two {Q : Nat → Prop} {w : World} {a b : T2} {Y : Nat} {G G' : Option Addr} {m k m' k' : Nat} {ty : TypeId} (hX : w.heap[Y]? = some (.cells #[.int .i8 a.1, .slice G m k, .int .i8 b.1, .slice G' m' k'] ty (0, 0))) (hQ : Q Y) (hL : Ly Q w a G m k) (hL' : Ly Q w b G' m' k') (kd : Int) (hk : -128 ≤ kd ∧ kd ≤ 127) : Ly Q w (mk2 kd a b) (some ⟨Y, 0, none⟩) 2 2 := by
  obtain ⟨e0, e1, e2, e3, -⟩ := own4 hX
  refine Row.two ⟨hQ, heap_lt hX, fun i t ht => ?_⟩ kd hk 2 (Nat.le_refl _) (by decide)
  match i, ht with
  | 0, ht => injection ht with ht; subst ht; exact ⟨G, m, k, e0, e1, hL⟩
  | 1, ht => injection ht with ht; subst ht; exact ⟨G', m', k', e2, e3, hL'⟩
  | i + 2, ht => simp at ht
end Ck
end Go.Proofs.YtknhoagicdfikaaGreatDoor
namespace Go.Proofs.YtknhoagicdfikaaGreatDoor
open Go.RowKit
/-- an operation's value, by what is known of the frame -/
theorem EV {P : Prop} (h : P := by (obtain ⟨hcst, hfn⟩ := evc a'; generalize a'.eval = ev at *; clear hp; (try clear y0); (try clear y1); (try clear y2); (try clear y3); (try clear y4); (try clear y5); (try clear y6); (try clear y7); (try clear y8); (try clear y9); (try clear y10); (try clear y11); (try clear y12); (try clear y13); (try clear y14); (try clear y15); (try clear y16); (try clear y17); (try clear y18); (try clear y19); (try clear y20); (try clear y21); (try clear y22); (try clear y23); (try clear y24); (try clear y25); go_simp)) : P := h
theorem SI {α : Type} {a b : α} (h : some a = some b) : a = b := Option.some.inj h
/-- another operation's facts stay -/
theorem K1 {l : Array Bool} {i j : Nat} {A B : Prop} (y : l[j]? = some true → A) (f : A → B := by ((repeat' with_reducible refine And.imp ?_ ?_) <;> first | with_reducible exact id | with_reducible exact fun q => pn q | with_reducible exact fun q => set_keep q | with_reducible exact fun q => Ck.Ly.later q hba | with_reducible exact fun q => Ck.Ly.later q hb | with_reducible exact fun q => Ck.EAt.below q hba | with_reducible exact fun q => Ck.EAt.below q hb | with_reducible exact fun q => heap_old q _ | with_reducible exact fun q => heap_below hb (heap_lt q) q | with_reducible exact eh_old | with_reducible exact eh_below hb | ((with_reducible refine fun q => Ck.Ly.set2 q ?_ _ _); first | exact fun b hq => hq.ne (by omega) (by omega) | exact fun b hq => hq.2 | exact fun b hq => hq.2.1 | exact fun b hq => hq.2.2 | exact fun b hq => by have h1 : _ ≤ b := hq; omega) | ((with_reducible refine fun q => set_two_ne q ?_ _ _); omega) | ((with_reducible refine fun q => eh_set_ne q ?_); omega))) (h : i ≠ j := by decide) : (l.setIfInBounds i true)[j]? = some true → B := kF y f h
theorem V_ {P : Program} {ops : Array Oper} {Q : Exit → Act → World → Prop} {i : Nat} {o : Oper} {K : Act → World → Prop} {a : Act} {w : World} {v : Value} (ho : ops[i]? = some o) (d : Nat) (h : K (a.put (some d) v) w) (hg : o.guard = none := by exact rfl) (hd : o.dst = some d := by exact rfl) (hr : (execOp a.eval o).run P w = .ok (.value v) w := by (obtain ⟨hcst, hfn⟩ := evc a'; generalize a'.eval = ev at *; clear hp; (try clear y0); (try clear y1); (try clear y2); (try clear y3); (try clear y4); (try clear y5); (try clear y6); (try clear y7); (try clear y8); (try clear y9); (try clear y10); (try clear y11); (try clear y12); (try clear y13); (try clear y14); (try clear y15); (try clear y16); (try clear y17); (try clear y18); (try clear y19); (try clear y20); (try clear y21); (try clear y22); (try clear y23); (try clear y24); (try clear y25); go_simp)) : wpOp P ops Q i K a w := wpOp_at ho hg (wp_value d hd hr h)
theorem C_ {P : Program} {ops : Array Oper} {Q : Exit → Act → World → Prop} {i : Nat} {o : Oper} {K : Act → World → Prop} {a : Act} {w : World} {f : FuncId} {args : Array Value} {C : Ending → World → Prop} (ho : ops[i]? = some o) (d : Nat) (hc : Calls P f args w C) (h : ∀ e w', C e w' → ∃ v, e = .returned v ∧ K (a.put (some d) v) w') (hg : o.guard = none := by exact rfl) (hd : o.dst = some d := by exact rfl) (hr : (execOp a.eval o).run P w = .ok (.enter f args) w := by (obtain ⟨hcst, hfn⟩ := evc a'; generalize a'.eval = ev at *; clear hp; (try clear y0); (try clear y1); (try clear y2); (try clear y3); (try clear y4); (try clear y5); (try clear y6); (try clear y7); (try clear y8); (try clear y9); (try clear y10); (try clear y11); (try clear y12); (try clear y13); (try clear y14); (try clear y15); (try clear y16); (try clear y17); (try clear y18); (try clear y19); (try clear y20); (try clear y21); (try clear y22); (try clear y23); (try clear y24); (try clear y25); go_simp; try (first | rfl | exact ⟨rfl, rfl⟩ | exact ⟨rfl, rfl, rfl⟩))) : wpOp P ops Q i K a w := wpOp_at ho hg (wp_calls d hd hr hc h)
theorem M_ {P : Program} {ops : Array Oper} {Q : Exit → Act → World → Prop} {i : Nat} {o : Oper} {K : Act → World → Prop} {a : Act} {w : World} {f : FuncId} {args : Array Value} {C : Ending → World → Prop} (ho : ops[i]? = some o) (d : Nat) (hc : Calls P f args w C) (h : ∀ e w', C e w' → (∃ v, e = .returned v ∧ K (a.put (some d) v) w') ∨ ∃ ch, e = .panicked ch ∧ Q (.panic ch) a w') (hg : o.guard = none := by exact rfl) (hd : o.dst = some d := by exact rfl) (hr : (execOp a.eval o).run P w = .ok (.enter f args) w := by (obtain ⟨hcst, hfn⟩ := evc a'; generalize a'.eval = ev at *; clear hp; (try clear y0); (try clear y1); (try clear y2); (try clear y3); (try clear y4); (try clear y5); (try clear y6); (try clear y7); (try clear y8); (try clear y9); (try clear y10); (try clear y11); (try clear y12); (try clear y13); (try clear y14); (try clear y15); (try clear y16); (try clear y17); (try clear y18); (try clear y19); (try clear y20); (try clear y21); (try clear y22); (try clear y23); (try clear y24); (try clear y25); go_simp; try (first | rfl | exact ⟨rfl, rfl⟩ | exact ⟨rfl, rfl, rfl⟩))) : wpOp P ops Q i K a w := wpOp_at ho hg (wp_may d hd hr hc h)
theorem FH {i n : Nat} {P : Prop} (h : (Array.replicate n false)[i]? = some true) : P := by
  rw [Array.getElem?_replicate] at h
  split at h <;> cases h
theorem KX {A B : Prop} (x : A) (f : A → B := by ((repeat' with_reducible refine And.imp ?_ ?_) <;> exact fun q => pn q)) : B := f x
theorem KN {l : Array Bool} {i j : Nat} {A B : Prop} (y : l[j]? = some true → A) (hi : l[i]? = some false := by exact hi) (f : A → l[i]? = some true := by (intro q; with_reducible first | exact q | exact q.1 | exact q.2.1 | exact q.2.2.1 | exact q.2.2.2.1 | exact q.2.2.2.2.1 | exact q.2.2.2.2.2.1 | exact q.2.2.2.2.2.2.1 | exact q.2.2.2.2.2.2.2.1 | exact q.2.2.2.2.2.2.2.2.1 | exact q.2.2.2.2.2.2.2.2.2.1 | exact q.2.2.2.2.2.2.2.2.2.2.1 | exact q.2.2.2.2.2.2.2.2.2.2.2.1 | exact q.2.2.2.2.2.2.2.2.2.2.2.2.1 | exact q.2.2.2.2.2.2.2.2.2.2.2.2.2.1 | exact q.2.2.2.2.2.2.2.2.2.2.2.2.2.2.1 | exact q.2.2.2.2.2.2.2.2.2.2.2.2.2.2.2.1 | exact q.2.2.2.2.2.2.2.2.2.2.2.2.2.2.2.2.1 | exact q.2.2.2.2.2.2.2.2.2.2.2.2.2.2.2.2.2.1 | exact q.2.2.2.2.2.2.2.2.2.2.2.2.2.2.2.2.2.2.1 | exact q.2.2.2.2.2.2.2.2.2.2.2.2.2.2.2.2.2.2.2.1 | exact q.2.2.2.2.2.2.2.2.2.2.2.2.2.2.2.2.2.2.2.2.1 | exact q.2.2.2.2.2.2.2.2.2.2.2.2.2.2.2.2.2.2.2.2.2.1 | exact q.2.2.2.2.2.2.2.2.2.2.2.2.2.2.2.2.2.2.2.2.2.2.1 | exact q.2.2.2.2.2.2.2.2.2.2.2.2.2.2.2.2.2.2.2.2.2.2.2.1 | exact q.2.2.2.2.2.2.2.2.2.2.2.2.2.2.2.2.2.2.2.2.2.2.2.2.1 | exact q.2.2.2.2.2.2.2.2.2.2.2.2.2.2.2.2.2.2.2.2.2.2.2.2.2.1 | exact q.2 | exact q.2.2 | exact q.2.2.2 | exact q.2.2.2.2 | exact q.2.2.2.2.2 | exact q.2.2.2.2.2.2 | exact q.2.2.2.2.2.2.2 | exact q.2.2.2.2.2.2.2.2 | exact q.2.2.2.2.2.2.2.2.2 | exact q.2.2.2.2.2.2.2.2.2.2 | exact q.2.2.2.2.2.2.2.2.2.2.2 | exact q.2.2.2.2.2.2.2.2.2.2.2.2 | exact q.2.2.2.2.2.2.2.2.2.2.2.2.2 | exact q.2.2.2.2.2.2.2.2.2.2.2.2.2.2 | exact q.2.2.2.2.2.2.2.2.2.2.2.2.2.2.2 | exact q.2.2.2.2.2.2.2.2.2.2.2.2.2.2.2.2 | exact q.2.2.2.2.2.2.2.2.2.2.2.2.2.2.2.2.2 | exact q.2.2.2.2.2.2.2.2.2.2.2.2.2.2.2.2.2.2 | exact q.2.2.2.2.2.2.2.2.2.2.2.2.2.2.2.2.2.2.2 | exact q.2.2.2.2.2.2.2.2.2.2.2.2.2.2.2.2.2.2.2.2 | exact q.2.2.2.2.2.2.2.2.2.2.2.2.2.2.2.2.2.2.2.2.2 | exact q.2.2.2.2.2.2.2.2.2.2.2.2.2.2.2.2.2.2.2.2.2.2 | exact q.2.2.2.2.2.2.2.2.2.2.2.2.2.2.2.2.2.2.2.2.2.2.2 | exact q.2.2.2.2.2.2.2.2.2.2.2.2.2.2.2.2.2.2.2.2.2.2.2.2 | exact q.2.2.2.2.2.2.2.2.2.2.2.2.2.2.2.2.2.2.2.2.2.2.2.2.2)) (h : i ≠ j := by decide) : (l.setIfInBounds i true)[j]? = some true → B := kN y f hi h
end Go.Proofs.YtknhoagicdfikaaGreatDoor
namespace Go.Proofs.YtknhoagicdfikaaGreatDoor
open Go.RowKit
set_option maxHeartbeats 1500000 in
set_option maxRecDepth 100000 in
theorem ckover_17 (rv : Cg.Rv) (Q : Nat → Prop) (h : Hd) (p : Pl) (a : Ck.T2) (Y n cap : Nat) (w : World) (hk : h.kind = 17) (hn : n = 1) (hR : Ck.Row Q w [a] Y) (hS : Shapes w) (hT : Ck.Ly Q w (Ck.TT h) p.TA p.tn p.tc) (hU : Ck.Ly Q w (Ck.UU h) p.UA p.un p.uc) (hca : rv.D.ca = true) :
    Calls Tryz.prog 77 #[.agg #[.func (Fn.func rv.fr) #[] rv.cpt, .func (Fn.func rv.fa) #[] #[], .func (Fn.func rv.fm) #[] #[], .func (Fn.func rv.ft) #[] #[], rv.vg], .agg #[.int .i8 h.kind, .string h.name, .string h.arg, .int .i64 h.num, .int .i8 h.tk, .slice p.TA p.tn p.tc, .int .i8 h.uk, .slice p.UA p.un p.uc, .int .i64 h.label, .int .i64 h.pos, .slice p.A p.n p.c], .slice (some ⟨Y, 0, none⟩) n cap] w (Ck.Post Q w (Cg.over rv.D h a (0, .nil) (0, .nil))) := by
  rw [Cg.over_17 _ _ _ _ _ hk hca]
  obtain ⟨Ga, ma, ca, a0, a1, aL⟩ := hR.cell 0 a rfl
  obtain ⟨w1, hw1, hB3, h0, h1, h2, hz⟩ := boxes3 w (.cells #[.func (Fn.func rv.fr) #[] rv.cpt, .func (Fn.func rv.fa) #[] #[], .func (Fn.func rv.fm) #[] #[], .func (Fn.func rv.ft) #[] #[], rv.vg] 47) (.cells #[.int .i8 h.kind, .string h.name, .string h.arg, .int .i64 h.num, .int .i8 h.tk, .slice p.TA p.tn p.tc, .int .i8 h.uk, .slice p.UA p.un p.uc, .int .i64 h.label, .int .i64 h.pos, .slice p.A p.n p.c] 28) (.cells #[.int .i8 0, .slice none 0 0] 25)
  have HW1 := Lib.hid hw1
  have HB3 := Lib.hid hB3
  have H0 := Lib.hid h0
  have H1 := Lib.hid h1
  have H2 := Lib.hid h2
  have HZ := Lib.hid hz
  have HAL : Hid (Ck.Ly (Ck.Cut Q w.heap.size (w.heap.size + 3)) w1 a Ga ma ca) := Lib.hid ((aL.weak (fun b hl hq => .inl ⟨hq, hl⟩)).later hB3)
  have HS := Lib.hid (hS.below hB3)
  have hfrom := Lib.hid (fun (W : World) (hb : Below w1.heap.size w1 W) => hB3.trans (hb.mono hB3.size))
  have HA := Lib.hid (And.intro (keep_cell a0 hB3) (keep_cell a1 hB3))
  have HK := Lib.hid (fun (W : World) (hb : Below w1.heap.size w1 W) => (show W.cell? ⟨w.heap.size, 0, none⟩ = some (.func (Fn.func rv.fr) #[] rv.cpt) ∧ W.cell? ⟨w.heap.size, 1, none⟩ = some (.func (Fn.func rv.fa) #[] #[]) ∧ W.cell? ⟨w.heap.size, 2, none⟩ = some (.func (Fn.func rv.fm) #[] #[]) ∧ W.cell? ⟨w.heap.size, 3, none⟩ = some (.func (Fn.func rv.ft) #[] #[]) ∧ W.cell? ⟨w.heap.size, 4, none⟩ = some rv.vg ∧ W.cell? ⟨w.heap.size + 1, 0, none⟩ = some (.int .i8 h.kind) ∧ W.cell? ⟨w.heap.size + 1, 1, none⟩ = some (.string h.name) ∧ W.cell? ⟨w.heap.size + 1, 2, none⟩ = some (.string h.arg) ∧ W.cell? ⟨w.heap.size + 1, 3, none⟩ = some (.int .i64 h.num) ∧ W.cell? ⟨w.heap.size + 1, 4, none⟩ = some (.int .i8 h.tk) ∧ W.cell? ⟨w.heap.size + 1, 5, none⟩ = some (.slice p.TA p.tn p.tc) ∧ W.cell? ⟨w.heap.size + 1, 6, none⟩ = some (.int .i8 h.uk) ∧ W.cell? ⟨w.heap.size + 1, 7, none⟩ = some (.slice p.UA p.un p.uc) ∧ W.cell? ⟨w.heap.size + 1, 8, none⟩ = some (.int .i64 h.label) ∧ W.cell? ⟨w.heap.size + 1, 9, none⟩ = some (.int .i64 h.pos) ∧ W.cell? ⟨w.heap.size + 1, 10, none⟩ = some (.slice p.A p.n p.c) ∧ W.cell? ⟨Y, 0, none⟩ = some (.int .i8 a.1) ∧ W.cell? ⟨Y, 1, none⟩ = some (.slice Ga ma ca) from by
    obtain ⟨r0, r1, r2, r3, r4, -⟩ := own5 (heap_below hb (heap_lt H0.out) H0.out)
    obtain ⟨q0, q1, q2, q3, q4, q5, q6, q7, q8, q9, q10, ql⟩ := own11 (heap_below hb (heap_lt H1.out) H1.out)
    exact ⟨r0, r1, r2, r3, r4, q0, q1, q2, q3, q4, q5, q6, q7, q8, q9, q10, keep_cell HA.out.1 hb, keep_cell HA.out.2 hb⟩))
  clear hR hS a0 a1 aL hB3 h0 h1 h2 hz
  subst hn
  have HKK := Lib.hid hk
  clear hk
  obtain ⟨R, hR⟩ : ∃ R, R = (if rv.D.ag a (Ck.TT h) = true then (if rv.D.gs (Ck.TT h) (Ck.UU h) = true then .ok (Ck.UU h) else Ck.fault h 91) else Ck.fault h 91) := ⟨_, rfl⟩
  rw [← hR]
  have HR := Lib.hid hR
  clear hR
  have HT := Lib.hid ((hT.weak (Q' := fun b => Q b ∧ b < w.heap.size) (fun b hl hq => ⟨hq, hl⟩)).later HB3.out)
  have HU := Lib.hid ((hU.weak (Q' := fun b => Q b ∧ b < w.heap.size) (fun b hl hq => ⟨hq, hl⟩)).later HB3.out)
  have HCA := Lib.hid hca
  clear hT hU hca
  go_enter Tryz.func77, Tryz.ntmps77
  go_upto_region 1 with fail
  rw [← HW1.out]
  obtain ⟨r0, r1, r2, r3, r4, q0, q1, q2, q3, q4, q5, q6, q7, q8, q9, q10, y0, y1⟩ := HK.out w1 (Below.refl _ _)
  rw [HKK.out] at q0
  clear hw1
  go_upto_region 30 with fail
  clear r0 r1 r2 r3 r4 q0 q1 q2 q3 q4 q5 q6 q7 q8 q9 q10 y0 y1
  refine region_inv_end2 170 rfl [147, 148, 149, 150, 151, 152, 153, 154] (by kernel_rfl) (by kernel_rfl) (by kernel_rfl) (fun listed a' w' => a'.defers = [] ∧ a'.tmps.size = 170 ∧ (a'.eval (.tmp 2) = .slice (some ⟨Y, 0, none⟩) 1 cap ∧ a'.eval (.tmp 3) = .pointer (some ⟨w.heap.size, 0, none⟩) ∧ a'.eval (.tmp 4) = .pointer (some ⟨w.heap.size + 1, 0, none⟩) ∧ a'.eval (.tmp 6) = .pointer (some ⟨w.heap.size + 1 + 1, 0, none⟩)) ∧ (listed[0]? = some true → (a'.eval (.tmp 147) = .agg #[.func (Fn.func rv.fr) #[] rv.cpt, .func (Fn.func rv.fa) #[] #[], .func (Fn.func rv.fm) #[] #[], .func (Fn.func rv.ft) #[] #[], rv.vg])) ∧ (listed[1]? = some true → (a'.eval (.tmp 148) = .agg #[.int .i8 h.kind, .string h.name, .string h.arg, .int .i64 h.num, .int .i8 h.tk, .slice p.TA p.tn p.tc, .int .i8 h.uk, .slice p.UA p.un p.uc, .int .i64 h.label, .int .i64 h.pos, .slice p.A p.n p.c])) ∧ (listed[2]? = some true → (a'.eval (.tmp 149) = .slice (some ⟨Y, 0, none⟩) 1 cap)) ∧ (listed[3]? = some true → (a'.eval (.tmp 150) = .pointer (some ⟨Y, 0, none⟩))) ∧ (listed[4]? = some true → (a'.eval (.tmp 151) = .agg #[.int .i8 a.1, .slice Ga ma ca])) ∧ (listed[5]? = some true → (a'.eval (.tmp 152) = .pointer (some ⟨w.heap.size + 1, 4, none⟩))) ∧ (listed[6]? = some true → (a'.eval (.tmp 153) = .agg #[.int .i8 h.tk, .slice p.TA p.tn p.tc])) ∧ (listed[7]? = some true → (a'.eval (.tmp 154) = .tuple #[]) ∧ (rv.D.ag a (Ck.TT h) = true)) ∧ Below w1.heap.size w1 w') (fun _ _ _ h => h.1) ?_ ?_ ?_
  · have hz := HZ.out
    refine ⟨rfl, rfl, ⟨rfl, rfl, rfl, rfl⟩, FH, FH, FH, FH, FH, FH, FH, FH, (Below.refl _ _).drew⟩
  · rintro listed a' w' i o ⟨hdf, hsz, hx, y0, y1, y2, y3, y4, y5, y6, y7, hbw⟩ hz hsz0 ho hi hp
    have hi13 : i < 8 := by
      rcases Nat.lt_or_ge i 8 with q | q
      · exact q
      · rw [Array.getElem?_eq_none (by simpa using q)] at ho; cases ho
    rcases (by omega : i = 0 ∨ i = 1 ∨ i = 2 ∨ i = 3 ∨ i = 4 ∨ i = 5 ∨ i = 6 ∨ i = 7) with rfl | rfl | rfl | rfl | rfl | rfl | rfl | rfl
    · obtain rfl := SI ho
      obtain ⟨c0, c1, c2, c3, c4, c5, c6, c7, c8, c9, c10, c11, c12, c13, c14, c15, c16, c17⟩ := HK.out w' hbw
      exact V_ ho 147 ⟨pd hdf, ps hsz, KX hx, (fun _ => pS hsz), K1 y1, K1 y2, K1 y3, K1 y4, K1 y5, K1 y6, K1 y7, hbw⟩
    · obtain rfl := SI ho
      obtain ⟨c0, c1, c2, c3, c4, c5, c6, c7, c8, c9, c10, c11, c12, c13, c14, c15, c16, c17⟩ := HK.out w' hbw
      exact V_ ho 148 ⟨pd hdf, ps hsz, KX hx, K1 y0, (fun _ => pS hsz), K1 y2, K1 y3, K1 y4, K1 y5, K1 y6, K1 y7, hbw⟩
    · obtain rfl := SI ho
      exact V_ ho 149 ⟨pd hdf, ps hsz, KX hx, K1 y0, K1 y1, (fun _ => pS hsz), K1 y3, K1 y4, K1 y5, K1 y6, K1 y7, hbw⟩
    · obtain rfl := SI ho
      have v2 := hpv hp 2 (by simp)
      have ww2 := (y2 v2)
      exact V_ ho 150 ⟨pd hdf, ps hsz, KX hx, K1 y0, K1 y1, K1 y2, (fun _ => pS hsz), K1 y4, K1 y5, K1 y6, K1 y7, hbw⟩
    · obtain rfl := SI ho
      have v3 := hpv hp 3 (by simp)
      have ww3 := (y3 v3)
      obtain ⟨c0, c1, c2, c3, c4, c5, c6, c7, c8, c9, c10, c11, c12, c13, c14, c15, c16, c17⟩ := HK.out w' hbw
      exact V_ ho 151 ⟨pd hdf, ps hsz, KX hx, K1 y0, K1 y1, K1 y2, K1 y3, (fun _ => pS hsz), K1 y5, K1 y6, K1 y7, hbw⟩
    · obtain rfl := SI ho
      exact V_ ho 152 ⟨pd hdf, ps hsz, KX hx, K1 y0, K1 y1, K1 y2, K1 y3, K1 y4, (fun _ => pS hsz), K1 y6, K1 y7, hbw⟩
    · obtain rfl := SI ho
      have v5 := hpv hp 5 (by simp)
      have ww5 := (y5 v5)
      obtain ⟨c0, c1, c2, c3, c4, c5, c6, c7, c8, c9, c10, c11, c12, c13, c14, c15, c16, c17⟩ := HK.out w' hbw
      exact V_ ho 153 ⟨pd hdf, ps hsz, KX hx, K1 y0, K1 y1, K1 y2, K1 y3, K1 y4, K1 y5, (fun _ => pS hsz), K1 y7, hbw⟩
    · obtain rfl := SI ho
      have v0 := hpv hp 0 (by simp)
      have ww0 := (y0 v0)
      have v1 := hpv hp 1 (by simp)
      have ww1 := (y1 v1)
      have v4 := hpv hp 4 (by simp)
      have ww4 := (y4 v4)
      have v6 := hpv hp 6 (by simp)
      have ww6 := (y6 v6)
      refine M_ ho 154 (ckwant_any rv h p a.1 a.2 Ga ma ca h.tk h.tkids p.TA p.tn p.tc w' (HAL.out.later hbw).is (HT.out.later hbw).is (HS.out.below hbw)) fun e u hg => ?_
      · rcases hg with ⟨hq, hg⟩ | ⟨hq, hg⟩
        · have HP : Ck.Post Q w R e u := by rw [HR.out, if_neg (ne_of_false (show rv.D.ag a (Ck.TT h) = false from hq))]; exact Ck.Gave.from hg (hfrom.out w' hbw)
          obtain ⟨g, rfl, hg2⟩ := hg
          exact .inr ⟨_, rfl, hdf, HP⟩
        · obtain ⟨he, hb⟩ := hg
          refine .inl ?_
          refine ⟨.tuple #[], he, ?_⟩
          have hbs := hbw.size
          have hzz := HZ.out
          have hbs2 := hb.size
          exact ⟨pd hdf, ps hsz, KX hx, K1 y0, K1 y1, K1 y2, K1 y3, K1 y4, K1 y5, K1 y6, (fun _ => ⟨pS hsz, hq⟩), hbw.trans (hb.mono hbw.size)⟩
  · rintro listed u w' t ht hu ⟨-, -, -, y0, y1, y2, y3, y4, y5, y6, y7, hbw⟩ hall
    have v7 := hall 7 (by decide)
    have HBW := Lib.hid hbw
    have P1 := Lib.hid ((y7 v7).2)
    clear y0 y1 y2 y3 y4 y5 y6 y7 v7 hall hu
    clear hbw
    simp only [over, List.setIfInBounds_toArray, List.set_cons_succ, List.set_cons_zero] at ht
    subst ht
    obtain ⟨r0, r1, r2, r3, r4, q0, q1, q2, q3, q4, q5, q6, q7, q8, q9, q10, y0, y1⟩ := HK.out w' HBW.out
    have CG := Lib.hid (ckgoes_any rv h p w' HCA.out (HT.out.later HBW.out).is (HU.out.later HBW.out).is (HS.out.below HBW.out))
    go_wp2_with fail
    refine CG.out.mono ?_
    rintro e w5 hg
    rcases hg with ⟨hq, hg⟩ | ⟨hq, he, hb⟩
    · have HP : Ck.Post Q w R e w5 := by rw [HR.out, if_pos P1.out, if_neg (ne_of_false (show rv.D.gs (Ck.TT h) (Ck.UU h) = false from hq))]; exact Ck.Gave.from hg (hfrom.out w' HBW.out)
      obtain ⟨g, rfl, -⟩ := hg
      go_wp2_with fail
      exact ⟨rfl, HP⟩
    · subst he
      have HB5 := Lib.hid (HBW.out.trans (hb.mono HBW.out.size))
      have HGS := Lib.hid (show rv.D.gs (Ck.TT h) (Ck.UU h) = true from hq)
      clear hb hq r0 r1 r2 r3 r4 q0 q1 q2 q3 q4 q5 q6 q7 q8 q9 q10 y0 y1
      obtain ⟨r0, r1, r2, r3, r4, q0, q1, q2, q3, q4, q5, q6, q7, q8, q9, q10, y0, y1⟩ := HK.out w5 HB5.out
      have z2 := heap_below HB5.out (heap_lt H2.out) H2.out
      obtain ⟨x0, x1, f0, f1, xl⟩ := own2 z2
      go_wp2_with fail
      have z3 := set_two z2 (.int .i8 h.uk) (.slice p.UA p.un p.uc)
      obtain ⟨k0, k1, -, -, -⟩ := own2 z3
      refine ⟨rfl, .agg #[.int .i8 h.uk, .slice p.UA p.un p.uc], by simp [results, Tryz.results77, go_sem, k0, k1], ?_⟩
      rw [HR.out, if_pos P1.out, if_pos HGS.out]
      exact ⟨p.UA, p.un, p.uc, rfl, ((HU.out.later HB5.out).set2 (fun b hq => by have := hq.2; omega) _ _).weak (fun b _ hq => .inl hq), below_set2 (hfrom.out _ HB5.out) (by omega) _ _⟩

end Go.Proofs.YtknhoagicdfikaaGreatDoor
namespace Go.Proofs.YtknhoagicdfikaaGreatDoor
open Go.RowKit
end Go.Proofs.YtknhoagicdfikaaGreatDoor
