import Derived.Test.YtjpohjcnjanoaaaGreatDoorCkR
namespace Go.Proofs.YtjpohjcnjanoaaaGreatDoor
open Go.RowKit
theorem jZ {k : Int} (hk : -128 ≤ k ∧ k ≤ 127) (w : World) : Ty.Is w k .nil none 0 0 := ⟨trivial, rfl, Nat.le_refl _, Nat.zero_le _, hk.1, hk.2⟩
theorem zC7 (Q : Nat → Prop) (w : World) (s : ByteArray) : Ck.Ly Q w (Ck.opAns s) none 0 0 := fun u _ => by
  unfold Ck.opAns
  split
  · exact jZ (by decide) u
  · exact jZ (by decide) u
theorem zi {P : Program} {Q : Exit → Act → World → Prop} {o : Oper} {K : Act → World → Prop} {a : Act} {w w2 : World} (hd : o.dst = none) (hr : (execOp a.eval o).run P w = .ok .skip w2) (h : K a w2) : o.wp P a w K Q := by
  unfold Oper.wp
  rw [hr]
  show K (a.put o.dst undef) w2
  rw [hd]
  exact h
theorem hpv {o : Oper} {l : Array Bool} (hp : ∀ e ∈ o.after, Region.binds .any e = true → l.getD e.on false = true) (d : Nat) (h : ⟨d, .data⟩ ∈ o.after) : l[d]? = some true := zD9 (hp ⟨d, .data⟩ h rfl)
theorem z8 {l : Array Bool} {i j : Nat} (h : l[j]? = some true) : (l.setIfInBounds i true)[j]? = some true := by
  rw [Array.getElem?_setIfInBounds]
  split
  · subst_vars
    split
    · rfl
    · rename_i q
      rw [Array.getElem?_eq_none (by omega)] at h; cases h
  · exact h
theorem zCn {t : Array Value} {u : Nat → Value} {n : Nat} {ds : List Nat} {d : Nat} (hd : d ∈ ds) (hz : (over t u ds).size = n) (hlt : d < n) : Act.eval { tmps := over t u ds, defers := [] } (.tmp d) = u d := by
  have hz : t.size = n := by rw [← hz, qd]
  have key : ∀ ds : List Nat, d ∈ ds → (over t u ds)[d]? = some (u d) := by
    intro ds hd
    induction ds with
    | nil => cases hd
    | cons e ds ih =>
      simp only [over]
      rw [Array.getElem?_setIfInBounds]
      by_cases h : e = d
      · subst h
        rw [if_pos rfl, if_pos (by rw [qd]; omega)]
      · rw [if_neg h]
        rcases List.mem_cons.1 hd with q | q
        · exact absurd q.symm h
        · exact ih q
  show (over t u ds).getD d undef = u d
  rw [Array.getD_eq_getD_getElem?, key ds hd]
  rfl
theorem zO {P : Program} {id : Nat} {ops : Array Oper} {Q : Exit → Act → World → Prop} {t0 : Array Value} {w : World} (n : Nat) (hn : t0.size = n) (ds : List Nat) (hm : P.follows .mixedOrders = true) (hl : lexOk ops = true)
    (hds : (ops.toList.all fun o => match o.dst with | some d => ds.contains d | none => true) = true) (I : Array Bool → Act → World → Prop) (hI : ∀ l a w, I l a w → a.defers = [])
    (h0 : I (Array.replicate ops.size false) { tmps := t0, defers := [] } w.drew)
    (hs : ∀ (listed : Array Bool) (a : Act) (w : World) (i : Nat) (o : Oper), I listed a w → listed.size = ops.size → a.tmps.size = t0.size → ops[i]? = some o → listed[i]? = some false → (∀ e ∈ o.after, Region.binds .any e = true → listed.getD e.on false = true) → wpOp P ops Q i (fun a' w' => I (listed.setIfInBounds i true) a' w') a w)
    (hd : ∀ (listed : Array Bool) (u : Nat → Value) (w : World) (t : Array Value), t = over t0 u ds → (∀ d, d ∈ ds → d < n → Act.eval { tmps := t, defers := [] } (.tmp d) = u d) → I listed { tmps := t, defers := [] } w → (∀ i, i < ops.size → listed[i]? = some true) → Q .normal { tmps := t, defers := [] } w) : (Code.region id ops true).wp P Q { tmps := t0, defers := [] } w :=
  jO ds hm hl hds I hI h0 hs fun l u w h hall => hd l u w _ rfl (fun _ hdd hlt => zCn hdd (by rw [qd]; exact hn) hlt) h hall
theorem zQ {l : Array Bool} {i : Nat} (h : (l.setIfInBounds i true)[i]? = some false) : False := by
  rw [Array.getElem?_setIfInBounds] at h
  split at h
  · split at h <;> cases h
  · rename_i q; exact q rfl
theorem pn {a : Act} {d k : Nat} {v x : Value} (q : a.eval (.tmp k) = x) (h : d ≠ k := by decide) : (a.put (some d) v).eval (.tmp k) = x := by rw [zDK h]; exact q
theorem pd {a : Act} {d : Option Nat} {v : Value} (h : a.defers = []) : (a.put d v).defers = [] := by rw [put_defers]; exact h
theorem ps {a : Act} {d : Option Nat} {v : Value} {n : Nat} (h : a.tmps.size = n) : (a.put d v).tmps.size = n := by rw [zC5]; exact h
theorem pS {a : Act} {d : Nat} {v : Value} {n : Nat} (h : a.tmps.size = n) (hd : d < n := by decide) : (a.put (some d) v).eval (.tmp d) = v := zC6 (by rw [h]; exact hd) v
theorem kF {l : Array Bool} {i j : Nat} {A B : Prop} (y : l[j]? = some true → A) (f : A → B) (h : i ≠ j := by decide) : (l.setIfInBounds i true)[j]? = some true → B := fun hj => f (y (by rwa [xn h] at hj))
theorem kE {l : Array Bool} {i j d k : Nat} {a : Act} {v x : Value} (y : l[j]? = some true → a.eval (.tmp k) = x) (h : i ≠ j := by decide) (h2 : d ≠ k := by decide) : (l.setIfInBounds i true)[j]? = some true → (a.put (some d) v).eval (.tmp k) = x := kF y (fun q => pn q h2) h
theorem kU {l : Array Bool} {i j : Nat} {A B : Prop} (y : l[j]? = some false → A) (f : A → B) (h : i ≠ j := by decide) : (l.setIfInBounds i true)[j]? = some false → B := fun hj => f (y (by rwa [xn h] at hj))
theorem kN {l : Array Bool} {i j : Nat} {A B : Prop} (y : l[j]? = some true → A) (f : A → l[i]? = some true) (hi : l[i]? = some false) (h : i ≠ j := by decide) : (l.setIfInBounds i true)[j]? = some true → B := fun hj => by
  have q := f (y (by rwa [xn h] at hj))
  rw [q] at hi; cases hi
theorem kT {l : Array Bool} {i t : Nat} {B : Prop} (v : l[t]? = some true) (h : i ≠ t := by decide) : (l.setIfInBounds i true)[t]? = some false → B := fun hj => by
  rw [xn h, v] at hj; cases hj
theorem nf {l : Array Bool} {i s : Nat} (h : s < l.size) (y : l[s]? = some true → l[i]? = some true) (hi : l[i]? = some false) : l[s]? = some false := by
  cases e : l[s]? with
  | none => rw [Array.getElem?_eq_none_iff] at e; omega
  | some b =>
    cases b with
    | false => rfl
    | true => rw [y e] at hi; cases hi
theorem evc (a : Act) : (∀ v, a.eval (.const v) = v) ∧ ∀ f, a.eval (.func f) = .func (.func f) #[] #[] := ⟨fun _ => rfl, fun _ => rfl⟩
theorem qC {P : Program} {Q : Exit → Act → World → Prop} {o : Oper} {K : Act → World → Prop} {a : Act} {w : World} (d : Nat) (hd : o.dst = some d) {f : FuncId} {args : Array Value} {C : Ending → World → Prop} (hr : (execOp a.eval o).run P w = .ok (.enter f args) w) (hc : Calls P f args w C) (h : ∀ e w', C e w' → (∃ v, e = .returned v ∧ K (a.put (some d) v) w') ∨ ∃ ch, e = .panicked ch ∧ Q (.panic ch) a w') : o.wp P a w K Q := by
  unfold Oper.wp
  rw [hr]
  refine hc.mono fun e w' hC => ?_
  rcases h e w' hC with ⟨v, rfl, hq⟩ | ⟨ch, rfl, hq⟩
  · rw [← hd] at hq
    exact hq
  · exact hq
theorem zU {b : Bool} (h : b = false) : ¬ b = true := by rw [h]; decide
theorem qo {w : World} {X : Nat} {o : Obj} (q : ∃ u0 u1, w.heap[X]? = some (.cells #[u0, u1] 25 (0, 0))) : ∃ u0 u1, (w.alloc o).heap[X]? = some (.cells #[u0, u1] 25 (0, 0)) := q.elim fun _ q => q.elim fun _ q => ⟨_, _, zJ q _⟩
theorem zq {w u : World} {X : Nat} (hb : Below w.heap.size w u) (q : ∃ u0 u1, w.heap[X]? = some (.cells #[u0, u1] 25 (0, 0))) : ∃ u0 u1, u.heap[X]? = some (.cells #[u0, u1] 25 (0, 0)) := q.elim fun _ q => q.elim fun _ q => ⟨_, _, zA hb (zC q) q⟩
theorem qm {w : World} {X : Nat} {a b : Value} (q : ∃ u0 u1, w.heap[X]? = some (.cells #[u0, u1] 25 (0, 0))) : ∃ u0 u1, ((w.setCell ⟨X, 0, none⟩ a).setCell ⟨X, 1, none⟩ b).heap[X]? = some (.cells #[u0, u1] 25 (0, 0)) := q.elim fun _ q => q.elim fun _ q => ⟨_, _, zP q _ _⟩
theorem qP {w : World} {X Y : Nat} {a b : Value} (q : ∃ u0 u1, w.heap[Y]? = some (.cells #[u0, u1] 25 (0, 0))) (h : X ≠ Y) : ∃ u0 u1, ((w.setCell ⟨X, 0, none⟩ a).setCell ⟨X, 1, none⟩ b).heap[Y]? = some (.cells #[u0, u1] 25 (0, 0)) := q.elim fun _ q => q.elim fun _ q => ⟨_, _, zT q h _ _⟩
theorem Ck.Post.split {Q : Nat → Prop} {w w' : World} {r : Ck.R} {e : Ending} (h : Ck.Post Q w r e w') : (∃ E p x, r = .bad E p x ∧ Ck.Gave w E p x e w') ∨ (∃ a, r = .ok a ∧ Ck.Gives Q w a e w') := by
  cases r with
  | ok a => exact .inr ⟨a, rfl, h⟩
  | bad E p x => exact .inl ⟨E, p, x, rfl, h⟩
theorem qF (rv : Cg.Rv) (h : Hd) (p : Pl) (k : Int) (kids : Fo) (A : Option Addr) (n c : Nat) (k' : Int) (kids' : Fo) (A' : Option Addr) (n' c' : Nat) (w : World) (hIs : Ty.Is w k kids A n c) (hIs' : Ty.Is w k' kids' A' n' c') (hS : Shapes w) :
    Calls Tryz.prog 150 #[.agg #[.func (Fn.func rv.fr) #[] #[], .func (Fn.func rv.fa) #[] #[], .func (Fn.func rv.fm) #[] #[], .func (Fn.func rv.ft) #[] #[]], .agg #[.int .i8 h.kind, .string h.name, .string h.arg, .int .i64 h.num, .int .i8 h.tk, .slice p.TA p.tn p.tc, .int .i8 h.uk, .slice p.UA p.un p.uc, .int .i64 h.label, .int .i64 h.pos, .slice p.A p.n p.c], .agg #[.int .i8 k, .slice A n c], .agg #[.int .i8 k', .slice A' n' c']] w fun e w' => (rv.D.ag (k, kids) (k', kids') = false ∧ Ck.Gave w 91 h.pos Ck.e0 e w') ∨ (rv.D.ag (k, kids) (k', kids') = true ∧ e = .returned (.tuple #[]) ∧ Below w.heap.size w w') := by
  cases hq : rv.D.ag (k, kids) (k', kids')
  · exact (xS rv h p k kids A n c k' kids' A' n' c' w hIs hIs' hS hq).mono fun e w' q => .inl ⟨rfl, q⟩
  · exact (yV rv h p k kids A n c k' kids' A' n' c' w hIs hIs' hS hq).mono fun e w' q => .inr ⟨rfl, q⟩
theorem yX (rv : Cg.Rv) (Q : Nat → Prop) (h : Hd) (p : Pl) (a : Ck.T2) (A : Option Addr) (n c : Nat) (b : Ck.T2) (A' : Option Addr) (n' c' : Nat) (w : World) (hL : Ck.Ly Q w a A n c) (hL' : Ck.Ly Q w b A' n' c') (hS : Shapes w) :
    Calls Tryz.prog 152 #[.agg #[.func (Fn.func rv.fr) #[] #[], .func (Fn.func rv.fa) #[] #[], .func (Fn.func rv.fm) #[] #[], .func (Fn.func rv.ft) #[] #[]], .agg #[.int .i8 h.kind, .string h.name, .string h.arg, .int .i64 h.num, .int .i8 h.tk, .slice p.TA p.tn p.tc, .int .i8 h.uk, .slice p.UA p.un p.uc, .int .i64 h.label, .int .i64 h.pos, .slice p.A p.n p.c], .agg #[.int .i8 a.1, .slice A n c], .agg #[.int .i8 b.1, .slice A' n' c']] w fun e w' => (rv.D.ag a b = false ∧ Ck.Gave w 91 h.pos Ck.e0 e w') ∨ (rv.D.ag a b = true ∧ Ck.Gives Q w (rv.D.mt a b) e w') := by
  cases hq : rv.D.ag a b
  · exact (zBk rv Q h p a A n c b A' n' c' w hL hL' hS hq).mono fun e w' q => .inl ⟨rfl, q⟩
  · exact (zAg rv Q h p a A n c b A' n' c' w hL hL' hS hq).mono fun e w' q => .inr ⟨rfl, q⟩
theorem qQ (rv : Cg.Rv) (Q : Nat → Prop) (h : Hd) (p : Pl) (kd : Int) (a : Ck.T2) (A : Option Addr) (n c : Nat) (w : World) (hkd : 3 ≤ kd ∧ kd ≤ 5) (hL : Ck.Ly Q w a A n c) (hok : Ty.okT a.1 a.2 = true) (hS : Shapes w) :
    Calls Tryz.prog 151 #[.agg #[.func (Fn.func rv.fr) #[] #[], .func (Fn.func rv.fa) #[] #[], .func (Fn.func rv.fm) #[] #[], .func (Fn.func rv.ft) #[] #[]], .agg #[.int .i8 h.kind, .string h.name, .string h.arg, .int .i64 h.num, .int .i8 h.tk, .slice p.TA p.tn p.tc, .int .i8 h.uk, .slice p.UA p.un p.uc, .int .i64 h.label, .int .i64 h.pos, .slice p.A p.n p.c], .int .i8 kd, .agg #[.int .i8 a.1, .slice A n c]] w fun e w' => (rv.D.asO kd a = false ∧ Ck.Gave w 90 h.pos Ck.e0 e w') ∨ (rv.D.asO kd a = true ∧ AsPost2 Q w (rv.D.asl kd a) (rv.D.asr kd a) e w') := by
  cases hq : rv.D.asO kd a
  · exact (zAe rv Q h p kd a A n c w hkd hL hok hS hq).mono fun e w' q => .inl ⟨rfl, q⟩
  · exact (uh rv Q h p kd a A n c w hkd hL hok hS hq).mono fun e w' q => .inr ⟨rfl, q⟩
theorem qM {Q : Nat → Prop} {w W : World} {Z b : Nat} (_hz : w.heap.size + 3 ≤ W.heap.size) (h : Z = w.heap.size + 2 ∨ W.heap.size ≤ Z) (hl : b < W.heap.size) (hq : Ck.Cut Q w.heap.size (w.heap.size + 3) b) : b ≠ Z := by
  rcases h with rfl | h
  · exact hq.ne (by omega) (by omega)
  · omega
theorem vB {Q : Nat → Prop} {wb w W : World} {Z b : Nat} (hwb : Below wb.heap.size wb W) (hQ : ∀ b, b < wb.heap.size → Ck.Cut Q w.heap.size (w.heap.size + 3) b) (_hz : w.heap.size + 3 ≤ W.heap.size) (h : Z = w.heap.size + 2 ∨ W.heap.size ≤ Z) (hb : b < wb.heap.size) : b ≠ Z :=
  qM _hz h (Nat.lt_of_lt_of_le hb hwb.size) (hQ b hb)
theorem qU {Q : Nat → Prop} {N M S Z Z' b : Nat} (hS : M ≤ S) (hZ : Z < S) (hZ' : Z' < S) (h : Ck.Cut (fun b => Ck.Cut Q N M b ∧ b ≠ Z ∧ b ≠ Z') S S b) : Ck.Cut Q N M b ∧ b ≠ Z ∧ b ≠ Z' := by
  rcases h with ⟨h, -⟩ | h
  · exact h
  · exact ⟨.inr (by omega), by omega, by omega⟩
theorem wV {Q : Nat → Prop} {N M S Z b : Nat} (hS : M ≤ S) (hZ : Z < S) (h : Ck.Cut (fun b => Ck.Cut Q N M b ∧ b ≠ Z) S S b) : Ck.Cut Q N M b ∧ b ≠ Z := by
  rcases h with ⟨h, -⟩ | h
  · exact h
  · exact ⟨.inr (by omega), by omega⟩
namespace Ck
def KidAt (w : World) (b o : Nat) (h : Hd) (p : Pl) : Prop := ∀ (j : Nat) (v : Value), (h.cells p)[j]? = some v → w.cell? ⟨b, o + j, none⟩ = some v
def TellsOf (rv : Cg.Rv) (K : Nat) (wb : World) (h : Hd) (kids : Tm) (p : Pl) : Prop :=
  ∀ (Q : Nat → Prop) (l : Env) (A : Option Addr) (n c : Nat) (W : World), Below wb.heap.size wb W → (∀ b, b < wb.heap.size → Q b) → Shapes W → EAt Q W l A n c → l.length + 2 * (Tm.nodes kids + 1) ≤ 20000 →
    Calls Tryz.prog 45 #[.agg #[.func (Fn.func rv.fr) #[] #[], .func (Fn.func rv.fa) #[] #[], .func (Fn.func rv.fm) #[] #[], .func (Fn.func rv.ft) #[] #[]], .agg #[.int .i8 h.kind, .string h.name, .string h.arg, .int .i64 h.num, .int .i8 h.tk, .slice p.TA p.tn p.tc, .int .i8 h.uk, .slice p.UA p.un p.uc, .int .i64 h.label, .int .i64 h.pos, .slice p.A p.n p.c], .slice A n c] W (Post Q W (Cg.ty rv.D K h kids l))
theorem EAt.one {Q : Nat → Prop} {w : World} {X : Nat} {nm : ByteArray} {t : T2} {G : Option Addr} {m k : Nat} {ty : TypeId} (hX : w.heap[X]? = some (.cells #[.string nm, .int .i8 t.1, .slice G m k] ty (0, 0))) (hL : Ly Q w t G m k) : EAt Q w [(nm, t)] (some ⟨X, 0, none⟩) 1 1 := by
  refine ⟨rfl, Nat.le_refl _, by decide, (fun h => by cases h), [.string nm, .int .i8 t.1, .slice G m k], ⟨⟨rfl, rfl, G, m, k, rfl, hL⟩, trivial⟩, fun a ha => ?_⟩
  injection ha with ha
  subst ha
  refine ⟨X, 0, rfl, zC hX, fun j u hu => ?_⟩
  rw [Nat.zero_add]
  exact cell_of_heap hX j (by rw [← Array.getElem?_toList]; exact hu)
theorem EAt.two {Q : Nat → Prop} {w : World} {X : Nat} {nm nm' : ByteArray} {t t' : T2} {G G' : Option Addr} {m k m' k' : Nat} {ty : TypeId} (hX : w.heap[X]? = some (.cells #[.string nm, .int .i8 t.1, .slice G m k, .string nm', .int .i8 t'.1, .slice G' m' k'] ty (0, 0))) (hL : Ly Q w t G m k) (hL' : Ly Q w t' G' m' k') : EAt Q w [(nm, t), (nm', t')] (some ⟨X, 0, none⟩) 2 2 := by
  refine ⟨rfl, Nat.le_refl _, by decide, (fun h => by cases h), [.string nm, .int .i8 t.1, .slice G m k, .string nm', .int .i8 t'.1, .slice G' m' k'], ⟨⟨rfl, rfl, G, m, k, rfl, hL⟩, ⟨rfl, rfl, G', m', k', rfl, hL'⟩, trivial⟩, fun a ha => ?_⟩
  injection ha with ha
  subst ha
  refine ⟨X, 0, rfl, zC hX, fun j u hu => ?_⟩
  rw [Nat.zero_add]
  exact cell_of_heap hX j (by rw [← Array.getElem?_toList]; exact hu)
theorem Ly.two {Q : Nat → Prop} {w : World} {a b : T2} {Y : Nat} {G G' : Option Addr} {m k m' k' : Nat} {ty : TypeId} (hX : w.heap[Y]? = some (.cells #[.int .i8 a.1, .slice G m k, .int .i8 b.1, .slice G' m' k'] ty (0, 0))) (hQ : Q Y) (hL : Ly Q w a G m k) (hL' : Ly Q w b G' m' k') (kd : Int) (hk : -128 ≤ kd ∧ kd ≤ 127) : Ly Q w (mk2 kd a b) (some ⟨Y, 0, none⟩) 2 2 := by
  obtain ⟨e0, e1, e2, e3, -⟩ := zZ hX
  refine Row.two ⟨hQ, zC hX, fun i t ht => ?_⟩ kd hk 2 (Nat.le_refl _) (by decide)
  match i, ht with
  | 0, ht => injection ht with ht; subst ht; exact ⟨G, m, k, e0, e1, hL⟩
  | 1, ht => injection ht with ht; subst ht; exact ⟨G', m', k', e2, e3, hL'⟩
  | i + 2, ht => simp at ht
end Ck
end Go.Proofs.YtjpohjcnjanoaaaGreatDoor
namespace Go.Proofs.YtjpohjcnjanoaaaGreatDoor
open Go.RowKit
set_option maxHeartbeats 1500000 in
set_option maxRecDepth 100000 in
theorem zCW (rv : Cg.Rv) (Q : Nat → Prop) (h : Hd) (p : Pl) (a b c : Ck.T2) (Y n cap : Nat) (w : World) (hk : h.kind = 8) (hn : n = 3) (hR : Ck.Row Q w [a, b, c] Y) (hS : Shapes w) :
    Calls Tryz.prog 124 #[.agg #[.func (Fn.func rv.fr) #[] #[], .func (Fn.func rv.fa) #[] #[], .func (Fn.func rv.fm) #[] #[], .func (Fn.func rv.ft) #[] #[]], .agg #[.int .i8 h.kind, .string h.name, .string h.arg, .int .i64 h.num, .int .i8 h.tk, .slice p.TA p.tn p.tc, .int .i8 h.uk, .slice p.UA p.un p.uc, .int .i64 h.label, .int .i64 h.pos, .slice p.A p.n p.c], .slice (some ⟨Y, 0, none⟩) n cap] w (Ck.Post Q w (Cg.over rv.D h a b c)) := by
  rw [Cg.xx _ _ _ _ _ hk]
  obtain ⟨Ga, ma, ca, a0, a1, aL⟩ := hR.cell 0 a rfl
  obtain ⟨Gb, mb, cb, b0, b1, bL⟩ := hR.cell 1 b rfl
  obtain ⟨Gc, mc, cc, c0, c1, cL⟩ := hR.cell 2 c rfl
  obtain ⟨w1, hw1, hB3, h0, h1, h2, hz⟩ := zu w (.cells #[.func (Fn.func rv.fr) #[] #[], .func (Fn.func rv.fa) #[] #[], .func (Fn.func rv.fm) #[] #[], .func (Fn.func rv.ft) #[] #[]] 54) (.cells #[.int .i8 h.kind, .string h.name, .string h.arg, .int .i64 h.num, .int .i8 h.tk, .slice p.TA p.tn p.tc, .int .i8 h.uk, .slice p.UA p.un p.uc, .int .i64 h.label, .int .i64 h.pos, .slice p.A p.n p.c] 28) (.cells #[.int .i8 0, .slice none 0 0] 25)
  have HW1 := Lib.hid hw1
  have HB3 := Lib.hid hB3
  have H0 := Lib.hid h0
  have H1 := Lib.hid h1
  have H2 := Lib.hid h2
  have HZ := Lib.hid hz
  have HAL : Hid (Ck.Ly (Ck.Cut Q w.heap.size (w.heap.size + 3)) w1 a Ga ma ca) := Lib.hid ((aL.weak (fun b hl hq => .inl ⟨hq, hl⟩)).later hB3)
  have HBL : Hid (Ck.Ly (Ck.Cut Q w.heap.size (w.heap.size + 3)) w1 b Gb mb cb) := Lib.hid ((bL.weak (fun b hl hq => .inl ⟨hq, hl⟩)).later hB3)
  have HCL : Hid (Ck.Ly (Ck.Cut Q w.heap.size (w.heap.size + 3)) w1 c Gc mc cc) := Lib.hid ((cL.weak (fun b hl hq => .inl ⟨hq, hl⟩)).later hB3)
  have HS := Lib.hid (hS.below hB3)
  have hfrom := Lib.hid (fun (W : World) (hb : Below w1.heap.size w1 W) => hB3.trans (hb.mono hB3.size))
  have HA := Lib.hid (And.intro (zB a0 hB3) (zB a1 hB3))
  have HB := Lib.hid (And.intro (zB b0 hB3) (zB b1 hB3))
  have HC := Lib.hid (And.intro (zB c0 hB3) (zB c1 hB3))
  have HK := Lib.hid (fun (W : World) (hb : Below w1.heap.size w1 W) => (show W.cell? ⟨w.heap.size, 0, none⟩ = some (.func (Fn.func rv.fr) #[] #[]) ∧ W.cell? ⟨w.heap.size, 1, none⟩ = some (.func (Fn.func rv.fa) #[] #[]) ∧ W.cell? ⟨w.heap.size, 2, none⟩ = some (.func (Fn.func rv.fm) #[] #[]) ∧ W.cell? ⟨w.heap.size, 3, none⟩ = some (.func (Fn.func rv.ft) #[] #[]) ∧ W.cell? ⟨w.heap.size + 1, 0, none⟩ = some (.int .i8 h.kind) ∧ W.cell? ⟨w.heap.size + 1, 1, none⟩ = some (.string h.name) ∧ W.cell? ⟨w.heap.size + 1, 2, none⟩ = some (.string h.arg) ∧ W.cell? ⟨w.heap.size + 1, 3, none⟩ = some (.int .i64 h.num) ∧ W.cell? ⟨w.heap.size + 1, 4, none⟩ = some (.int .i8 h.tk) ∧ W.cell? ⟨w.heap.size + 1, 5, none⟩ = some (.slice p.TA p.tn p.tc) ∧ W.cell? ⟨w.heap.size + 1, 6, none⟩ = some (.int .i8 h.uk) ∧ W.cell? ⟨w.heap.size + 1, 7, none⟩ = some (.slice p.UA p.un p.uc) ∧ W.cell? ⟨w.heap.size + 1, 8, none⟩ = some (.int .i64 h.label) ∧ W.cell? ⟨w.heap.size + 1, 9, none⟩ = some (.int .i64 h.pos) ∧ W.cell? ⟨w.heap.size + 1, 10, none⟩ = some (.slice p.A p.n p.c) ∧ W.cell? ⟨Y, 0, none⟩ = some (.int .i8 a.1) ∧ W.cell? ⟨Y, 1, none⟩ = some (.slice Ga ma ca) ∧ W.cell? ⟨Y, 2, none⟩ = some (.int .i8 b.1) ∧ W.cell? ⟨Y, 3, none⟩ = some (.slice Gb mb cb) ∧ W.cell? ⟨Y, 4, none⟩ = some (.int .i8 c.1) ∧ W.cell? ⟨Y, 5, none⟩ = some (.slice Gc mc cc) from by
    obtain ⟨r0, r1, r2, r3, -⟩ := zZ (zA hb (zC H0.out) H0.out)
    obtain ⟨q0, q1, q2, q3, q4, q5, q6, q7, q8, q9, q10, ql⟩ := zI (zA hb (zC H1.out) H1.out)
    exact ⟨r0, r1, r2, r3, q0, q1, q2, q3, q4, q5, q6, q7, q8, q9, q10, zB HA.out.1 hb, zB HA.out.2 hb, zB HB.out.1 hb, zB HB.out.2 hb, zB HC.out.1 hb, zB HC.out.2 hb⟩))
  clear hR hS a0 a1 aL b0 b1 bL c0 c1 cL hB3 h0 h1 h2 hz
  subst hn
  have HKK := Lib.hid hk
  clear hk
  obtain ⟨R, hR⟩ : ∃ R, R = (if rv.D.ag a (2, .nil) = true then Cg.meet rv.D h b c else Ck.fault h 91) := ⟨_, rfl⟩
  rw [← hR]
  have HR := Lib.hid hR
  clear hR
  go_enter Tryz.func124, Tryz.ntmps124
  go_upto_region 1 with fail
  rw [← HW1.out]
  obtain ⟨r0, r1, r2, r3, q0, q1, q2, q3, q4, q5, q6, q7, q8, q9, q10, y0, y1, y2, y3, y4, y5⟩ := HK.out w1 (Below.refl _ _)
  rw [HKK.out] at q0
  clear hw1
  go_upto_region 7 with fail
  clear r0 r1 r2 r3 q0 q1 q2 q3 q4 q5 q6 q7 q8 q9 q10 y0 y1 y2 y3 y4 y5
  refine zO 155 rfl [40, 41, 42, 43, 44, 45, 46] (by kernel_rfl) (by kernel_rfl) (by kernel_rfl) (fun listed a' w' => a'.defers = [] ∧ a'.tmps.size = 155 ∧ a'.eval (.tmp 2) = .slice (some ⟨Y, 0, none⟩) 3 cap ∧ a'.eval (.tmp 3) = .pointer (some ⟨w.heap.size, 0, none⟩) ∧ a'.eval (.tmp 4) = .pointer (some ⟨w.heap.size + 1, 0, none⟩) ∧ a'.eval (.tmp 6) = .pointer (some ⟨w.heap.size + 1 + 1, 0, none⟩) ∧ (listed[0]? = some true → (a'.eval (.tmp 40) = .agg #[.func (Fn.func rv.fr) #[] #[], .func (Fn.func rv.fa) #[] #[], .func (Fn.func rv.fm) #[] #[], .func (Fn.func rv.ft) #[] #[]])) ∧ (listed[1]? = some true → (a'.eval (.tmp 41) = .agg #[.int .i8 h.kind, .string h.name, .string h.arg, .int .i64 h.num, .int .i8 h.tk, .slice p.TA p.tn p.tc, .int .i8 h.uk, .slice p.UA p.un p.uc, .int .i64 h.label, .int .i64 h.pos, .slice p.A p.n p.c])) ∧ (listed[2]? = some true → (a'.eval (.tmp 42) = .slice (some ⟨Y, 0, none⟩) 3 cap)) ∧ (listed[3]? = some true → (a'.eval (.tmp 43) = .pointer (some ⟨Y, 0, none⟩))) ∧ (listed[4]? = some true → (a'.eval (.tmp 44) = .agg #[.int .i8 a.1, .slice Ga ma ca])) ∧ (listed[5]? = some true → (a'.eval (.tmp 45) = .agg #[.int .i8 2, .slice none 0 0])) ∧ (listed[6]? = some true → (a'.eval (.tmp 46) = .tuple #[]) ∧ (rv.D.ag a (2, .nil) = true)) ∧ Below w1.heap.size w1 w') (fun _ _ _ h => h.1) ?_ ?_ ?_
  · have hz := HZ.out
    refine ⟨rfl, rfl, rfl, rfl, rfl, rfl, (fun h => ?_), (fun h => ?_), (fun h => ?_), (fun h => ?_), (fun h => ?_), (fun h => ?_), (fun h => ?_), (Below.refl _ _).drew⟩ <;> simp at h
  · rintro listed a' w' i o ⟨hdf, hsz, x2, x3, x4, x6, y0, y1, y2, y3, y4, y5, y6, hbw⟩ hz hsz0 ho hi hp
    have hi13 : i < 7 := by
      rcases Nat.lt_or_ge i 7 with q | q
      · exact q
      · rw [Array.getElem?_eq_none (by simpa using q)] at ho; cases ho
    rcases (by omega : i = 0 ∨ i = 1 ∨ i = 2 ∨ i = 3 ∨ i = 4 ∨ i = 5 ∨ i = 6) with rfl | rfl | rfl | rfl | rfl | rfl | rfl
    · obtain rfl := Option.some.inj ho
      refine zD ho rfl (zF 40 rfl (v := .agg #[.func (Fn.func rv.fr) #[] #[], .func (Fn.func rv.fa) #[] #[], .func (Fn.func rv.fm) #[] #[], .func (Fn.func rv.ft) #[] #[]]) ?_ ?_)
      · obtain ⟨c0, c1, c2, c3, c4, c5, c6, c7, c8, c9, c10, c11, c12, c13, c14, c15, c16, c17, c18, c19, c20⟩ := HK.out w' hbw
        obtain ⟨hcst, hfn⟩ := evc a'; generalize a'.eval = ev at *
        clear hp y0 y1 y2 y3 y4 y5 y6
        go_simp
      · exact ⟨pd hdf, ps hsz, pn x2, pn x3, pn x4, pn x6, (fun _ => pS hsz), (kE y1), (kE y2), (kE y3), (kE y4), (kE y5), (kF y6 (fun q => ⟨pn q.1, q.2⟩)), hbw⟩
    · obtain rfl := Option.some.inj ho
      refine zD ho rfl (zF 41 rfl (v := .agg #[.int .i8 h.kind, .string h.name, .string h.arg, .int .i64 h.num, .int .i8 h.tk, .slice p.TA p.tn p.tc, .int .i8 h.uk, .slice p.UA p.un p.uc, .int .i64 h.label, .int .i64 h.pos, .slice p.A p.n p.c]) ?_ ?_)
      · obtain ⟨c0, c1, c2, c3, c4, c5, c6, c7, c8, c9, c10, c11, c12, c13, c14, c15, c16, c17, c18, c19, c20⟩ := HK.out w' hbw
        obtain ⟨hcst, hfn⟩ := evc a'; generalize a'.eval = ev at *
        clear hp y0 y1 y2 y3 y4 y5 y6
        go_simp
      · exact ⟨pd hdf, ps hsz, pn x2, pn x3, pn x4, pn x6, (kE y0), (fun _ => pS hsz), (kE y2), (kE y3), (kE y4), (kE y5), (kF y6 (fun q => ⟨pn q.1, q.2⟩)), hbw⟩
    · obtain rfl := Option.some.inj ho
      refine zD ho rfl (zF 42 rfl (v := .slice (some ⟨Y, 0, none⟩) 3 cap) ?_ ?_)
      · obtain ⟨hcst, hfn⟩ := evc a'; generalize a'.eval = ev at *
        clear hp y0 y1 y2 y3 y4 y5 y6
        go_simp
      · exact ⟨pd hdf, ps hsz, pn x2, pn x3, pn x4, pn x6, (kE y0), (kE y1), (fun _ => pS hsz), (kE y3), (kE y4), (kE y5), (kF y6 (fun q => ⟨pn q.1, q.2⟩)), hbw⟩
    · obtain rfl := Option.some.inj ho
      refine zD ho rfl (zF 43 rfl (v := .pointer (some ⟨Y, 0, none⟩)) ?_ ?_)
      · have v2 := hpv hp 2 (by simp)
        have ww2 := (y2 v2)
        obtain ⟨hcst, hfn⟩ := evc a'; generalize a'.eval = ev at *
        clear hp y0 y1 y2 y3 y4 y5 y6
        go_simp
      · have v2 := hpv hp 2 (by simp)
        exact ⟨pd hdf, ps hsz, pn x2, pn x3, pn x4, pn x6, (kE y0), (kE y1), (kE y2), (fun _ => pS hsz), (kE y4), (kE y5), (kF y6 (fun q => ⟨pn q.1, q.2⟩)), hbw⟩
    · obtain rfl := Option.some.inj ho
      refine zD ho rfl (zF 44 rfl (v := .agg #[.int .i8 a.1, .slice Ga ma ca]) ?_ ?_)
      · have v3 := hpv hp 3 (by simp)
        have ww3 := (y3 v3)
        obtain ⟨c0, c1, c2, c3, c4, c5, c6, c7, c8, c9, c10, c11, c12, c13, c14, c15, c16, c17, c18, c19, c20⟩ := HK.out w' hbw
        obtain ⟨hcst, hfn⟩ := evc a'; generalize a'.eval = ev at *
        clear hp y0 y1 y2 y3 y4 y5 y6
        go_simp
      · have v3 := hpv hp 3 (by simp)
        exact ⟨pd hdf, ps hsz, pn x2, pn x3, pn x4, pn x6, (kE y0), (kE y1), (kE y2), (kE y3), (fun _ => pS hsz), (kE y5), (kF y6 (fun q => ⟨pn q.1, q.2⟩)), hbw⟩
    · obtain rfl := Option.some.inj ho
      refine zD ho rfl (zo 45 rfl (f := 81) (args := #[.int .i8 2, .slice none 0 0]) ?_ (qI 2 none 0 0 w') fun e u hg => ?_)
      · obtain ⟨hcst, hfn⟩ := evc a'; generalize a'.eval = ev at *
        clear hp y0 y1 y2 y3 y4 y5 y6
        go_simp
      · obtain ⟨he, hb⟩ := hg
        refine ⟨.agg #[.int .i8 2, .slice none 0 0], he, ?_⟩
        have hbs := hbw.size
        have hzz := HZ.out
        have hbs2 := hb.size
        exact ⟨pd hdf, ps hsz, pn x2, pn x3, pn x4, pn x6, (kE y0), (kE y1), (kE y2), (kE y3), (kE y4), (fun _ => pS hsz), (kF y6 (fun q => ⟨pn q.1, q.2⟩)), hbw.trans (hb.mono hbw.size)⟩
    · obtain rfl := Option.some.inj ho
      have v0 := hpv hp 0 (by simp)
      have ww0 := (y0 v0)
      have v1 := hpv hp 1 (by simp)
      have ww1 := (y1 v1)
      have v4 := hpv hp 4 (by simp)
      have ww4 := (y4 v4)
      have v5 := hpv hp 5 (by simp)
      have ww5 := (y5 v5)
      refine zD ho rfl (qC 46 rfl (f := 150) (args := #[.agg #[.func (Fn.func rv.fr) #[] #[], .func (Fn.func rv.fa) #[] #[], .func (Fn.func rv.fm) #[] #[], .func (Fn.func rv.ft) #[] #[]], .agg #[.int .i8 h.kind, .string h.name, .string h.arg, .int .i64 h.num, .int .i8 h.tk, .slice p.TA p.tn p.tc, .int .i8 h.uk, .slice p.UA p.un p.uc, .int .i64 h.label, .int .i64 h.pos, .slice p.A p.n p.c], .agg #[.int .i8 a.1, .slice Ga ma ca], .agg #[.int .i8 2, .slice none 0 0]]) ?_ (qF rv h p a.1 a.2 Ga ma ca 2 .nil none 0 0 w' (HAL.out.later hbw).is (jZ (by decide) w') (HS.out.below hbw)) fun e u hg => ?_)
      · obtain ⟨hcst, hfn⟩ := evc a'; generalize a'.eval = ev at *
        clear hp y0 y1 y2 y3 y4 y5 y6
        go_simp
      · rcases hg with ⟨hq, hg⟩ | ⟨hq, hg⟩
        · have HP : Ck.Post Q w R e u := by rw [HR.out, if_neg (zU (show rv.D.ag a (2, .nil) = false from hq))]; exact Ck.Gave.from hg (hfrom.out w' hbw)
          obtain ⟨g, rfl, hg2⟩ := hg
          exact .inr ⟨_, rfl, hdf, HP⟩
        · obtain ⟨he, hb⟩ := hg
          refine .inl ?_
          refine ⟨.tuple #[], he, ?_⟩
          have hbs := hbw.size
          have hzz := HZ.out
          have hbs2 := hb.size
          exact ⟨pd hdf, ps hsz, pn x2, pn x3, pn x4, pn x6, (kE y0), (kE y1), (kE y2), (kE y3), (kE y4), (kE y5), (fun _ => ⟨pS hsz, hq⟩), hbw.trans (hb.mono hbw.size)⟩
  · rintro listed u w' t ht hu ⟨-, -, -, -, -, -, y0, y1, y2, y3, y4, y5, y6, hbw⟩ hall
    have v6 := hall 6 (by decide)
    have HBW := Lib.hid hbw
    have P1 := Lib.hid ((y6 v6).2)
    clear y0 y1 y2 y3 y4 y5 y6 v6 hall hu
    clear hbw
    simp only [over, List.setIfInBounds_toArray, List.set_cons_succ, List.set_cons_zero] at ht
    subst ht
    obtain ⟨r0, r1, r2, r3, q0, q1, q2, q3, q4, q5, q6, q7, q8, q9, q10, y0, y1, y2, y3, y4, y5⟩ := HK.out w' HBW.out
    go_upto_region 8 with fail
    clear r0 r1 r2 r3 q0 q1 q2 q3 q4 q5 q6 q7 q8 q9 q10 y0 y1 y2 y3 y4 y5
    refine zO 155 rfl [47, 48, 49, 50, 51, 52, 53, 54, 55] (by kernel_rfl) (by kernel_rfl) (by kernel_rfl) (fun listed a' w' => a'.defers = [] ∧ a'.tmps.size = 155 ∧ a'.eval (.tmp 2) = .slice (some ⟨Y, 0, none⟩) 3 cap ∧ a'.eval (.tmp 3) = .pointer (some ⟨w.heap.size, 0, none⟩) ∧ a'.eval (.tmp 4) = .pointer (some ⟨w.heap.size + 1, 0, none⟩) ∧ a'.eval (.tmp 6) = .pointer (some ⟨w.heap.size + 1 + 1, 0, none⟩) ∧ ∃ G mg cg, (listed[0]? = some true → (a'.eval (.tmp 47) = .agg #[.func (Fn.func rv.fr) #[] #[], .func (Fn.func rv.fa) #[] #[], .func (Fn.func rv.fm) #[] #[], .func (Fn.func rv.ft) #[] #[]])) ∧ (listed[1]? = some true → (a'.eval (.tmp 48) = .agg #[.int .i8 h.kind, .string h.name, .string h.arg, .int .i64 h.num, .int .i8 h.tk, .slice p.TA p.tn p.tc, .int .i8 h.uk, .slice p.UA p.un p.uc, .int .i64 h.label, .int .i64 h.pos, .slice p.A p.n p.c])) ∧ (listed[2]? = some true → (a'.eval (.tmp 49) = .slice (some ⟨Y, 0, none⟩) 3 cap)) ∧ (listed[3]? = some true → (a'.eval (.tmp 50) = .pointer (some ⟨Y, 2, none⟩)) ∧ (listed[2]? = some true)) ∧ (listed[4]? = some true → (a'.eval (.tmp 51) = .agg #[.int .i8 b.1, .slice Gb mb cb]) ∧ (listed[2]? = some true) ∧ (listed[3]? = some true)) ∧ (listed[5]? = some true → (a'.eval (.tmp 52) = .slice (some ⟨Y, 0, none⟩) 3 cap)) ∧ (listed[6]? = some true → (a'.eval (.tmp 53) = .pointer (some ⟨Y, 4, none⟩)) ∧ (listed[5]? = some true)) ∧ (listed[7]? = some true → (a'.eval (.tmp 54) = .agg #[.int .i8 c.1, .slice Gc mc cc]) ∧ (listed[5]? = some true) ∧ (listed[6]? = some true)) ∧ (listed[8]? = some true → (a'.eval (.tmp 55) = .agg #[.int .i8 (rv.D.mt b c).1, .slice G mg cg]) ∧ (listed[0]? = some true) ∧ (listed[1]? = some true) ∧ (listed[2]? = some true) ∧ (listed[3]? = some true) ∧ (listed[4]? = some true) ∧ (listed[5]? = some true) ∧ (listed[6]? = some true) ∧ (listed[7]? = some true) ∧ (rv.D.ag b c = true) ∧ (Ck.Ly (Ck.Cut Q w.heap.size (w.heap.size + 3)) w' (rv.D.mt b c) G mg cg)) ∧ (listed[9]? = some true → (listed[0]? = some true) ∧ (listed[1]? = some true) ∧ (listed[2]? = some true) ∧ (listed[3]? = some true) ∧ (listed[4]? = some true) ∧ (listed[5]? = some true) ∧ (listed[6]? = some true) ∧ (listed[7]? = some true) ∧ (listed[8]? = some true) ∧ (w'.heap[w.heap.size + 1 + 1]? = some (.cells #[.int .i8 (rv.D.mt b c).1, .slice G mg cg] 25 (0, 0))) ∧ (Below w.heap.size w w')) ∧ (listed[9]? = some false → Below w1.heap.size w1 w')) (fun _ _ _ h => h.1) ?_ ?_ ?_
    · have hz := HZ.out
      refine ⟨rfl, rfl, rfl, rfl, rfl, rfl, none, 0, 0, (fun h => ?_), (fun h => ?_), (fun h => ?_), (fun h => ?_), (fun h => ?_), (fun h => ?_), (fun h => ?_), (fun h => ?_), (fun h => ?_), (fun h => ?_), (fun _ => HBW.out.drew)⟩ <;> simp at h
    · rintro listed a' w' i o ⟨hdf, hsz, x2, x3, x4, x6, G, mg, cg, y0, y1, y2, y3, y4, y5, y6, y7, y8, y9, hbw⟩ hz hsz0 ho hi hp
      have hi13 : i < 10 := by
        rcases Nat.lt_or_ge i 10 with q | q
        · exact q
        · rw [Array.getElem?_eq_none (by simpa using q)] at ho; cases ho
      rcases (by omega : i = 0 ∨ i = 1 ∨ i = 2 ∨ i = 3 ∨ i = 4 ∨ i = 5 ∨ i = 6 ∨ i = 7 ∨ i = 8 ∨ i = 9) with rfl | rfl | rfl | rfl | rfl | rfl | rfl | rfl | rfl | rfl
      · obtain rfl := Option.some.inj ho
        refine zD ho rfl (zF 47 rfl (v := .agg #[.func (Fn.func rv.fr) #[] #[], .func (Fn.func rv.fa) #[] #[], .func (Fn.func rv.fm) #[] #[], .func (Fn.func rv.ft) #[] #[]]) ?_ ?_)
        · have hbw := hbw (nf (by rw [hz]; decide) (fun q => (y9 q).1) hi)
          obtain ⟨c0, c1, c2, c3, c4, c5, c6, c7, c8, c9, c10, c11, c12, c13, c14, c15, c16, c17, c18, c19, c20⟩ := HK.out w' hbw
          obtain ⟨hcst, hfn⟩ := evc a'; generalize a'.eval = ev at *
          clear hp y0 y1 y2 y3 y4 y5 y6 y7 y8 y9
          go_simp
        · exact ⟨pd hdf, ps hsz, pn x2, pn x3, pn x4, pn x6, G, mg, cg, (fun _ => pS hsz), (kE y1), (kE y2), (kF y3 (fun q => ⟨pn q.1, z8 q.2⟩)), (kF y4 (fun q => ⟨pn q.1, z8 q.2.1, z8 q.2.2⟩)), (kE y5), (kF y6 (fun q => ⟨pn q.1, z8 q.2⟩)), (kF y7 (fun q => ⟨pn q.1, z8 q.2.1, z8 q.2.2⟩)), (kN y8 (fun q => q.2.1) hi), (kN y9 (fun q => q.1) hi), (kU hbw id)⟩
      · obtain rfl := Option.some.inj ho
        refine zD ho rfl (zF 48 rfl (v := .agg #[.int .i8 h.kind, .string h.name, .string h.arg, .int .i64 h.num, .int .i8 h.tk, .slice p.TA p.tn p.tc, .int .i8 h.uk, .slice p.UA p.un p.uc, .int .i64 h.label, .int .i64 h.pos, .slice p.A p.n p.c]) ?_ ?_)
        · have hbw := hbw (nf (by rw [hz]; decide) (fun q => (y9 q).2.1) hi)
          obtain ⟨c0, c1, c2, c3, c4, c5, c6, c7, c8, c9, c10, c11, c12, c13, c14, c15, c16, c17, c18, c19, c20⟩ := HK.out w' hbw
          obtain ⟨hcst, hfn⟩ := evc a'; generalize a'.eval = ev at *
          clear hp y0 y1 y2 y3 y4 y5 y6 y7 y8 y9
          go_simp
        · exact ⟨pd hdf, ps hsz, pn x2, pn x3, pn x4, pn x6, G, mg, cg, (kE y0), (fun _ => pS hsz), (kE y2), (kF y3 (fun q => ⟨pn q.1, z8 q.2⟩)), (kF y4 (fun q => ⟨pn q.1, z8 q.2.1, z8 q.2.2⟩)), (kE y5), (kF y6 (fun q => ⟨pn q.1, z8 q.2⟩)), (kF y7 (fun q => ⟨pn q.1, z8 q.2.1, z8 q.2.2⟩)), (kN y8 (fun q => q.2.2.1) hi), (kN y9 (fun q => q.2.1) hi), (kU hbw id)⟩
      · obtain rfl := Option.some.inj ho
        refine zD ho rfl (zF 49 rfl (v := .slice (some ⟨Y, 0, none⟩) 3 cap) ?_ ?_)
        · obtain ⟨hcst, hfn⟩ := evc a'; generalize a'.eval = ev at *
          clear hp y0 y1 y2 y3 y4 y5 y6 y7 y8 y9
          go_simp
        · exact ⟨pd hdf, ps hsz, pn x2, pn x3, pn x4, pn x6, G, mg, cg, (kE y0), (kE y1), (fun _ => pS hsz), (kN y3 (fun q => q.2) hi), (kN y4 (fun q => q.2.1) hi), (kE y5), (kF y6 (fun q => ⟨pn q.1, z8 q.2⟩)), (kF y7 (fun q => ⟨pn q.1, z8 q.2.1, z8 q.2.2⟩)), (kN y8 (fun q => q.2.2.2.1) hi), (kN y9 (fun q => q.2.2.1) hi), (kU hbw id)⟩
      · obtain rfl := Option.some.inj ho
        refine zD ho rfl (zF 50 rfl (v := .pointer (some ⟨Y, 2, none⟩)) ?_ ?_)
        · have v2 := hpv hp 2 (by simp)
          have ww2 := (y2 v2)
          obtain ⟨hcst, hfn⟩ := evc a'; generalize a'.eval = ev at *
          clear hp y0 y1 y2 y3 y4 y5 y6 y7 y8 y9
          go_simp
        · have v2 := hpv hp 2 (by simp)
          exact ⟨pd hdf, ps hsz, pn x2, pn x3, pn x4, pn x6, G, mg, cg, (kE y0), (kE y1), (kE y2), (fun _ => ⟨pS hsz, (z8 v2)⟩), (kN y4 (fun q => q.2.2) hi), (kE y5), (kF y6 (fun q => ⟨pn q.1, z8 q.2⟩)), (kF y7 (fun q => ⟨pn q.1, z8 q.2.1, z8 q.2.2⟩)), (kN y8 (fun q => q.2.2.2.2.1) hi), (kN y9 (fun q => q.2.2.2.1) hi), (kU hbw id)⟩
      · obtain rfl := Option.some.inj ho
        refine zD ho rfl (zF 51 rfl (v := .agg #[.int .i8 b.1, .slice Gb mb cb]) ?_ ?_)
        · have v3 := hpv hp 3 (by simp)
          have ww3 := (y3 v3).1
          have hbw := hbw (nf (by rw [hz]; decide) (fun q => (y9 q).2.2.2.2.1) hi)
          obtain ⟨c0, c1, c2, c3, c4, c5, c6, c7, c8, c9, c10, c11, c12, c13, c14, c15, c16, c17, c18, c19, c20⟩ := HK.out w' hbw
          obtain ⟨hcst, hfn⟩ := evc a'; generalize a'.eval = ev at *
          clear hp y0 y1 y2 y3 y4 y5 y6 y7 y8 y9
          go_simp
        · have v3 := hpv hp 3 (by simp)
          exact ⟨pd hdf, ps hsz, pn x2, pn x3, pn x4, pn x6, G, mg, cg, (kE y0), (kE y1), (kE y2), (kF y3 (fun q => ⟨pn q.1, z8 q.2⟩)), (fun _ => ⟨pS hsz, (z8 ((y3 v3).2)), (z8 v3)⟩), (kE y5), (kF y6 (fun q => ⟨pn q.1, z8 q.2⟩)), (kF y7 (fun q => ⟨pn q.1, z8 q.2.1, z8 q.2.2⟩)), (kN y8 (fun q => q.2.2.2.2.2.1) hi), (kN y9 (fun q => q.2.2.2.2.1) hi), (kU hbw id)⟩
      · obtain rfl := Option.some.inj ho
        refine zD ho rfl (zF 52 rfl (v := .slice (some ⟨Y, 0, none⟩) 3 cap) ?_ ?_)
        · obtain ⟨hcst, hfn⟩ := evc a'; generalize a'.eval = ev at *
          clear hp y0 y1 y2 y3 y4 y5 y6 y7 y8 y9
          go_simp
        · exact ⟨pd hdf, ps hsz, pn x2, pn x3, pn x4, pn x6, G, mg, cg, (kE y0), (kE y1), (kE y2), (kF y3 (fun q => ⟨pn q.1, z8 q.2⟩)), (kF y4 (fun q => ⟨pn q.1, z8 q.2.1, z8 q.2.2⟩)), (fun _ => pS hsz), (kN y6 (fun q => q.2) hi), (kN y7 (fun q => q.2.1) hi), (kN y8 (fun q => q.2.2.2.2.2.2.1) hi), (kN y9 (fun q => q.2.2.2.2.2.1) hi), (kU hbw id)⟩
      · obtain rfl := Option.some.inj ho
        refine zD ho rfl (zF 53 rfl (v := .pointer (some ⟨Y, 4, none⟩)) ?_ ?_)
        · have v5 := hpv hp 5 (by simp)
          have ww5 := (y5 v5)
          obtain ⟨hcst, hfn⟩ := evc a'; generalize a'.eval = ev at *
          clear hp y0 y1 y2 y3 y4 y5 y6 y7 y8 y9
          go_simp
        · have v5 := hpv hp 5 (by simp)
          exact ⟨pd hdf, ps hsz, pn x2, pn x3, pn x4, pn x6, G, mg, cg, (kE y0), (kE y1), (kE y2), (kF y3 (fun q => ⟨pn q.1, z8 q.2⟩)), (kF y4 (fun q => ⟨pn q.1, z8 q.2.1, z8 q.2.2⟩)), (kE y5), (fun _ => ⟨pS hsz, (z8 v5)⟩), (kN y7 (fun q => q.2.2) hi), (kN y8 (fun q => q.2.2.2.2.2.2.2.1) hi), (kN y9 (fun q => q.2.2.2.2.2.2.1) hi), (kU hbw id)⟩
      · obtain rfl := Option.some.inj ho
        refine zD ho rfl (zF 54 rfl (v := .agg #[.int .i8 c.1, .slice Gc mc cc]) ?_ ?_)
        · have v6 := hpv hp 6 (by simp)
          have ww6 := (y6 v6).1
          have hbw := hbw (nf (by rw [hz]; decide) (fun q => (y9 q).2.2.2.2.2.2.2.1) hi)
          obtain ⟨c0, c1, c2, c3, c4, c5, c6, c7, c8, c9, c10, c11, c12, c13, c14, c15, c16, c17, c18, c19, c20⟩ := HK.out w' hbw
          obtain ⟨hcst, hfn⟩ := evc a'; generalize a'.eval = ev at *
          clear hp y0 y1 y2 y3 y4 y5 y6 y7 y8 y9
          go_simp
        · have v6 := hpv hp 6 (by simp)
          exact ⟨pd hdf, ps hsz, pn x2, pn x3, pn x4, pn x6, G, mg, cg, (kE y0), (kE y1), (kE y2), (kF y3 (fun q => ⟨pn q.1, z8 q.2⟩)), (kF y4 (fun q => ⟨pn q.1, z8 q.2.1, z8 q.2.2⟩)), (kE y5), (kF y6 (fun q => ⟨pn q.1, z8 q.2⟩)), (fun _ => ⟨pS hsz, (z8 ((y6 v6).2)), (z8 v6)⟩), (kN y8 (fun q => q.2.2.2.2.2.2.2.2.1) hi), (kN y9 (fun q => q.2.2.2.2.2.2.2.1) hi), (kU hbw id)⟩
      · obtain rfl := Option.some.inj ho
        have v0 := hpv hp 0 (by simp)
        have ww0 := (y0 v0)
        have v1 := hpv hp 1 (by simp)
        have ww1 := (y1 v1)
        have v4 := hpv hp 4 (by simp)
        have ww4 := (y4 v4).1
        have v7 := hpv hp 7 (by simp)
        have ww7 := (y7 v7).1
        have hbw := hbw (nf (by rw [hz]; decide) (fun q => (y9 q).2.2.2.2.2.2.2.2.1) hi)
        refine zD ho rfl (qC 55 rfl (f := 152) (args := #[.agg #[.func (Fn.func rv.fr) #[] #[], .func (Fn.func rv.fa) #[] #[], .func (Fn.func rv.fm) #[] #[], .func (Fn.func rv.ft) #[] #[]], .agg #[.int .i8 h.kind, .string h.name, .string h.arg, .int .i64 h.num, .int .i8 h.tk, .slice p.TA p.tn p.tc, .int .i8 h.uk, .slice p.UA p.un p.uc, .int .i64 h.label, .int .i64 h.pos, .slice p.A p.n p.c], .agg #[.int .i8 b.1, .slice Gb mb cb], .agg #[.int .i8 c.1, .slice Gc mc cc]]) ?_ (yX rv (Ck.Cut Q w.heap.size (w.heap.size + 3)) h p b Gb mb cb c Gc mc cc w' (HBL.out.later hbw) (HCL.out.later hbw) (HS.out.below hbw)) fun e u hg => ?_)
        · obtain ⟨hcst, hfn⟩ := evc a'; generalize a'.eval = ev at *
          clear hp y0 y1 y2 y3 y4 y5 y6 y7 y8 y9
          go_simp
        · rcases hg with ⟨hq, hg⟩ | ⟨hq, hg⟩
          · have HP : Ck.Post Q w R e u := by rw [HR.out, if_pos P1.out]; unfold Cg.meet; rw [if_neg (zU (show rv.D.ag b c = false from hq))]; exact Ck.Gave.from hg (hfrom.out w' hbw)
            obtain ⟨g, rfl, hg2⟩ := hg
            exact .inr ⟨_, rfl, hdf, HP⟩
          · obtain ⟨G', mg', cg', rfl, hl, hb⟩ := hg
            refine .inl ?_
            refine ⟨.agg #[.int .i8 (rv.D.mt b c).1, .slice G' mg' cg'], rfl, ?_⟩
            have hbs := hbw.size
            have hzz := HZ.out
            have hbs2 := hb.size
            exact ⟨pd hdf, ps hsz, pn x2, pn x3, pn x4, pn x6, G', mg', cg', (kE y0), (kE y1), (kE y2), (kF y3 (fun q => ⟨pn q.1, z8 q.2⟩)), (kF y4 (fun q => ⟨pn q.1, z8 q.2.1, z8 q.2.2⟩)), (kE y5), (kF y6 (fun q => ⟨pn q.1, z8 q.2⟩)), (kF y7 (fun q => ⟨pn q.1, z8 q.2.1, z8 q.2.2⟩)), (fun _ => ⟨pS hsz, (z8 v0), (z8 v1), (z8 ((y4 v4).2.1)), (z8 ((y4 v4).2.2)), (z8 v4), (z8 ((y7 v7).2.1)), (z8 ((y7 v7).2.2)), (z8 v7), hq, Ck.Ly.weak (a := rv.D.mt b c) hl (fun _ _ hq => Ck.Cut.in (by omega) hq)⟩), (kN y9 (fun q => q.2.2.2.2.2.2.2.2.1) hi), (fun _ => hbw.trans (hb.mono hbw.size))⟩
      · obtain rfl := Option.some.inj ho
        have v8 := hpv hp 8 (by simp)
        have ww8 := (y8 v8).1
        have hbw := hbw hi
        have hbox := zA hbw (zC H2.out) H2.out
        obtain ⟨bc0, bc1, bf0, bf1, -⟩ := zM hbox
        refine zD ho rfl (zi rfl (w2 := (w'.setCell ⟨w.heap.size + 1 + 1, 0, none⟩ (.int .i8 (rv.D.mt b c).1)).setCell ⟨w.heap.size + 1 + 1, 1, none⟩ (.slice G mg cg)) ?_ ?_)
        · obtain ⟨hcst, hfn⟩ := evc a'; generalize a'.eval = ev at *
          clear hp y0 y1 y2 y3 y4 y5 y6 y7 y8 y9
          go_simp
        · have hsa : ((w'.setCell ⟨w.heap.size + 1 + 1, 0, none⟩ (.int .i8 (rv.D.mt b c).1)).setCell ⟨w.heap.size + 1 + 1, 1, none⟩ (.slice G mg cg)).heap.size = w'.heap.size := by simp
          have hbs := hbw.size
          have hzz := HZ.out
          exact ⟨hdf, hsz, x2, x3, x4, x6, G, mg, cg, (kF y0 id), (kF y1 id), (kF y2 id), (kF y3 (fun q => ⟨q.1, z8 q.2⟩)), (kF y4 (fun q => ⟨q.1, z8 q.2.1, z8 q.2.2⟩)), (kF y5 id), (kF y6 (fun q => ⟨q.1, z8 q.2⟩)), (kF y7 (fun q => ⟨q.1, z8 q.2.1, z8 q.2.2⟩)), (kF y8 (fun q => ⟨q.1, z8 q.2.1, z8 q.2.2.1, z8 q.2.2.2.1, z8 q.2.2.2.2.1, z8 q.2.2.2.2.2.1, z8 q.2.2.2.2.2.2.1, z8 q.2.2.2.2.2.2.2.1, z8 q.2.2.2.2.2.2.2.2.1, q.2.2.2.2.2.2.2.2.2.1, (Ck.Ly.set2 q.2.2.2.2.2.2.2.2.2.2 (fun b hq => hq.ne (by omega) (by omega)) _ _)⟩)), (fun _ => ⟨(z8 ((y8 v8).2.1)), (z8 ((y8 v8).2.2.1)), (z8 ((y8 v8).2.2.2.1)), (z8 ((y8 v8).2.2.2.2.1)), (z8 ((y8 v8).2.2.2.2.2.1)), (z8 ((y8 v8).2.2.2.2.2.2.1)), (z8 ((y8 v8).2.2.2.2.2.2.2.1)), (z8 ((y8 v8).2.2.2.2.2.2.2.2.1)), (z8 v8), zP hbox _ _, zL (hfrom.out w' hbw) (by omega) _ _⟩), (fun qu => (zQ qu).elim)⟩
    · rintro listed u w' t ht hu ⟨-, -, -, -, -, -, G, mg, cg, y0, y1, y2, y3, y4, y5, y6, y7, y8, y9, hbw⟩ hall
      have v8 := hall 8 (by decide)
      have v9 := hall 9 (by decide)
      have HBX := Lib.hid ((y9 v9).2.2.2.2.2.2.2.2.2.2)
      have P2 := ((y8 v8).2.2.2.2.2.2.2.2.2.1)
      have hl := ((y8 v8).2.2.2.2.2.2.2.2.2.2)
      have hx := ((y9 v9).2.2.2.2.2.2.2.2.2.1)
      clear y0 y1 y2 y3 y4 y5 y6 y7 y8 y9 v8 v9 hall hu
      clear hbw
      simp only [over, List.setIfInBounds_toArray, List.set_cons_succ, List.set_cons_zero] at ht
      subst ht
      obtain ⟨k0, k1, -, -, -⟩ := zM hx
      have hz := HZ.out
      go_wp2_with fail
      refine ⟨rfl, .agg #[.int .i8 (rv.D.mt b c).1, .slice G mg cg], by simp [results, Tryz.results124, go_sem, k0, k1], ?_⟩
      rw [HR.out, if_pos P1.out]; unfold Cg.meet; rw [if_pos P2]
      exact ⟨G, mg, cg, rfl, hl.weak (fun b _ hq => hq.out (by omega)), HBX.out⟩

end Go.Proofs.YtjpohjcnjanoaaaGreatDoor
