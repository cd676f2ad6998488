import Derived.Test.YtgjemmmbnpkamaaGreatDoorCkR
namespace Go.Proofs.YtgjemmmbnpkamaaGreatDoor
open Go.RowKit
theorem jy {k : Int} (hk : -128 ≤ k ∧ k ≤ 127) (w : World) : Ty.Is w k .nil none 0 0 := ⟨trivial, rfl, Nat.le_refl _, Nat.zero_le _, hk.1, hk.2⟩
theorem zDn (Q : Nat → Prop) (w : World) (s : ByteArray) : Ck.Ly Q w (Ck.opAns s) none 0 0 := fun u _ => by
  unfold Ck.opAns
  split
  · exact jy (by decide) u
  · exact jy (by decide) u
theorem zx {P : Program} {Q : Exit → Act → World → Prop} {o : Oper} {K : Act → World → Prop} {a : Act} {w w2 : World} (hd : o.dst = none) (hr : (execOp a.eval o).run P w = .ok .skip w2) (h : K a w2) : o.wp P a w K Q := by
  unfold Oper.wp
  rw [hr]
  show K (a.put o.dst undef) w2
  rw [hd]
  exact h
theorem hpv {o : Oper} {l : Array Bool} (hp : ∀ e ∈ o.after, Region.binds .any e = true → l.getD e.on false = true) (d : Nat) (h : ⟨d, .data⟩ ∈ o.after) : l[d]? = some true := zFJ (hp ⟨d, .data⟩ h rfl)
theorem zA {l : Array Bool} {i j : Nat} (h : l[j]? = some true) : (l.setIfInBounds i true)[j]? = some true := by
  rw [Array.getElem?_setIfInBounds]
  split
  · subst_vars
    split
    · rfl
    · rename_i q
      rw [Array.getElem?_eq_none (by omega)] at h; cases h
  · exact h
theorem zEc {t : Array Value} {u : Nat → Value} {n : Nat} {ds : List Nat} {d : Nat} (hd : d ∈ ds) (hz : (over t u ds).size = n) (hlt : d < n) : Act.eval { tmps := over t u ds, defers := [] } (.tmp d) = u d := by
  have hz : t.size = n := by rw [← hz, jA]
  have key : ∀ ds : List Nat, d ∈ ds → (over t u ds)[d]? = some (u d) := by
    intro ds hd
    induction ds with
    | nil => cases hd
    | cons e ds ih =>
      simp only [over]
      rw [Array.getElem?_setIfInBounds]
      by_cases h : e = d
      · subst h
        rw [if_pos rfl, if_pos (by rw [jA]; omega)]
      · rw [if_neg h]
        rcases List.mem_cons.1 hd with q | q
        · exact absurd q.symm h
        · exact ih q
  show (over t u ds).getD d undef = u d
  rw [Array.getD_eq_getD_getElem?, key ds hd]
  rfl
theorem zO {P : Program} {id : Nat} {ops : Array Oper} {Q : Exit → Act → World → Prop} {t0 : Array Value} {w : World} (n : Nat) (hn : t0.size = n) (ds : List Nat) (hm : P.follows .mixedOrders = true) (hl : lexOk ops = true)
    (hds : (ops.toList.all fun o => match o.dst with | some d => ds.contains d | none => true) = true) (I : Array Bool → Act → World → Prop) (hI : ∀ l a w, I l a w → a.defers = [])
    (h0 : I (Array.replicate ops.size false) { tmps := t0, defers := [] } w.drew)
    (hs : ∀ (listed : Array Bool) (a : Act) (w : World) (i : Nat) (o : Oper), I listed a w → listed.size = ops.size → a.tmps.size = t0.size → ops[i]? = some o → listed[i]? = some false → (∀ e ∈ o.after, Region.binds .any e = true → listed.getD e.on false = true) → wpOp P ops Q i (fun a' w' => I (listed.setIfInBounds i true) a' w') a w)
    (hd : ∀ (listed : Array Bool) (u : Nat → Value) (w : World) (t : Array Value), t = over t0 u ds → (∀ d, d ∈ ds → d < n → Act.eval { tmps := t, defers := [] } (.tmp d) = u d) → I listed { tmps := t, defers := [] } w → (∀ i, i < ops.size → listed[i]? = some true) → Q .normal { tmps := t, defers := [] } w) : (Code.region id ops true).wp P Q { tmps := t0, defers := [] } w :=
  yS ds hm hl hds I hI h0 hs fun l u w h hall => hd l u w _ rfl (fun _ hdd hlt => zEc hdd (by rw [jA]; exact hn) hlt) h hall
theorem zS {l : Array Bool} {i : Nat} (h : (l.setIfInBounds i true)[i]? = some false) : False := by
  rw [Array.getElem?_setIfInBounds] at h
  split at h
  · split at h <;> cases h
  · rename_i q; exact q rfl
theorem pn {a : Act} {d k : Nat} {v x : Value} (q : a.eval (.tmp k) = x) (h : d ≠ k := by decide) : (a.put (some d) v).eval (.tmp k) = x := by rw [zFn h]; exact q
theorem pd {a : Act} {d : Option Nat} {v : Value} (h : a.defers = []) : (a.put d v).defers = [] := by rw [put_defers]; exact h
theorem ps {a : Act} {d : Option Nat} {v : Value} {n : Nat} (h : a.tmps.size = n) : (a.put d v).tmps.size = n := by rw [zDh]; exact h
theorem pS {a : Act} {d : Nat} {v : Value} {n : Nat} (h : a.tmps.size = n) (hd : d < n := by decide) : (a.put (some d) v).eval (.tmp d) = v := zDi (by rw [h]; exact hd) v
theorem kF {l : Array Bool} {i j : Nat} {A B : Prop} (y : l[j]? = some true → A) (f : A → B) (h : i ≠ j := by decide) : (l.setIfInBounds i true)[j]? = some true → B := fun hj => f (y (by rwa [wS h] at hj))
theorem kU {l : Array Bool} {i j : Nat} {A B : Prop} (y : l[j]? = some false → A) (f : A → B) (h : i ≠ j := by decide) : (l.setIfInBounds i true)[j]? = some false → B := fun hj => f (y (by rwa [wS h] at hj))
theorem kN {l : Array Bool} {i j : Nat} {A B : Prop} (y : l[j]? = some true → A) (f : A → l[i]? = some true) (hi : l[i]? = some false) (h : i ≠ j := by decide) : (l.setIfInBounds i true)[j]? = some true → B := fun hj => by
  have q := f (y (by rwa [wS h] at hj))
  rw [q] at hi; cases hi
theorem kT {l : Array Bool} {i t : Nat} {B : Prop} (v : l[t]? = some true) (h : i ≠ t := by decide) : (l.setIfInBounds i true)[t]? = some false → B := fun hj => by
  rw [wS h, v] at hj; cases hj
theorem nf {l : Array Bool} {i s : Nat} (h : s < l.size) (y : l[s]? = some true → l[i]? = some true) (hi : l[i]? = some false) : l[s]? = some false := by
  cases e : l[s]? with
  | none => rw [Array.getElem?_eq_none_iff] at e; omega
  | some b =>
    cases b with
    | false => rfl
    | true => rw [y e] at hi; cases hi
theorem evc (a : Act) : (∀ v, a.eval (.const v) = v) ∧ ∀ f, a.eval (.func f) = .func (.func f) #[] #[] := ⟨fun _ => rfl, fun _ => rfl⟩
theorem zFh {P : Program} {Q : Exit → Act → World → Prop} {o : Oper} {K : Act → World → Prop} {a : Act} {w : World} (d : Nat) (hd : o.dst = some d) {f : FuncId} {args : Array Value} {C : Ending → World → Prop} (hr : (execOp a.eval o).run P w = .ok (.enter f args) w) (hc : Calls P f args w C) (h : ∀ e w', C e w' → (∃ v, e = .returned v ∧ K (a.put (some d) v) w') ∨ ∃ ch, e = .panicked ch ∧ Q (.panic ch) a w') : o.wp P a w K Q := by
  unfold Oper.wp
  rw [hr]
  refine hc.mono fun e w' hC => ?_
  rcases h e w' hC with ⟨v, rfl, hq⟩ | ⟨ch, rfl, hq⟩
  · rw [← hd] at hq
    exact hq
  · exact hq
theorem zY {b : Bool} (h : b = false) : ¬ b = true := by rw [h]; decide
theorem xD {w : World} {X : Nat} {o : Obj} (q : ∃ u0 u1, w.heap[X]? = some (.cells #[u0, u1] 25 (0, 0))) : ∃ u0 u1, (w.alloc o).heap[X]? = some (.cells #[u0, u1] 25 (0, 0)) := q.elim fun _ q => q.elim fun _ q => ⟨_, _, zG q _⟩
theorem zE9 {w u : World} {X : Nat} (hb : Below w.heap.size w u) (q : ∃ u0 u1, w.heap[X]? = some (.cells #[u0, u1] 25 (0, 0))) : ∃ u0 u1, u.heap[X]? = some (.cells #[u0, u1] 25 (0, 0)) := q.elim fun _ q => q.elim fun _ q => ⟨_, _, zC hb (zD q) q⟩
theorem jS {w : World} {X : Nat} {a b : Value} (q : ∃ u0 u1, w.heap[X]? = some (.cells #[u0, u1] 25 (0, 0))) : ∃ u0 u1, ((w.setCell ⟨X, 0, none⟩ a).setCell ⟨X, 1, none⟩ b).heap[X]? = some (.cells #[u0, u1] 25 (0, 0)) := q.elim fun _ q => q.elim fun _ q => ⟨_, _, zT q _ _⟩
theorem zCk {w : World} {X Y : Nat} {a b : Value} (q : ∃ u0 u1, w.heap[Y]? = some (.cells #[u0, u1] 25 (0, 0))) (h : X ≠ Y) : ∃ u0 u1, ((w.setCell ⟨X, 0, none⟩ a).setCell ⟨X, 1, none⟩ b).heap[Y]? = some (.cells #[u0, u1] 25 (0, 0)) := q.elim fun _ q => q.elim fun _ q => ⟨_, _, zi q h _ _⟩
theorem Ck.Post.split {Q : Nat → Prop} {w w' : World} {r : Ck.R} {e : Ending} (h : Ck.Post Q w r e w') : (∃ E p x, r = .bad E p x ∧ Ck.Gave w E p x e w') ∨ (∃ a, r = .ok a ∧ Ck.Gives Q w a e w') := by
  cases r with
  | ok a => exact .inr ⟨a, rfl, h⟩
  | bad E p x => exact .inl ⟨E, p, x, rfl, h⟩
theorem qA (rv : Cg.Rv) (h : Hd) (p : Pl) (k : Int) (kids : Fo) (A : Option Addr) (n c : Nat) (k' : Int) (kids' : Fo) (A' : Option Addr) (n' c' : Nat) (w : World) (hIs : Ty.Is w k kids A n c) (hIs' : Ty.Is w k' kids' A' n' c') (hS : Shapes w) :
    Calls Tryz.prog 128 #[.agg (rF_ rv), .agg (tC_ h p), .agg #[.int .i8 k, .slice A n c], .agg #[.int .i8 k', .slice A' n' c']] w fun e w' => (rv.D.ag (k, kids) (k', kids') = false ∧ Ck.Gave w 91 h.pos Ck.e0 e w') ∨ (rv.D.ag (k, kids) (k', kids') = true ∧ e = .returned (.tuple #[]) ∧ Below w.heap.size w w') := by
  try unfold tC_
  try unfold rF_
  cases hq : rv.D.ag (k, kids) (k', kids')
  · exact (wG rv h p k kids A n c k' kids' A' n' c' w hIs hIs' hS hq).mono fun e w' q => .inl ⟨rfl, q⟩
  · exact (xH rv h p k kids A n c k' kids' A' n' c' w hIs hIs' hS hq).mono fun e w' q => .inr ⟨rfl, q⟩
theorem xI (rv : Cg.Rv) (Q : Nat → Prop) (h : Hd) (p : Pl) (a : Ck.T2) (A : Option Addr) (n c : Nat) (b : Ck.T2) (A' : Option Addr) (n' c' : Nat) (w : World) (hL : Ck.Ly Q w a A n c) (hL' : Ck.Ly Q w b A' n' c') (hS : Shapes w) :
    Calls Tryz.prog 130 #[.agg (rF_ rv), .agg (tC_ h p), .agg #[.int .i8 a.1, .slice A n c], .agg #[.int .i8 b.1, .slice A' n' c']] w fun e w' => (rv.D.ag a b = false ∧ Ck.Gave w 91 h.pos Ck.e0 e w') ∨ (rv.D.ag a b = true ∧ Ck.Gives Q w (rv.D.mt a b) e w') := by
  try unfold tC_
  try unfold rF_
  cases hq : rv.D.ag a b
  · exact (zCv rv Q h p a A n c b A' n' c' w hL hL' hS hq).mono fun e w' q => .inl ⟨rfl, q⟩
  · exact (zBM rv Q h p a A n c b A' n' c' w hL hL' hS hq).mono fun e w' q => .inr ⟨rfl, q⟩
theorem qW (rv : Cg.Rv) (Q : Nat → Prop) (h : Hd) (p : Pl) (kd : Int) (a : Ck.T2) (A : Option Addr) (n c : Nat) (w : World) (hkd : 3 ≤ kd ∧ kd ≤ 5) (hL : Ck.Ly Q w a A n c) (hok : Ty.okT a.1 a.2 = true) (hS : Shapes w) :
    Calls Tryz.prog 129 #[.agg (rF_ rv), .agg (tC_ h p), .int .i8 kd, .agg #[.int .i8 a.1, .slice A n c]] w fun e w' => (rv.D.asO kd a = false ∧ Ck.Gave w 90 h.pos Ck.e0 e w') ∨ (rv.D.asO kd a = true ∧ AsPost2 Q w (rv.D.asl kd a) (rv.D.asr kd a) e w') := by
  try unfold tC_
  try unfold rF_
  cases hq : rv.D.asO kd a
  · exact (zBK rv Q h p kd a A n c w hkd hL hok hS hq).mono fun e w' q => .inl ⟨rfl, q⟩
  · exact (zAI rv Q h p kd a A n c w hkd hL hok hS hq).mono fun e w' q => .inr ⟨rfl, q⟩
theorem qQ {Q : Nat → Prop} {w W : World} {Z b : Nat} (_hz : w.heap.size + 3 ≤ W.heap.size) (h : Z = w.heap.size + 2 ∨ W.heap.size ≤ Z) (hl : b < W.heap.size) (hq : Ck.Cut Q w.heap.size (w.heap.size + 3) b) : b ≠ Z := by
  rcases h with rfl | h
  · exact hq.ne (by omega) (by omega)
  · omega
theorem vT {Q : Nat → Prop} {wb w W : World} {Z b : Nat} (hwb : Below wb.heap.size wb W) (hQ : ∀ b, b < wb.heap.size → Ck.Cut Q w.heap.size (w.heap.size + 3) b) (_hz : w.heap.size + 3 ≤ W.heap.size) (h : Z = w.heap.size + 2 ∨ W.heap.size ≤ Z) (hb : b < wb.heap.size) : b ≠ Z :=
  qQ _hz h (Nat.lt_of_lt_of_le hb hwb.size) (hQ b hb)
theorem ji {Q : Nat → Prop} {N M S Z Z' b : Nat} (hS : M ≤ S) (hZ : Z < S) (hZ' : Z' < S) (h : Ck.Cut (fun b => Ck.Cut Q N M b ∧ b ≠ Z ∧ b ≠ Z') S S b) : Ck.Cut Q N M b ∧ b ≠ Z ∧ b ≠ Z' := by
  rcases h with ⟨h, -⟩ | h
  · exact h
  · exact ⟨.inr (by omega), by omega, by omega⟩
theorem uJ {Q : Nat → Prop} {N M S Z b : Nat} (hS : M ≤ S) (hZ : Z < S) (h : Ck.Cut (fun b => Ck.Cut Q N M b ∧ b ≠ Z) S S b) : Ck.Cut Q N M b ∧ b ≠ Z := by
  rcases h with ⟨h, -⟩ | h
  · exact h
  · exact ⟨.inr (by omega), by omega⟩
namespace Ck
def KidAt (w : World) (b o : Nat) (h : Hd) (p : Pl) : Prop := ∀ (j : Nat) (v : Value), (h.cells p)[j]? = some v → w.cell? ⟨b, o + j, none⟩ = some v
def TellsOf (rv : Cg.Rv) (K : Nat) (wb : World) (h : Hd) (kids : Tm) (p : Pl) : Prop :=
  ∀ (Q : Nat → Prop) (l : Env) (A : Option Addr) (n c : Nat) (W : World), Below wb.heap.size wb W → (∀ b, b < wb.heap.size → Q b) → Shapes W → EAt Q W l A n c → l.length + 2 * (Tm.nodes kids + 1) ≤ 20000 →
    Calls Tryz.prog 31 #[.agg (rF_ rv), .agg (tC_ h p), .slice A n c] W (Post Q W (Cg.ty rv.D K h kids l))
theorem EAt.one {Q : Nat → Prop} {w : World} {X : Nat} {nm : ByteArray} {t : T2} {G : Option Addr} {m k : Nat} {ty : TypeId} (hX : w.heap[X]? = some (.cells #[.string nm, .int .i8 t.1, .slice G m k] ty (0, 0))) (hL : Ly Q w t G m k) : EAt Q w [(nm, t)] (some ⟨X, 0, none⟩) 1 1 := by
  refine ⟨rfl, Nat.le_refl _, by decide, (fun h => by cases h), [.string nm, .int .i8 t.1, .slice G m k], ⟨⟨rfl, rfl, G, m, k, rfl, hL⟩, trivial⟩, fun a ha => ?_⟩
  exact zGi
theorem EAt.two {Q : Nat → Prop} {w : World} {X : Nat} {nm nm' : ByteArray} {t t' : T2} {G G' : Option Addr} {m k m' k' : Nat} {ty : TypeId} (hX : w.heap[X]? = some (.cells #[.string nm, .int .i8 t.1, .slice G m k, .string nm', .int .i8 t'.1, .slice G' m' k'] ty (0, 0))) (hL : Ly Q w t G m k) (hL' : Ly Q w t' G' m' k') : EAt Q w [(nm, t), (nm', t')] (some ⟨X, 0, none⟩) 2 2 := by
  refine ⟨rfl, Nat.le_refl _, by decide, (fun h => by cases h), [.string nm, .int .i8 t.1, .slice G m k, .string nm', .int .i8 t'.1, .slice G' m' k'], ⟨⟨rfl, rfl, G, m, k, rfl, hL⟩, ⟨rfl, rfl, G', m', k', rfl, hL'⟩, trivial⟩, fun a ha => ?_⟩
  exact zGi
theorem Ly.two {Q : Nat → Prop} {w : World} {a b : T2} {Y : Nat} {G G' : Option Addr} {m k m' k' : Nat} {ty : TypeId} (hX : w.heap[Y]? = some (.cells #[.int .i8 a.1, .slice G m k, .int .i8 b.1, .slice G' m' k'] ty (0, 0))) (hQ : Q Y) (hL : Ly Q w a G m k) (hL' : Ly Q w b G' m' k') (kd : Int) (hk : -128 ≤ kd ∧ kd ≤ 127) : Ly Q w (mk2 kd a b) (some ⟨Y, 0, none⟩) 2 2 := by
  obtain ⟨e0, e1, e2, e3, -⟩ := zX hX
  refine Row.two ⟨hQ, zD hX, fun i t ht => ?_⟩ kd hk 2 (Nat.le_refl _) (by decide)
  match i, ht with
  | 0, ht => injection ht with ht; subst ht; exact ⟨G, m, k, e0, e1, hL⟩
  | 1, ht => injection ht with ht; subst ht; exact ⟨G', m', k', e2, e3, hL'⟩
  | i + 2, ht => simp at ht
end Ck
theorem EV {P : Prop} (h : P := by (obtain ⟨hcst, hfn⟩ := evc a'; generalize a'.eval = ev at *; clear hp; (try clear y0); (try clear y1); (try clear y2); (try clear y3); (try clear y4); (try clear y5); (try clear y6); (try clear y7); (try clear y8); (try clear y9); (try clear y10); (try clear y11); (try clear y12); (try clear y13); (try clear y14); (try clear y15); (try clear y16); (try clear y17); (try clear y18); (try clear y19); (try clear y20); (try clear y21); (try clear y22); (try clear y23); (try clear y24); (try clear y25); go_simp)) : P := h
theorem SI {α : Type} {a b : α} (h : some a = some b) : a = b := Option.some.inj h
theorem K1 {l : Array Bool} {i j : Nat} {A B : Prop} (y : l[j]? = some true → A) (f : A → B := by ((repeat' with_reducible refine And.imp ?_ ?_) <;> first | with_reducible exact id | with_reducible exact fun q => pn q | with_reducible exact fun q => zA q | with_reducible exact fun q => Ck.Ly.later q hba | with_reducible exact fun q => Ck.Ly.later q hb | with_reducible exact fun q => Ck.EAt.below q hba | with_reducible exact fun q => Ck.EAt.below q hb | with_reducible exact fun q => zG q _ | with_reducible exact fun q => zC hb (zD q) q | with_reducible exact xD | with_reducible exact zE9 hb | ((with_reducible refine fun q => Ck.Ly.set2 q ?_ _ _); first | exact fun b hq => hq.ne (by omega) (by omega) | exact fun b hq => hq.2 | exact fun b hq => hq.2.1 | exact fun b hq => hq.2.2 | exact fun b hq => by have h1 : _ ≤ b := hq; omega) | ((with_reducible refine fun q => zi q ?_ _ _); omega) | ((with_reducible refine fun q => zCk q ?_); omega))) (h : i ≠ j := by decide) : (l.setIfInBounds i true)[j]? = some true → B := kF y f h
theorem V_ {P : Program} {ops : Array Oper} {Q : Exit → Act → World → Prop} {i : Nat} {o : Oper} {K : Act → World → Prop} {a : Act} {w : World} {v : Value} (ho : ops[i]? = some o) (d : Nat) (h : K (a.put (some d) v) w) (hg : o.guard = none := by exact rfl) (hd : o.dst = some d := by exact rfl) (hr : (execOp a.eval o).run P w = .ok (.value v) w := by (obtain ⟨hcst, hfn⟩ := evc a'; generalize a'.eval = ev at *; clear hp; (try clear y0); (try clear y1); (try clear y2); (try clear y3); (try clear y4); (try clear y5); (try clear y6); (try clear y7); (try clear y8); (try clear y9); (try clear y10); (try clear y11); (try clear y12); (try clear y13); (try clear y14); (try clear y15); (try clear y16); (try clear y17); (try clear y18); (try clear y19); (try clear y20); (try clear y21); (try clear y22); (try clear y23); (try clear y24); (try clear y25); go_simp)) : wpOp P ops Q i K a w := zW ho hg (zDB d hd hr h)
theorem C_ {P : Program} {ops : Array Oper} {Q : Exit → Act → World → Prop} {i : Nat} {o : Oper} {K : Act → World → Prop} {a : Act} {w : World} {f : FuncId} {args : Array Value} {C : Ending → World → Prop} (ho : ops[i]? = some o) (d : Nat) (hc : Calls P f args w C) (h : ∀ e w', C e w' → ∃ v, e = .returned v ∧ K (a.put (some d) v) w') (hg : o.guard = none := by exact rfl) (hd : o.dst = some d := by exact rfl) (hr : (execOp a.eval o).run P w = .ok (.enter f args) w := by (obtain ⟨hcst, hfn⟩ := evc a'; generalize a'.eval = ev at *; clear hp; (try clear y0); (try clear y1); (try clear y2); (try clear y3); (try clear y4); (try clear y5); (try clear y6); (try clear y7); (try clear y8); (try clear y9); (try clear y10); (try clear y11); (try clear y12); (try clear y13); (try clear y14); (try clear y15); (try clear y16); (try clear y17); (try clear y18); (try clear y19); (try clear y20); (try clear y21); (try clear y22); (try clear y23); (try clear y24); (try clear y25); go_simp; try (first | rfl | exact ⟨rfl, rfl⟩ | exact ⟨rfl, rfl, rfl⟩))) : wpOp P ops Q i K a w := zW ho hg (zDC d hd hr hc h)
theorem M_ {P : Program} {ops : Array Oper} {Q : Exit → Act → World → Prop} {i : Nat} {o : Oper} {K : Act → World → Prop} {a : Act} {w : World} {f : FuncId} {args : Array Value} {C : Ending → World → Prop} (ho : ops[i]? = some o) (d : Nat) (hc : Calls P f args w C) (h : ∀ e w', C e w' → (∃ v, e = .returned v ∧ K (a.put (some d) v) w') ∨ ∃ ch, e = .panicked ch ∧ Q (.panic ch) a w') (hg : o.guard = none := by exact rfl) (hd : o.dst = some d := by exact rfl) (hr : (execOp a.eval o).run P w = .ok (.enter f args) w := by (obtain ⟨hcst, hfn⟩ := evc a'; generalize a'.eval = ev at *; clear hp; (try clear y0); (try clear y1); (try clear y2); (try clear y3); (try clear y4); (try clear y5); (try clear y6); (try clear y7); (try clear y8); (try clear y9); (try clear y10); (try clear y11); (try clear y12); (try clear y13); (try clear y14); (try clear y15); (try clear y16); (try clear y17); (try clear y18); (try clear y19); (try clear y20); (try clear y21); (try clear y22); (try clear y23); (try clear y24); (try clear y25); go_simp; try (first | rfl | exact ⟨rfl, rfl⟩ | exact ⟨rfl, rfl, rfl⟩))) : wpOp P ops Q i K a w := zW ho hg (zFh d hd hr hc h)
theorem FH {i n : Nat} {P : Prop} (h : (Array.replicate n false)[i]? = some true) : P := by
  rw [Array.getElem?_replicate] at h
  split at h <;> cases h
theorem KX {A B : Prop} (x : A) (f : A → B := by ((repeat' with_reducible refine And.imp ?_ ?_) <;> exact fun q => pn q)) : B := f x
theorem KN {l : Array Bool} {i j : Nat} {A B : Prop} (y : l[j]? = some true → A) (hi : l[i]? = some false := by exact hi) (f : A → l[i]? = some true := by (intro q; with_reducible first | exact q | exact q.1 | exact q.2.1 | exact q.2.2.1 | exact q.2.2.2.1 | exact q.2.2.2.2.1 | exact q.2.2.2.2.2.1 | exact q.2.2.2.2.2.2.1 | exact q.2.2.2.2.2.2.2.1 | exact q.2.2.2.2.2.2.2.2.1 | exact q.2.2.2.2.2.2.2.2.2.1 | exact q.2.2.2.2.2.2.2.2.2.2.1 | exact q.2.2.2.2.2.2.2.2.2.2.2.1 | exact q.2.2.2.2.2.2.2.2.2.2.2.2.1 | exact q.2.2.2.2.2.2.2.2.2.2.2.2.2.1 | exact q.2.2.2.2.2.2.2.2.2.2.2.2.2.2.1 | exact q.2.2.2.2.2.2.2.2.2.2.2.2.2.2.2.1 | exact q.2.2.2.2.2.2.2.2.2.2.2.2.2.2.2.2.1 | exact q.2.2.2.2.2.2.2.2.2.2.2.2.2.2.2.2.2.1 | exact q.2.2.2.2.2.2.2.2.2.2.2.2.2.2.2.2.2.2.1 | exact q.2.2.2.2.2.2.2.2.2.2.2.2.2.2.2.2.2.2.2.1 | exact q.2.2.2.2.2.2.2.2.2.2.2.2.2.2.2.2.2.2.2.2.1 | exact q.2.2.2.2.2.2.2.2.2.2.2.2.2.2.2.2.2.2.2.2.2.1 | exact q.2.2.2.2.2.2.2.2.2.2.2.2.2.2.2.2.2.2.2.2.2.2.1 | exact q.2.2.2.2.2.2.2.2.2.2.2.2.2.2.2.2.2.2.2.2.2.2.2.1 | exact q.2.2.2.2.2.2.2.2.2.2.2.2.2.2.2.2.2.2.2.2.2.2.2.2.1 | exact q.2.2.2.2.2.2.2.2.2.2.2.2.2.2.2.2.2.2.2.2.2.2.2.2.2.1 | exact q.2 | exact q.2.2 | exact q.2.2.2 | exact q.2.2.2.2 | exact q.2.2.2.2.2 | exact q.2.2.2.2.2.2 | exact q.2.2.2.2.2.2.2 | exact q.2.2.2.2.2.2.2.2 | exact q.2.2.2.2.2.2.2.2.2 | exact q.2.2.2.2.2.2.2.2.2.2 | exact q.2.2.2.2.2.2.2.2.2.2.2 | exact q.2.2.2.2.2.2.2.2.2.2.2.2 | exact q.2.2.2.2.2.2.2.2.2.2.2.2.2 | exact q.2.2.2.2.2.2.2.2.2.2.2.2.2.2 | exact q.2.2.2.2.2.2.2.2.2.2.2.2.2.2.2 | exact q.2.2.2.2.2.2.2.2.2.2.2.2.2.2.2.2 | exact q.2.2.2.2.2.2.2.2.2.2.2.2.2.2.2.2.2 | exact q.2.2.2.2.2.2.2.2.2.2.2.2.2.2.2.2.2.2 | exact q.2.2.2.2.2.2.2.2.2.2.2.2.2.2.2.2.2.2.2 | exact q.2.2.2.2.2.2.2.2.2.2.2.2.2.2.2.2.2.2.2.2 | exact q.2.2.2.2.2.2.2.2.2.2.2.2.2.2.2.2.2.2.2.2.2 | exact q.2.2.2.2.2.2.2.2.2.2.2.2.2.2.2.2.2.2.2.2.2.2 | exact q.2.2.2.2.2.2.2.2.2.2.2.2.2.2.2.2.2.2.2.2.2.2.2 | exact q.2.2.2.2.2.2.2.2.2.2.2.2.2.2.2.2.2.2.2.2.2.2.2.2 | exact q.2.2.2.2.2.2.2.2.2.2.2.2.2.2.2.2.2.2.2.2.2.2.2.2.2)) (h : i ≠ j := by decide) : (l.setIfInBounds i true)[j]? = some true → B := kN y f hi h
set_option maxHeartbeats 1500000 in
set_option maxRecDepth 100000 in
theorem zCo (rv : Cg.Rv) (Q : Nat → Prop) (h : Hd) (p : Pl) (a : Ck.T2) (Y n cap : Nat) (w : World) (hk : h.kind = 17) (hn : n = 1) (hR : Ck.Row Q w [a] Y) (hS : Shapes w) (hT : Ck.Ly Q w (Ck.TT h) p.TA p.tn p.tc) (hU : Ck.Ly Q w (Ck.UU h) p.UA p.un p.uc) (hca : rv.D.ca = true) :
    Calls Tryz.prog 104 #[.agg (rF_ rv), .agg (tC_ h p), .slice (some ⟨Y, 0, none⟩) n cap] w (Ck.Post Q w (Cg.over rv.D h a (0, .nil) (0, .nil))) := by
  try unfold tC_
  try unfold rF_
  rw [Cg.zBh _ _ _ _ _ hk hca]
  obtain ⟨Ga, ma, ca, a0, a1, aL⟩ := hR.cell 0 a rfl
  obtain ⟨w1, hw1, hB3, h0, h1, h2, hz⟩ := qN w (.cells (rF_ rv) 56) (.cells (tC_ h p) 28) (.cells #[.int .i8 0, .slice none 0 0] 25)
  have HW1 := k0_ hw1
  have HB3 := k0_ hB3
  have H0 := k0_ h0
  have H1 := k0_ h1
  have H2 := k0_ h2
  have HZ := k0_ hz
  have HAL : Hid (Ck.Ly (Ck.Cut Q w.heap.size (w.heap.size + 3)) w1 a Ga ma ca) := k0_ ((aL.weak (fun b hl hq => .inl ⟨hq, hl⟩)).later hB3)
  have HS := k0_ (hS.below hB3)
  have hfrom := k0_ (fun (W : World) (hb : Below w1.heap.size w1 W) => hB3.trans (hb.mono hB3.size))
  have HA := k0_ (And.intro (zB a0 hB3) (zB a1 hB3))
  have HK := k0_ (fun (W : World) (hb : Below w1.heap.size w1 W) => (show W.cell? ⟨w.heap.size, 0, none⟩ = some (.func (Fn.func rv.fr) #[] rv.cpt) ∧ W.cell? ⟨w.heap.size, 1, none⟩ = some (.func (Fn.func rv.fa) #[] #[]) ∧ W.cell? ⟨w.heap.size, 2, none⟩ = some (.func (Fn.func rv.fm) #[] #[]) ∧ W.cell? ⟨w.heap.size, 3, none⟩ = some (.func (Fn.func rv.ft) #[] #[]) ∧ W.cell? ⟨w.heap.size, 4, none⟩ = some rv.vg ∧ W.cell? ⟨w.heap.size + 1, 0, none⟩ = some (.int .i8 h.kind) ∧ W.cell? ⟨w.heap.size + 1, 1, none⟩ = some (.string h.name) ∧ W.cell? ⟨w.heap.size + 1, 2, none⟩ = some (.string h.arg) ∧ W.cell? ⟨w.heap.size + 1, 3, none⟩ = some (.int .i64 h.num) ∧ W.cell? ⟨w.heap.size + 1, 4, none⟩ = some (.int .i8 h.tk) ∧ W.cell? ⟨w.heap.size + 1, 5, none⟩ = some (.slice p.TA p.tn p.tc) ∧ W.cell? ⟨w.heap.size + 1, 6, none⟩ = some (.int .i8 h.uk) ∧ W.cell? ⟨w.heap.size + 1, 7, none⟩ = some (.slice p.UA p.un p.uc) ∧ W.cell? ⟨w.heap.size + 1, 8, none⟩ = some (.int .i64 h.label) ∧ W.cell? ⟨w.heap.size + 1, 9, none⟩ = some (.int .i64 h.pos) ∧ W.cell? ⟨w.heap.size + 1, 10, none⟩ = some (.slice p.A p.n p.c) ∧ W.cell? ⟨Y, 0, none⟩ = some (.int .i8 a.1) ∧ W.cell? ⟨Y, 1, none⟩ = some (.slice Ga ma ca) from by
    obtain ⟨r0, r1, r2, r3, r4, -⟩ := jI (zC hb (zD H0.out) H0.out)
    obtain ⟨q0, q1, q2, q3, q4, q5, q6, q7, q8, q9, q10, ql⟩ := zN (zC hb (zD H1.out) H1.out)
    exact ⟨r0, r1, r2, r3, r4, q0, q1, q2, q3, q4, q5, q6, q7, q8, q9, q10, zB HA.out.1 hb, zB HA.out.2 hb⟩))
  clear hR hS a0 a1 aL hB3 h0 h1 h2 hz
  subst hn
  have HKK := k0_ hk
  clear hk
  obtain ⟨R, hR⟩ : ∃ R, R = (if rv.D.ag a (Ck.TT h) = true then (if rv.D.gs (Ck.TT h) (Ck.UU h) = true then .ok (Ck.UU h) else Ck.fault h 91) else Ck.fault h 91) := ⟨_, rfl⟩
  rw [← hR]
  have HR := k0_ hR
  clear hR
  have HT := k0_ ((hT.weak (Q' := fun b => Q b ∧ b < w.heap.size) (fun b hl hq => ⟨hq, hl⟩)).later HB3.out)
  have HU := k0_ ((hU.weak (Q' := fun b => Q b ∧ b < w.heap.size) (fun b hl hq => ⟨hq, hl⟩)).later HB3.out)
  have HCA := k0_ hca
  clear hT hU hca
  go_enter Tryz.func104, Tryz.ntmps104
  go_upto_region 1 with fail
  rw [← HW1.out]
  obtain ⟨r0, r1, r2, r3, r4, q0, q1, q2, q3, q4, q5, q6, q7, q8, q9, q10, y0, y1⟩ := HK.out w1 (Below.refl _ _)
  rw [HKK.out] at q0
  clear hw1
  go_upto_region 30 with fail
  clear r0 r1 r2 r3 r4 q0 q1 q2 q3 q4 q5 q6 q7 q8 q9 q10 y0 y1
  refine zO 170 rfl [147, 148, 149, 150, 151, 152, 153, 154] (by kernel_rfl) (by kernel_rfl) (by kernel_rfl) (fun listed a' w' => a'.defers = [] ∧ a'.tmps.size = 170 ∧ (a'.eval (.tmp 2) = .slice (some ⟨Y, 0, none⟩) 1 cap ∧ a'.eval (.tmp 3) = .pointer (some ⟨w.heap.size, 0, none⟩) ∧ a'.eval (.tmp 4) = .pointer (some ⟨w.heap.size + 1, 0, none⟩) ∧ a'.eval (.tmp 6) = .pointer (some ⟨w.heap.size + 1 + 1, 0, none⟩)) ∧ (listed[0]? = some true → (a'.eval (.tmp 147) = .agg (rF_ rv))) ∧ (listed[1]? = some true → (a'.eval (.tmp 148) = .agg (tC_ h p))) ∧ (listed[2]? = some true → (a'.eval (.tmp 149) = .slice (some ⟨Y, 0, none⟩) 1 cap)) ∧ (listed[3]? = some true → (a'.eval (.tmp 150) = .pointer (some ⟨Y, 0, none⟩))) ∧ (listed[4]? = some true → (a'.eval (.tmp 151) = .agg #[.int .i8 a.1, .slice Ga ma ca])) ∧ (listed[5]? = some true → (a'.eval (.tmp 152) = .pointer (some ⟨w.heap.size + 1, 4, none⟩))) ∧ (listed[6]? = some true → (a'.eval (.tmp 153) = .agg #[.int .i8 h.tk, .slice p.TA p.tn p.tc])) ∧ (listed[7]? = some true → (a'.eval (.tmp 154) = .tuple #[]) ∧ (rv.D.ag a (Ck.TT h) = true)) ∧ Below w1.heap.size w1 w') (fun _ _ _ h => h.1) ?_ ?_ ?_
  · have hz := HZ.out
    refine ⟨rfl, rfl, ⟨rfl, rfl, rfl, rfl⟩, FH, FH, FH, FH, FH, FH, FH, FH, (Below.refl _ _).drew⟩
  · rintro listed a' w' i o ⟨hdf, hsz, hx, y0, y1, y2, y3, y4, y5, y6, y7, hbw⟩ hz hsz0 ho hi hp
    have hi13 : i < 8 := by
      rcases Nat.lt_or_ge i 8 with q | q
      · exact q
      · exact ve
    rcases (by omega : i = 0 ∨ i = 1 ∨ i = 2 ∨ i = 3 ∨ i = 4 ∨ i = 5 ∨ i = 6 ∨ i = 7) with rfl | rfl | rfl | rfl | rfl | rfl | rfl | rfl
    · obtain rfl := SI ho
      obtain ⟨c0, c1, c2, c3, c4, c5, c6, c7, c8, c9, c10, c11, c12, c13, c14, c15, c16, c17⟩ := HK.out w' hbw
      exact V_ ho 147 ⟨pd hdf, ps hsz, KX hx, (fun _ => pS hsz), K1 y1, K1 y2, K1 y3, K1 y4, K1 y5, K1 y6, K1 y7, hbw⟩
    · obtain rfl := SI ho
      obtain ⟨c0, c1, c2, c3, c4, c5, c6, c7, c8, c9, c10, c11, c12, c13, c14, c15, c16, c17⟩ := HK.out w' hbw
      exact V_ ho 148 ⟨pd hdf, ps hsz, KX hx, K1 y0, (fun _ => pS hsz), K1 y2, K1 y3, K1 y4, K1 y5, K1 y6, K1 y7, hbw⟩
    · obtain rfl := SI ho
      exact V_ ho 149 ⟨pd hdf, ps hsz, KX hx, K1 y0, K1 y1, (fun _ => pS hsz), K1 y3, K1 y4, K1 y5, K1 y6, K1 y7, hbw⟩
    · obtain rfl := SI ho
      have v2 := hpv hp 2 (by simp)
      have ww2 := (y2 v2)
      exact V_ ho 150 ⟨pd hdf, ps hsz, KX hx, K1 y0, K1 y1, K1 y2, (fun _ => pS hsz), K1 y4, K1 y5, K1 y6, K1 y7, hbw⟩
    · obtain rfl := SI ho
      have v3 := hpv hp 3 (by simp)
      have ww3 := (y3 v3)
      obtain ⟨c0, c1, c2, c3, c4, c5, c6, c7, c8, c9, c10, c11, c12, c13, c14, c15, c16, c17⟩ := HK.out w' hbw
      exact V_ ho 151 ⟨pd hdf, ps hsz, KX hx, K1 y0, K1 y1, K1 y2, K1 y3, (fun _ => pS hsz), K1 y5, K1 y6, K1 y7, hbw⟩
    · obtain rfl := SI ho
      exact V_ ho 152 ⟨pd hdf, ps hsz, KX hx, K1 y0, K1 y1, K1 y2, K1 y3, K1 y4, (fun _ => pS hsz), K1 y6, K1 y7, hbw⟩
    · obtain rfl := SI ho
      have v5 := hpv hp 5 (by simp)
      have ww5 := (y5 v5)
      obtain ⟨c0, c1, c2, c3, c4, c5, c6, c7, c8, c9, c10, c11, c12, c13, c14, c15, c16, c17⟩ := HK.out w' hbw
      exact V_ ho 153 ⟨pd hdf, ps hsz, KX hx, K1 y0, K1 y1, K1 y2, K1 y3, K1 y4, K1 y5, (fun _ => pS hsz), K1 y7, hbw⟩
    · obtain rfl := SI ho
      have v0 := hpv hp 0 (by simp)
      have ww0 := (y0 v0)
      have v1 := hpv hp 1 (by simp)
      have ww1 := (y1 v1)
      have v4 := hpv hp 4 (by simp)
      have ww4 := (y4 v4)
      have v6 := hpv hp 6 (by simp)
      have ww6 := (y6 v6)
      refine M_ ho 154 (qA rv h p a.1 a.2 Ga ma ca h.tk h.tkids p.TA p.tn p.tc w' (HAL.out.later hbw).is (HT.out.later hbw).is (HS.out.below hbw)) fun e u hg => ?_
      · exact zHA
  · rintro listed u w' t ht hu ⟨-, -, -, y0, y1, y2, y3, y4, y5, y6, y7, hbw⟩ hall
    have v7 := hall 7 (by decide)
    have HBW := k0_ hbw
    have P1 := k0_ ((y7 v7).2)
    clear y0 y1 y2 y3 y4 y5 y6 y7 v7 hall hu
    clear hbw
    simp only [over, List.setIfInBounds_toArray, List.set_cons_succ, List.set_cons_zero] at ht
    subst ht
    obtain ⟨r0, r1, r2, r3, r4, q0, q1, q2, q3, q4, q5, q6, q7, q8, q9, q10, y0, y1⟩ := HK.out w' HBW.out
    have CG := k0_ (zBP rv h p w' HCA.out (HT.out.later HBW.out).is (HU.out.later HBW.out).is (HS.out.below HBW.out))
    go_wp2_with fail
    refine CG.out.mono ?_
    rintro e w5 hg
    rcases hg with ⟨hq, hg⟩ | ⟨hq, he, hb⟩
    · have HP : Ck.Post Q w R e w5 := by rw [HR.out, if_pos P1.out, if_neg (zY (show rv.D.gs (Ck.TT h) (Ck.UU h) = false from hq))]; exact Ck.Gave.from hg (hfrom.out w' HBW.out)
      exact zFC
    · subst he
      have HB5 := kt_ HBW hb
      have HGS := k0_ (show rv.D.gs (Ck.TT h) (Ck.UU h) = true from hq)
      clear hb hq r0 r1 r2 r3 r4 q0 q1 q2 q3 q4 q5 q6 q7 q8 q9 q10 y0 y1
      obtain ⟨r0, r1, r2, r3, r4, q0, q1, q2, q3, q4, q5, q6, q7, q8, q9, q10, y0, y1⟩ := HK.out w5 HB5.out
      have z2 := zC HB5.out (zD H2.out) H2.out
      obtain ⟨x0, x1, f0, f1, xl⟩ := zM z2
      go_wp2_with fail
      have z3 := zT z2 (.int .i8 h.uk) (.slice p.UA p.un p.uc)
      obtain ⟨k0, k1, -, -, -⟩ := zM z3
      refine ⟨rfl, .agg #[.int .i8 h.uk, .slice p.UA p.un p.uc], by simp [results, Tryz.results104, go_sem, k0, k1], ?_⟩
      rw [HR.out, if_pos P1.out, if_pos HGS.out]
      exact ⟨p.UA, p.un, p.uc, rfl, ((HU.out.later HB5.out).set2 (fun b hq => by have := hq.2; omega) _ _).weak (fun b _ hq => .inl hq), zL (hfrom.out _ HB5.out) (by omega) _ _⟩
set_option maxHeartbeats 8000000 in
set_option maxRecDepth 100000 in
theorem zBO (rv : Cg.Rv) (K : Nat) (Q : Nat → Prop) (h h1 : Hd) (k1 : Tm) (q1 : Pl) (TA UA : Option Addr) (tn tc un uc kb ko kc : Nat) (l : Ck.Env) (A : Option Addr) (n c : Nat) (wb w : World)
    (hT : Ty.Is wb h.tk h.tkids TA tn tc) (hU : Ty.Is wb h.uk h.ukids UA un uc) (g1 : Ck.KidAt wb kb (ko) h1 q1) (hwb : Below wb.heap.size wb w) (hQ : ∀ b, b < wb.heap.size → Q b) (hS : Shapes w) (hE : Ck.EAt Q w l A n c)
    (hk : h.kind = 4) (hb1 : l.length + 1 + 2 * (Tm.nodes k1 + 1) ≤ 20000) (T1 : Ck.TellsOf rv K wb h1 k1 q1) :
    Calls Tryz.prog 66 #[.agg (rF_ rv), .agg (tD_ h TA tn tc UA un uc (some ⟨kb, ko, none⟩) 1 kc), .slice A n c] w (Ck.Post Q w (Ck.bnd (Cg.ty rv.D K h1 k1 (l ++ [(h.name, Ck.TT h)])) fun b => .ok (Ck.mk2 3 (Ck.TT h) b))) := by
  try unfold tD_
  try unfold rF_
  obtain ⟨w1, hw1, hB3, H0', H1', H2', hz⟩ := qN w (.cells (rF_ rv) 56) (.cells (tD_ h TA tn tc UA un uc (some ⟨kb, ko, none⟩) 1 kc) 28) (.cells #[.int .i8 0, .slice none 0 0] 25)
  have HW1 := k0_ hw1
  have HB3 := k0_ hB3
  have H0 := k0_ H0'
  have H1 := k0_ H1'
  have H2 := k0_ H2'
  have HZ := k0_ hz
  have HWB := k0_ (hwb.trans (hB3.mono hwb.size))
  have HS := k0_ (hS.below hB3)
  have hfrom := k0_ (fun (W : World) (hb : Below w1.heap.size w1 W) => hB3.trans (hb.mono hB3.size))
  have HQM : Hid (∀ b, b < wb.heap.size → Ck.Cut Q w.heap.size (w.heap.size + 3) b) := k0_ (fun b hb => .inl ⟨hQ b hb, Nat.lt_of_lt_of_le hb hwb.size⟩)
  have HE : Hid (Ck.EAt (Ck.Cut Q w.heap.size (w.heap.size + 3)) w1 l A n c) := k0_ ((hE.weak (fun b hb hq => .inl ⟨hq, hb⟩)).below hB3)
  have HT : Hid (Ck.Ly (Ck.Cut Q w.heap.size (w.heap.size + 3)) w1 (Ck.TT h) TA tn tc) := k0_ (((Ck.Ly.of (a := Ck.TT h) hT).weak (fun b hb _ => HQM.out b hb)).later HWB.out)
  have HU : Hid (Ck.Ly (Ck.Cut Q w.heap.size (w.heap.size + 3)) w1 (Ck.UU h) UA un uc) := k0_ (((Ck.Ly.of (a := Ck.UU h) hU).weak (fun b hb _ => HQM.out b hb)).later HWB.out)
  have hnl := hE.n_eq
  have HN := k0_ hnl
  have HK := k0_ (fun (W : World) (hb : Below w1.heap.size w1 W) => (show W.cell? ⟨w.heap.size, 0, none⟩ = some (.func (Fn.func rv.fr) #[] rv.cpt) ∧ W.cell? ⟨w.heap.size, 1, none⟩ = some (.func (Fn.func rv.fa) #[] #[]) ∧ W.cell? ⟨w.heap.size, 2, none⟩ = some (.func (Fn.func rv.fm) #[] #[]) ∧ W.cell? ⟨w.heap.size, 3, none⟩ = some (.func (Fn.func rv.ft) #[] #[]) ∧ W.cell? ⟨w.heap.size, 4, none⟩ = some rv.vg ∧ W.cell? ⟨w.heap.size + 1, 0, none⟩ = some (.int .i8 h.kind) ∧ W.cell? ⟨w.heap.size + 1, 1, none⟩ = some (.string h.name) ∧ W.cell? ⟨w.heap.size + 1, 2, none⟩ = some (.string h.arg) ∧ W.cell? ⟨w.heap.size + 1, 3, none⟩ = some (.int .i64 h.num) ∧ W.cell? ⟨w.heap.size + 1, 4, none⟩ = some (.int .i8 h.tk) ∧ W.cell? ⟨w.heap.size + 1, 5, none⟩ = some (.slice TA tn tc) ∧ W.cell? ⟨w.heap.size + 1, 6, none⟩ = some (.int .i8 h.uk) ∧ W.cell? ⟨w.heap.size + 1, 7, none⟩ = some (.slice UA un uc) ∧ W.cell? ⟨w.heap.size + 1, 8, none⟩ = some (.int .i64 h.label) ∧ W.cell? ⟨w.heap.size + 1, 9, none⟩ = some (.int .i64 h.pos) ∧ W.cell? ⟨w.heap.size + 1, 10, none⟩ = some (.slice (some ⟨kb, ko, none⟩) 1 kc) from by
    obtain ⟨r0, r1, r2, r3, r4, -⟩ := jI (zC hb (zD H0.out) H0.out)
    obtain ⟨q0, q1, q2, q3, q4, q5, q6, q7, q8, q9, q10, ql⟩ := zN (zC hb (zD H1.out) H1.out)
    exact ⟨r0, r1, r2, r3, r4, q0, q1, q2, q3, q4, q5, q6, q7, q8, q9, q10⟩))
  have HK1 := k0_ (fun (W : World) (hb : Below w1.heap.size w1 W) => (show W.cell? ⟨kb, ko, none⟩ = some (.int .i8 h1.kind) ∧ W.cell? ⟨kb, ko + 1, none⟩ = some (.string h1.name) ∧ W.cell? ⟨kb, ko + 2, none⟩ = some (.string h1.arg) ∧ W.cell? ⟨kb, ko + 3, none⟩ = some (.int .i64 h1.num) ∧ W.cell? ⟨kb, ko + 4, none⟩ = some (.int .i8 h1.tk) ∧ W.cell? ⟨kb, ko + 5, none⟩ = some (.slice q1.TA q1.tn q1.tc) ∧ W.cell? ⟨kb, ko + 6, none⟩ = some (.int .i8 h1.uk) ∧ W.cell? ⟨kb, ko + 7, none⟩ = some (.slice q1.UA q1.un q1.uc) ∧ W.cell? ⟨kb, ko + 8, none⟩ = some (.int .i64 h1.label) ∧ W.cell? ⟨kb, ko + 9, none⟩ = some (.int .i64 h1.pos) ∧ W.cell? ⟨kb, ko + 10, none⟩ = some (.slice q1.A q1.n q1.c) from
    ⟨zB (zB (g1 0 _ rfl) HWB.out) hb, zB (zB (g1 1 _ rfl) HWB.out) hb, zB (zB (g1 2 _ rfl) HWB.out) hb, zB (zB (g1 3 _ rfl) HWB.out) hb, zB (zB (g1 4 _ rfl) HWB.out) hb, zB (zB (g1 5 _ rfl) HWB.out) hb, zB (zB (g1 6 _ rfl) HWB.out) hb, zB (zB (g1 7 _ rfl) HWB.out) hb, zB (zB (g1 8 _ rfl) HWB.out) hb, zB (zB (g1 9 _ rfl) HWB.out) hb, zB (zB (g1 10 _ rfl) HWB.out) hb⟩))
  clear hB3 H0' H1' H2' hz hwb hS hE hT hU hnl g1
  obtain ⟨R, hR⟩ : ∃ R, R = (Ck.bnd (Cg.ty rv.D K h1 k1 (l ++ [(h.name, Ck.TT h)])) fun b => .ok (Ck.mk2 3 (Ck.TT h) b)) := ⟨_, rfl⟩
  rw [← hR]
  have HR := k0_ hR
  clear hR
  have hn20 : n + 1 ≤ 20000 := by have := HN.out; omega
  have HKK := k0_ hk
  clear hk
  go_enter Tryz.func66, Tryz.ntmps66
  go_upto_region 1 with fail
  rw [← HW1.out]
  clear hw1
  obtain ⟨r0, r1, r2, r3, r4, q0', q1', q2', q3', q4', q5', q6', q7', q8', q9', q10'⟩ := HK.out w1 (Below.refl _ _)
  rw [HKK.out] at q0'
  go_upto_region 10 with fail
  clear r0 r1 r2 r3 r4 q0' q1' q2' q3' q4' q5' q6' q7' q8' q9' q10'
  refine zO 81 rfl [26, 27, 28, 29, 30, 31, 32, 33, 34, 35, 36, 37, 38, 39, 40, 41, 42, 43] (by kernel_rfl) (by kernel_rfl) (by kernel_rfl) (fun listed a' w' => a'.defers = [] ∧ a'.tmps.size = 81 ∧ (a'.eval (.tmp 2) = .slice A n c ∧ a'.eval (.tmp 3) = .pointer (some ⟨w.heap.size, 0, none⟩) ∧ a'.eval (.tmp 4) = .pointer (some ⟨w.heap.size + 1, 0, none⟩) ∧ a'.eval (.tmp 6) = .pointer (some ⟨w.heap.size + 1 + 1, 0, none⟩)) ∧ ∃ X Gw kw Gb mb cb t2 Y, (listed[0]? = some true → (a'.eval (.tmp 26) = .pointer (some ⟨w.heap.size + 1, 4, none⟩))) ∧ (listed[1]? = some true → (a'.eval (.tmp 27) = .agg #[.int .i8 h.tk, .slice TA tn tc]) ∧ (listed[0]? = some true)) ∧ (listed[2]? = some true → (a'.eval (.tmp 28) = .agg (rF_ rv))) ∧ (listed[3]? = some true → (a'.eval (.tmp 29) = .pointer (some ⟨w.heap.size + 1, 10, none⟩))) ∧ (listed[4]? = some true → (a'.eval (.tmp 30) = .slice (some ⟨kb, ko, none⟩) 1 kc) ∧ (listed[3]? = some true)) ∧ (listed[5]? = some true → (a'.eval (.tmp 31) = .pointer (some ⟨kb, ko, none⟩)) ∧ (listed[3]? = some true) ∧ (listed[4]? = some true)) ∧ (listed[6]? = some true → (a'.eval (.tmp 32) = .agg (tC_ h1 q1)) ∧ (listed[3]? = some true) ∧ (listed[4]? = some true) ∧ (listed[5]? = some true)) ∧ (listed[7]? = some true → (a'.eval (.tmp 33) = .slice A n c)) ∧ (listed[8]? = some true → (a'.eval (.tmp 34) = .pointer (some ⟨w.heap.size + 1, 1, none⟩))) ∧ (listed[9]? = some true → (a'.eval (.tmp 35) = .string h.name) ∧ (listed[8]? = some true)) ∧ (listed[10]? = some true → (a'.eval (.tmp 36) = .pointer (some ⟨w.heap.size + 1, 4, none⟩))) ∧ (listed[11]? = some true → (a'.eval (.tmp 37) = .agg #[.int .i8 h.tk, .slice TA tn tc]) ∧ (listed[10]? = some true)) ∧ (listed[12]? = some true → (a'.eval (.tmp 38) = .agg #[.string h.name, .int .i8 h.tk, .slice TA tn tc]) ∧ (listed[8]? = some true) ∧ (listed[9]? = some true) ∧ (listed[10]? = some true) ∧ (listed[11]? = some true)) ∧ (listed[13]? = some true → (a'.eval (.tmp 39) = .slice (some ⟨X, 0, none⟩) 1 1) ∧ (listed[8]? = some true) ∧ (listed[9]? = some true) ∧ (listed[10]? = some true) ∧ (listed[11]? = some true) ∧ (listed[12]? = some true) ∧ ((listed[14]? = some false → Ck.EAt (Ck.Cut Q w.heap.size (w.heap.size + 3)) w' [(h.name, (Ck.TT h))] (some ⟨X, 0, none⟩) 1 1))) ∧ (listed[14]? = some true → (a'.eval (.tmp 40) = .slice Gw (n + 1) kw) ∧ (listed[7]? = some true) ∧ (listed[8]? = some true) ∧ (listed[9]? = some true) ∧ (listed[10]? = some true) ∧ (listed[11]? = some true) ∧ (listed[12]? = some true) ∧ (listed[13]? = some true) ∧ ((listed[15]? = some false → Ck.EAt (Ck.Cut Q w.heap.size (w.heap.size + 3)) w' (l ++ [(h.name, (Ck.TT h))]) Gw (n + 1) kw))) ∧ (listed[15]? = some true → (a'.eval (.tmp 41) = .agg #[.int .i8 t2.1, .slice Gb mb cb]) ∧ (listed[2]? = some true) ∧ (listed[3]? = some true) ∧ (listed[4]? = some true) ∧ (listed[5]? = some true) ∧ (listed[6]? = some true) ∧ (listed[7]? = some true) ∧ (listed[8]? = some true) ∧ (listed[9]? = some true) ∧ (listed[10]? = some true) ∧ (listed[11]? = some true) ∧ (listed[12]? = some true) ∧ (listed[13]? = some true) ∧ (listed[14]? = some true) ∧ (Cg.ty rv.D K h1 k1 (l ++ [(h.name, Ck.TT h)]) = .ok t2) ∧ (Ck.Ly (Ck.Cut Q w.heap.size (w.heap.size + 3)) w' t2 Gb mb cb)) ∧ (listed[16]? = some true → (a'.eval (.tmp 42) = .slice (some ⟨Y, 0, none⟩) 2 2) ∧ (listed[0]? = some true) ∧ (listed[1]? = some true) ∧ (listed[2]? = some true) ∧ (listed[3]? = some true) ∧ (listed[4]? = some true) ∧ (listed[5]? = some true) ∧ (listed[6]? = some true) ∧ (listed[7]? = some true) ∧ (listed[8]? = some true) ∧ (listed[9]? = some true) ∧ (listed[10]? = some true) ∧ (listed[11]? = some true) ∧ (listed[12]? = some true) ∧ (listed[13]? = some true) ∧ (listed[14]? = some true) ∧ (listed[15]? = some true) ∧ (Ck.Ly (Ck.Cut Q w.heap.size (w.heap.size + 3)) w' (Ck.mk2 3 (Ck.TT h) t2) (some ⟨Y, 0, none⟩) 2 2)) ∧ (listed[17]? = some true → (a'.eval (.tmp 43) = .agg #[.int .i8 3, .slice (some ⟨Y, 0, none⟩) 2 2]) ∧ (listed[0]? = some true) ∧ (listed[1]? = some true) ∧ (listed[2]? = some true) ∧ (listed[3]? = some true) ∧ (listed[4]? = some true) ∧ (listed[5]? = some true) ∧ (listed[6]? = some true) ∧ (listed[7]? = some true) ∧ (listed[8]? = some true) ∧ (listed[9]? = some true) ∧ (listed[10]? = some true) ∧ (listed[11]? = some true) ∧ (listed[12]? = some true) ∧ (listed[13]? = some true) ∧ (listed[14]? = some true) ∧ (listed[15]? = some true) ∧ (listed[16]? = some true)) ∧ (listed[18]? = some true → (listed[0]? = some true) ∧ (listed[1]? = some true) ∧ (listed[2]? = some true) ∧ (listed[3]? = some true) ∧ (listed[4]? = some true) ∧ (listed[5]? = some true) ∧ (listed[6]? = some true) ∧ (listed[7]? = some true) ∧ (listed[8]? = some true) ∧ (listed[9]? = some true) ∧ (listed[10]? = some true) ∧ (listed[11]? = some true) ∧ (listed[12]? = some true) ∧ (listed[13]? = some true) ∧ (listed[14]? = some true) ∧ (listed[15]? = some true) ∧ (listed[16]? = some true) ∧ (listed[17]? = some true) ∧ (w'.heap[w.heap.size + 1 + 1]? = some (.cells #[.int .i8 3, .slice (some ⟨Y, 0, none⟩) 2 2] 25 (0, 0))) ∧ (Below w.heap.size w w')) ∧ (listed[18]? = some false → Below w1.heap.size w1 w')) (fun _ _ _ h => h.1) ?_ ?_ ?_
  · have hz := HZ.out
    refine ⟨rfl, rfl, ⟨rfl, rfl, rfl, rfl⟩, 0, none, 0, none, 0, 0, (0, .nil), 0, FH, FH, FH, FH, FH, FH, FH, FH, FH, FH, FH, FH, FH, FH, FH, FH, FH, FH, FH, (fun _ => (Below.refl _ _).drew)⟩
  · rintro listed a' w' i o ⟨hdf, hsz, hx, X, Gw, kw, Gb, mb, cb, t2, Y, y0, y1, y2, y3, y4, y5, y6, y7, y8, y9, y10, y11, y12, y13, y14, y15, y16, y17, y18, hbw⟩ hz hsz0 ho hi hp
    have hi13 : i < 19 := by
      rcases Nat.lt_or_ge i 19 with q | q
      · exact q
      · exact ve
    rcases (by omega : i = 0 ∨ i = 1 ∨ i = 2 ∨ i = 3 ∨ i = 4 ∨ i = 5 ∨ i = 6 ∨ i = 7 ∨ i = 8 ∨ i = 9 ∨ i = 10 ∨ i = 11 ∨ i = 12 ∨ i = 13 ∨ i = 14 ∨ i = 15 ∨ i = 16 ∨ i = 17 ∨ i = 18) with rfl | rfl | rfl | rfl | rfl | rfl | rfl | rfl | rfl | rfl | rfl | rfl | rfl | rfl | rfl | rfl | rfl | rfl | rfl
    · obtain rfl := SI ho
      exact V_ ho 26 ⟨pd hdf, ps hsz, KX hx, X, Gw, kw, Gb, mb, cb, t2, Y, (fun _ => pS hsz), KN y1, K1 y2, K1 y3, K1 y4, K1 y5, K1 y6, K1 y7, K1 y8, K1 y9, K1 y10, K1 y11, K1 y12, (kF y13 (fun q => ⟨pn q.1, zA q.2.1, zA q.2.2.1, zA q.2.2.2.1, zA q.2.2.2.2.1, zA q.2.2.2.2.2.1, (kU q.2.2.2.2.2.2 (fun q => q))⟩)), (kF y14 (fun q => ⟨pn q.1, zA q.2.1, zA q.2.2.1, zA q.2.2.2.1, zA q.2.2.2.2.1, zA q.2.2.2.2.2.1, zA q.2.2.2.2.2.2.1, zA q.2.2.2.2.2.2.2.1, (kU q.2.2.2.2.2.2.2.2 (fun q => q))⟩)), K1 y15, KN y16, KN y17, KN y18, (kU hbw id)⟩
    · obtain rfl := SI ho
      have v0 := hpv hp 0 (by simp)
      have ww0 := (y0 v0)
      have hbu := hbw
      have hbw := hbw (nf (by rw [hz]; decide) (fun q => (y18 q).2.1) hi)
      obtain ⟨c0, c1, c2, c3, c4, c5, c6, c7, c8, c9, c10, c11, c12, c13, c14, c15⟩ := HK.out w' hbw
      exact V_ ho 27 ⟨pd hdf, ps hsz, KX hx, X, Gw, kw, Gb, mb, cb, t2, Y, K1 y0, (fun _ => ⟨pS hsz, (zA v0)⟩), K1 y2, K1 y3, K1 y4, K1 y5, K1 y6, K1 y7, K1 y8, K1 y9, K1 y10, K1 y11, K1 y12, (kF y13 (fun q => ⟨pn q.1, zA q.2.1, zA q.2.2.1, zA q.2.2.2.1, zA q.2.2.2.2.1, zA q.2.2.2.2.2.1, (kU q.2.2.2.2.2.2 (fun q => q))⟩)), (kF y14 (fun q => ⟨pn q.1, zA q.2.1, zA q.2.2.1, zA q.2.2.2.1, zA q.2.2.2.2.1, zA q.2.2.2.2.2.1, zA q.2.2.2.2.2.2.1, zA q.2.2.2.2.2.2.2.1, (kU q.2.2.2.2.2.2.2.2 (fun q => q))⟩)), K1 y15, KN y16, KN y17, KN y18, (kU hbu id)⟩
    · obtain rfl := SI ho
      have hbu := hbw
      have hbw := hbw (nf (by rw [hz]; decide) (fun q => (y18 q).2.2.1) hi)
      obtain ⟨c0, c1, c2, c3, c4, c5, c6, c7, c8, c9, c10, c11, c12, c13, c14, c15⟩ := HK.out w' hbw
      exact V_ ho 28 ⟨pd hdf, ps hsz, KX hx, X, Gw, kw, Gb, mb, cb, t2, Y, K1 y0, K1 y1, (fun _ => pS hsz), K1 y3, K1 y4, K1 y5, K1 y6, K1 y7, K1 y8, K1 y9, K1 y10, K1 y11, K1 y12, (kF y13 (fun q => ⟨pn q.1, zA q.2.1, zA q.2.2.1, zA q.2.2.2.1, zA q.2.2.2.2.1, zA q.2.2.2.2.2.1, (kU q.2.2.2.2.2.2 (fun q => q))⟩)), (kF y14 (fun q => ⟨pn q.1, zA q.2.1, zA q.2.2.1, zA q.2.2.2.1, zA q.2.2.2.2.1, zA q.2.2.2.2.2.1, zA q.2.2.2.2.2.2.1, zA q.2.2.2.2.2.2.2.1, (kU q.2.2.2.2.2.2.2.2 (fun q => q))⟩)), KN y15, KN y16, KN y17, KN y18, (kU hbu id)⟩
    · obtain rfl := SI ho
      exact V_ ho 29 ⟨pd hdf, ps hsz, KX hx, X, Gw, kw, Gb, mb, cb, t2, Y, K1 y0, K1 y1, K1 y2, (fun _ => pS hsz), KN y4, KN y5, KN y6, K1 y7, K1 y8, K1 y9, K1 y10, K1 y11, K1 y12, (kF y13 (fun q => ⟨pn q.1, zA q.2.1, zA q.2.2.1, zA q.2.2.2.1, zA q.2.2.2.2.1, zA q.2.2.2.2.2.1, (kU q.2.2.2.2.2.2 (fun q => q))⟩)), (kF y14 (fun q => ⟨pn q.1, zA q.2.1, zA q.2.2.1, zA q.2.2.2.1, zA q.2.2.2.2.1, zA q.2.2.2.2.2.1, zA q.2.2.2.2.2.2.1, zA q.2.2.2.2.2.2.2.1, (kU q.2.2.2.2.2.2.2.2 (fun q => q))⟩)), KN y15, KN y16, KN y17, KN y18, (kU hbw id)⟩
    · obtain rfl := SI ho
      have v3 := hpv hp 3 (by simp)
      have ww3 := (y3 v3)
      have hbu := hbw
      have hbw := hbw (nf (by rw [hz]; decide) (fun q => (y18 q).2.2.2.2.1) hi)
      obtain ⟨c0, c1, c2, c3, c4, c5, c6, c7, c8, c9, c10, c11, c12, c13, c14, c15⟩ := HK.out w' hbw
      exact V_ ho 30 ⟨pd hdf, ps hsz, KX hx, X, Gw, kw, Gb, mb, cb, t2, Y, K1 y0, K1 y1, K1 y2, K1 y3, (fun _ => ⟨pS hsz, (zA v3)⟩), KN y5, KN y6, K1 y7, K1 y8, K1 y9, K1 y10, K1 y11, K1 y12, (kF y13 (fun q => ⟨pn q.1, zA q.2.1, zA q.2.2.1, zA q.2.2.2.1, zA q.2.2.2.2.1, zA q.2.2.2.2.2.1, (kU q.2.2.2.2.2.2 (fun q => q))⟩)), (kF y14 (fun q => ⟨pn q.1, zA q.2.1, zA q.2.2.1, zA q.2.2.2.1, zA q.2.2.2.2.1, zA q.2.2.2.2.2.1, zA q.2.2.2.2.2.2.1, zA q.2.2.2.2.2.2.2.1, (kU q.2.2.2.2.2.2.2.2 (fun q => q))⟩)), KN y15, KN y16, KN y17, KN y18, (kU hbu id)⟩
    · obtain rfl := SI ho
      have v4 := hpv hp 4 (by simp)
      have ww4 := (y4 v4).1
      exact V_ ho 31 ⟨pd hdf, ps hsz, KX hx, X, Gw, kw, Gb, mb, cb, t2, Y, K1 y0, K1 y1, K1 y2, K1 y3, K1 y4, (fun _ => ⟨pS hsz, (zA ((y4 v4).2)), (zA v4)⟩), KN y6, K1 y7, K1 y8, K1 y9, K1 y10, K1 y11, K1 y12, (kF y13 (fun q => ⟨pn q.1, zA q.2.1, zA q.2.2.1, zA q.2.2.2.1, zA q.2.2.2.2.1, zA q.2.2.2.2.2.1, (kU q.2.2.2.2.2.2 (fun q => q))⟩)), (kF y14 (fun q => ⟨pn q.1, zA q.2.1, zA q.2.2.1, zA q.2.2.2.1, zA q.2.2.2.2.1, zA q.2.2.2.2.2.1, zA q.2.2.2.2.2.2.1, zA q.2.2.2.2.2.2.2.1, (kU q.2.2.2.2.2.2.2.2 (fun q => q))⟩)), KN y15, KN y16, KN y17, KN y18, (kU hbw id)⟩
    · obtain rfl := SI ho
      have v5 := hpv hp 5 (by simp)
      have ww5 := (y5 v5).1
      have hbu := hbw
      have hbw := hbw (nf (by rw [hz]; decide) (fun q => (y18 q).2.2.2.2.2.2.1) hi)
      obtain ⟨d1_0, d1_1, d1_2, d1_3, d1_4, d1_5, d1_6, d1_7, d1_8, d1_9, d1_10⟩ := HK1.out w' hbw
      exact V_ ho 32 ⟨pd hdf, ps hsz, KX hx, X, Gw, kw, Gb, mb, cb, t2, Y, K1 y0, K1 y1, K1 y2, K1 y3, K1 y4, K1 y5, (fun _ => ⟨pS hsz, (zA ((y5 v5).2.1)), (zA ((y5 v5).2.2)), (zA v5)⟩), K1 y7, K1 y8, K1 y9, K1 y10, K1 y11, K1 y12, (kF y13 (fun q => ⟨pn q.1, zA q.2.1, zA q.2.2.1, zA q.2.2.2.1, zA q.2.2.2.2.1, zA q.2.2.2.2.2.1, (kU q.2.2.2.2.2.2 (fun q => q))⟩)), (kF y14 (fun q => ⟨pn q.1, zA q.2.1, zA q.2.2.1, zA q.2.2.2.1, zA q.2.2.2.2.1, zA q.2.2.2.2.2.1, zA q.2.2.2.2.2.2.1, zA q.2.2.2.2.2.2.2.1, (kU q.2.2.2.2.2.2.2.2 (fun q => q))⟩)), KN y15, KN y16, KN y17, KN y18, (kU hbu id)⟩
    · obtain rfl := SI ho
      exact V_ ho 33 ⟨pd hdf, ps hsz, KX hx, X, Gw, kw, Gb, mb, cb, t2, Y, K1 y0, K1 y1, K1 y2, K1 y3, K1 y4, K1 y5, K1 y6, (fun _ => pS hsz), K1 y8, K1 y9, K1 y10, K1 y11, K1 y12, (kF y13 (fun q => ⟨pn q.1, zA q.2.1, zA q.2.2.1, zA q.2.2.2.1, zA q.2.2.2.2.1, zA q.2.2.2.2.2.1, (kU q.2.2.2.2.2.2 (fun q => q))⟩)), KN y14, KN y15, KN y16, KN y17, KN y18, (kU hbw id)⟩
    · obtain rfl := SI ho
      exact V_ ho 34 ⟨pd hdf, ps hsz, KX hx, X, Gw, kw, Gb, mb, cb, t2, Y, K1 y0, K1 y1, K1 y2, K1 y3, K1 y4, K1 y5, K1 y6, K1 y7, (fun _ => pS hsz), KN y9, K1 y10, K1 y11, KN y12, KN y13, KN y14, KN y15, KN y16, KN y17, KN y18, (kU hbw id)⟩
    · obtain rfl := SI ho
      have v8 := hpv hp 8 (by simp)
      have ww8 := (y8 v8)
      have hbu := hbw
      have hbw := hbw (nf (by rw [hz]; decide) (fun q => (y18 q).2.2.2.2.2.2.2.2.2.1) hi)
      obtain ⟨c0, c1, c2, c3, c4, c5, c6, c7, c8, c9, c10, c11, c12, c13, c14, c15⟩ := HK.out w' hbw
      exact V_ ho 35 ⟨pd hdf, ps hsz, KX hx, X, Gw, kw, Gb, mb, cb, t2, Y, K1 y0, K1 y1, K1 y2, K1 y3, K1 y4, K1 y5, K1 y6, K1 y7, K1 y8, (fun _ => ⟨pS hsz, (zA v8)⟩), K1 y10, K1 y11, KN y12, KN y13, KN y14, KN y15, KN y16, KN y17, KN y18, (kU hbu id)⟩
    · obtain rfl := SI ho
      exact V_ ho 36 ⟨pd hdf, ps hsz, KX hx, X, Gw, kw, Gb, mb, cb, t2, Y, K1 y0, K1 y1, K1 y2, K1 y3, K1 y4, K1 y5, K1 y6, K1 y7, K1 y8, K1 y9, (fun _ => pS hsz), KN y11, KN y12, KN y13, KN y14, KN y15, KN y16, KN y17, KN y18, (kU hbw id)⟩
    · obtain rfl := SI ho
      have v10 := hpv hp 10 (by simp)
      have ww10 := (y10 v10)
      have hbu := hbw
      have hbw := hbw (nf (by rw [hz]; decide) (fun q => (y18 q).2.2.2.2.2.2.2.2.2.2.2.1) hi)
      obtain ⟨c0, c1, c2, c3, c4, c5, c6, c7, c8, c9, c10, c11, c12, c13, c14, c15⟩ := HK.out w' hbw
      exact V_ ho 37 ⟨pd hdf, ps hsz, KX hx, X, Gw, kw, Gb, mb, cb, t2, Y, K1 y0, K1 y1, K1 y2, K1 y3, K1 y4, K1 y5, K1 y6, K1 y7, K1 y8, K1 y9, K1 y10, (fun _ => ⟨pS hsz, (zA v10)⟩), KN y12, KN y13, KN y14, KN y15, KN y16, KN y17, KN y18, (kU hbu id)⟩
    · obtain rfl := SI ho
      have v9 := hpv hp 9 (by simp)
      have ww9 := (y9 v9).1
      have v11 := hpv hp 11 (by simp)
      have ww11 := (y11 v11).1
      have hbw := hbw (nf (by rw [hz]; decide) (fun q => (y18 q).2.2.2.2.2.2.2.2.2.2.2.2.1) hi)
      refine C_ ho 38 (qj h.name (h.tk) TA tn tc w') fun e u hg => ?_
      · obtain ⟨he, hb⟩ := hg
        refine ⟨.agg #[.string h.name, .int .i8 h.tk, .slice TA tn tc], he, ?_⟩
        have hbs := hbw.size
        have hzz := HZ.out
        have hbs2 := hb.size
        exact ⟨pd hdf, ps hsz, KX hx, X, Gw, kw, Gb, mb, cb, t2, Y, K1 y0, K1 y1, K1 y2, K1 y3, K1 y4, K1 y5, K1 y6, K1 y7, K1 y8, K1 y9, K1 y10, K1 y11, (fun _ => ⟨pS hsz, (zA ((y9 v9).2)), (zA v9), (zA ((y11 v11).2)), (zA v11)⟩), KN y13, KN y14, KN y15, KN y16, KN y17, KN y18, (fun _ => hbw.trans (hb.mono hbw.size))⟩
    · obtain rfl := SI ho
      refine zW ho rfl (zm 39 rfl (v := .slice (some ⟨w'.heap.size, 0, none⟩) 1 1) (w2 := w'.alloc (.cells #[.string h.name, .int .i8 h.tk, .slice TA tn tc] 168)) ?_ ?_)
      · have v12 := hpv hp 12 (by simp)
        have ww12 := (y12 v12).1
        exact EV
      · have v12 := hpv hp 12 (by simp)
        have hbw := hbw (nf (by rw [hz]; decide) (fun q => (y18 q).2.2.2.2.2.2.2.2.2.2.2.2.2.1) hi)
        have hbs := hbw.size
        have hzz := HZ.out
        have hsa : (w'.alloc (.cells #[.string h.name, .int .i8 h.tk, .slice TA tn tc] 168)).heap.size = w'.heap.size + 1 := by simp
        have hba : Below w'.heap.size w' (w'.alloc (.cells #[.string h.name, .int .i8 h.tk, .slice TA tn tc] 168)) := (Below.refl _ _).alloc (Nat.le_refl _) _
        have hnew := zF w' (.cells #[.string h.name, .int .i8 h.tk, .slice TA tn tc] 168)
        exact ⟨pd hdf, ps hsz, KX hx, w'.heap.size, Gw, kw, Gb, mb, cb, t2, Y, K1 y0, K1 y1, K1 y2, K1 y3, K1 y4, K1 y5, K1 y6, K1 y7, K1 y8, K1 y9, K1 y10, K1 y11, K1 y12, (fun _ => ⟨pS hsz, (zA ((y12 v12).2.1)), (zA ((y12 v12).2.2.1)), (zA ((y12 v12).2.2.2.1)), (zA ((y12 v12).2.2.2.2)), (zA v12), (fun _ => Ck.EAt.one (t := (Ck.TT h)) hnew (Ck.Ly.later (HT.out.later hbw) hba))⟩), KN y14, KN y15, KN y16, KN y17, KN y18, (fun _ => hbw.alloc hbw.size _)⟩
    · obtain rfl := SI ho
      have v7 := hpv hp 7 (by simp)
      have ww7 := (y7 v7)
      have v13 := hpv hp 13 (by simp)
      have ww13 := (y13 v13).1
      have hbw := hbw (nf (by rw [hz]; decide) (fun q => (y18 q).2.2.2.2.2.2.2.2.2.2.2.2.2.2.1) hi)
      refine C_ ho 40 (jH (Ck.Cut Q w.heap.size (w.heap.size + 3)) l [(h.name, (Ck.TT h))] A n c X 1 1 w' (HE.out.below hbw) (((y13 v13).2.2.2.2.2.2) hi) (by decide) hn20) fun e u hg => ?_
      · obtain ⟨Gw', kw', rfl, he, hb⟩ := hg
        refine ⟨.slice Gw' (n + 1) kw', rfl, ?_⟩
        have hbs := hbw.size
        have hzz := HZ.out
        have hbs2 := hb.size
        exact ⟨pd hdf, ps hsz, KX hx, X, Gw', kw', Gb, mb, cb, t2, Y, K1 y0, K1 y1, K1 y2, K1 y3, K1 y4, K1 y5, K1 y6, K1 y7, K1 y8, K1 y9, K1 y10, K1 y11, K1 y12, (kF y13 (fun q => ⟨pn q.1, zA q.2.1, zA q.2.2.1, zA q.2.2.2.1, zA q.2.2.2.2.1, zA q.2.2.2.2.2.1, (fun qu => (zS qu).elim)⟩)), (fun _ => ⟨pS hsz, (zA v7), (zA ((y13 v13).2.1)), (zA ((y13 v13).2.2.1)), (zA ((y13 v13).2.2.2.1)), (zA ((y13 v13).2.2.2.2.1)), (zA ((y13 v13).2.2.2.2.2.1)), (zA v13), (fun _ => he)⟩), KN y15, KN y16, KN y17, KN y18, (fun _ => hbw.trans (hb.mono hbw.size))⟩
    · obtain rfl := SI ho
      have v2 := hpv hp 2 (by simp)
      have ww2 := (y2 v2)
      have v6 := hpv hp 6 (by simp)
      have ww6 := (y6 v6).1
      have v14 := hpv hp 14 (by simp)
      have ww14 := (y14 v14).1
      have hbw := hbw (nf (by rw [hz]; decide) (fun q => (y18 q).2.2.2.2.2.2.2.2.2.2.2.2.2.2.2.1) hi)
      refine M_ ho 41 (T1 (Ck.Cut Q w.heap.size (w.heap.size + 3)) (l ++ [(h.name, Ck.TT h)]) Gw (n + 1) kw w' (HWB.out.trans (hbw.mono HWB.out.size)) HQM.out (HS.out.below hbw) (((y14 v14).2.2.2.2.2.2.2.2) hi) (by rw [List.length_append]; exact hb1)) fun e u hg => ?_
      · rcases Ck.Post.split hg with ⟨E, pp, x, hr1, hg⟩ | ⟨t2', hr1, hg⟩
        · exact zFE
        · obtain ⟨Gb', mb', cb', rfl, hl, hb⟩ := hg
          refine .inl ?_
          refine ⟨.agg #[.int .i8 t2'.1, .slice Gb' mb' cb'], rfl, ?_⟩
          have hbs := hbw.size
          have hzz := HZ.out
          have hbs2 := hb.size
          exact ⟨pd hdf, ps hsz, KX hx, X, Gw, kw, Gb', mb', cb', t2', Y, K1 y0, K1 y1, K1 y2, K1 y3, K1 y4, K1 y5, K1 y6, K1 y7, K1 y8, K1 y9, K1 y10, K1 y11, K1 y12, (kF y13 (fun q => ⟨pn q.1, zA q.2.1, zA q.2.2.1, zA q.2.2.2.1, zA q.2.2.2.2.1, zA q.2.2.2.2.2.1, (kU q.2.2.2.2.2.2 (fun q => (Ck.EAt.below q hb)))⟩)), (kF y14 (fun q => ⟨pn q.1, zA q.2.1, zA q.2.2.1, zA q.2.2.2.1, zA q.2.2.2.2.1, zA q.2.2.2.2.2.1, zA q.2.2.2.2.2.2.1, zA q.2.2.2.2.2.2.2.1, (fun qu => (zS qu).elim)⟩)), (fun _ => ⟨pS hsz, (zA v2), (zA ((y6 v6).2.1)), (zA ((y6 v6).2.2.1)), (zA ((y6 v6).2.2.2)), (zA v6), (zA ((y14 v14).2.1)), (zA ((y14 v14).2.2.1)), (zA ((y14 v14).2.2.2.1)), (zA ((y14 v14).2.2.2.2.1)), (zA ((y14 v14).2.2.2.2.2.1)), (zA ((y14 v14).2.2.2.2.2.2.1)), (zA ((y14 v14).2.2.2.2.2.2.2.1)), (zA v14), hr1, Ck.Ly.weak hl (fun b _ hq => Ck.Cut.in (by omega) hq)⟩), KN y16, KN y17, KN y18, (fun _ => hbw.trans (hb.mono hbw.size))⟩
    · obtain rfl := SI ho
      refine zW ho rfl (zm 42 rfl (v := .slice (some ⟨w'.heap.size, 0, none⟩) 2 2) (w2 := w'.alloc (.cells #[.int .i8 h.tk, .slice TA tn tc, .int .i8 t2.1, .slice Gb mb cb] 25)) ?_ ?_)
      · have v1 := hpv hp 1 (by simp)
        have ww1 := (y1 v1).1
        have v15 := hpv hp 15 (by simp)
        have ww15 := (y15 v15).1
        exact EV
      · have v1 := hpv hp 1 (by simp)
        have v15 := hpv hp 15 (by simp)
        have hbw := hbw (nf (by rw [hz]; decide) (fun q => (y18 q).2.2.2.2.2.2.2.2.2.2.2.2.2.2.2.2.1) hi)
        have hbs := hbw.size
        have hzz := HZ.out
        have hsa : (w'.alloc (.cells #[.int .i8 h.tk, .slice TA tn tc, .int .i8 t2.1, .slice Gb mb cb] 25)).heap.size = w'.heap.size + 1 := by simp
        have hba : Below w'.heap.size w' (w'.alloc (.cells #[.int .i8 h.tk, .slice TA tn tc, .int .i8 t2.1, .slice Gb mb cb] 25)) := (Below.refl _ _).alloc (Nat.le_refl _) _
        have hnew := zF w' (.cells #[.int .i8 h.tk, .slice TA tn tc, .int .i8 t2.1, .slice Gb mb cb] 25)
        exact ⟨pd hdf, ps hsz, KX hx, X, Gw, kw, Gb, mb, cb, t2, w'.heap.size, K1 y0, K1 y1, K1 y2, K1 y3, K1 y4, K1 y5, K1 y6, K1 y7, K1 y8, K1 y9, K1 y10, K1 y11, K1 y12, (kF y13 (fun q => ⟨pn q.1, zA q.2.1, zA q.2.2.1, zA q.2.2.2.1, zA q.2.2.2.2.1, zA q.2.2.2.2.2.1, (kU q.2.2.2.2.2.2 (fun q => (Ck.EAt.below q hba)))⟩)), (kF y14 (fun q => ⟨pn q.1, zA q.2.1, zA q.2.2.1, zA q.2.2.2.1, zA q.2.2.2.2.1, zA q.2.2.2.2.2.1, zA q.2.2.2.2.2.2.1, zA q.2.2.2.2.2.2.2.1, (kU q.2.2.2.2.2.2.2.2 (fun q => (Ck.EAt.below q hba)))⟩)), K1 y15, (fun _ => ⟨pS hsz, (zA ((y1 v1).2)), (zA v1), (zA ((y15 v15).2.1)), (zA ((y15 v15).2.2.1)), (zA ((y15 v15).2.2.2.1)), (zA ((y15 v15).2.2.2.2.1)), (zA ((y15 v15).2.2.2.2.2.1)), (zA ((y15 v15).2.2.2.2.2.2.1)), (zA ((y15 v15).2.2.2.2.2.2.2.1)), (zA ((y15 v15).2.2.2.2.2.2.2.2.1)), (zA ((y15 v15).2.2.2.2.2.2.2.2.2.1)), (zA ((y15 v15).2.2.2.2.2.2.2.2.2.2.1)), (zA ((y15 v15).2.2.2.2.2.2.2.2.2.2.2.1)), (zA ((y15 v15).2.2.2.2.2.2.2.2.2.2.2.2.1)), (zA ((y15 v15).2.2.2.2.2.2.2.2.2.2.2.2.2.1)), (zA v15), Ck.Ly.two (a := Ck.TT h) (b := t2) hnew (.inr (by omega)) ((HT.out.later hbw).later hba) (((y15 v15).2.2.2.2.2.2.2.2.2.2.2.2.2.2.2).later hba) 3 (by decide)⟩), KN y17, KN y18, (fun _ => hbw.alloc hbw.size _)⟩
    · obtain rfl := SI ho
      have v16 := hpv hp 16 (by simp)
      have ww16 := (y16 v16).1
      have hbw := hbw (nf (by rw [hz]; decide) (fun q => (y18 q).2.2.2.2.2.2.2.2.2.2.2.2.2.2.2.2.2.1) hi)
      refine C_ ho 43 (qf 3 (some ⟨Y, 0, none⟩) 2 2 w') fun e u hg => ?_
      · obtain ⟨he, hb⟩ := hg
        refine ⟨.agg #[.int .i8 3, .slice (some ⟨Y, 0, none⟩) 2 2], he, ?_⟩
        have hbs := hbw.size
        have hzz := HZ.out
        have hbs2 := hb.size
        exact ⟨pd hdf, ps hsz, KX hx, X, Gw, kw, Gb, mb, cb, t2, Y, K1 y0, K1 y1, K1 y2, K1 y3, K1 y4, K1 y5, K1 y6, K1 y7, K1 y8, K1 y9, K1 y10, K1 y11, K1 y12, (kF y13 (fun q => ⟨pn q.1, zA q.2.1, zA q.2.2.1, zA q.2.2.2.1, zA q.2.2.2.2.1, zA q.2.2.2.2.2.1, (kU q.2.2.2.2.2.2 (fun q => (Ck.EAt.below q hb)))⟩)), (kF y14 (fun q => ⟨pn q.1, zA q.2.1, zA q.2.2.1, zA q.2.2.2.1, zA q.2.2.2.2.1, zA q.2.2.2.2.2.1, zA q.2.2.2.2.2.2.1, zA q.2.2.2.2.2.2.2.1, (kU q.2.2.2.2.2.2.2.2 (fun q => (Ck.EAt.below q hb)))⟩)), K1 y15, K1 y16, (fun _ => ⟨pS hsz, (zA ((y16 v16).2.1)), (zA ((y16 v16).2.2.1)), (zA ((y16 v16).2.2.2.1)), (zA ((y16 v16).2.2.2.2.1)), (zA ((y16 v16).2.2.2.2.2.1)), (zA ((y16 v16).2.2.2.2.2.2.1)), (zA ((y16 v16).2.2.2.2.2.2.2.1)), (zA ((y16 v16).2.2.2.2.2.2.2.2.1)), (zA ((y16 v16).2.2.2.2.2.2.2.2.2.1)), (zA ((y16 v16).2.2.2.2.2.2.2.2.2.2.1)), (zA ((y16 v16).2.2.2.2.2.2.2.2.2.2.2.1)), (zA ((y16 v16).2.2.2.2.2.2.2.2.2.2.2.2.1)), (zA ((y16 v16).2.2.2.2.2.2.2.2.2.2.2.2.2.1)), (zA ((y16 v16).2.2.2.2.2.2.2.2.2.2.2.2.2.2.1)), (zA ((y16 v16).2.2.2.2.2.2.2.2.2.2.2.2.2.2.2.1)), (zA ((y16 v16).2.2.2.2.2.2.2.2.2.2.2.2.2.2.2.2.1)), (zA v16)⟩), KN y18, (fun _ => hbw.trans (hb.mono hbw.size))⟩
    · obtain rfl := SI ho
      have v17 := hpv hp 17 (by simp)
      have ww17 := (y17 v17).1
      have hbw := hbw hi
      have hbox := zC hbw (zD H2.out) H2.out
      obtain ⟨bc0, bc1, bf0, bf1, -⟩ := zM hbox
      refine zW ho rfl (zx rfl (w2 := (w'.setCell ⟨w.heap.size + 1 + 1, 0, none⟩ (.int .i8 3)).setCell ⟨w.heap.size + 1 + 1, 1, none⟩ (.slice (some ⟨Y, 0, none⟩) 2 2)) ?_ ?_)
      · exact EV
      · have hsa : ((w'.setCell ⟨w.heap.size + 1 + 1, 0, none⟩ (.int .i8 3)).setCell ⟨w.heap.size + 1 + 1, 1, none⟩ (.slice (some ⟨Y, 0, none⟩) 2 2)).heap.size = w'.heap.size := by simp
        have hbs := hbw.size
        have hzz := HZ.out
        exact ⟨hdf, hsz, hx, X, Gw, kw, Gb, mb, cb, t2, Y, K1 y0, K1 y1, K1 y2, K1 y3, K1 y4, K1 y5, K1 y6, K1 y7, K1 y8, K1 y9, K1 y10, K1 y11, K1 y12, (kF y13 (fun q => ⟨q.1, zA q.2.1, zA q.2.2.1, zA q.2.2.2.1, zA q.2.2.2.2.1, zA q.2.2.2.2.2.1, (kT ((y17 v17).2.2.2.2.2.2.2.2.2.2.2.2.2.2.2.1))⟩)), (kF y14 (fun q => ⟨q.1, zA q.2.1, zA q.2.2.1, zA q.2.2.2.1, zA q.2.2.2.2.1, zA q.2.2.2.2.2.1, zA q.2.2.2.2.2.2.1, zA q.2.2.2.2.2.2.2.1, (kT ((y17 v17).2.2.2.2.2.2.2.2.2.2.2.2.2.2.2.2.1))⟩)), K1 y15, K1 y16, K1 y17, (fun _ => ⟨(zA ((y17 v17).2.1)), (zA ((y17 v17).2.2.1)), (zA ((y17 v17).2.2.2.1)), (zA ((y17 v17).2.2.2.2.1)), (zA ((y17 v17).2.2.2.2.2.1)), (zA ((y17 v17).2.2.2.2.2.2.1)), (zA ((y17 v17).2.2.2.2.2.2.2.1)), (zA ((y17 v17).2.2.2.2.2.2.2.2.1)), (zA ((y17 v17).2.2.2.2.2.2.2.2.2.1)), (zA ((y17 v17).2.2.2.2.2.2.2.2.2.2.1)), (zA ((y17 v17).2.2.2.2.2.2.2.2.2.2.2.1)), (zA ((y17 v17).2.2.2.2.2.2.2.2.2.2.2.2.1)), (zA ((y17 v17).2.2.2.2.2.2.2.2.2.2.2.2.2.1)), (zA ((y17 v17).2.2.2.2.2.2.2.2.2.2.2.2.2.2.1)), (zA ((y17 v17).2.2.2.2.2.2.2.2.2.2.2.2.2.2.2.1)), (zA ((y17 v17).2.2.2.2.2.2.2.2.2.2.2.2.2.2.2.2.1)), (zA ((y17 v17).2.2.2.2.2.2.2.2.2.2.2.2.2.2.2.2.2)), (zA v17), zT hbox _ _, zL (hfrom.out w' hbw) (by omega) _ _⟩), (fun qu => (zS qu).elim)⟩
  · rintro listed u w' t ht hu ⟨-, -, -, X, Gw, kw, Gb, mb, cb, t2, Y, y0, y1, y2, y3, y4, y5, y6, y7, y8, y9, y10, y11, y12, y13, y14, y15, y16, y17, y18, hbw⟩ hall
    have v15 := hall 15 (by decide)
    have v16 := hall 16 (by decide)
    have v18 := hall 18 (by decide)
    have HBX := k0_ ((y18 v18).2.2.2.2.2.2.2.2.2.2.2.2.2.2.2.2.2.2.2)
    have P1 := ((y15 v15).2.2.2.2.2.2.2.2.2.2.2.2.2.2.1)
    have hl := ((y16 v16).2.2.2.2.2.2.2.2.2.2.2.2.2.2.2.2.2)
    have hx := ((y18 v18).2.2.2.2.2.2.2.2.2.2.2.2.2.2.2.2.2.2.1)
    clear y0 y1 y2 y3 y4 y5 y6 y7 y8 y9 y10 y11 y12 y13 y14 y15 y16 y17 y18 v15 v16 v18 hall hu
    clear hbw
    simp only [over, List.setIfInBounds_toArray, List.set_cons_succ, List.set_cons_zero] at ht
    subst ht
    obtain ⟨k0, k1', -, -, -⟩ := zM hx
    go_wp2_with fail
    refine ⟨rfl, .agg #[.int .i8 3, .slice (some ⟨Y, 0, none⟩) 2 2], by simp [results, Tryz.results66, go_sem, k0, k1'], ?_⟩
    rw [HR.out, P1]
    exact ⟨some ⟨Y, 0, none⟩, 2, 2, rfl, hl.weak (fun b _ hq => hq.out (by omega)), HBX.out⟩
end Go.Proofs.YtgjemmmbnpkamaaGreatDoor
