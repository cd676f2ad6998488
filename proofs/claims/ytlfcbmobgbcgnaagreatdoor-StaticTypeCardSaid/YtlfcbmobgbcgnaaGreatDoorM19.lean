import Derived.Test.YtlfcbmobgbcgnaaGreatDoorDd2
import Derived.Test.YtlfcbmobgbcgnaaGreatDoorCkR
namespace Go.Proofs.YtlfcbmobgbcgnaaGreatDoor
open Go.RowKit
theorem qo {k : Int} (hk : -128 ≤ k ∧ k ≤ 127) (w : World) : Ty.Is w k .nil none 0 0 := ⟨trivial, rfl, Nat.le_refl _, Nat.zero_le _, hk.1, hk.2⟩
theorem zCy (Q : Nat → Prop) (w : World) (s : ByteArray) : Ck.Ly Q w (Ck.opAns s) none 0 0 := fun u _ => by
 unfold Ck.opAns
 split
 ·exact qo (by decide) u
 ·exact qo (by decide) u
theorem zR {P : Program} {Q : Exit → Act → World → Prop} {o : Oper} {K : Act → World → Prop} {a : Act} {w w2 : World} (hd : o.dst = none) (hr : (execOp a.eval o).run P w = .ok .skip w2) (h : K a w2) : o.wp P a w K Q := by
 unfold Oper.wp
 rw [hr]
 show K (a.put o.dst undef) w2
 rw [hd]
 exact h
theorem hpv {o : Oper} {l : Array Bool} (hp : ∀ e ∈ o.after, Region.binds .any e = true → l.getD e.on false = true) (d : Nat) (h : ⟨d, .data⟩ ∈ o.after) : l[d]? = some true := zEF (hp ⟨d, .data⟩ h rfl)
theorem z8 {l : Array Bool} {i j : Nat} (h : l[j]? = some true) : (l.setIfInBounds i true)[j]? = some true := by
 rw [Array.getElem?_setIfInBounds]
 split
 ·subst_vars
  split
  ·rfl
  ·rename_i q
   rw [Array.getElem?_eq_none (by omega)] at h; cases h
 ·exact h
theorem zDi {t : Array Value} {u : Nat → Value} {n : Nat} {ds : List Nat} {d : Nat} (hd : d ∈ ds) (hz : (over t u ds).size = n) (hlt : d < n) : Act.eval { tmps := over t u ds, defers := [] } (.tmp d) = u d := by
 have hz : t.size = n := by rw [← hz, jB]
 have key : ∀ ds : List Nat, d ∈ ds → (over t u ds)[d]? = some (u d) := by
  intro ds hd
  induction ds with
  | nil => cases hd
  | cons e ds ih =>
   simp only [over]
   rw [Array.getElem?_setIfInBounds]
   by_cases h : e = d
   ·subst h
    rw [if_pos rfl, if_pos (by rw [jB]; omega)]
   ·rw [if_neg h]
    rcases List.mem_cons.1 hd with q | q
    ·exact absurd q.symm h
    ·exact ih q
 show (over t u ds).getD d undef = u d
 rw [Array.getD_eq_getD_getElem?, key ds hd]
 rfl
theorem zJ {P : Program} {id : Nat} {ops : Array Oper} {Q : Exit → Act → World → Prop} {t0 : Array Value} {w : World} (n : Nat) (hn : t0.size = n) (ds : List Nat) (hm : P.follows .mixedOrders = true) (hl : lexOk ops = true)
  (hds : (ops.toList.all fun o => match o.dst with | some d => ds.contains d | none => true) = true) (I : Array Bool → Act → World → Prop) (hI : ∀ l a w, I l a w → a.defers = [])
  (h0 : I (Array.replicate ops.size false) { tmps := t0, defers := [] } w.drew)
  (hs : ∀ (listed : Array Bool) (a : Act) (w : World) (i : Nat) (o : Oper), I listed a w → listed.size = ops.size → a.tmps.size = t0.size → ops[i]? = some o → listed[i]? = some false → (∀ e ∈ o.after, Region.binds .any e = true → listed.getD e.on false = true) → wpOp P ops Q i (fun a' w' => I (listed.setIfInBounds i true) a' w') a w)
  (hd : ∀ (listed : Array Bool) (u : Nat → Value) (w : World) (t : Array Value), t = over t0 u ds → (∀ d, d ∈ ds → d < n → Act.eval { tmps := t, defers := [] } (.tmp d) = u d) → I listed { tmps := t, defers := [] } w → (∀ i, i < ops.size → listed[i]? = some true) → Q .normal { tmps := t, defers := [] } w) : (Code.region id ops true).wp P Q { tmps := t0, defers := [] } w :=
 kZ ds hm hl hds I hI h0 hs fun l u w h hall => hd l u w _ rfl (fun _ hdd hlt => zDi hdd (by rw [jB]; exact hn) hlt) h hall
theorem zN {l : Array Bool} {i : Nat} (h : (l.setIfInBounds i true)[i]? = some false) : False := by
 rw [Array.getElem?_setIfInBounds] at h
 split at h
 ·split at h <;> cases h
 ·rename_i q; exact q rfl
theorem pn {a : Act} {d k : Nat} {v x : Value} (q : a.eval (.tmp k) = x) (h : d ≠ k := by decide) : (a.put (some d) v).eval (.tmp k) = x := by rw [zEW h]; exact q
theorem pd {a : Act} {d : Option Nat} {v : Value} (h : a.defers = []) : (a.put d v).defers = [] := by rw [put_defers]; exact h
theorem ps {a : Act} {d : Option Nat} {v : Value} {n : Nat} (h : a.tmps.size = n) : (a.put d v).tmps.size = n := by rw [zCv]; exact h
theorem pS {a : Act} {d : Nat} {v : Value} {n : Nat} (h : a.tmps.size = n) (hd : d < n := by decide) : (a.put (some d) v).eval (.tmp d) = v := zCw (by rw [h]; exact hd) v
theorem kF {l : Array Bool} {i j : Nat} {A B : Prop} (y : l[j]? = some true → A) (f : A → B) (h : i ≠ j := by decide) : (l.setIfInBounds i true)[j]? = some true → B := fun hj => f (y (by rwa [qd h] at hj))
theorem kE {l : Array Bool} {i j d k : Nat} {a : Act} {v x : Value} (y : l[j]? = some true → a.eval (.tmp k) = x) (h : i ≠ j := by decide) (h2 : d ≠ k := by decide) : (l.setIfInBounds i true)[j]? = some true → (a.put (some d) v).eval (.tmp k) = x := kF y (fun q => pn q h2) h
theorem kU {l : Array Bool} {i j : Nat} {A B : Prop} (y : l[j]? = some false → A) (f : A → B) (h : i ≠ j := by decide) : (l.setIfInBounds i true)[j]? = some false → B := fun hj => f (y (by rwa [qd h] at hj))
theorem kN {l : Array Bool} {i j : Nat} {A B : Prop} (y : l[j]? = some true → A) (f : A → l[i]? = some true) (hi : l[i]? = some false) (h : i ≠ j := by decide) : (l.setIfInBounds i true)[j]? = some true → B := fun hj => by
 have q := f (y (by rwa [qd h] at hj))
 rw [q] at hi; cases hi
theorem kT {l : Array Bool} {i t : Nat} {B : Prop} (v : l[t]? = some true) (h : i ≠ t := by decide) : (l.setIfInBounds i true)[t]? = some false → B := fun hj => by
 rw [qd h, v] at hj; cases hj
theorem nf {l : Array Bool} {i s : Nat} (h : s < l.size) (y : l[s]? = some true → l[i]? = some true) (hi : l[i]? = some false) : l[s]? = some false := by
 cases e : l[s]? with
 | none => rw [Array.getElem?_eq_none_iff] at e; omega
 | some b =>
  cases b with
  | false => rfl
  | true => rw [y e] at hi; cases hi
theorem evc (a : Act) : (∀ v, a.eval (.const v) = v) ∧ ∀ f, a.eval (.func f) = .func (.func f) #[] #[] := ⟨fun _ => rfl, fun _ => rfl⟩
theorem zEQ {P : Program} {Q : Exit → Act → World → Prop} {o : Oper} {K : Act → World → Prop} {a : Act} {w : World} (d : Nat) (hd : o.dst = some d) {f : FuncId} {args : Array Value} {C : Ending → World → Prop} (hr : (execOp a.eval o).run P w = .ok (.enter f args) w) (hc : Calls P f args w C) (h : ∀ e w', C e w' → (∃ v, e = .returned v ∧ K (a.put (some d) v) w') ∨ ∃ ch, e = .panicked ch ∧ Q (.panic ch) a w') : o.wp P a w K Q := by
 unfold Oper.wp
 rw [hr]
 refine hc.mono fun e w' hC => ?_
 rcases h e w' hC with ⟨v, rfl, hq⟩ | ⟨ch, rfl, hq⟩
 ·rw [← hd] at hq
  exact hq
 ·exact hq
theorem zZ {b : Bool} (h : b = false) : ¬ b = true := by rw [h]; decide
theorem vv {w : World} {X : Nat} {o : Obj} (q : ∃ u0 u1, w.heap[X]? = some (.cells #[u0, u1] 25 (0, 0))) : ∃ u0 u1, (w.alloc o).heap[X]? = some (.cells #[u0, u1] 25 (0, 0)) := q.elim fun _ q => q.elim fun _ q => ⟨_, _, zH q _⟩
theorem uN {w u : World} {X : Nat} (hb : Below w.heap.size w u) (q : ∃ u0 u1, w.heap[X]? = some (.cells #[u0, u1] 25 (0, 0))) : ∃ u0 u1, u.heap[X]? = some (.cells #[u0, u1] 25 (0, 0)) := q.elim fun _ q => q.elim fun _ q => ⟨_, _, zA hb (zC q) q⟩
theorem jM {w : World} {X : Nat} {a b : Value} (q : ∃ u0 u1, w.heap[X]? = some (.cells #[u0, u1] 25 (0, 0))) : ∃ u0 u1, ((w.setCell ⟨X, 0, none⟩ a).setCell ⟨X, 1, none⟩ b).heap[X]? = some (.cells #[u0, u1] 25 (0, 0)) := q.elim fun _ q => q.elim fun _ q => ⟨_, _, zM q _ _⟩
theorem zBw {w : World} {X Y : Nat} {a b : Value} (q : ∃ u0 u1, w.heap[Y]? = some (.cells #[u0, u1] 25 (0, 0))) (h : X ≠ Y) : ∃ u0 u1, ((w.setCell ⟨X, 0, none⟩ a).setCell ⟨X, 1, none⟩ b).heap[Y]? = some (.cells #[u0, u1] 25 (0, 0)) := q.elim fun _ q => q.elim fun _ q => ⟨_, _, zK q h _ _⟩
theorem Ck.Post.split {Q : Nat → Prop} {w w' : World} {r : Ck.R} {e : Ending} (h : Ck.Post Q w r e w') : (∃ E p x, r = .bad E p x ∧ Ck.Gave w E p x e w') ∨ (∃ a, r = .ok a ∧ Ck.Gives Q w a e w') := by
 cases r with
 | ok a => exact .inr ⟨a, rfl, h⟩
 | bad E p x => exact .inl ⟨E, p, x, rfl, h⟩
theorem qD (rv : Cg.Rv) (h : Hd) (p : Pl) (k : Int) (kids : Fo) (A : Option Addr) (n c : Nat) (k' : Int) (kids' : Fo) (A' : Option Addr) (n' c' : Nat) (w : World) (hIs : Ty.Is w k kids A n c) (hIs' : Ty.Is w k' kids' A' n' c') (hS : Shapes w) :
  Calls Tryz.prog 125 #[.agg (rF_ rv), .agg (tC_ h p), .agg #[.int .i8 k, .slice A n c], .agg #[.int .i8 k', .slice A' n' c']] w fun e w' => (rv.D.ag (k, kids) (k', kids') = false ∧ Ck.Gave w 91 h.pos Ck.e0 e w') ∨ (rv.D.ag (k, kids) (k', kids') = true ∧ e = .returned (.tuple #[]) ∧ Below w.heap.size w w') := by
 try unfold tC_
 try unfold rF_
 cases hq : rv.D.ag (k, kids) (k', kids')
 ·exact (xD rv h p k kids A n c k' kids' A' n' c' w hIs hIs' hS hq).mono fun e w' q => .inl ⟨rfl, q⟩
 ·exact (yN rv h p k kids A n c k' kids' A' n' c' w hIs hIs' hS hq).mono fun e w' q => .inr ⟨rfl, q⟩
theorem yO (rv : Cg.Rv) (Q : Nat → Prop) (h : Hd) (p : Pl) (a : Ck.T2) (A : Option Addr) (n c : Nat) (b : Ck.T2) (A' : Option Addr) (n' c' : Nat) (w : World) (hL : Ck.Ly Q w a A n c) (hL' : Ck.Ly Q w b A' n' c') (hS : Shapes w) :
  Calls Tryz.prog 127 #[.agg (rF_ rv), .agg (tC_ h p), .agg #[.int .i8 a.1, .slice A n c], .agg #[.int .i8 b.1, .slice A' n' c']] w fun e w' => (rv.D.ag a b = false ∧ Ck.Gave w 91 h.pos Ck.e0 e w') ∨ (rv.D.ag a b = true ∧ Ck.Gives Q w (rv.D.mt a b) e w') := by
 try unfold tC_
 try unfold rF_
 cases hq : rv.D.ag a b
 ·exact (zC7 rv Q h p a A n c b A' n' c' w hL hL' hS hq).mono fun e w' q => .inl ⟨rfl, q⟩
 ·exact (zAp rv Q h p a A n c b A' n' c' w hL hL' hS hq).mono fun e w' q => .inr ⟨rfl, q⟩
theorem qa (rv : Cg.Rv) (Q : Nat → Prop) (h : Hd) (p : Pl) (kd : Int) (a : Ck.T2) (A : Option Addr) (n c : Nat) (w : World) (hkd : 3 ≤ kd ∧ kd ≤ 5) (hL : Ck.Ly Q w a A n c) (hok : Ty.okT a.1 a.2 = true) (hS : Shapes w) :
  Calls Tryz.prog 126 #[.agg (rF_ rv), .agg (tC_ h p), .int .i8 kd, .agg #[.int .i8 a.1, .slice A n c]] w fun e w' => (rv.D.asO kd a = false ∧ Ck.Gave w 90 h.pos Ck.e0 e w') ∨ (rv.D.asO kd a = true ∧ AsPost2 Q w (rv.D.asl kd a) (rv.D.asr kd a) e w') := by
 try unfold tC_
 try unfold rF_
 cases hq : rv.D.asO kd a
 ·exact (zAn rv Q h p kd a A n c w hkd hL hok hS hq).mono fun e w' q => .inl ⟨rfl, q⟩
 ·exact (uQ rv Q h p kd a A n c w hkd hL hok hS hq).mono fun e w' q => .inr ⟨rfl, q⟩
theorem qO {Q : Nat → Prop} {w W : World} {Z b : Nat} (_hz : w.heap.size + 3 ≤ W.heap.size) (h : Z = w.heap.size + 2 ∨ W.heap.size ≤ Z) (hl : b < W.heap.size) (hq : Ck.Cut Q w.heap.size (w.heap.size + 3) b) : b ≠ Z := by
 rcases h with rfl | h
 ·exact hq.ne (by omega) (by omega)
 ·omega
theorem vN {Q : Nat → Prop} {wb w W : World} {Z b : Nat} (hwb : Below wb.heap.size wb W) (hQ : ∀ b, b < wb.heap.size → Ck.Cut Q w.heap.size (w.heap.size + 3) b) (_hz : w.heap.size + 3 ≤ W.heap.size) (h : Z = w.heap.size + 2 ∨ W.heap.size ≤ Z) (hb : b < wb.heap.size) : b ≠ Z :=
 qO _hz h (Nat.lt_of_lt_of_le hb hwb.size) (hQ b hb)
theorem qj {Q : Nat → Prop} {N M S Z Z' b : Nat} (hS : M ≤ S) (hZ : Z < S) (hZ' : Z' < S) (h : Ck.Cut (fun b => Ck.Cut Q N M b ∧ b ≠ Z ∧ b ≠ Z') S S b) : Ck.Cut Q N M b ∧ b ≠ Z ∧ b ≠ Z' := by
 rcases h with ⟨h, -⟩ | h
 ·exact h
 ·exact ⟨.inr (by omega), by omega, by omega⟩
theorem kM {Q : Nat → Prop} {N M S Z b : Nat} (hS : M ≤ S) (hZ : Z < S) (h : Ck.Cut (fun b => Ck.Cut Q N M b ∧ b ≠ Z) S S b) : Ck.Cut Q N M b ∧ b ≠ Z := by
 rcases h with ⟨h, -⟩ | h
 ·exact h
 ·exact ⟨.inr (by omega), by omega⟩
namespace Ck
def KidAt (w : World) (b o : Nat) (h : Hd) (p : Pl) : Prop := ∀ (j : Nat) (v : Value), (h.cells p)[j]? = some v → w.cell? ⟨b, o + j, none⟩ = some v
def TellsOf (rv : Cg.Rv) (K : Nat) (wb : World) (h : Hd) (kids : Tm) (p : Pl) : Prop :=
 ∀ (Q : Nat → Prop) (l : Env) (A : Option Addr) (n c : Nat) (W : World), Below wb.heap.size wb W → (∀ b, b < wb.heap.size → Q b) → Shapes W → EAt Q W l A n c → l.length + 2 * (Tm.nodes kids + 1) ≤ 20000 →
  Calls Tryz.prog 28 #[.agg (rF_ rv), .agg (tC_ h p), .slice A n c] W (Post Q W (Cg.ty rv.D K h kids l))
theorem EAt.one {Q : Nat → Prop} {w : World} {X : Nat} {nm : ByteArray} {t : T2} {G : Option Addr} {m k : Nat} {ty : TypeId} (hX : w.heap[X]? = some (.cells #[.string nm, .int .i8 t.1, .slice G m k] ty (0, 0))) (hL : Ly Q w t G m k) : EAt Q w [(nm, t)] (some ⟨X, 0, none⟩) 1 1 := by
 refine ⟨rfl, Nat.le_refl _, by decide, (fun h => by cases h), [.string nm, .int .i8 t.1, .slice G m k], ⟨⟨rfl, rfl, G, m, k, rfl, hL⟩, trivial⟩, fun a ha => ?_⟩
 exact zFE
theorem EAt.two {Q : Nat → Prop} {w : World} {X : Nat} {nm nm' : ByteArray} {t t' : T2} {G G' : Option Addr} {m k m' k' : Nat} {ty : TypeId} (hX : w.heap[X]? = some (.cells #[.string nm, .int .i8 t.1, .slice G m k, .string nm', .int .i8 t'.1, .slice G' m' k'] ty (0, 0))) (hL : Ly Q w t G m k) (hL' : Ly Q w t' G' m' k') : EAt Q w [(nm, t), (nm', t')] (some ⟨X, 0, none⟩) 2 2 := by
 refine ⟨rfl, Nat.le_refl _, by decide, (fun h => by cases h), [.string nm, .int .i8 t.1, .slice G m k, .string nm', .int .i8 t'.1, .slice G' m' k'], ⟨⟨rfl, rfl, G, m, k, rfl, hL⟩, ⟨rfl, rfl, G', m', k', rfl, hL'⟩, trivial⟩, fun a ha => ?_⟩
 exact zFE
theorem Ly.two {Q : Nat → Prop} {w : World} {a b : T2} {Y : Nat} {G G' : Option Addr} {m k m' k' : Nat} {ty : TypeId} (hX : w.heap[Y]? = some (.cells #[.int .i8 a.1, .slice G m k, .int .i8 b.1, .slice G' m' k'] ty (0, 0))) (hQ : Q Y) (hL : Ly Q w a G m k) (hL' : Ly Q w b G' m' k') (kd : Int) (hk : -128 ≤ kd ∧ kd ≤ 127) : Ly Q w (mk2 kd a b) (some ⟨Y, 0, none⟩) 2 2 := by
 obtain ⟨e0, e1, e2, e3, -⟩ := zg hX
 refine Row.two ⟨hQ, zC hX, fun i t ht => ?_⟩ kd hk 2 (Nat.le_refl _) (by decide)
 match i, ht with
 | 0, ht => injection ht with ht; subst ht; exact ⟨G, m, k, e0, e1, hL⟩
 | 1, ht => injection ht with ht; subst ht; exact ⟨G', m', k', e2, e3, hL'⟩
 | i + 2, ht => simp at ht
end Ck
end Go.Proofs.YtlfcbmobgbcgnaaGreatDoor
namespace Go.Proofs.YtlfcbmobgbcgnaaGreatDoor
open Go.RowKit
theorem EV {P : Prop} (h : P := by (obtain ⟨hcst, hfn⟩ := evc a'; generalize a'.eval = ev at *; clear hp; (try clear y0); (try clear y1); (try clear y2); (try clear y3); (try clear y4); (try clear y5); (try clear y6); (try clear y7); (try clear y8); (try clear y9); (try clear y10); (try clear y11); (try clear y12); (try clear y13); (try clear y14); (try clear y15); (try clear y16); (try clear y17); (try clear y18); (try clear y19); (try clear y20); (try clear y21); (try clear y22); (try clear y23); (try clear y24); (try clear y25); go_simp)) : P := h
theorem SI {α : Type} {a b : α} (h : some a = some b) : a = b := Option.some.inj h
theorem K1 {l : Array Bool} {i j : Nat} {A B : Prop} (y : l[j]? = some true → A) (f : A → B := by ((repeat' with_reducible refine And.imp ?_ ?_) <;> first | with_reducible exact id | with_reducible exact fun q => pn q | with_reducible exact fun q => z8 q | with_reducible exact fun q => Ck.Ly.later q hba | with_reducible exact fun q => Ck.Ly.later q hb | with_reducible exact fun q => Ck.EAt.below q hba | with_reducible exact fun q => Ck.EAt.below q hb | with_reducible exact fun q => zH q _ | with_reducible exact fun q => zA hb (zC q) q | with_reducible exact vv | with_reducible exact uN hb | ((with_reducible refine fun q => Ck.Ly.set2 q ?_ _ _); first | exact fun b hq => hq.ne (by omega) (by omega) | exact fun b hq => hq.2 | exact fun b hq => hq.2.1 | exact fun b hq => hq.2.2 | exact fun b hq => by have h1 : _ ≤ b := hq; omega) | ((with_reducible refine fun q => zK q ?_ _ _); omega) | ((with_reducible refine fun q => zBw q ?_); omega))) (h : i ≠ j := by decide) : (l.setIfInBounds i true)[j]? = some true → B := kF y f h
theorem V_ {P : Program} {ops : Array Oper} {Q : Exit → Act → World → Prop} {i : Nat} {o : Oper} {K : Act → World → Prop} {a : Act} {w : World} {v : Value} (ho : ops[i]? = some o) (d : Nat) (h : K (a.put (some d) v) w) (hg : o.guard = none := by exact rfl) (hd : o.dst = some d := by exact rfl) (hr : (execOp a.eval o).run P w = .ok (.value v) w := by (obtain ⟨hcst, hfn⟩ := evc a'; generalize a'.eval = ev at *; clear hp; (try clear y0); (try clear y1); (try clear y2); (try clear y3); (try clear y4); (try clear y5); (try clear y6); (try clear y7); (try clear y8); (try clear y9); (try clear y10); (try clear y11); (try clear y12); (try clear y13); (try clear y14); (try clear y15); (try clear y16); (try clear y17); (try clear y18); (try clear y19); (try clear y20); (try clear y21); (try clear y22); (try clear y23); (try clear y24); (try clear y25); go_simp)) : wpOp P ops Q i K a w := zL ho hg (jb d hd hr h)
theorem C_ {P : Program} {ops : Array Oper} {Q : Exit → Act → World → Prop} {i : Nat} {o : Oper} {K : Act → World → Prop} {a : Act} {w : World} {f : FuncId} {args : Array Value} {C : Ending → World → Prop} (ho : ops[i]? = some o) (d : Nat) (hc : Calls P f args w C) (h : ∀ e w', C e w' → ∃ v, e = .returned v ∧ K (a.put (some d) v) w') (hg : o.guard = none := by exact rfl) (hd : o.dst = some d := by exact rfl) (hr : (execOp a.eval o).run P w = .ok (.enter f args) w := by (obtain ⟨hcst, hfn⟩ := evc a'; generalize a'.eval = ev at *; clear hp; (try clear y0); (try clear y1); (try clear y2); (try clear y3); (try clear y4); (try clear y5); (try clear y6); (try clear y7); (try clear y8); (try clear y9); (try clear y10); (try clear y11); (try clear y12); (try clear y13); (try clear y14); (try clear y15); (try clear y16); (try clear y17); (try clear y18); (try clear y19); (try clear y20); (try clear y21); (try clear y22); (try clear y23); (try clear y24); (try clear y25); go_simp; try (first | rfl | exact ⟨rfl, rfl⟩ | exact ⟨rfl, rfl, rfl⟩))) : wpOp P ops Q i K a w := zL ho hg (wQ d hd hr hc h)
theorem M_ {P : Program} {ops : Array Oper} {Q : Exit → Act → World → Prop} {i : Nat} {o : Oper} {K : Act → World → Prop} {a : Act} {w : World} {f : FuncId} {args : Array Value} {C : Ending → World → Prop} (ho : ops[i]? = some o) (d : Nat) (hc : Calls P f args w C) (h : ∀ e w', C e w' → (∃ v, e = .returned v ∧ K (a.put (some d) v) w') ∨ ∃ ch, e = .panicked ch ∧ Q (.panic ch) a w') (hg : o.guard = none := by exact rfl) (hd : o.dst = some d := by exact rfl) (hr : (execOp a.eval o).run P w = .ok (.enter f args) w := by (obtain ⟨hcst, hfn⟩ := evc a'; generalize a'.eval = ev at *; clear hp; (try clear y0); (try clear y1); (try clear y2); (try clear y3); (try clear y4); (try clear y5); (try clear y6); (try clear y7); (try clear y8); (try clear y9); (try clear y10); (try clear y11); (try clear y12); (try clear y13); (try clear y14); (try clear y15); (try clear y16); (try clear y17); (try clear y18); (try clear y19); (try clear y20); (try clear y21); (try clear y22); (try clear y23); (try clear y24); (try clear y25); go_simp; try (first | rfl | exact ⟨rfl, rfl⟩ | exact ⟨rfl, rfl, rfl⟩))) : wpOp P ops Q i K a w := zL ho hg (zEQ d hd hr hc h)
theorem FH {i n : Nat} {P : Prop} (h : (Array.replicate n false)[i]? = some true) : P := by
 rw [Array.getElem?_replicate] at h
 split at h <;> cases h
theorem KX {A B : Prop} (x : A) (f : A → B := by ((repeat' with_reducible refine And.imp ?_ ?_) <;> exact fun q => pn q)) : B := f x
theorem KN {l : Array Bool} {i j : Nat} {A B : Prop} (y : l[j]? = some true → A) (hi : l[i]? = some false := by exact hi) (f : A → l[i]? = some true := by (intro q; with_reducible first | exact q | exact q.1 | exact q.2.1 | exact q.2.2.1 | exact q.2.2.2.1 | exact q.2.2.2.2.1 | exact q.2.2.2.2.2.1 | exact q.2.2.2.2.2.2.1 | exact q.2.2.2.2.2.2.2.1 | exact q.2.2.2.2.2.2.2.2.1 | exact q.2.2.2.2.2.2.2.2.2.1 | exact q.2.2.2.2.2.2.2.2.2.2.1 | exact q.2.2.2.2.2.2.2.2.2.2.2.1 | exact q.2.2.2.2.2.2.2.2.2.2.2.2.1 | exact q.2.2.2.2.2.2.2.2.2.2.2.2.2.1 | exact q.2.2.2.2.2.2.2.2.2.2.2.2.2.2.1 | exact q.2.2.2.2.2.2.2.2.2.2.2.2.2.2.2.1 | exact q.2.2.2.2.2.2.2.2.2.2.2.2.2.2.2.2.1 | exact q.2.2.2.2.2.2.2.2.2.2.2.2.2.2.2.2.2.1 | exact q.2.2.2.2.2.2.2.2.2.2.2.2.2.2.2.2.2.2.1 | exact q.2.2.2.2.2.2.2.2.2.2.2.2.2.2.2.2.2.2.2.1 | exact q.2.2.2.2.2.2.2.2.2.2.2.2.2.2.2.2.2.2.2.2.1 | exact q.2.2.2.2.2.2.2.2.2.2.2.2.2.2.2.2.2.2.2.2.2.1 | exact q.2.2.2.2.2.2.2.2.2.2.2.2.2.2.2.2.2.2.2.2.2.2.1 | exact q.2.2.2.2.2.2.2.2.2.2.2.2.2.2.2.2.2.2.2.2.2.2.2.1 | exact q.2.2.2.2.2.2.2.2.2.2.2.2.2.2.2.2.2.2.2.2.2.2.2.2.1 | exact q.2.2.2.2.2.2.2.2.2.2.2.2.2.2.2.2.2.2.2.2.2.2.2.2.2.1 | exact q.2 | exact q.2.2 | exact q.2.2.2 | exact q.2.2.2.2 | exact q.2.2.2.2.2 | exact q.2.2.2.2.2.2 | exact q.2.2.2.2.2.2.2 | exact q.2.2.2.2.2.2.2.2 | exact q.2.2.2.2.2.2.2.2.2 | exact q.2.2.2.2.2.2.2.2.2.2 | exact q.2.2.2.2.2.2.2.2.2.2.2 | exact q.2.2.2.2.2.2.2.2.2.2.2.2 | exact q.2.2.2.2.2.2.2.2.2.2.2.2.2 | exact q.2.2.2.2.2.2.2.2.2.2.2.2.2.2 | exact q.2.2.2.2.2.2.2.2.2.2.2.2.2.2.2 | exact q.2.2.2.2.2.2.2.2.2.2.2.2.2.2.2.2 | exact q.2.2.2.2.2.2.2.2.2.2.2.2.2.2.2.2.2 | exact q.2.2.2.2.2.2.2.2.2.2.2.2.2.2.2.2.2.2 | exact q.2.2.2.2.2.2.2.2.2.2.2.2.2.2.2.2.2.2.2 | exact q.2.2.2.2.2.2.2.2.2.2.2.2.2.2.2.2.2.2.2.2 | exact q.2.2.2.2.2.2.2.2.2.2.2.2.2.2.2.2.2.2.2.2.2 | exact q.2.2.2.2.2.2.2.2.2.2.2.2.2.2.2.2.2.2.2.2.2.2 | exact q.2.2.2.2.2.2.2.2.2.2.2.2.2.2.2.2.2.2.2.2.2.2.2 | exact q.2.2.2.2.2.2.2.2.2.2.2.2.2.2.2.2.2.2.2.2.2.2.2.2 | exact q.2.2.2.2.2.2.2.2.2.2.2.2.2.2.2.2.2.2.2.2.2.2.2.2.2)) (h : i ≠ j := by decide) : (l.setIfInBounds i true)[j]? = some true → B := kN y f hi h
end Go.Proofs.YtlfcbmobgbcgnaaGreatDoor
namespace Go.Proofs.YtlfcbmobgbcgnaaGreatDoor
open Go.RowKit
set_option maxHeartbeats 1500000 in
set_option maxRecDepth 100000 in
theorem zDM (rv : Cg.Rv) (Q : Nat → Prop) (h : Hd) (p : Pl) (a b : Ck.T2) (Y n cap : Nat) (w : World) (hk : h.kind = 6) (hn : n = 2) (hR : Ck.Row Q w [a, b] Y) (hS : Shapes w) (hoka : Ty.okT a.1 a.2 = true) :
  Calls Tryz.prog 92 #[.agg (rF_ rv), .agg (tC_ h p), .slice (some ⟨Y, 0, none⟩) n cap] w (Ck.Post Q w (Cg.over rv.D h a b (0, .nil))) := by
 try unfold tC_
 try unfold rF_
 rw [Cg.zAO _ _ _ _ _ hk]
 obtain ⟨Ga, ma, ca, a0, a1, aL⟩ := hR.cell 0 a rfl
 obtain ⟨Gb, mb, cb, b0, b1, bL⟩ := hR.cell 1 b rfl
 obtain ⟨w1, hw1, hB3, h0, h1, h2, hz⟩ := qP w (.cells (rF_ rv) 45) (.cells (tC_ h p) 28) (.cells #[.int .i8 0, .slice none 0 0] 25)
 have HW1 := k0_ hw1
 have HB3 := k0_ hB3
 have H0 := k0_ h0
 have H1 := k0_ h1
 have H2 := k0_ h2
 have HZ := k0_ hz
 have HAL : Hid (Ck.Ly (Ck.Cut Q w.heap.size (w.heap.size + 3)) w1 a Ga ma ca) := k0_ ((aL.weak (fun b hl hq => .inl ⟨hq, hl⟩)).later hB3)
 have HBL : Hid (Ck.Ly (Ck.Cut Q w.heap.size (w.heap.size + 3)) w1 b Gb mb cb) := k0_ ((bL.weak (fun b hl hq => .inl ⟨hq, hl⟩)).later hB3)
 have HS := k0_ (hS.below hB3)
 have hfrom := k0_ (fun (W : World) (hb : Below w1.heap.size w1 W) => hB3.trans (hb.mono hB3.size))
 have HA := k0_ (And.intro (zB a0 hB3) (zB a1 hB3))
 have HB := k0_ (And.intro (zB b0 hB3) (zB b1 hB3))
 have HK := k0_ (fun (W : World) (hb : Below w1.heap.size w1 W) => (show W.cell? ⟨w.heap.size, 0, none⟩ = some (.func (Fn.func rv.fr) #[] #[]) ∧ W.cell? ⟨w.heap.size, 1, none⟩ = some (.func (Fn.func rv.fa) #[] #[]) ∧ W.cell? ⟨w.heap.size, 2, none⟩ = some (.func (Fn.func rv.fm) #[] #[]) ∧ W.cell? ⟨w.heap.size, 3, none⟩ = some (.func (Fn.func rv.ft) #[] #[]) ∧ W.cell? ⟨w.heap.size + 1, 0, none⟩ = some (.int .i8 h.kind) ∧ W.cell? ⟨w.heap.size + 1, 1, none⟩ = some (.string h.name) ∧ W.cell? ⟨w.heap.size + 1, 2, none⟩ = some (.string h.arg) ∧ W.cell? ⟨w.heap.size + 1, 3, none⟩ = some (.int .i64 h.num) ∧ W.cell? ⟨w.heap.size + 1, 4, none⟩ = some (.int .i8 h.tk) ∧ W.cell? ⟨w.heap.size + 1, 5, none⟩ = some (.slice p.TA p.tn p.tc) ∧ W.cell? ⟨w.heap.size + 1, 6, none⟩ = some (.int .i8 h.uk) ∧ W.cell? ⟨w.heap.size + 1, 7, none⟩ = some (.slice p.UA p.un p.uc) ∧ W.cell? ⟨w.heap.size + 1, 8, none⟩ = some (.int .i64 h.label) ∧ W.cell? ⟨w.heap.size + 1, 9, none⟩ = some (.int .i64 h.pos) ∧ W.cell? ⟨w.heap.size + 1, 10, none⟩ = some (.slice p.A p.n p.c) ∧ W.cell? ⟨Y, 0, none⟩ = some (.int .i8 a.1) ∧ W.cell? ⟨Y, 1, none⟩ = some (.slice Ga ma ca) ∧ W.cell? ⟨Y, 2, none⟩ = some (.int .i8 b.1) ∧ W.cell? ⟨Y, 3, none⟩ = some (.slice Gb mb cb) from by
  obtain ⟨r0, r1, r2, r3, -⟩ := zg (zA hb (zC H0.out) H0.out)
  obtain ⟨q0, q1, q2, q3, q4, q5, q6, q7, q8, q9, q10, ql⟩ := zI (zA hb (zC H1.out) H1.out)
  exact ⟨r0, r1, r2, r3, q0, q1, q2, q3, q4, q5, q6, q7, q8, q9, q10, zB HA.out.1 hb, zB HA.out.2 hb, zB HB.out.1 hb, zB HB.out.2 hb⟩))
 clear hR hS a0 a1 aL b0 b1 bL hB3 h0 h1 h2 hz
 subst hn
 have HKK := k0_ hk
 clear hk
 obtain ⟨R, hR⟩ : ∃ R, R = (if rv.D.asO 3 a = true then (if rv.D.ag b (rv.D.asl 3 a) = true then .ok (rv.D.asr 3 a) else Ck.fault h 91) else Ck.fault h 90) := ⟨_, rfl⟩
 rw [← hR]
 have HR := k0_ hR
 clear hR
 go_enter Tryz.func92, Tryz.ntmps92
 go_upto_region 1 with fail
 rw [← HW1.out]
 obtain ⟨r0, r1, r2, r3, q0, q1, q2, q3, q4, q5, q6, q7, q8, q9, q10, y0, y1, y2, y3⟩ := HK.out w1 (Below.refl _ _)
 rw [HKK.out] at q0
 clear hw1
 go_upto_region 3 with fail
 clear r0 r1 r2 r3 q0 q1 q2 q3 q4 q5 q6 q7 q8 q9 q10 y0 y1 y2 y3
 refine zJ 155 rfl [22, 23, 24, 25, 26, 27, 21, 28, 29, 7, 8] (by kernel_rfl) (by kernel_rfl) (by kernel_rfl) (fun listed a' w' => a'.defers = [] ∧ a'.tmps.size = 155 ∧ (a'.eval (.tmp 2) = .slice (some ⟨Y, 0, none⟩) 2 cap ∧ a'.eval (.tmp 3) = .pointer (some ⟨w.heap.size, 0, none⟩) ∧ a'.eval (.tmp 4) = .pointer (some ⟨w.heap.size + 1, 0, none⟩) ∧ a'.eval (.tmp 6) = .pointer (some ⟨w.heap.size + 1 + 1, 0, none⟩)) ∧ ∃ Z1 Z2 Gl ml cl Gr mr cr, (listed[0]? = some true → (a'.eval (.tmp 22) = .agg (rF_ rv))) ∧ (listed[1]? = some true → (a'.eval (.tmp 23) = .agg (tC_ h p))) ∧ (listed[2]? = some true → (a'.eval (.tmp 24) = .slice (some ⟨Y, 0, none⟩) 2 cap)) ∧ (listed[3]? = some true → (a'.eval (.tmp 25) = .pointer (some ⟨Y, 0, none⟩))) ∧ (listed[4]? = some true → (a'.eval (.tmp 26) = .agg #[.int .i8 a.1, .slice Ga ma ca])) ∧ (listed[5]? = some true → (a'.eval (.tmp 27) = .tuple #[.agg #[.int .i8 (rv.D.asl 3 a).1, .slice Gl ml cl], .agg #[.int .i8 (rv.D.asr 3 a).1, .slice Gr mr cr]]) ∧ (rv.D.asO 3 a = true) ∧ (Ck.Ly (fun b => Ck.Cut Q w.heap.size (w.heap.size + 3) b ∧ b ≠ Z1 ∧ b ≠ Z2) w' (rv.D.asl 3 a) Gl ml cl) ∧ (Ck.Ly (fun b => Ck.Cut Q w.heap.size (w.heap.size + 3) b ∧ b ≠ Z1 ∧ b ≠ Z2) w' (rv.D.asr 3 a) Gr mr cr)) ∧ (listed[6]? = some true → (a'.eval (.tmp 21) = .tuple #[.agg #[.int .i8 (rv.D.asl 3 a).1, .slice Gl ml cl], .agg #[.int .i8 (rv.D.asr 3 a).1, .slice Gr mr cr]]) ∧ (listed[5]? = some true)) ∧ (listed[7]? = some true → (a'.eval (.tmp 28) = .agg #[.int .i8 (rv.D.asl 3 a).1, .slice Gl ml cl]) ∧ (listed[5]? = some true)) ∧ (listed[8]? = some true → (a'.eval (.tmp 29) = .agg #[.int .i8 (rv.D.asr 3 a).1, .slice Gr mr cr]) ∧ (listed[5]? = some true)) ∧ (listed[9]? = some true → (a'.eval (.tmp 7) = .pointer (some ⟨Z1, 0, none⟩)) ∧ (w1.heap.size ≤ Z1) ∧ (Z1 ≠ Z2) ∧ (∃ u0 u1, w'.heap[Z1]? = some (.cells #[u0, u1] 25 (0, 0)))) ∧ (listed[10]? = some true → (a'.eval (.tmp 8) = .pointer (some ⟨Z2, 0, none⟩)) ∧ (w1.heap.size ≤ Z2) ∧ (Z1 ≠ Z2) ∧ (∃ u0 u1, w'.heap[Z2]? = some (.cells #[u0, u1] 25 (0, 0)))) ∧ (listed[11]? = some true → (listed[5]? = some true) ∧ (listed[9]? = some true) ∧ (w'.heap[Z1]? = some (.cells #[.int .i8 (rv.D.asl 3 a).1, .slice Gl ml cl] 25 (0, 0)))) ∧ (listed[12]? = some true → (listed[5]? = some true) ∧ (listed[10]? = some true) ∧ (w'.heap[Z2]? = some (.cells #[.int .i8 (rv.D.asr 3 a).1, .slice Gr mr cr] 25 (0, 0)))) ∧ (Z1 < w'.heap.size ∧ (Z1 = w.heap.size + 2 ∨ w1.heap.size ≤ Z1)) ∧ (Z2 < w'.heap.size ∧ (Z2 = w.heap.size + 2 ∨ w1.heap.size ≤ Z2)) ∧ Below w1.heap.size w1 w') (fun _ _ _ h => h.1) ?_ ?_ ?_
 ·exact zEo
 ·rintro listed a' w' i o ⟨hdf, hsz, hx, Z1, Z2, Gl, ml, cl, Gr, mr, cr, y0, y1, y2, y3, y4, y5, y6, y7, y8, y9, y10, y11, y12, ⟨sZ1, hZZ1⟩, ⟨sZ2, hZZ2⟩, hbw⟩ hz hsz0 ho hi hp
  have hi13 : i < 13 := by
   rcases Nat.lt_or_ge i 13 with q | q
   ·exact q
   ·exact jl
  rcases (by omega : i = 0 ∨ i = 1 ∨ i = 2 ∨ i = 3 ∨ i = 4 ∨ i = 5 ∨ i = 6 ∨ i = 7 ∨ i = 8 ∨ i = 9 ∨ i = 10 ∨ i = 11 ∨ i = 12) with rfl | rfl | rfl | rfl | rfl | rfl | rfl | rfl | rfl | rfl | rfl | rfl | rfl
  ·obtain rfl := SI ho
   obtain ⟨c0, c1, c2, c3, c4, c5, c6, c7, c8, c9, c10, c11, c12, c13, c14, c15, c16, c17, c18⟩ := HK.out w' hbw
   exact V_ ho 22 ⟨pd hdf, ps hsz, KX hx, Z1, Z2, Gl, ml, cl, Gr, mr, cr, (fun _ => pS hsz), K1 y1, K1 y2, K1 y3, K1 y4, K1 y5, K1 y6, K1 y7, K1 y8, K1 y9, K1 y10, K1 y11, K1 y12, ⟨sZ1, hZZ1⟩, ⟨sZ2, hZZ2⟩, hbw⟩
  ·obtain rfl := SI ho
   obtain ⟨c0, c1, c2, c3, c4, c5, c6, c7, c8, c9, c10, c11, c12, c13, c14, c15, c16, c17, c18⟩ := HK.out w' hbw
   exact V_ ho 23 ⟨pd hdf, ps hsz, KX hx, Z1, Z2, Gl, ml, cl, Gr, mr, cr, K1 y0, (fun _ => pS hsz), K1 y2, K1 y3, K1 y4, K1 y5, K1 y6, K1 y7, K1 y8, K1 y9, K1 y10, K1 y11, K1 y12, ⟨sZ1, hZZ1⟩, ⟨sZ2, hZZ2⟩, hbw⟩
  ·obtain rfl := SI ho
   exact V_ ho 24 ⟨pd hdf, ps hsz, KX hx, Z1, Z2, Gl, ml, cl, Gr, mr, cr, K1 y0, K1 y1, (fun _ => pS hsz), K1 y3, K1 y4, K1 y5, K1 y6, K1 y7, K1 y8, K1 y9, K1 y10, K1 y11, K1 y12, ⟨sZ1, hZZ1⟩, ⟨sZ2, hZZ2⟩, hbw⟩
  ·obtain rfl := SI ho
   have v2 := hpv hp 2 (by simp)
   have ww2 := (y2 v2)
   exact V_ ho 25 ⟨pd hdf, ps hsz, KX hx, Z1, Z2, Gl, ml, cl, Gr, mr, cr, K1 y0, K1 y1, K1 y2, (fun _ => pS hsz), K1 y4, K1 y5, K1 y6, K1 y7, K1 y8, K1 y9, K1 y10, K1 y11, K1 y12, ⟨sZ1, hZZ1⟩, ⟨sZ2, hZZ2⟩, hbw⟩
  ·obtain rfl := SI ho
   have v3 := hpv hp 3 (by simp)
   have ww3 := (y3 v3)
   obtain ⟨c0, c1, c2, c3, c4, c5, c6, c7, c8, c9, c10, c11, c12, c13, c14, c15, c16, c17, c18⟩ := HK.out w' hbw
   exact V_ ho 26 ⟨pd hdf, ps hsz, KX hx, Z1, Z2, Gl, ml, cl, Gr, mr, cr, K1 y0, K1 y1, K1 y2, K1 y3, (fun _ => pS hsz), K1 y5, K1 y6, K1 y7, K1 y8, K1 y9, K1 y10, K1 y11, K1 y12, ⟨sZ1, hZZ1⟩, ⟨sZ2, hZZ2⟩, hbw⟩
  ·obtain rfl := SI ho
   have v0 := hpv hp 0 (by simp)
   have ww0 := (y0 v0)
   have v1 := hpv hp 1 (by simp)
   have ww1 := (y1 v1)
   have v4 := hpv hp 4 (by simp)
   have ww4 := (y4 v4)
   refine M_ ho 27 (qa rv (fun b => Ck.Cut Q w.heap.size (w.heap.size + 3) b ∧ b ≠ Z1 ∧ b ≠ Z2) h p 3 a Ga ma ca w' (by decide) (Ck.Ly.later (Ck.Ly.weak HAL.out (fun b hl hq => ⟨hq, qO (Nat.le_of_eq HZ.out.symm) hZZ1 hl hq, qO (Nat.le_of_eq HZ.out.symm) hZZ2 hl hq⟩)) hbw) hoka (HS.out.below hbw)) fun e u hg => ?_
   ·rcases hg with ⟨hq, hg⟩ | ⟨hq, hg⟩
    ·have HP : Ck.Post Q w R e u := by rw [HR.out, if_neg (zZ (show rv.D.asO 3 a = false from hq))]; exact Ck.Gave.from hg (hfrom.out w' hbw)
     exact vC
    ·obtain ⟨Gl', ml', cl', Gr', mr', cr', rfl, hl, hl2, hb⟩ := hg
     refine .inl ?_
     refine ⟨.tuple #[.agg #[.int .i8 (rv.D.asl 3 a).1, .slice Gl' ml' cl'], .agg #[.int .i8 (rv.D.asr 3 a).1, .slice Gr' mr' cr']], rfl, ?_⟩
     exact zFq
  ·obtain rfl := SI ho
   have v5 := hpv hp 5 (by simp)
   have ww5 := (y5 v5).1
   exact V_ ho 21 ⟨pd hdf, ps hsz, KX hx, Z1, Z2, Gl, ml, cl, Gr, mr, cr, K1 y0, K1 y1, K1 y2, K1 y3, K1 y4, K1 y5, (fun _ => ⟨pS hsz, (z8 v5)⟩), K1 y7, K1 y8, K1 y9, K1 y10, K1 y11, K1 y12, ⟨sZ1, hZZ1⟩, ⟨sZ2, hZZ2⟩, hbw⟩
  ·obtain rfl := SI ho
   have v6 := hpv hp 6 (by simp)
   have ww6 := (y6 v6).1
   exact V_ ho 28 ⟨pd hdf, ps hsz, KX hx, Z1, Z2, Gl, ml, cl, Gr, mr, cr, K1 y0, K1 y1, K1 y2, K1 y3, K1 y4, K1 y5, K1 y6, (fun _ => ⟨pS hsz, (z8 ((y6 v6).2))⟩), K1 y8, K1 y9, K1 y10, K1 y11, K1 y12, ⟨sZ1, hZZ1⟩, ⟨sZ2, hZZ2⟩, hbw⟩
  ·obtain rfl := SI ho
   have v6 := hpv hp 6 (by simp)
   have ww6 := (y6 v6).1
   exact V_ ho 29 ⟨pd hdf, ps hsz, KX hx, Z1, Z2, Gl, ml, cl, Gr, mr, cr, K1 y0, K1 y1, K1 y2, K1 y3, K1 y4, K1 y5, K1 y6, K1 y7, (fun _ => ⟨pS hsz, (z8 ((y6 v6).2))⟩), K1 y9, K1 y10, K1 y11, K1 y12, ⟨sZ1, hZZ1⟩, ⟨sZ2, hZZ2⟩, hbw⟩
  ·obtain rfl := SI ho
   refine zL ho rfl (zU 7 rfl (v := .pointer (some ⟨w'.heap.size, 0, none⟩)) (w2 := w'.alloc (.cells #[.int .i8 0, .slice none 0 0] 25)) ?_ ?_)
   ·exact EV
   ·exact zEs
  ·obtain rfl := SI ho
   refine zL ho rfl (zU 8 rfl (v := .pointer (some ⟨w'.heap.size, 0, none⟩)) (w2 := w'.alloc (.cells #[.int .i8 0, .slice none 0 0] 25)) ?_ ?_)
   ·exact EV
   ·exact zEr
  ·obtain rfl := SI ho
   have v9 := hpv hp 9 (by simp)
   have ww9 := (y9 v9).1
   have v7 := hpv hp 7 (by simp)
   have ww7 := (y7 v7).1
   have hne := ((y9 v9).2.2.1)
   have hlo := ((y9 v9).2.1)
   obtain ⟨u0, u1, hbox⟩ := ((y9 v9).2.2.2)
   obtain ⟨bc0, bc1, bf0, bf1, -⟩ := zF hbox
   refine zL ho rfl (zR rfl (w2 := (w'.setCell ⟨Z1, 0, none⟩ (.int .i8 (rv.D.asl 3 a).1)).setCell ⟨Z1, 1, none⟩ (.slice Gl ml cl)) ?_ ?_)
   ·exact EV
   ·have hsa : ((w'.setCell ⟨Z1, 0, none⟩ (.int .i8 (rv.D.asl 3 a).1)).setCell ⟨Z1, 1, none⟩ (.slice Gl ml cl)).heap.size = w'.heap.size := by simp
    have hbs := hbw.size
    have hzz := HZ.out
    exact ⟨hdf, hsz, hx, Z1, Z2, Gl, ml, cl, Gr, mr, cr, K1 y0, K1 y1, K1 y2, K1 y3, K1 y4, K1 y5, K1 y6, K1 y7, K1 y8, (kF y9 (fun q => ⟨q.1, q.2.1, q.2.2.1, (jM q.2.2.2)⟩)), K1 y10, (fun _ => ⟨(z8 ((y7 v7).2)), (z8 v9), zM hbox _ _⟩), K1 y12, ⟨(by omega), hZZ1⟩, ⟨(by omega), hZZ2⟩, zG hbw hlo _ _⟩
  ·obtain rfl := SI ho
   have v10 := hpv hp 10 (by simp)
   have ww10 := (y10 v10).1
   have v8 := hpv hp 8 (by simp)
   have ww8 := (y8 v8).1
   have hne := ((y10 v10).2.2.1)
   have hlo := ((y10 v10).2.1)
   obtain ⟨u0, u1, hbox⟩ := ((y10 v10).2.2.2)
   obtain ⟨bc0, bc1, bf0, bf1, -⟩ := zF hbox
   refine zL ho rfl (zR rfl (w2 := (w'.setCell ⟨Z2, 0, none⟩ (.int .i8 (rv.D.asr 3 a).1)).setCell ⟨Z2, 1, none⟩ (.slice Gr mr cr)) ?_ ?_)
   ·exact EV
   ·have hsa : ((w'.setCell ⟨Z2, 0, none⟩ (.int .i8 (rv.D.asr 3 a).1)).setCell ⟨Z2, 1, none⟩ (.slice Gr mr cr)).heap.size = w'.heap.size := by simp
    have hbs := hbw.size
    have hzz := HZ.out
    exact ⟨hdf, hsz, hx, Z1, Z2, Gl, ml, cl, Gr, mr, cr, K1 y0, K1 y1, K1 y2, K1 y3, K1 y4, K1 y5, K1 y6, K1 y7, K1 y8, K1 y9, (kF y10 (fun q => ⟨q.1, q.2.1, q.2.2.1, (jM q.2.2.2)⟩)), K1 y11, (fun _ => ⟨(z8 ((y8 v8).2)), (z8 v10), zM hbox _ _⟩), ⟨(by omega), hZZ1⟩, ⟨(by omega), hZZ2⟩, zG hbw hlo _ _⟩
 ·rintro listed u w' t ht hu ⟨-, -, -, Z1, Z2, Gl, ml, cl, Gr, mr, cr, y0, y1, y2, y3, y4, y5, y6, y7, y8, y9, y10, y11, y12, ⟨sZ1, hZZ1⟩, ⟨sZ2, hZZ2⟩, hbw⟩ hall
  have v5 := hall 5 (by decide)
  have v9 := hall 9 (by decide)
  have v10 := hall 10 (by decide)
  have v11 := hall 11 (by decide)
  have v12 := hall 12 (by decide)
  have HBW := k0_ hbw
  have P1 := k0_ ((y5 v5).2.1)
  have LL := k0_ ((y5 v5).2.2.1)
  have LR := k0_ ((y5 v5).2.2.2)
  have eb1 := ((y9 v9).1)
  have eb2 := ((y10 v10).1)
  have HX1 := k0_ ((y11 v11).2.2)
  have HX2 := k0_ ((y12 v12).2.2)
  have HLO := k0_ (And.intro ((y9 v9).2.1) ((y10 v10).2.1))
  rw [hu 7 (by decide) (by decide)] at eb1
  rw [hu 8 (by decide) (by decide)] at eb2
  clear y0 y1 y2 y3 y4 y5 y6 y7 y8 y9 y10 y11 y12 v5 v9 v10 v11 v12 hall hu
  clear hbw
  simp only [over, List.setIfInBounds_toArray, List.set_cons_succ, List.set_cons_zero, eb1, eb2] at ht
  subst ht
  clear eb1 eb2
  have HZ' := k0_ (show w.heap.size + 3 ≤ w'.heap.size from by have h1 := HZ.out; have h2 := HBW.out.size; omega)
  have H1Z := k0_ (show w1.heap.size = w.heap.size + 3 from HZ.out)
  clear HZ
  have HZ := HZ'
  clear HZ'
  generalize hw4 : w' = w4 at *
  clear hw4
  have HK := k0_ (fun (W : World) (hb : Below w4.heap.size w4 W) => HK.out W (HBW.out.trans (hb.mono HBW.out.size)))
  have hfrom := k0_ (fun (W : World) (hb : Below w4.heap.size w4 W) => hfrom.out W (HBW.out.trans (hb.mono HBW.out.size)))
  have HAL := k0_ (HAL.out.later HBW.out)
  have HBL := k0_ (HBL.out.later HBW.out)
  have HS := k0_ (HS.out.below HBW.out)
  have H2 := k0_ (zA HBW.out (zC H2.out) H2.out)
  obtain ⟨r0, r1, r2, r3, q0, q1, q2, q3, q4, q5, q6, q7, q8, q9, q10, y0, y1, y2, y3⟩ := HK.out w4 (Below.refl _ _)
  go_upto_region 4 with fail
  clear r0 r1 r2 r3 q0 q1 q2 q3 q4 q5 q6 q7 q8 q9 q10 y0 y1 y2 y3
  refine zJ 155 rfl [30, 31, 32, 33, 34, 35, 36] (by kernel_rfl) (by kernel_rfl) (by kernel_rfl) (fun listed a' w' => a'.defers = [] ∧ a'.tmps.size = 155 ∧ (a'.eval (.tmp 2) = .slice (some ⟨Y, 0, none⟩) 2 cap ∧ a'.eval (.tmp 3) = .pointer (some ⟨w.heap.size, 0, none⟩) ∧ a'.eval (.tmp 4) = .pointer (some ⟨w.heap.size + 1, 0, none⟩) ∧ a'.eval (.tmp 6) = .pointer (some ⟨w.heap.size + 1 + 1, 0, none⟩) ∧ a'.eval (.tmp 7) = .pointer (some ⟨Z1, 0, none⟩) ∧ a'.eval (.tmp 8) = .pointer (some ⟨Z2, 0, none⟩)) ∧ (listed[0]? = some true → (a'.eval (.tmp 30) = .agg (rF_ rv))) ∧ (listed[1]? = some true → (a'.eval (.tmp 31) = .agg (tC_ h p))) ∧ (listed[2]? = some true → (a'.eval (.tmp 32) = .slice (some ⟨Y, 0, none⟩) 2 cap)) ∧ (listed[3]? = some true → (a'.eval (.tmp 33) = .pointer (some ⟨Y, 2, none⟩))) ∧ (listed[4]? = some true → (a'.eval (.tmp 34) = .agg #[.int .i8 b.1, .slice Gb mb cb])) ∧ (listed[5]? = some true → (a'.eval (.tmp 35) = .agg #[.int .i8 (rv.D.asl 3 a).1, .slice Gl ml cl])) ∧ (listed[6]? = some true → (a'.eval (.tmp 36) = .tuple #[]) ∧ (rv.D.ag b (rv.D.asl 3 a) = true)) ∧ Below w4.heap.size w4 w') (fun _ _ _ h => h.1) ?_ ?_ ?_
  ·exact zEk
  ·rintro listed a' w' i o ⟨hdf, hsz, hx, y0, y1, y2, y3, y4, y5, y6, hbw⟩ hz hsz0 ho hi hp
   have hi13 : i < 7 := by
    exact uX
   rcases (by omega : i = 0 ∨ i = 1 ∨ i = 2 ∨ i = 3 ∨ i = 4 ∨ i = 5 ∨ i = 6) with rfl | rfl | rfl | rfl | rfl | rfl | rfl
   ·obtain rfl := SI ho
    obtain ⟨c0, c1, c2, c3, c4, c5, c6, c7, c8, c9, c10, c11, c12, c13, c14, c15, c16, c17, c18⟩ := HK.out w' hbw
    exact V_ ho 30 ⟨pd hdf, ps hsz, KX hx, (fun _ => pS hsz), K1 y1, K1 y2, K1 y3, K1 y4, K1 y5, K1 y6, hbw⟩
   ·obtain rfl := SI ho
    obtain ⟨c0, c1, c2, c3, c4, c5, c6, c7, c8, c9, c10, c11, c12, c13, c14, c15, c16, c17, c18⟩ := HK.out w' hbw
    exact V_ ho 31 ⟨pd hdf, ps hsz, KX hx, K1 y0, (fun _ => pS hsz), K1 y2, K1 y3, K1 y4, K1 y5, K1 y6, hbw⟩
   ·obtain rfl := SI ho
    exact V_ ho 32 ⟨pd hdf, ps hsz, KX hx, K1 y0, K1 y1, (fun _ => pS hsz), K1 y3, K1 y4, K1 y5, K1 y6, hbw⟩
   ·obtain rfl := SI ho
    have v2 := hpv hp 2 (by simp)
    have ww2 := (y2 v2)
    exact V_ ho 33 ⟨pd hdf, ps hsz, KX hx, K1 y0, K1 y1, K1 y2, (fun _ => pS hsz), K1 y4, K1 y5, K1 y6, hbw⟩
   ·obtain rfl := SI ho
    have v3 := hpv hp 3 (by simp)
    have ww3 := (y3 v3)
    obtain ⟨c0, c1, c2, c3, c4, c5, c6, c7, c8, c9, c10, c11, c12, c13, c14, c15, c16, c17, c18⟩ := HK.out w' hbw
    exact V_ ho 34 ⟨pd hdf, ps hsz, KX hx, K1 y0, K1 y1, K1 y2, K1 y3, (fun _ => pS hsz), K1 y5, K1 y6, hbw⟩
   ·obtain rfl := SI ho
    obtain ⟨e0, e1, -, -, -⟩ := zF (zA hbw (zC HX1.out) HX1.out)
    exact V_ ho 35 ⟨pd hdf, ps hsz, KX hx, K1 y0, K1 y1, K1 y2, K1 y3, K1 y4, (fun _ => pS hsz), K1 y6, hbw⟩
   ·obtain rfl := SI ho
    have v0 := hpv hp 0 (by simp)
    have ww0 := (y0 v0)
    have v1 := hpv hp 1 (by simp)
    have ww1 := (y1 v1)
    have v4 := hpv hp 4 (by simp)
    have ww4 := (y4 v4)
    have v5 := hpv hp 5 (by simp)
    have ww5 := (y5 v5)
    refine M_ ho 36 (qD rv h p b.1 b.2 Gb mb cb (rv.D.asl 3 a).1 (rv.D.asl 3 a).2 Gl ml cl w' (HBL.out.later hbw).is (LL.out.later hbw).is (HS.out.below hbw)) fun e u hg => ?_
    ·rcases hg with ⟨hq, hg⟩ | ⟨hq, hg⟩
     ·have HP : Ck.Post Q w R e u := by rw [HR.out, if_pos P1.out, if_neg (zZ (show rv.D.ag b (rv.D.asl 3 a) = false from hq))]; exact Ck.Gave.from hg (hfrom.out w' hbw)
      exact vC
     ·exact zCC
  ·rintro listed u w' t ht hu ⟨-, -, -, y0, y1, y2, y3, y4, y5, y6, hbw⟩ hall
   have v6 := hall 6 (by decide)
   have HBW2 := k0_ hbw
   have P2 := ((y6 v6).2)
   clear y0 y1 y2 y3 y4 y5 y6 v6 hall hu
   clear hbw
   simp only [over, List.setIfInBounds_toArray, List.set_cons_succ, List.set_cons_zero] at ht
   subst ht
   have hz := H1Z.out
   have hs4 := HBW.out.size
   have hs5 := HBW2.out.size
   have z2 := zA HBW2.out (zC H2.out) H2.out
   obtain ⟨x0, x1, f0, f1, xl⟩ := zF z2
   obtain ⟨u0, u1, g0, g1, ul⟩ := zF (zA HBW2.out (zC HX2.out) HX2.out)
   go_wp2_with fail
   have z3 := zM z2 (.int .i8 (rv.D.asr 3 a).1) (.slice Gr mr cr)
   obtain ⟨k0, k1, -, -, -⟩ := zF z3
   refine ⟨rfl, .agg #[.int .i8 (rv.D.asr 3 a).1, .slice Gr mr cr], by simp [results, Tryz.results92, go_sem, k0, k1], ?_⟩
   rw [HR.out, if_pos P1.out, if_pos P2]
   exact ⟨Gr, mr, cr, rfl, (Ck.Ly.set2 (LR.out.later HBW2.out) (fun b hq => hq.1.ne (by omega) (by omega)) _ _).weak (fun b _ hq => hq.1.out (by omega)), zG (hfrom.out _ HBW2.out) (by omega) _ _⟩
end Go.Proofs.YtlfcbmobgbcgnaaGreatDoor
