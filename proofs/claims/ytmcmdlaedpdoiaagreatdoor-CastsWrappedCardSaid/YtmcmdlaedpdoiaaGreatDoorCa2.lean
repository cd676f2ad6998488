/-
  terms.each over terms, terms.bare: what is made lies apart from all else, part by part.
-/
import Derived.Test.YtmcmdlaedpdoiaaGreatDoorCa1
import Derived.Test.YtmcmdlaedpdoiaaGreatDoorM11
namespace Go.Proofs.YtmcmdlaedpdoiaaGreatDoor
open Go.RowKit

/-- a bare term in memory of its own -/
def CopySp (w : World) (h : Hd) (kids : Tm) (e : Ending) (w' : World) : Prop :=
  ∃ p, e = .returned (.agg #[.int .i8 (Tm.cnt h).kind, .string (Tm.cnt h).name, .string (Tm.cnt h).arg, .int .i64 (Tm.cnt h).num, .int .i8 (Tm.cnt h).tk, .slice p.TA p.tn p.tc, .int .i8 (Tm.cnt h).uk, .slice p.UA p.un p.uc, .int .i64 (Tm.cnt h).label, .int .i64 (Tm.cnt h).pos, .slice p.A p.n p.c]) ∧ Tm.SepK w' (Tm.cnt h) (Tm.bF kids) p w.heap.size w'.heap.size ∧ Below w.heap.size w w'
/-- a list of bare terms -/
def EachSp (w : World) (kids : Tm) (e : Ending) (w' : World) : Prop :=
  ∃ G m c, e = .returned (.slice G m c) ∧ (Tm.bF kids = .nil ∨ ∃ g', G = some ⟨g', 0, none⟩ ∧ w.heap.size ≤ g' ∧ g' < w'.heap.size ∧ (∀ o, w'.frozen? ⟨g', o, none⟩ = false) ∧ Tm.SepF w' g' (Tm.bF kids) 0 w.heap.size w'.heap.size) ∧ m = Tm.len kids ∧ m ≤ c ∧ c ≤ maxLen ∧ Below w.heap.size w w'
theorem froz_of {w : World} {b : Nat} {cs : Array Value} {t : TypeId} (h : w.heap[b]? = some (.cells cs t (0, 0))) (o : Nat) : w.frozen? ⟨b, o, none⟩ = false := by simp [World.frozen?, h]

/-- a round's state -/
structure EachRelS (w wr : World) (A : Option Addr) (kids : Tm) (v : Value) (n i : Nat) (done rest : Tm) (xs : List Value) : Prop where
  eq : Tm.app done (Tm.bF rest) = Tm.bF kids
  len : Tm.len done = i
  i_eq : i + Tm.len rest = n
  lies : Tm.Lies w rest A i
  below : Below w.heap.size w wr
  own : wr.ownsRow w.heap.size 28 11 v i xs
  flat : Tm.FlatS wr v.ownBlock done xs w.heap.size wr.heap.size
  sub : Tm.nodes rest ≤ Tm.nodes kids

theorem EachRelS.step {w wr u w3 : World} {A : Option Addr} {kids : Tm} {v v' : Value} {n i : Nat} {done r kd : Tm} {h : Hd} {xs : List Value} {p : Pl} {o1 o2 : Obj}
    (e : EachRelS w wr A kids v n i done (.node h kd r) xs) (hb : Below (wr.alloc o1).heap.size (wr.alloc o1) u) (hI : Tm.SepK u (Tm.cnt h) (Tm.bF kd) p (wr.alloc o1).heap.size u.heap.size)
    (hown : w3.ownsRow w.heap.size 28 11 v' (i + 1) (xs ++ (Tm.cnt h).cells p)) (hg : (u.alloc o2).grownBy w3 v.ownBlock) (hat : v'.ownBlock = v.ownBlock ∨ v'.ownBlock = some (u.alloc o2).heap.size) (hl : Tm.Lies w r A (i + 1)) :
    EachRelS w w3 A kids v' n (i + 1) (Tm.app done (.node (Tm.cnt h) (Tm.bF kd) .nil)) r (xs ++ (Tm.cnt h).cells p) := by
  obtain ⟨h1, h2, h3, h4, h5, h6, h7, h8⟩ := e
  simp only [Tm.len, Tm.nodes, Tm.bF] at h1 h3 h8
  have hlt := h6.lt
  have hs1 : wr.heap.size + 1 = (wr.alloc o1).heap.size := by simp
  have hs2 := hb.size
  have hs3 : u.heap.size + 1 = (u.alloc o2).heap.size := by simp
  have hg2 := hg.size
  have hwu : Below wr.heap.size wr (u.alloc o2) := (((Below.refl _ _).alloc (Nat.le_refl _) o1).trans (hb.mono (by omega))).alloc (by omega) o2
  refine ⟨by rw [Tm.app_snoc]; exact h1, by rw [Tm.len_snoc]; omega, by omega, hl, ?_, hown, ?_, by omega⟩
  · exact (h5.trans (hwu.mono h5.size)).grown hg (Nat.le_trans h5.size hwu.size) fun q hq => (hlt q hq).1
  · have hnew : Tm.FlatS w3 v'.ownBlock done xs w.heap.size wr.heap.size := by
      refine Tm.FlatS.to done xs w.heap.size wr.heap.size (fun b' q1 q2 q3 => ?_) (fun g e => ?_) h7
      · rw [hg.block b' (by omega) (fun e => q3 e.symm), hwu.block b' q2]
      · rcases hat with q | q
        · exact .inl (by rw [← q]; exact e)
        · rw [q] at e; injection e with e; exact .inr (by omega)
    have hsep : Tm.SepK w3 (Tm.cnt h) (Tm.bF kd) p (wr.alloc o1).heap.size u.heap.size := by
      refine hI.keep fun b' q1 q2 => ?_
      rw [hg.block b' (by omega) (fun e => by have := (hlt b' e.symm).2; omega), Below.heap_alloc _ _ _ q2]
    have := Tm.FlatS.snoc (fun g e => ?_) hsep done xs w.heap.size wr.heap.size (by omega) hnew
    · exact Tm.FlatS.up _ _ _ _ _ (by omega) this
    · rcases hat with q | q
      · rw [q] at e; have := (hlt g e).2; left; omega
      · rw [q] at e; injection e with e; right; omega

set_option maxHeartbeats 4000000 in
set_option maxRecDepth 100000 in
theorem tm_each_sp (f : FuncId) (kids : Tm) (A : Option Addr) (n c : Nat) (w : World) (hL : Tm.Lies w kids A 0) (hn : n = Tm.len kids) (hnc : n ≤ c) (hc : c ≤ maxLen) (hsm : Tm.nodes kids ≤ 8192)
    (hcf : ∀ (args : Array Value) (W : World), (callFunc f args).run Tryz.prog W = .ok (.enter f args) W)
    (hf : ∀ (h : Hd) (kd : Tm) (p : Pl) (W : World), Tm.nodes kd < Tm.nodes kids → Tm.tyN h + Tm.nodes kd ≤ 8192 → Tm.Is W h kd p → Below w.heap.size w W → Calls Tryz.prog f #[.agg #[.int .i8 h.kind, .string h.name, .string h.arg, .int .i64 h.num, .int .i8 h.tk, .slice p.TA p.tn p.tc, .int .i8 h.uk, .slice p.UA p.un p.uc, .int .i64 h.label, .int .i64 h.pos, .slice p.A p.n p.c]] W (CopySp W h kd)) :
    Calls Tryz.prog 84 #[.slice A n c, .func (Fn.func f) #[] #[]] w (EachSp w kids) := by
  have i5 : (n : Int) ≤ 9223372036854775807 := by unfold maxLen at hc; omega
  have hst : EachRelS w w A kids (.slice none 0 0) n 0 .nil kids [] := ⟨rfl, rfl, by omega, hL, Below.refl _ _, ⟨rfl, .inl ⟨rfl, rfl⟩⟩, ⟨rfl, Nat.le_refl _⟩, Nat.le_refl _⟩
  have HS := Lib.hid hst
  have HF := Lib.hid hf
  have hln := Tm.len_le_nodes kids
  have hn2 : n ≤ 8192 := by omega
  obtain ⟨i0, hi, hz0, hz1, hz2⟩ := info_parts info_Term
  clear hst hf hL hn
  go_enter Tryz.func84, Tryz.ntmps84
  go_wp2_with fail
  go_loopw [5, 10] (fun v5 v10 wr => ∃ (i : Nat) (done rest : Tm) (xs : List Value), v10 = .int .i64 i ∧ EachRelS w wr A kids v5 n i done rest xs) (fun _ v _ => n - (intOf v).toNat)
  case atStart => exact ⟨0, .nil, kids, [], rfl, HS.out⟩
  case round =>
    obtain ⟨i, done, rest, xs, rfl, hR⟩ := hrel
    cases rest with
    | nil =>
      have hi2 : i = n := by have := hR.i_eq; simpa [Tm.len] using this
      have hfin : EachSp w kids (.returned u5) wr := by
        have he := hR.eq
        simp only [Tm.bF] at he
        rw [Tm.app_nil] at he
        have hfl := hR.flat
        have hdl := hR.len
        have hbl := Tm.len_bF kids
        rw [← he] at hbl
        unfold EachSp
        rw [← he]
        rcases hR.own.2 with ⟨hv, h0⟩ | ⟨g, cap, cur, hv, hb0, hg, h1, h2, h3⟩
        · have hk0 : done = .nil := by
            cases done with
            | nil => rfl
            | node _ _ _ => simp only [Tm.len] at hdl; omega
          exact ⟨none, 0, 0, by rw [hv], .inl hk0, by omega, Nat.le_refl _, Nat.zero_le _, hR.below⟩
        · refine ⟨some ⟨g, 0, none⟩, i, cap, by rw [hv], .inr ⟨g, rfl, hb0, heap_lt hg, froz_of hg, ?_⟩, by omega, h1, h2, hR.below⟩
          rw [show u5.ownBlock = some g by rw [hv]; rfl] at hfl
          refine Tm.FlatS.sep done xs 0 _ _ hfl fun j u hu => ?_
          have := hR.own.cells (g := g) (by rw [hv]; rfl) j u hu
          rw [show (⟨g, 0, none⟩ : Addr).add j = ⟨g, j, none⟩ by unfold Addr.add; by_cases h : j = 0 <;> simp [h]] at this
          rw [show 0 * 11 + j = j by omega]
          exact this
      have HFIN := Lib.hid hfin
      clear hfin hR
      subst hi2
      go_wp2_with fail
      go_ret
      exact HFIN.out
    | node h kd r =>
      have h1 := hR.i_eq
      have h2 := hR.lies
      have h3 := hR.sub
      have h4 := hR.below
      simp only [Tm.len, Tm.nodes] at h1 h3
      obtain ⟨bb, oo, p, hA, hcs, hfit, hl3, hl4⟩ := h2
      have hcs' : ∀ j v, (h.cells p)[j]? = some v → wr.cell? ⟨bb, oo + i * 11 + j, none⟩ = some v := fun j v hv => by
        have := hcs j v hv
        rw [h4.cell (p := ⟨bb, _, none⟩) (Ty.cell_lt this)]; exact this
      have hcall := HF.out h kd p (wr.alloc (.cells #[.int .i8 h.kind, .string h.name, .string h.arg, .int .i64 h.num, .int .i8 h.tk, .slice p.TA p.tn p.tc, .int .i8 h.uk, .slice p.UA p.un p.uc, .int .i64 h.label, .int .i64 h.pos, .slice p.A p.n p.c] 28)) (by omega) (by omega) (Tm.Is.alloc (Tm.Is.below ⟨hfit, hl3⟩ h4) _) (h4.alloc h4.size _)
      have hstp := fun u w3 v' p' o2 hb hI hown hg hat => EachRelS.step (u := u) (w3 := w3) (v' := v') (p := p') (o1 := .cells #[.int .i8 h.kind, .string h.name, .string h.arg, .int .i64 h.num, .int .i8 h.tk, .slice p.TA p.tn p.tc, .int .i8 h.uk, .slice p.UA p.un p.uc, .int .i64 h.label, .int .i64 h.pos, .slice p.A p.n p.c] 28) (o2 := o2) hR hb hI hown hg hat hl4
      have hO := hR.own
      have HC := Lib.hid hcall
      have HSTP := Lib.hid hstp
      obtain ⟨c0, c1, c2, c3, c4, c5, c6, c7, c8, c9, c10⟩ := Tm.row hcs'
      have j1 : (i : Int) < n := by omega
      have HAA := Lib.hid hA
      have z4 := h4.size
      clear hcall hstp hR hl3 hl4 hcs hcs' hA h4 hfit
      obtain rfl : A = some ⟨bb, oo, none⟩ := HAA.out
      clear HAA
      go_wp2_with fail
      refine HC.out.mono ?_
      rintro e u ⟨p', rfl, hI, hb⟩
      have hs1 := hb.size
      have HI := Lib.hid hI
      have HB := Lib.hid hb
      have hO2 := ownsRow_below (hO.alloc (.cells #[.int .i8 h.kind, .string h.name, .string h.arg, .int .i64 h.num, .int .i8 h.tk, .slice p.TA p.tn p.tc, .int .i8 h.uk, .slice p.UA p.un p.uc, .int .i64 h.label, .int .i64 h.pos, .slice p.A p.n p.c] 28)) hb
      clear hI hb c0 c1 c2 c3 c4 c5 c6 c7 c8 c9 c10
      go_wp2_with (first | (at_builtin; refine wpList_append_own_at _ rfl (.tmp 14) (.tmp 18) 26 rfl w.heap.size 28 i0 (.agg #[.int .i8 0, .string ⟨#[]⟩, .string ⟨#[]⟩, .int .i64 0, .int .i8 0, .slice none 0 0, .int .i8 0, .slice none 0 0, .int .i64 0, .int .i64 0, .slice none 0 0]) 11 152 Tryz.underlying26 hi hz0 hz1 hz2 rfl (by decide) u5 _ _ rfl (hO2.alloc _) ⟨u.heap.size, 0, none⟩ 1 1 ((Tm.cnt h).cells p') rfl rfl ?c1 ?c2 ?c3 ?c4 ?c5 ?_))
      case c1 => exact cells_of_heap (heap_new u (.cells #[.int .i8 (Tm.cnt h).kind, .string (Tm.cnt h).name, .string (Tm.cnt h).arg, .int .i64 (Tm.cnt h).num, .int .i8 (Tm.cnt h).tk, .slice p'.TA p'.tn p'.tc, .int .i8 (Tm.cnt h).uk, .slice p'.UA p'.un p'.uc, .int .i64 (Tm.cnt h).label, .int .i64 (Tm.cnt h).pos, .slice p'.A p'.n p'.c] 28))
      case c2 => intro x hx; simp at hx; rcases hx with rfl | rfl | rfl | rfl | rfl | rfl | rfl | rfl | rfl | rfl | rfl <;> rfl
      case c3 => unfold maxLen; omega
      case c4 => omega
      case c5 => simp at hs1 ⊢; omega
      intro v' w3 hown3 hg3 _ hat
      have hR3 := Lib.hid (HSTP.out u w3 v' p' _ HB.out HI.out hown3 hg3 (by simpa using hat))
      clear hown3 hg3 hat hO2 hO
      go_wp2_with fail
      go_roundw
      case rel => exact ⟨i + 1, _, r, _, by go_num, hR3.out⟩
      case measure => simp [intOf]; omega

theorem bare_end {w wq u3 W9 : World} {B : Nat} {a : Hd} {bk : Tm} {TA UA : Option Addr} {tn tc un uc : Nat} {G : Option Addr} {m cg : Nat} (hrel : Below w.heap.size w wq) (hty : Ty.Is (mask (fun b => decide (B < b)) wq) a.tk a.tkids TA tn tc) (htu : Ty.Is (mask (fun b => decide (B < b)) wq) a.uk a.ukids UA un uc)
    (hub : Below wq.heap.size wq u3) (hRB : w.heap.size + 1 < B) (hbl : B < wq.heap.size) (k1 : -128 ≤ a.kind) (k2 : a.kind ≤ 127) (k3 : -9223372036854775808 ≤ a.label) (k4 : a.label ≤ 9223372036854775807) (k5 : a.name.size ≤ 281474976710656) (k6 : a.arg.size ≤ 281474976710656)
    (hL : bk = .nil ∨ ∃ g', G = some ⟨g', 0, none⟩ ∧ wq.heap.size ≤ g' ∧ g' < u3.heap.size ∧ (∀ o, u3.frozen? ⟨g', o, none⟩ = false) ∧ Tm.SepF u3 g' bk 0 wq.heap.size u3.heap.size) (hm : m = Tm.len bk) (hmc : m ≤ cg) (hcg : cg ≤ maxLen)
    (hk : ∀ b, b ≠ B → b ≠ w.heap.size + 1 → W9.heap[b]? = u3.heap[b]?) (hs : W9.heap.size = u3.heap.size) : Tm.SepK W9 a bk ⟨TA, tn, tc, UA, un, uc, G, m, cg⟩ w.heap.size W9.heap.size := by
  have hT : ∀ {k : Int} {f : Fo} {A : Option Addr} {n c : Nat}, Ty.Is (mask (fun b => decide (B < b)) wq) k f A n c → Ty.Is (mask (rng w.heap.size wq.heap.size) W9) k f A n c := fun h => h.kept (kept_mask fun b o x hP hx => by
    have hP' : B < b := of_decide_eq_true hP
    exact ⟨rng_of (by omega) (Ty.cell_lt hx), by rw [World.cell?_of_block (hk b (by omega) (by omega)), hub.cell (p := ⟨b, o, none⟩) (Ty.cell_lt hx)]; exact hx⟩)
  refine ⟨wq.heap.size, hrel.size, by rw [hs]; exact hub.size, ⟨hT hty, hT htu, hm, hmc, hcg, k1, k2, k3, k4, k5, k6⟩, ?_⟩
  rcases hL with e | ⟨g', e1, e2, e3, e4, e5⟩
  · exact .inl e
  · have hk' := fun (b : Nat) (hb : wq.heap.size ≤ b) => hk b (by omega) (by omega)
    refine .inr ⟨g', e1, e2, by rw [hs]; exact e3, fun o => by rw [World.frozen?_of_block (hk' g' e2)]; exact e4 o, ?_⟩
    rw [hs]
    exact Tm.SepF.keep _ _ _ _ _ (fun o v _ _ hc => by rw [World.cell?_of_block (hk' g' e2)]; exact hc) (fun b h1 h2 _ => hk' b h1) e5
theorem bare_heap {u3 : World} {B R b : Nat} {x v0 v1 v2 v3 v4 v5 v6 v7 v8 v9 v10 : Value} (h1 : b ≠ B) (h2 : b ≠ R) : ((((((((((((u3.setCell ⟨B, 10, none⟩ x).setCell ⟨R, 0, none⟩ v0).setCell ⟨R, 1, none⟩ v1).setCell ⟨R, 2, none⟩ v2).setCell ⟨R, 3, none⟩ v3).setCell ⟨R, 4, none⟩ v4).setCell ⟨R, 5, none⟩ v5).setCell ⟨R, 6, none⟩ v6).setCell ⟨R, 7, none⟩ v7).setCell ⟨R, 8, none⟩ v8).setCell ⟨R, 9, none⟩ v9).setCell ⟨R, 10, none⟩ v10).heap[b]? = u3.heap[b]? := by
  rw [Below.heap_setCell _ _ _ b h2, Below.heap_setCell _ _ _ b h2, Below.heap_setCell _ _ _ b h2, Below.heap_setCell _ _ _ b h2, Below.heap_setCell _ _ _ b h2, Below.heap_setCell _ _ _ b h2, Below.heap_setCell _ _ _ b h2, Below.heap_setCell _ _ _ b h2, Below.heap_setCell _ _ _ b h2, Below.heap_setCell _ _ _ b h2, Below.heap_setCell _ _ _ b h2, Below.heap_setCell _ _ _ b h1]
theorem bare_size {u3 : World} {B R : Nat} {x v0 v1 v2 v3 v4 v5 v6 v7 v8 v9 v10 : Value} : ((((((((((((u3.setCell ⟨B, 10, none⟩ x).setCell ⟨R, 0, none⟩ v0).setCell ⟨R, 1, none⟩ v1).setCell ⟨R, 2, none⟩ v2).setCell ⟨R, 3, none⟩ v3).setCell ⟨R, 4, none⟩ v4).setCell ⟨R, 5, none⟩ v5).setCell ⟨R, 6, none⟩ v6).setCell ⟨R, 7, none⟩ v7).setCell ⟨R, 8, none⟩ v8).setCell ⟨R, 9, none⟩ v9).setCell ⟨R, 10, none⟩ v10).heap.size = u3.heap.size := by simp [World.setCell]

attribute [local go_sem ↓] Go.wp_at_zero Go.wp_at_succ
set_option maxHeartbeats 8000000 in
set_option maxRecDepth 100000 in
theorem bare_sp (K : Nat) : ∀ (h : Hd) (kids : Tm) (p : Pl) (w : World), Tm.nodes kids < K → Tm.tyN h + Tm.nodes kids ≤ 8192 → Tm.Is w h kids p → TShapes w →
    Calls Tryz.prog 52 #[.agg #[.int .i8 h.kind, .string h.name, .string h.arg, .int .i64 h.num, .int .i8 h.tk, .slice p.TA p.tn p.tc, .int .i8 h.uk, .slice p.UA p.un p.uc, .int .i64 h.label, .int .i64 h.pos, .slice p.A p.n p.c]] w (CopySp w h kids) := by
  induction K with
  | zero => intro _ _ _ _ hK; omega
  | succ K ih =>
    intro h kids p w hK hsm hIs hS
    have hB0 : Below w.heap.size w ((w.alloc (.cells #[.int .i8 h.kind, .string h.name, .string h.arg, .int .i64 h.num, .int .i8 h.tk, .slice p.TA p.tn p.tc, .int .i8 h.uk, .slice p.UA p.un p.uc, .int .i64 h.label, .int .i64 h.pos, .slice p.A p.n p.c] 28)).alloc (.cells #[.int .i8 0, .string ⟨#[]⟩, .string ⟨#[]⟩, .int .i64 0, .int .i8 0, .slice none 0 0, .int .i8 0, .slice none 0 0, .int .i64 0, .int .i64 0, .slice none 0 0] 28)) := ((Below.refl _ _).alloc (Nat.le_refl _) _).alloc (by simp) _
    obtain ⟨r0, r1, r2⟩ := two_new w (.cells #[.int .i8 h.kind, .string h.name, .string h.arg, .int .i64 h.num, .int .i8 h.tk, .slice p.TA p.tn p.tc, .int .i8 h.uk, .slice p.UA p.un p.uc, .int .i64 h.label, .int .i64 h.pos, .slice p.A p.n p.c] 28) (.cells #[.int .i8 0, .string ⟨#[]⟩, .string ⟨#[]⟩, .int .i64 0, .int .i8 0, .slice none 0 0, .int .i8 0, .slice none 0 0, .int .i64 0, .int .i64 0, .slice none 0 0] 28)
    have HC := Lib.hid (fun (W : World) (hb : Below w.heap.size w W) => show Calls Tryz.prog 81 #[.agg #[.int .i8 h.kind, .string h.name, .string h.arg, .int .i64 h.num, .int .i8 h.tk, .slice p.TA p.tn p.tc, .int .i8 h.uk, .slice p.UA p.un p.uc, .int .i64 h.label, .int .i64 h.pos, .slice p.A p.n p.c]] W (fun e w' => e = .returned (.agg #[.int .i8 (Tm.cnt h).kind, .string (Tm.cnt h).name, .string (Tm.cnt h).arg, .int .i64 (Tm.cnt h).num, .int .i8 (Tm.cnt h).tk, .slice (Tm.cntP h p).TA (Tm.cntP h p).tn (Tm.cntP h p).tc, .int .i8 (Tm.cnt h).uk, .slice (Tm.cntP h p).UA (Tm.cntP h p).un (Tm.cntP h p).uc, .int .i64 (Tm.cnt h).label, .int .i64 (Tm.cnt h).pos, .slice (Tm.cntP h p).A (Tm.cntP h p).n (Tm.cntP h p).c]) ∧ Below W.heap.size W w') from counting_any h _ p W (hIs.below hb).fit (hS.below hb))
    have HI := Lib.hid (fun (W : World) (hb : Below w.heap.size w W) => (hIs.below hb).cnt)
    have HS := Lib.hid (fun (W : World) (hb : Below w.heap.size w W) => hS.below hb)
    have hcs := Tm.cnt_small (h := h) (by omega)
    have R0 := Lib.hid r0
    have R1 := Lib.hid r1
    have IH := Lib.hid ih
    obtain ⟨q0, q1, q2, q3, q4, q5, q6, q7, q8, q9, q10, ql⟩ := own11 r0
    clear hIs hS r0 r1 ih r2
    unfold CopySp
    generalize Tm.cnt h = a at *
    generalize Tm.cntP h p = q at *
    go_enter Tryz.func52, Tryz.ntmps52
    go_wp2_with fail
    refine (HC.out _ hB0).mono ?_
    rintro e u1 ⟨rfl, hb⟩
    have hB1 := hB0.trans (hb.mono hB0.size)
    have hR := heap_below hb (heap_lt R1.out) R1.out
    have zR : w.heap.size + 1 < u1.heap.size := heap_lt hR
    clear hb q0 q1 q2 q3 q4 q5 q6 q7 q8 q9 q10 ql
    go_wp2_with fail
    have hW2 : BareRel w (u1.alloc (.cells #[.int .i8 a.kind, .string a.name, .string a.arg, .int .i64 a.num, .int .i8 a.tk, .slice q.TA q.tn q.tc, .int .i8 a.uk, .slice q.UA q.un q.uc, .int .i64 a.label, .int .i64 a.pos, .slice q.A q.n q.c] 28)) u1.heap.size (w.heap.size + 1) a q := ⟨heap_new u1 _, heap_old hR _, hB1.alloc hB1.size _, by omega, by omega⟩
    generalize u1.alloc (.cells #[.int .i8 a.kind, .string a.name, .string a.arg, .int .i64 a.num, .int .i8 a.tk, .slice q.TA q.tn q.tc, .int .i8 a.uk, .slice q.UA q.un q.uc, .int .i64 a.label, .int .i64 a.pos, .slice q.A q.n q.c] 28) = w2 at *
    generalize u1.heap.size = B at *
    have HW2 := Lib.hid hW2
    have hbl := heap_lt hW2.bx
    have hrl := heap_lt hW2.rx
    have hg := hW2.gt
    clear hW2 hR hB0 hB1 zR
    have CN := Lib.hid (fun (W : World) (hb : Below w.heap.size w W) => clone_any a.name (HI.out W hb).fit.nm W)
    have CM := Lib.hid (fun (W : World) (hb : Below w.heap.size w W) => clone_any a.arg (HI.out W hb).fit.ar W)
    go_cut [8] (fun _ wx => BareRel w wx B (w.heap.size + 1) a q)
    case first =>
      have D0 : Below w2.heap.size w2 w2.drew := (Below.refl _ _).drew
      have E0 : Below w.heap.size w w2.drew := HW2.out.below.drew
      obtain ⟨q0, q1, q2, q3, q4, q5, q6, q7, q8, q9, q10, ql⟩ := own11 HW2.out.bx
      go_region_law (first
        | (go_simp; go_at_call 82; (with_reducible refine (CN.out _ E0).mono ?_); rintro e u1 ⟨rfl, hb⟩; have D1 := D0.trans (hb.mono D0.size); have E1 := E0.trans (hb.mono E0.size); have z1 := Nat.lt_of_lt_of_le hbl D1.size; obtain ⟨a0, a1, a2, a3, a4, a5, a6, a7, a8, a9, a10, al⟩ := own11 (heap_below D1 hbl HW2.out.bx); clear hb; go_wp2_with fail)
        | (go_simp; go_at_call 82; (with_reducible refine (CM.out _ E1).mono ?_); rintro e u2 ⟨rfl, hb⟩; have D2 := D1.trans (hb.mono D1.size); have E2 := E1.trans (hb.mono E1.size); have z2 := Nat.lt_of_lt_of_le hbl D2.size; have SB := Lib.hid (heap_below D2 hbl HW2.out.bx); have SR := Lib.hid (heap_below D2 hrl HW2.out.rx); obtain ⟨b0, b1, b2, b3, b4, b5, b6, b7, b8, b9, b10, bl⟩ := own11 SB.out; have f0 := free11 SB.out 0; have f1 := free11 SB.out 1; have f2 := free11 SB.out 2; have f3 := free11 SB.out 3; have f4 := free11 SB.out 4; have f5 := free11 SB.out 5; have f6 := free11 SB.out 6; have f7 := free11 SB.out 7; have f8 := free11 SB.out 8; have f9 := free11 SB.out 9; have f10 := free11 SB.out 10; clear hb; go_wp2_with fail))
      all_goals
        go_wp2_with fail
        go_meet
        exact BareRel.names SB.out SR.out E2 hg HW2.out.ne
    case rest =>
      clear hbl hrl HW2 CN CM
      have HC3 := Lib.hid hcut
      have hbl := heap_lt hcut.bx
      have hrl := heap_lt hcut.rx
      clear hcut
      go_wp2_with fail
      have CT := Lib.hid (fun (W : World) (hb : Below w.heap.size w W) => copied_any (Ty.nodes a.tkids + 1) a.tk a.tkids q.TA q.tn q.tc W (by omega) (HI.out W hb).fit.ty hcs.1)
      have CU := Lib.hid (fun (W : World) (hb : Below w.heap.size w W) => copied_any (Ty.nodes a.ukids + 1) a.uk a.ukids q.UA q.un q.uc W (by omega) (HI.out W hb).fit.to hcs.2)
      have hlp := (HI.out _ HC3.out.below).fit
      obtain ⟨wo, rfl⟩ : ∃ wo : World, wo = wc := ⟨_, rfl⟩
      go_cut [16] (fun _ wx => ∃ q2, BareRel2 w wx B (w.heap.size + 1) a q q2)
      case first =>
        have D0 : Below wo.heap.size wo wo.drew := (Below.refl _ _).drew
        have E0 : Below w.heap.size w wo.drew := HC3.out.below.drew
        obtain ⟨q0, q1, q2, q3, q4, q5, q6, q7, q8, q9, q10, ql⟩ := own11 HC3.out.bx
        go_region_law (first
          | (go_simp; go_at_call 83; (with_reducible refine (CT.out _ E0).mono ?_); rintro e u1 ⟨G1, m1, c1, rfl, hI1, hb⟩; have D1 := D0.trans (hb.mono D0.size); have E1 := E0.trans (hb.mono E0.size); have z1 := Nat.lt_of_lt_of_le hbl D1.size; have HI1 := Lib.hid hI1; obtain ⟨a0, a1, a2, a3, a4, a5, a6, a7, a8, a9, a10, al⟩ := own11 (heap_below D1 hbl HC3.out.bx); clear hb hI1; go_wp2_with fail)
          | (go_simp; go_at_call 83; (with_reducible refine (CU.out _ E1).mono ?_); rintro e u2 ⟨G2, m2, c2, rfl, hI2, hb⟩; have D2 := D1.trans (hb.mono D1.size); have E2 := E1.trans (hb.mono E1.size); have z2 := Nat.lt_of_lt_of_le hbl D2.size; have HI2 := Lib.hid hI2; have HB12 := Lib.hid hb; have SB := Lib.hid (heap_below D2 hbl HC3.out.bx); have SR := Lib.hid (heap_below D2 hrl HC3.out.rx); obtain ⟨b0, b1, b2, b3, b4, b5, b6, b7, b8, b9, b10, bl⟩ := own11 SB.out; have f0 := free11 SB.out 0; have f1 := free11 SB.out 1; have f2 := free11 SB.out 2; have f3 := free11 SB.out 3; have f4 := free11 SB.out 4; have f5 := free11 SB.out 5; have f6 := free11 SB.out 6; have f7 := free11 SB.out 7; have f8 := free11 SB.out 8; have f9 := free11 SB.out 9; have f10 := free11 SB.out 10; clear hb hI2; go_wp2_with fail))
        all_goals
          go_wp2_with fail
          go_meet
          exact ⟨_, BareRel.types SB.out SR.out E2 hg HC3.out.ne HI1.out (show B < wo.drew.heap.size from hbl) HB12.out HI2.out z1⟩
      case rest =>
        obtain ⟨q2, hq2⟩ := hcut
        have HQ := Lib.hid hq2
        have hbl := heap_lt hq2.rel.bx
        have hrl := heap_lt hq2.rel.rx
        have hne := hq2.rel.ne
        have CE := Lib.hid (fun (W : World) (hb : Below w.heap.size w W) => show Calls Tryz.prog 84 #[.slice q2.A q2.n q2.c, .func (Fn.func 52) #[] #[]] W (EachSp W kids) from by
          rw [HQ.out.A, HQ.out.n, HQ.out.c]
          exact tm_each_sp 52 kids q.A q.n q.c W (HI.out W hb).lies (HI.out W hb).fit.n_eq (HI.out W hb).fit.n_le (HI.out W hb).fit.c_le (by omega) cf_bare
            (fun h1 kd p1 W' e1 e2 e3 e4 => IH.out h1 kd p1 W' (by omega) e2 e3 (HS.out _ (hb.trans (e4.mono hb.size)))))
        have HG := Lib.hid hg
        have HNE := Lib.hid hne
        obtain ⟨q0, q1, q2, q3, q4, q5, q6, q7, q8, q9, q10, ql⟩ := own11 hq2.rel.bx
        clear hq2 CT CU hcs hlp HC3 HC IH HS hne R0 R1
        go_wp2_with fail
        refine (CE.out _ HQ.out.rel.below).mono ?_
        rintro e u3 ⟨G, m, cg, rfl, hL, hm, hmc, hcg, hb⟩
        have E3 := HQ.out.rel.below.trans (hb.mono HQ.out.rel.below.size)
        have HL := Lib.hid hL
        have HMM := Lib.hid hm
        have HUB := Lib.hid hb
        have SB := Lib.hid (heap_below hb hbl HQ.out.rel.bx)
        have SR := Lib.hid (heap_below hb hrl HQ.out.rel.rx)
        have z1 := Nat.lt_of_lt_of_le hbl hb.size
        have z2 := Nat.lt_of_lt_of_le hrl hb.size
        clear hb hL hm q0 q1 q2 q3 q4 q5 q6 q7 q8 q9 q10 ql
        obtain ⟨b0, b1, b2, b3, b4, b5, b6, b7, b8, b9, b10, bl⟩ := own11 SB.out
        obtain ⟨y0, y1, y2, y3, y4, y5, y6, y7, y8, y9, y10, yl⟩ := own11 SR.out
        have fb := free11 SB.out 10
        have f0 := free11 SR.out 0; have f1 := free11 SR.out 1; have f2 := free11 SR.out 2; have f3 := free11 SR.out 3; have f4 := free11 SR.out 4; have f5 := free11 SR.out 5; have f6 := free11 SR.out 6; have f7 := free11 SR.out 7; have f8 := free11 SR.out 8; have f9 := free11 SR.out 9; have f10 := free11 SR.out 10
        have hRB : w.heap.size + 1 < B := by have := HNE.out; omega
        go_wp2_with fail
        have hf := (HI.out _ HQ.out.rel.below).fit
        refine bodyPost_ret (v := .agg #[.int .i8 a.kind, .string a.name, .string a.arg, .int .i64 a.num, .int .i8 a.tk, .slice q2.TA q2.tn q2.tc, .int .i8 a.uk, .slice q2.UA q2.un q2.uc, .int .i64 a.label, .int .i64 a.pos, .slice G m cg]) (by simp [results, Tryz.results52, go_sem, *]) rfl ⟨⟨q2.TA, q2.tn, q2.tc, q2.UA, q2.un, q2.uc, G, m, cg⟩, rfl, ?_, ?_⟩
        · exact bare_end (B := B) HQ.out.rel.below HQ.out.ty HQ.out.tu HUB.out hRB hbl hf.klo hf.khi hf.llo hf.lhi hf.nm hf.ar HL.out (by rw [Tm.len_bF]; exact HMM.out) hmc hcg (fun b h1 h2 => bare_heap h1 h2) bare_size
        · exact below_only11 (E3.setCell (p := ⟨B, 10, none⟩) (Nat.le_of_lt HG.out) _) (by omega) _ _ _ _ _ _ _ _ _ _ _
end Go.Proofs.YtmcmdlaedpdoiaaGreatDoor
