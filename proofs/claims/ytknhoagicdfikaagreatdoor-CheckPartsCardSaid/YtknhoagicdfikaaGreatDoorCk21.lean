/-
  Layer 9: the kids' types, told one behind the other, in a row that grows.
-/
import Derived.Test.YtknhoagicdfikaaGreatDoorCkO1
import Derived.Test.YtknhoagicdfikaaGreatDoorM21
import Derived.Test.YtknhoagicdfikaaGreatDoorCkO3
import Derived.Test.YtknhoagicdfikaaGreatDoorM20
import Derived.Test.YtknhoagicdfikaaGreatDoorCk20
import Derived.Test.YtknhoagicdfikaaGreatDoorM17
import Derived.Test.YtknhoagicdfikaaGreatDoorM4
import Derived.Test.YtknhoagicdfikaaGreatDoorM22
namespace Go.Proofs.YtknhoagicdfikaaGreatDoor
open Go.RowKit
namespace Ck
/-- a term's own fields are right -/
theorem headOk_of {h : Hd} {kids : Tm} (h0 : Tm.okT h kids = true) : Tm.headOk h (Tm.len kids) = true := by
  unfold Tm.okT at h0
  rw [Bool.and_eq_true] at h0
  exact h0.1
/-- the kids are told from the left, then what stands over them -/
def seqT (F : Hd → Tm → Env → R) (l : Env) (f : List T2 → R) : Tm → List T2 → R
  | .nil, acc => f acc
  | .node h k r, acc => bnd (F h k l) fun a => seqT F l f r (acc ++ [a])
def overL (D : Cg.Ops) (h : Hd) (ts : List T2) : R := Cg.over D h (ts.getD 0 (0, .nil)) (ts.getD 1 (0, .nil)) (ts.getD 2 (0, .nil))
def isOver (k : Int) : Prop := k = 6 ∨ k = 8 ∨ k = 9 ∨ k = 10 ∨ k = 11 ∨ k = 12 ∨ k = 13 ∨ k = 15 ∨ k = 16 ∨ k = 17
theorem seq1 {F : Hd → Tm → Env → R} {l : Env} {f : List T2 → R} {kids : Tm} (hn : Tm.len kids = 1) : seqT F l f kids [] = bnd (F (k1 kids).1 (k1 kids).2 l) fun a => f [a] := by
  match kids, hn with
  | .node h k .nil, _ => rfl
  | .node _ _ (.node _ _ _), hn => simp [Tm.len] at hn
theorem seq2 {F : Hd → Tm → Env → R} {l : Env} {f : List T2 → R} {kids : Tm} (hn : Tm.len kids = 2) : seqT F l f kids [] = bnd (F (k1 kids).1 (k1 kids).2 l) fun a => bnd (F (k2 kids).1 (k2 kids).2 l) fun b => f [a, b] := by
  match kids, hn with
  | .node h k (.node h' k' .nil), _ => rfl
  | .node _ _ .nil, hn => simp [Tm.len] at hn
  | .node _ _ (.node _ _ (.node _ _ _)), hn => simp [Tm.len] at hn
theorem seq3 {F : Hd → Tm → Env → R} {l : Env} {f : List T2 → R} {kids : Tm} (hn : Tm.len kids = 3) : seqT F l f kids [] = bnd (F (k1 kids).1 (k1 kids).2 l) fun a => bnd (F (k2 kids).1 (k2 kids).2 l) fun b => bnd (F (k3 kids).1 (k3 kids).2 l) fun c => f [a, b, c] := by
  match kids, hn with
  | .node h k (.node h' k' (.node h2 k2 .nil)), _ => rfl
  | .node _ _ .nil, hn => simp [Tm.len] at hn
  | .node _ _ (.node _ _ .nil), hn => simp [Tm.len] at hn
  | .node _ _ (.node _ _ (.node _ _ (.node _ _ _))), hn => simp [Tm.len] at hn
theorem raw_seq (D : Cg.Ops) (F : Hd → Tm → Env → R) (h : Hd) (kids : Tm) (l : Env) (hk : isOver h.kind) (hn : Tm.len kids = Tm.kidsN h.kind) : Cg.raw D F h kids l = seqT F l (overL D h) kids [] := by
  rcases hk with hk | hk | hk | hk | hk | hk | hk | hk | hk | hk <;> rw [hk] at hn
  · rw [Cg.raw_6 D F h kids l hk, seq2 hn]; rfl
  · rw [Cg.raw_8 D F h kids l hk, seq3 hn]; rfl
  · rw [Cg.raw_9 D F h kids l hk, seq2 hn]; rfl
  · rw [Cg.raw_10 D F h kids l hk, seq1 hn]; rfl
  · rw [Cg.raw_11 D F h kids l hk, seq1 hn]; rfl
  · rw [Cg.raw_12 D F h kids l hk, seq1 hn]; rfl
  · rw [Cg.raw_13 D F h kids l hk, seq1 hn]; rfl
  · rw [Cg.raw_15 D F h kids l hk, seq2 hn]; rfl
  · rw [Cg.raw_16 D F h kids l hk, seq1 hn]; rfl
  · rw [Cg.raw_17 D F h kids l hk, seq1 hn]; rfl
/-- types, as cells -/
def TFlat (Q : Nat → Prop) (w : World) : List T2 → List Value → Prop
  | [], [] => True
  | t :: ts, a :: b :: xs => (a = .int .i8 t.1 ∧ ∃ G m c, b = .slice G m c ∧ Ly Q w t G m c) ∧ TFlat Q w ts xs
  | _, _ => False
theorem TFlat.to {Q Q' : Nat → Prop} {w w' : World} (hq : ∀ b o v, Q b → w.cell? ⟨b, o, none⟩ = some v → Q' b ∧ w'.cell? ⟨b, o, none⟩ = some v) : ∀ {ts : List T2} {xs : List Value}, TFlat Q w ts xs → TFlat Q' w' ts xs
  | [], [], _ => trivial
  | _ :: _, _ :: _ :: _, ⟨⟨h1, G, m, c, h2, h3⟩, h4⟩ => ⟨⟨h1, G, m, c, h2, Lone.to h3 hq⟩, TFlat.to hq h4⟩
  | [], _ :: _, h => h.elim
  | _ :: _, [], h => h.elim
  | _ :: _, [_], h => h.elim
theorem TFlat.snoc {Q : Nat → Prop} {w : World} {t : T2} {G : Option Addr} {m c : Nat} (ht : Ly Q w t G m c) : ∀ {ts : List T2} {xs : List Value}, TFlat Q w ts xs → TFlat Q w (ts ++ [t]) (xs ++ [.int .i8 t.1, .slice G m c])
  | [], [], _ => ⟨⟨rfl, G, m, c, rfl, ht⟩, trivial⟩
  | _ :: _, _ :: _ :: _, ⟨h1, h4⟩ => ⟨h1, TFlat.snoc ht h4⟩
  | [], _ :: _, h => h.elim
  | _ :: _, [], h => h.elim
  | _ :: _, [_], h => h.elim
theorem TFlat.at {Q : Nat → Prop} {w : World} : ∀ {ts : List T2} {xs : List Value}, TFlat Q w ts xs → ∀ (i : Nat) (t : T2), ts[i]? = some t → xs[i * 2]? = some (.int .i8 t.1) ∧ ∃ G m c, xs[i * 2 + 1]? = some (.slice G m c) ∧ Ly Q w t G m c
  | [], [], _, i, x, h => by simp at h
  | y :: _, _ :: _ :: _, ⟨⟨h1, G, m, c, h3, h4⟩, h5⟩, i, x, h => by
    cases i with
    | zero =>
      rw [List.getElem?_cons_zero] at h
      injection h with h; subst h
      exact ⟨by simp [h1], G, m, c, by simp [h3], h4⟩
    | succ i =>
      rw [List.getElem?_cons_succ] at h
      have q := TFlat.at h5 i x h
      rw [show (i + 1) * 2 = i * 2 + 2 by omega, show i * 2 + 2 + 1 = i * 2 + 1 + 2 by omega]
      simpa using q
  | [], _ :: _, h, _, _, _ => h.elim
  | _ :: _, [], h, _, _, _ => h.elim
  | _ :: _, [_], h, _, _, _ => h.elim
/-- a round's state -/
structure KRel (C : Prop) (P : Nat → Prop) (wb w1 wr : World) (A : Option Addr) (F : Hd → Tm → Env → R) (l : Env) (f : List T2 → R) (RR : R) (kids : Tm) (v : Value) (n i : Nat) (rest : Tm) (ts : List T2) (xs : List Value) : Prop where
  eq : seqT F l f rest ts = RR
  len : ts.length = i
  i_eq : i + Tm.len rest = n
  lies : Tm.Lies wb rest A i
  below : Below w1.heap.size w1 wr
  own : wr.ownsRow w1.heap.size 25 2 v i xs
  flat : TFlat (fun b => P b ∧ v.ownBlock ≠ some b) wr ts xs
  okF : Tm.okF rest = true
  cast : C ∨ castF rest = false
  oks : ∀ t ∈ ts, Ty.okT t.1 t.2 = true
  sub : Tm.nodes rest ≤ Tm.nodes kids
theorem KRel.step {C : Prop} {P : Nat → Prop} {wb w1 wr u w3 : World} {A : Option Addr} {F : Hd → Tm → Env → R} {l : Env} {f : List T2 → R} {RR : R} {kids : Tm} {v v' : Value} {n i : Nat} {h : Hd} {k r : Tm} {ts : List T2} {xs : List Value} {t : T2} {G : Option Addr} {m c : Nat} {o1 o2 : Obj}
    (hr : KRel C P wb w1 wr A F l f RR kids v n i (.node h k r) ts xs) (hok : Ty.okT t.1 t.2 = true) (he : F h k l = .ok t) (hb : Below (wr.alloc o1).heap.size (wr.alloc o1) u) (hI : Ly (Cut (fun b => P b ∧ v.ownBlock ≠ some b) (wr.alloc o1).heap.size (wr.alloc o1).heap.size) u t G m c) (hP : ∀ b, wr.heap.size ≤ b → P b)
    (hown : w3.ownsRow w1.heap.size 25 2 v' (i + 1) (xs ++ [.int .i8 t.1, .slice G m c])) (hg : (u.alloc o2).grownBy w3 v.ownBlock) (hat : v'.ownBlock = v.ownBlock ∨ v'.ownBlock = some (u.alloc o2).heap.size) (hl : Tm.Lies wb r A (i + 1)) :
    KRel C P wb w1 w3 A F l f RR kids v' n (i + 1) r (ts ++ [t]) (xs ++ [.int .i8 t.1, .slice G m c]) := by
  obtain ⟨h1, h2, h3, h4, h5, h6, h7, h8, h9, h11, h10⟩ := hr
  simp only [Tm.len, Tm.nodes] at h3 h10
  have hlt := h6.lt
  have hs1 : wr.heap.size < (wr.alloc o1).heap.size := by simp
  have hs2 := hb.size
  have hs3 : u.heap.size < (u.alloc o2).heap.size := by simp
  have hwu : Below wr.heap.size wr (u.alloc o2) := (((Below.refl _ _).alloc (Nat.le_refl _) o1).trans (hb.mono (by omega))).alloc (by omega) o2
  have hokk := okF_node' h8
  have h9 := h9.imp id fun q => (show castF r = false by simp only [castF, Bool.or_eq_false_iff] at q; exact q.2)
  refine ⟨?_, by rw [List.length_append, h2]; rfl, by omega, hl, ?_, hown, ?_, hokk.2, h9, fun x hx => ?_, by omega⟩
  · rw [← h1]
    show _ = bnd (F h k l) _
    rw [he]; rfl
  · exact (h5.trans (hwu.mono h5.size)).grown hg (Nat.le_trans h5.size hwu.size) fun q hq => (hlt q hq).1
  · refine TFlat.snoc (Lone.to hI fun b' o' x hP' hx => ?_) (h7.to fun b' o' x hP' hx => ?_)
    · have hbl := Ty.cell_lt hx
      have hne : some b' ≠ v.ownBlock := fun e => by
        rcases hP' with ⟨⟨_, q⟩, _⟩ | q
        · exact q e.symm
        · have := (hlt b' e.symm).2; omega
      refine ⟨⟨?_, fun e => ?_⟩, ?_⟩
      · rcases hP' with ⟨⟨q, _⟩, _⟩ | q
        · exact q
        · exact hP b' (by omega)
      · rcases hat with q | q
        · exact hne (by rw [← q, e])
        · rw [q] at e; injection e with e; omega
      · rw [World.cell?_of_block (hg.block b' (by omega) hne), ((Below.refl u.heap.size u).alloc (Nat.le_refl _) o2).cell (p := ⟨b', o', none⟩) hbl]; exact hx
    · have hbl := Ty.cell_lt hx
      have hne : some b' ≠ v.ownBlock := fun e => hP'.2 e.symm
      refine ⟨⟨hP'.1, fun e => ?_⟩, ?_⟩
      · rcases hat with q | q
        · exact hP'.2 (by rw [← q, e])
        · rw [q] at e; injection e with e; have := hwu.size; omega
      · rw [World.cell?_of_block (hg.block b' (Nat.lt_of_lt_of_le hbl hwu.size) hne), hwu.cell (p := ⟨b', o', none⟩) hbl]; exact hx
  · rcases List.mem_append.1 hx with q | q
    · exact h11 x q
    · rw [List.mem_singleton.1 q]; exact hok
/-- at the end: the row -/
theorem KRel.row {C : Prop} {P : Nat → Prop} {wb w1 wr : World} {A : Option Addr} {F : Hd → Tm → Env → R} {l : Env} {f : List T2 → R} {RR : R} {kids : Tm} {v : Value} {n i : Nat} {ts : List T2} {xs : List Value} (hr : KRel C P wb w1 wr A F l f RR kids v n i .nil ts xs) (hi : 0 < i) (hP : ∀ b, w1.heap.size ≤ b → P b) :
    ∃ Y cap, v = .slice (some ⟨Y, 0, none⟩) ts.length cap ∧ Row P wr ts Y ∧ ts.length ≤ cap ∧ cap ≤ maxLen ∧ f ts = RR := by
  obtain ⟨h1, h2, h3, h4, h5, h6, h7, h8, h9, h11, h10⟩ := hr
  rcases h6.2 with ⟨-, h0⟩ | ⟨g, cap, cur, hv, hb0, hg, hc1, hc2, -, -⟩
  · omega
  · refine ⟨g, cap, by rw [hv, h2], ⟨hP g hb0, heap_lt hg, fun j t ht => ?_⟩, by omega, hc2, h1⟩
    obtain ⟨q1, G, m, c, q2, q3⟩ := h7.at j t ht
    have hc := h6.cells (g := g) (by rw [hv]; rfl)
    have e : ∀ j : Nat, (⟨g, 0, none⟩ : Addr).add j = ⟨g, j, none⟩ := fun j => by unfold Addr.add; by_cases h : j = 0 <;> simp [h]
    have c1 := hc _ _ q1
    have c2 := hc _ _ q2
    rw [e] at c1 c2
    exact ⟨G, m, c, c1, c2, q3.weak fun b _ hq => hq.1⟩
end Ck
theorem len1 {α : Type} {ts : List α} (h : ts.length = 1) : ∃ a, ts = [a] := by
  match ts, h with
  | [a], _ => exact ⟨a, rfl⟩
theorem len2 {α : Type} {ts : List α} (h : ts.length = 2) : ∃ a b, ts = [a, b] := by
  match ts, h with
  | [a, b], _ => exact ⟨a, b, rfl⟩
theorem len3 {α : Type} {ts : List α} (h : ts.length = 3) : ∃ a b c, ts = [a, b, c] := by
  match ts, h with
  | [a, b, c], _ => exact ⟨a, b, c, rfl⟩
theorem ckover_any (rv : Cg.Rv) (Q : Nat → Prop) (h : Hd) (p : Pl) (ts : List Ck.T2) (Y cap : Nat) (w : World) (hk : Ck.isOver h.kind) (hn : ts.length = Tm.kidsN h.kind) (hR : Ck.Row Q w ts Y) (hS : Shapes w) (hcap : ts.length ≤ cap ∧ cap ≤ maxLen) (hoks : ∀ t ∈ ts, Ty.okT t.1 t.2 = true) (hokT : Ck.isOver h.kind → h.kind = 12 ∨ h.kind = 13 → Ty.okT (Ck.TT h).1 (Ck.TT h).2 = true) (hT : Ck.Ly Q w (Ck.TT h) p.TA p.tn p.tc) (hU : Ck.Ly Q w (Ck.UU h) p.UA p.un p.uc) (hca : h.kind = 17 → rv.D.ca = true) :
    Calls Tryz.prog 77 #[.agg #[.func (Fn.func rv.fr) #[] rv.cpt, .func (Fn.func rv.fa) #[] #[], .func (Fn.func rv.fm) #[] #[], .func (Fn.func rv.ft) #[] #[], rv.vg], .agg #[.int .i8 h.kind, .string h.name, .string h.arg, .int .i64 h.num, .int .i8 h.tk, .slice p.TA p.tn p.tc, .int .i8 h.uk, .slice p.UA p.un p.uc, .int .i64 h.label, .int .i64 h.pos, .slice p.A p.n p.c], .slice (some ⟨Y, 0, none⟩) ts.length cap] w (Ck.Post Q w (Ck.overL rv.D h ts)) := by
  have hokT := hokT hk
  rcases hk with hk | hk | hk | hk | hk | hk | hk | hk | hk | hk <;> rw [hk] at hn
  · obtain ⟨a, b, rfl⟩ := len2 hn; exact ckover_6 rv Q h p a b Y 2 cap w hk rfl hR hS (hoks a (by simp))
  · obtain ⟨a, b, c, rfl⟩ := len3 hn; exact ckover_8 rv Q h p a b c Y 3 cap w hk rfl hR hS
  · obtain ⟨a, b, rfl⟩ := len2 hn; exact ckover_9 rv Q h p a b Y 2 cap w hk rfl hR hS hcap
  · obtain ⟨a, rfl⟩ := len1 hn; exact ckover_10 rv Q h p a Y 1 cap w hk rfl hR hS (hoks a (by simp))
  · obtain ⟨a, rfl⟩ := len1 hn; exact ckover_11 rv Q h p a Y 1 cap w hk rfl hR hS (hoks a (by simp))
  · obtain ⟨a, rfl⟩ := len1 hn; exact ckover_12 rv Q h p a Y 1 cap w hk rfl hR hS hT (hokT (.inl hk))
  · obtain ⟨a, rfl⟩ := len1 hn; exact ckover_13 rv Q h p a Y 1 cap w hk rfl hR hS hT (hokT (.inr hk))
  · obtain ⟨a, b, rfl⟩ := len2 hn; exact ckover_15 rv Q h p a b Y 2 cap w hk rfl hR hS
  · obtain ⟨a, rfl⟩ := len1 hn; exact ckover_16 rv Q h p a Y 1 cap w hk rfl hR hS hT
  · obtain ⟨a, rfl⟩ := len1 hn; exact ckover_17 rv Q h p a Y 1 cap w hk rfl hR hS hT hU (hca hk)

set_option maxHeartbeats 2000000 in
set_option maxRecDepth 100000 in
/-- a term that binds no name and has kids -/
theorem cktype_over (rv : Cg.Rv) (K : Nat) (Q : Nat → Prop) (h : Hd) (kids : Tm) (p : Pl) (l : Ck.Env) (A : Option Addr) (n c : Nat) (wb w : World) (hIs : Tm.Is wb h kids p) (hwb : Below wb.heap.size wb w) (hQ : ∀ b, b < wb.heap.size → Q b) (hS : Shapes w) (hE : Ck.EAt Q w l A n c)
    (ho : Tm.okT h kids = true) (hc : rv.D.ca = true ∨ Ck.castT h kids = false) (hk : Ck.isOver h.kind) (hb : l.length + 2 * (Tm.nodes kids + 1) ≤ 20000)
    (IH : ∀ (h1 : Hd) (k1 : Tm) (q : Pl), Tm.nodes k1 < Tm.nodes kids → Tm.Is wb h1 k1 q → Tm.okT h1 k1 = true → (rv.D.ca = true ∨ Ck.castT h1 k1 = false) → Ck.TellsOf rv K wb h1 k1 q) :
    Calls Tryz.prog 49 #[.agg #[.func (Fn.func rv.fr) #[] rv.cpt, .func (Fn.func rv.fa) #[] #[], .func (Fn.func rv.fm) #[] #[], .func (Fn.func rv.ft) #[] #[], rv.vg], .agg #[.int .i8 h.kind, .string h.name, .string h.arg, .int .i64 h.num, .int .i8 h.tk, .slice p.TA p.tn p.tc, .int .i8 h.uk, .slice p.UA p.un p.uc, .int .i64 h.label, .int .i64 h.pos, .slice p.A p.n p.c], .slice A n c] w (Ck.Post Q w (Cg.raw rv.D (Cg.ty rv.D K) h kids l)) := by
  obtain ⟨hik, hlen, hokF⟩ := Ck.okT_parts ho
  have hcF := hc.imp id fun q => (Ck.castT_parts q).2
  have HCA := Lib.hid (fun (e : h.kind = 17) => hc.elim id fun q => absurd e (Ck.castT_parts q).1)
  rw [Ck.raw_seq _ _ _ _ _ hk hlen]
  obtain ⟨RR, hRR⟩ : ∃ RR, Ck.seqT (Cg.ty rv.D K) l (Ck.overL rv.D h) kids [] = RR := ⟨_, rfl⟩
  rw [hRR]
  have hkid0 : 0 < Tm.kidsN h.kind := by rcases hk with hk | hk | hk | hk | hk | hk | hk | hk | hk | hk <;> rw [hk] <;> decide
  have e0 : (h.kind == 0) = false ∧ (h.kind == 1) = false ∧ (h.kind == 2) = false ∧ (h.kind == 3) = false ∧ (h.kind == 4) = false ∧ (h.kind == 5) = false ∧ (h.kind == 7) = false ∧ (h.kind == 14) = false := by
    rcases hk with hk | hk | hk | hk | hk | hk | hk | hk | hk | hk <;> rw [hk] <;> decide
  obtain ⟨e0, e1, e2, e3, e4, e5, e7, e14⟩ := e0
  have hpn := hIs.fit.n_eq
  have hpc := hIs.fit.n_le
  have hpm := hIs.fit.c_le
  have i5 : (p.n : Int) ≤ 9223372036854775807 := by unfold maxLen at hpm; omega
  obtain ⟨w1, hw1, hB3, x0, x1, x2, hz⟩ := boxes3 w (.cells #[.func (Fn.func rv.fr) #[] rv.cpt, .func (Fn.func rv.fa) #[] #[], .func (Fn.func rv.fm) #[] #[], .func (Fn.func rv.ft) #[] #[], rv.vg] 47) (.cells #[.int .i8 h.kind, .string h.name, .string h.arg, .int .i64 h.num, .int .i8 h.tk, .slice p.TA p.tn p.tc, .int .i8 h.uk, .slice p.UA p.un p.uc, .int .i64 h.label, .int .i64 h.pos, .slice p.A p.n p.c] 28) (.cells #[.int .i8 0, .slice none 0 0] 25)
  have HW1 := Lib.hid hw1
  have H0 := Lib.hid x0
  have H1 := Lib.hid x1
  have H2 := Lib.hid x2
  have HZ := Lib.hid hz
  have HWB := Lib.hid (hwb.trans (hB3.mono hwb.size))
  have HS := Lib.hid (hS.below hB3)
  have hfrom := Lib.hid (fun (W : World) (hb : Below w1.heap.size w1 W) => hB3.trans (hb.mono hB3.size))
  have HQM : Hid (∀ b, b < wb.heap.size → Ck.Cut Q w.heap.size (w.heap.size + 3) b) := Lib.hid (fun b hb => .inl ⟨hQ b hb, Nat.lt_of_lt_of_le hb hwb.size⟩)
  have HE : Hid (Ck.EAt (Ck.Cut Q w.heap.size (w.heap.size + 3)) w1 l A n c) := Lib.hid ((hE.weak (fun b hb hq => .inl ⟨hq, hb⟩)).below hB3)
  have HT : Hid (Ck.Ly (Ck.Cut Q w.heap.size (w.heap.size + 3)) w1 (Ck.TT h) p.TA p.tn p.tc) := Lib.hid (((Ck.Ly.of (a := Ck.TT h) hIs.fit.ty).weak (fun b hb _ => HQM.out b hb)).later HWB.out)
  have HU : Hid (Ck.Ly (Ck.Cut Q w.heap.size (w.heap.size + 3)) w1 (Ck.UU h) p.UA p.un p.uc) := Lib.hid (((Ck.Ly.of (a := Ck.UU h) hIs.fit.to).weak (fun b hb _ => HQM.out b hb)).later HWB.out)
  have HST : Hid (Ck.KRel (rv.D.ca = true) (Ck.Cut Q w.heap.size (w.heap.size + 3)) wb w1 w1 p.A (Cg.ty rv.D K) l (Ck.overL rv.D h) RR kids (.slice none 0 0) p.n 0 kids [] []) := Lib.hid ⟨hRR, rfl, by omega, hIs.lies, Below.refl _ _, ⟨rfl, .inl ⟨rfl, rfl⟩⟩, trivial, hokF, hcF, (fun x hx => by cases hx), Nat.le_refl _⟩
  have HK := Lib.hid hk
  have HOKT := Lib.hid (fun (_ : Ck.isOver h.kind) (hq : h.kind = 12 ∨ h.kind = 13) => (show Ty.okT (Ck.TT h).1 (Ck.TT h).2 = true from (Ty.chk_ok (Ck.tt_chk (Ck.headOk_of ho) (by rcases hq with hq | hq <;> rw [hq] <;> rfl))).1))
  have HIH := Lib.hid IH
  have HLEN := Lib.hid (show p.n = Tm.kidsN h.kind by omega)
  have HKN := Lib.hid hkid0
  have HBB := Lib.hid hb
  have hn3 : p.n ≤ 3 := by rw [hpn, hlen]; rcases hk with hk | hk | hk | hk | hk | hk | hk | hk | hk | hk <;> rw [hk] <;> decide
  obtain ⟨i0, hi, hz0, hz1, hz2⟩ := info_parts info_Type
  clear x0 x1 x2 hz hB3 hwb hS hE hQ IH hb hkid0 hRR hIs hokF hcF ho hc hik hlen hpn hpm hk
  go_enter Tryz.func49, Tryz.ntmps49
  go_upto_region 1 with fail
  rw [← HW1.out]
  clear hw1
  obtain ⟨q0, q1, q2, q3, q4, q5, q6, q7, q8, q9, q10, ql⟩ := own11 H1.out
  go_wp2_with fail
  clear q0 q1 q2 q3 q4 q5 q6 q7 q8 q9 q10 ql
  go_loopw [7, 65] (fun v7 v65 wr => ∃ (i : Nat) (rest : Tm) (ts : List Ck.T2) (xs : List Value), v65 = .int .i64 i ∧ Ck.KRel (rv.D.ca = true) (Ck.Cut Q w.heap.size (w.heap.size + 3)) wb w1 wr p.A (Cg.ty rv.D K) l (Ck.overL rv.D h) RR kids v7 p.n i rest ts xs) (fun _ v => fun _ => p.n - (intOf v).toNat)
  case atStart => exact ⟨0, kids, [], [], rfl, HST.out⟩
  case round =>
    obtain ⟨i, rest, ts, xs, rfl, hR⟩ := hrel
    have HRB := Lib.hid hR.below
    cases rest with
    | nil =>
      have hi2 : i = p.n := by have := hR.i_eq; simpa [Tm.len] using this
      have hts := hR.len
      obtain ⟨Y, cap, rfl, hrow, hcp1, hcp2, hfin⟩ := hR.row (by have := HLEN.out; have := HKN.out; omega) (fun b hb => .inr (by have := HZ.out; omega))
      have CO := Lib.hid (ckover_any rv (Ck.Cut Q w.heap.size (w.heap.size + 3)) h p ts Y cap wr HK.out (by have := HLEN.out; omega) hrow (HS.out.below HRB.out) ⟨hcp1, hcp2⟩ hR.oks HOKT.out (HT.out.later HRB.out) (HU.out.later HRB.out) HCA.out)
      have HFIN := Lib.hid hfin
      have H0r := heap_below HRB.out (heap_lt H0.out) H0.out
      have H1r := heap_below HRB.out (heap_lt H1.out) H1.out
      have H2r := Lib.hid (heap_below HRB.out (heap_lt H2.out) H2.out)
      obtain ⟨r0, r1, r2, r3, r4, -, -, -, -, -, rl⟩ := own5 H0r
      obtain ⟨q0, q1, q2, q3, q4, q5, q6, q7, q8, q9, q10, ql⟩ := own11 H1r
      clear hR hrow hcp1 hcp2 hfin H0r H1r hts
      subst hi2
      go_wp2_with fail
      refine CO.out.mono ?_
      rintro e w5 hg
      rw [HFIN.out] at hg
      rcases Ck.Post.split hg with ⟨E, pp, x, hr1, hg⟩ | ⟨t1, hr1, hg⟩
      · have HP : Ck.Post Q w RR e w5 := by rw [hr1]; exact Ck.Gave.from hg (hfrom.out wr HRB.out)
        obtain ⟨g, rfl, -⟩ := hg
        clear hr1 r0 r1 r2 r3 r4 rl q0 q1 q2 q3 q4 q5 q6 q7 q8 q9 q10 ql
        go_wp2_with fail
        exact ⟨rfl, HP⟩
      · obtain ⟨G, m, cg, rfl, hl, hb⟩ := hg
        have HL := Lib.hid hl
        have HB := Lib.hid hb
        have H5 := Lib.hid (heap_below hb (heap_lt H2r.out) H2r.out)
        have hzz := HZ.out
        have hsr := HRB.out.size
        clear hl hb hg r0 r1 r2 r3 r4 rl q0 q1 q2 q3 q4 q5 q6 q7 q8 q9 q10 ql
        obtain ⟨y0, y1, f0, f1, yl⟩ := own2 H5.out
        go_wp2_with fail
        have z3 := set_two H5.out (.int .i8 t1.1) (.slice G m cg)
        obtain ⟨k0, k1, -, -, -⟩ := own2 z3
        refine bodyPost_ret (v := .agg #[.int .i8 t1.1, .slice G m cg]) (by simp [results, Tryz.results49, go_sem, k0, k1]) rfl ?_
        rw [hr1]
        exact ⟨G, m, cg, rfl, (HL.out.set2 (fun b hq => (Ck.Cut.in (by omega) hq).ne (by omega) (by omega)) _ _).weak (fun b _ hq => (Ck.Cut.in (by omega) hq).out (by omega)), below_set2 ((hfrom.out wr HRB.out).trans (HB.out.mono (hfrom.out wr HRB.out).size)) (by omega) _ _⟩
    | node h1 k1 r =>
      have hie := hR.i_eq
      have hli := hR.lies
      have hsb := hR.sub
      have hO := hR.own
      have hokr := Ck.okF_node' hR.okF
      have hcr := hR.cast
      have heq := hR.eq
      simp only [Tm.len, Tm.nodes] at hie hsb
      obtain ⟨bb, oo, q, hA, hcl, hft, hkl, hrl⟩ := hli
      have hkt := HIH.out h1 k1 q (by omega) ⟨hft, hkl⟩ hokr.1 (hcr.imp id fun q => by simp only [Ck.castF, Bool.or_eq_false_iff] at q; unfold Ck.castT; rw [q.1.1, q.1.2]; rfl)
      have hlt := hO.lt
      have hP0 : ∀ b, b < wb.heap.size → (Ck.Cut Q w.heap.size (w.heap.size + 3) b ∧ u7.ownBlock ≠ some b) := fun b hb => ⟨HQM.out b hb, fun e => by have h1 := (hlt b e).1; have h2 := HWB.out.size; omega⟩
      have hb9 : Below w1.heap.size w1 (wr.alloc (.cells #[.int .i8 h1.kind, .string h1.name, .string h1.arg, .int .i64 h1.num, .int .i8 h1.tk, .slice q.TA q.tn q.tc, .int .i8 h1.uk, .slice q.UA q.un q.uc, .int .i64 h1.label, .int .i64 h1.pos, .slice q.A q.n q.c] 28)) := HRB.out.alloc HRB.out.size _
      have hcall := hkt (fun b => Ck.Cut Q w.heap.size (w.heap.size + 3) b ∧ u7.ownBlock ≠ some b) l A n c _ (HWB.out.trans (hb9.mono HWB.out.size)) hP0 (HS.out.below hb9) ((HE.out.weak (fun b hb hq => ⟨hq, fun e => by have h1 := (hlt b e).1; omega⟩)).below hb9) (by have := HBB.out; omega)
      have hstp := fun t u w3 v' G m cg o2 hok he hb hI hown hg hat => Ck.KRel.step (u := u) (w3 := w3) (v' := v') (t := t) (G := G) (m := m) (c := cg) (o1 := .cells #[.int .i8 h1.kind, .string h1.name, .string h1.arg, .int .i64 h1.num, .int .i8 h1.tk, .slice q.TA q.tn q.tc, .int .i8 h1.uk, .slice q.UA q.un q.uc, .int .i64 h1.label, .int .i64 h1.pos, .slice q.A q.n q.c] 28) (o2 := o2) hR hok he hb hI (fun b hb => .inr (by have h1 := HZ.out; have h2 := HRB.out.size; omega)) hown hg hat hrl
      have d0 := keep_cell (hcl 0 _ rfl) (HWB.out.trans (HRB.out.mono HWB.out.size))
      have d1 := keep_cell (hcl 1 _ rfl) (HWB.out.trans (HRB.out.mono HWB.out.size))
      have d2 := keep_cell (hcl 2 _ rfl) (HWB.out.trans (HRB.out.mono HWB.out.size))
      have d3 := keep_cell (hcl 3 _ rfl) (HWB.out.trans (HRB.out.mono HWB.out.size))
      have d4 := keep_cell (hcl 4 _ rfl) (HWB.out.trans (HRB.out.mono HWB.out.size))
      have d5 := keep_cell (hcl 5 _ rfl) (HWB.out.trans (HRB.out.mono HWB.out.size))
      have d6 := keep_cell (hcl 6 _ rfl) (HWB.out.trans (HRB.out.mono HWB.out.size))
      have d7 := keep_cell (hcl 7 _ rfl) (HWB.out.trans (HRB.out.mono HWB.out.size))
      have d8 := keep_cell (hcl 8 _ rfl) (HWB.out.trans (HRB.out.mono HWB.out.size))
      have d9 := keep_cell (hcl 9 _ rfl) (HWB.out.trans (HRB.out.mono HWB.out.size))
      have d10 := keep_cell (hcl 10 _ rfl) (HWB.out.trans (HRB.out.mono HWB.out.size))
      rw [Nat.add_zero] at d0
      have HC := Lib.hid hcall
      have HSTP := Lib.hid hstp
      have HEQ := Lib.hid heq
      have j1 : (i : Int) < p.n := by omega
      have HAA := Lib.hid hA
      have HB9 := Lib.hid hb9
      have z4 := HRB.out.size
      obtain ⟨r0, r1, r2, r3, r4, -, -, -, -, -, rl⟩ := own5 (heap_below HRB.out (heap_lt H0.out) H0.out)
      clear hcall hstp hR hcl hft hkl hrl hkt hP0 hokr hcr heq hA hlt hsb hb9
      obtain ⟨TA, tn, tc, UA, un, uc, pA, pn, pc⟩ := p
      dsimp only at *
      obtain rfl : pA = some ⟨bb, oo, none⟩ := HAA.out
      clear HAA
      go_wp2_with fail
      refine HC.out.mono ?_
      rintro e u hg
      rcases Ck.Post.split hg with ⟨E, pp, x, hr1, hg⟩ | ⟨t1, hr1, hg⟩
      · have HP : Ck.Post Q w RR e u := by
          rw [← HEQ.out]
          show Ck.Post Q w (Ck.bnd (Cg.ty rv.D K h1 k1 l) _) e u
          rw [hr1]
          exact Ck.Gave.from hg (hfrom.out _ HB9.out)
        obtain ⟨g, rfl, -⟩ := hg
        clear r0 r1 r2 r3 r4 rl d0 d1 d2 d3 d4 d5 d6 d7 d8 d9 d10
        go_wp2_with fail
        exact ⟨rfl, HP⟩
      · obtain ⟨G, m, cg, rfl, hI, hb⟩ := hg
        have hs1 := hb.size
        have HI := Lib.hid hI
        have HB := Lib.hid hb
        have HR1 := Lib.hid hr1
        have hO2 := ownsRow_below (hO.alloc (.cells #[.int .i8 h1.kind, .string h1.name, .string h1.arg, .int .i64 h1.num, .int .i8 h1.tk, .slice q.TA q.tn q.tc, .int .i8 h1.uk, .slice q.UA q.un q.uc, .int .i64 h1.label, .int .i64 h1.pos, .slice q.A q.n q.c] 28)) hb
        clear hI hb hg hr1 r0 r1 r2 r3 r4 rl d0 d1 d2 d3 d4 d5 d6 d7 d8 d9 d10
        go_wp2_with (first | (at_builtin; refine wpList_append_own_at _ rfl (.tmp 69) (.tmp 74) 23 rfl w1.heap.size 25 i0 (.agg #[.int .i8 0, .slice none 0 0]) 2 32 Tryz.underlying23 hi hz0 hz1 hz2 rfl (by decide) u7 _ _ rfl (hO2.alloc _) ⟨u.heap.size, 0, none⟩ 1 1 [.int .i8 t1.1, .slice G m cg] rfl rfl ?c1 ?c2 ?c3 ?c4 ?c5 ?_))
        case c1 => exact cells_of_heap (heap_new u _)
        case c2 => intro x hx; simp at hx; rcases hx with rfl | rfl <;> rfl
        case c3 => unfold maxLen; omega
        case c4 => omega
        case c5 => simp at hs1 ⊢; omega
        intro v' w3 hown3 hg3 _ hat
        have hR3 := Lib.hid (HSTP.out t1 u w3 v' G m cg _ (Ty.chk_ok (Cg.ty_ok HR1.out)).1 HR1.out HB.out HI.out hown3 hg3 (by simpa using hat))
        clear hown3 hg3 hat hO2 hO
        go_wp2_with fail
        go_roundw
        case rel => exact ⟨i + 1, r, _, _, by go_num, hR3.out⟩
        case measure => simp [intOf]; omega

end Go.Proofs.YtknhoagicdfikaaGreatDoor
