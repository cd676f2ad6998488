/-
  A world with some blocks struck out: where a type, a term lies. terms.each over types; terms.copied. terms.each over terms.
-/
import Derived.Test.YtmcmdlaedpdoiaaGreatDoorM4
import Derived.Maps.AppendAt
import Derived.Test.YtmcmdlaedpdoiaaGreatDoorM5
import Derived.Test.YtmcmdlaedpdoiaaGreatDoorM9
import Derived.Deep.RegionLaw
import Derived.Deep.RegionHeld3
import Derived.Deep.DrawnRows
import Derived.Test.YtmcmdlaedpdoiaaGreatDoorM10
namespace Go.Proofs.YtmcmdlaedpdoiaaGreatDoor
open Go.RowKit

/-- the world with those blocks alone of which P holds -/
def mask (P : Nat → Bool) (w : World) : World := { w with heap := w.heap.mapIdx fun i o => if P i then o else .cells #[] 0 (0, 0) }
theorem mask_of {P : Nat → Bool} {w : World} {b o : Nat} {v : Value} (hP : P b = true) (h : w.cell? ⟨b, o, none⟩ = some v) : (mask P w).cell? ⟨b, o, none⟩ = some v := by
  unfold mask
  simp only [World.cell?, Array.getElem?_mapIdx] at h ⊢
  cases hb : w.heap[b]? with
  | none => simp [hb] at h
  | some x => rw [hb] at h; simpa [hP] using h
theorem mask_at {P : Nat → Bool} {w : World} {b o : Nat} {v : Value} (h : (mask P w).cell? ⟨b, o, none⟩ = some v) : P b = true ∧ w.cell? ⟨b, o, none⟩ = some v := by
  unfold mask at h
  simp only [World.cell?, Array.getElem?_mapIdx] at h ⊢
  cases hb : w.heap[b]? with
  | none => simp [hb] at h
  | some x =>
    rw [hb] at h
    cases hp : P b
    · simp [hp] at h
    · exact ⟨rfl, by simpa [hp] using h⟩
/-- what keeps the blocks that are looked into -/
theorem kept_mask {P P' : Nat → Bool} {w w' : World} (hk : ∀ b o v, P b = true → w.cell? ⟨b, o, none⟩ = some v → P' b = true ∧ w'.cell? ⟨b, o, none⟩ = some v) : Tm.Kept (mask P w) (mask P' w') := fun b _ o v h => by
  obtain ⟨h1, h2⟩ := mask_at h
  obtain ⟨h3, h4⟩ := hk b o v h1 h2
  exact mask_of h3 h4
namespace Ty
def app : Fo → Fo → Fo
  | .nil, g => g
  | .node a b k kids r, g => .node a b k kids (app r g)
theorem app_nil : ∀ f : Fo, app f .nil = f
  | .nil => rfl
  | .node a b k kids r => by simp only [app]; rw [app_nil r]
theorem app_snoc : ∀ (f : Fo) (a b : Nat) (k : Int) (kids r : Fo), app (app f (.node a b k kids .nil)) r = app f (.node a b k kids r)
  | .nil, _, _, _, _, _ => rfl
  | .node _ _ _ _ q, a, b, k, kids, r => by simp only [app]; rw [app_snoc q]
theorem len_snoc : ∀ (f : Fo) (a b : Nat) (k : Int) (kids : Fo), len (app f (.node a b k kids .nil)) = len f + 1
  | .nil, _, _, _, _ => rfl
  | .node _ _ _ _ q, a, b, k, kids => by simp only [app, len]; rw [len_snoc q]
/-- the cells of a list of types, each of which lies in the world -/
def Flat (w : World) : Fo → List Value → Prop
  | .nil, xs => xs = []
  | .node _ _ k kids r, xs => ∃ A m c ys, xs = .int .i8 k :: .slice A m c :: ys ∧ Is w k kids A m c ∧ Flat w r ys
theorem Flat.snoc {w : World} {a b : Nat} {k : Int} {kids : Fo} {A : Option Addr} {m c : Nat} (hI : Is w k kids A m c) : ∀ (f : Fo) (xs : List Value), Flat w f xs → Flat w (app f (.node a b k kids .nil)) (xs ++ [.int .i8 k, .slice A m c])
  | .nil, xs, h => by cases h; exact ⟨A, m, c, [], rfl, hI, rfl⟩
  | .node _ _ _ _ q, xs, h => by
    obtain ⟨A', m', c', ys, rfl, h1, h2⟩ := h
    exact ⟨A', m', c', _, rfl, h1, Flat.snoc hI q ys h2⟩
theorem Flat.kept {w w' : World} (hk : Tm.Kept w w') : ∀ (f : Fo) (xs : List Value), Flat w f xs → Flat w' f xs
  | .nil, _, h => h
  | .node _ _ _ _ q, _, h => by
    obtain ⟨A', m', c', ys, rfl, h1, h2⟩ := h
    exact ⟨A', m', c', ys, rfl, h1.kept hk, Flat.kept hk q ys h2⟩
theorem Flat.lies {w : World} {g : Nat} : ∀ (f : Fo) (xs : List Value) (i : Nat), Flat w f xs → (∀ j u, xs[j]? = some u → w.cell? ⟨g, i * 2 + j, none⟩ = some u) → Lies w f (some ⟨g, 0, none⟩) i
  | .nil, _, _, _, _ => trivial
  | .node _ _ k kids r, _, i, h, hc => by
    obtain ⟨A', m', c', ys, rfl, h1, h2⟩ := h
    refine ⟨g, 0, A', c', rfl, ⟨h1.lo, h1.hi⟩, by rw [Nat.zero_add]; exact hc 0 _ rfl, by rw [Nat.zero_add, ← h1.n_eq]; exact hc 1 _ rfl, by rw [← h1.n_eq]; exact h1.n_le, h1.c_le, h1.lies, ?_⟩
    exact Flat.lies r ys (i + 1) h2 fun j u hu => by
      have := hc (j + 2) u (by simpa using hu)
      rwa [show i * 2 + (j + 2) = (i + 1) * 2 + j by omega] at this
end Ty
end Go.Proofs.YtmcmdlaedpdoiaaGreatDoor
namespace Go.Proofs.YtmcmdlaedpdoiaaGreatDoor
open Go.RowKit

/-- a copied type: it lies in blocks from n0 on -/
def CopyTy (n0 : Nat) (w : World) (k : Int) (kids : Fo) (e : Ending) (w' : World) : Prop :=
  ∃ G m c, e = .returned (.agg #[.int .i8 k, .slice G m c]) ∧ Ty.Is (mask (fun b => decide (n0 ≤ b)) w') k kids G m c ∧ Below w.heap.size w w'
/-- a list of copied types -/
def EachTy (w : World) (kids : Fo) (e : Ending) (w' : World) : Prop :=
  ∃ G m c, e = .returned (.slice G m c) ∧ Ty.Lies (mask (fun b => decide (w.heap.size ≤ b)) w') kids G 0 ∧ m = Ty.len kids ∧ m ≤ c ∧ c ≤ maxLen ∧ Below w.heap.size w w'

/-- a round's state -/
structure EachRel (w wr : World) (A : Option Addr) (kids : Fo) (v : Value) (n i : Nat) (done rest : Fo) (xs : List Value) : Prop where
  eq : Ty.app done rest = kids
  len : Ty.len done = i
  i_eq : i + Ty.len rest = n
  lies : Ty.Lies w rest A i
  below : Below w.heap.size w wr
  own : wr.ownsRow w.heap.size 25 2 v i xs
  flat : Ty.Flat (mask (fun b => decide (w.heap.size ≤ b) && decide (v.ownBlock ≠ some b)) wr) done xs
  sub : Ty.nodes rest ≤ Ty.nodes kids

theorem EachRel.step {w wr u w3 : World} {A : Option Addr} {kids : Fo} {v v' : Value} {n i a b : Nat} {done r kd : Fo} {k : Int} {xs : List Value} {G : Option Addr} {m c : Nat} {o1 o2 : Obj}
    (h : EachRel w wr A kids v n i done (.node a b k kd r) xs) (hb : Below (wr.alloc o1).heap.size (wr.alloc o1) u) (hI : Ty.Is (mask (fun b => decide ((wr.alloc o1).heap.size ≤ b)) u) k kd G m c)
    (hown : w3.ownsRow w.heap.size 25 2 v' (i + 1) (xs ++ [.int .i8 k, .slice G m c])) (hg : (u.alloc o2).grownBy w3 v.ownBlock) (hat : v'.ownBlock = v.ownBlock ∨ v'.ownBlock = some (u.alloc o2).heap.size) (hl : Ty.Lies w r A (i + 1)) :
    EachRel w w3 A kids v' n (i + 1) (Ty.app done (.node a b k kd .nil)) r (xs ++ [.int .i8 k, .slice G m c]) := by
  obtain ⟨h1, h2, h3, h4, h5, h6, h7, h8⟩ := h
  simp only [Ty.len, Ty.nodes] at h3 h8
  have hlt := h6.lt
  have hs1 : wr.heap.size < (wr.alloc o1).heap.size := by simp
  have hs2 := hb.size
  have hs3 : u.heap.size < (u.alloc o2).heap.size := by simp
  have hwu : Below wr.heap.size wr (u.alloc o2) := (((Below.refl _ _).alloc (Nat.le_refl _) o1).trans (hb.mono (by omega))).alloc (by omega) o2
  refine ⟨by rw [Ty.app_snoc]; exact h1, by rw [Ty.len_snoc]; omega, by omega, hl, ?_, hown, ?_, by omega⟩
  · exact (h5.trans (hwu.mono h5.size)).grown hg (Nat.le_trans h5.size hwu.size) fun q hq => (hlt q hq).1
  · refine Ty.Flat.snoc (hI.kept (kept_mask fun b' o' x hP hx => ?_)) done xs (h7.kept (kept_mask fun b' o' x hP hx => ?_))
    · have hP' : (wr.alloc o1).heap.size ≤ b' := by simpa using hP
      have hbl := Ty.cell_lt hx
      have hne : some b' ≠ v.ownBlock := fun e => by have := (hlt b' e.symm).2; omega
      refine ⟨?_, ?_⟩
      · simp only [Bool.and_eq_true, decide_eq_true_eq]
        refine ⟨by have := h5.size; omega, fun e => ?_⟩
        rcases hat with q | q
        · exact hne (by rw [← q, e])
        · rw [q] at e; injection e with e; omega
      · rw [World.cell?_of_block (hg.block b' (by omega) hne), ((Below.refl u.heap.size u).alloc (Nat.le_refl _) o2).cell (p := ⟨b', o', none⟩) hbl]; exact hx
    · simp only [Bool.and_eq_true, decide_eq_true_eq] at hP
      have hbl := Ty.cell_lt hx
      have hne : some b' ≠ v.ownBlock := fun e => hP.2 e.symm
      refine ⟨?_, ?_⟩
      · simp only [Bool.and_eq_true, decide_eq_true_eq]
        refine ⟨hP.1, fun e => ?_⟩
        rcases hat with q | q
        · exact hP.2 (by rw [← q, e])
        · rw [q] at e; injection e with e; have := hwu.size; omega
      · rw [World.cell?_of_block (hg.block b' (Nat.lt_of_lt_of_le hbl hwu.size) hne), hwu.cell (p := ⟨b', o', none⟩) hbl]; exact hx

set_option maxHeartbeats 4000000 in
set_option maxRecDepth 100000 in
theorem ty_each_any (f : FuncId) (kids : Fo) (A : Option Addr) (n c : Nat) (w : World) (hL : Ty.Lies w kids A 0) (hn : n = Ty.len kids) (hnc : n ≤ c) (hc : c ≤ maxLen) (hsm : Ty.nodes kids ≤ 8192)
    (hcf : ∀ (args : Array Value) (W : World), (callFunc f args).run Tryz.prog W = .ok (.enter f args) W)
    (hf : ∀ (k' : Int) (kids' : Fo) (A' : Option Addr) (n' c' : Nat) (W : World), Ty.nodes kids' < Ty.nodes kids → Ty.Is W k' kids' A' n' c' → Below w.heap.size w W → Calls Tryz.prog f #[.agg #[.int .i8 k', .slice A' n' c']] W (CopyTy W.heap.size W k' kids')) :
    Calls Tryz.prog 105 #[.slice A n c, .func (Fn.func f) #[] #[]] w (EachTy w kids) := by
  have i5 : (n : Int) ≤ 9223372036854775807 := by unfold maxLen at hc; omega
  have hst : EachRel w w A kids (.slice none 0 0) n 0 .nil kids [] := ⟨rfl, rfl, by omega, hL, Below.refl _ _, ⟨rfl, .inl ⟨rfl, rfl⟩⟩, rfl, Nat.le_refl _⟩
  have HS := Lib.hid hst
  have HF := Lib.hid hf
  have hln := Ty.len_le_nodes kids
  have hn2 : n ≤ 8192 := by omega
  obtain ⟨i0, hi, hz0, hz1, hz2⟩ := info_parts info_Type
  clear hst hf hL hn
  go_enter Tryz.func105, Tryz.ntmps105
  go_wp2_with fail
  go_loopw [5, 10] (fun v5 v10 wr => ∃ (i : Nat) (done rest : Fo) (xs : List Value), v10 = .int .i64 i ∧ EachRel w wr A kids v5 n i done rest xs) (fun _ v _ => n - (intOf v).toNat)
  case atStart => exact ⟨0, .nil, kids, [], rfl, HS.out⟩
  case round =>
    obtain ⟨i, done, rest, xs, rfl, hR⟩ := hrel
    cases rest with
    | nil =>
      have hi2 : i = n := by have := hR.i_eq; simpa [Ty.len] using this
      have hfin : EachTy w kids (.returned u5) wr := by
        have he := hR.eq
        rw [Ty.app_nil] at he
        have hfl := hR.flat
        have hdl := hR.len
        rcases hR.own.2 with ⟨hv, h0⟩ | ⟨g, cap, cur, hv, hb0, hg, h1, h2, h3⟩
        · have hk0 : kids = .nil := by
            subst he
            cases done with
            | nil => rfl
            | node _ _ _ _ _ => simp only [Ty.len] at hdl; omega
          exact ⟨none, 0, 0, by rw [hv], by rw [hk0]; trivial, by rw [hk0]; rfl, Nat.le_refl _, Nat.zero_le _, hR.below⟩
        · refine ⟨some ⟨g, 0, none⟩, i, cap, by rw [hv], ?_, by rw [← he]; exact hdl.symm, h1, h2, hR.below⟩
          rw [← he]
          refine Ty.Flat.lies done xs 0 (hfl.kept (kept_mask fun b o x hP hx => ?_)) fun j u hu => ?_
          · simp only [Bool.and_eq_true, decide_eq_true_eq] at hP
            exact ⟨by simpa using hP.1, hx⟩
          · have := hR.own.cells (g := g) (by rw [hv]; rfl) j u hu
            rw [show (⟨g, 0, none⟩ : Addr).add j = ⟨g, j, none⟩ by unfold Addr.add; by_cases h : j = 0 <;> simp [h]] at this
            rw [show 0 * 2 + j = j by omega]
            exact mask_of (by simpa using hb0) this
      have HFIN := Lib.hid hfin
      clear hfin hR
      subst hi2
      go_wp2_with fail
      go_ret
      exact HFIN.out
    | node a b k kd r =>
      have h1 := hR.i_eq
      have h2 := hR.lies
      have h3 := hR.sub
      have h4 := hR.below
      simp only [Ty.len, Ty.nodes] at h1 h3
      obtain ⟨bb, oo, B, cB, hA, ⟨hk1, hk2⟩, c1, c2, hl1, hl2, hl3, hl4⟩ := h2
      have c1' : wr.cell? ⟨bb, oo + i * 2, none⟩ = some (.int .i8 k) := by rw [h4.cell (p := ⟨bb, _, none⟩) (Ty.cell_lt c1)]; exact c1
      have c2' : wr.cell? ⟨bb, oo + i * 2 + 1, none⟩ = some (.slice B (Ty.len kd) cB) := by rw [h4.cell (p := ⟨bb, _, none⟩) (Ty.cell_lt c2)]; exact c2
      have hcall := HF.out k kd B (Ty.len kd) cB (wr.alloc (.cells #[.int .i8 k, .slice B (Ty.len kd) cB] 25)) (by omega) (Ty.Is.alloc (Ty.Is.below ⟨hl3, rfl, hl1, hl2, hk1, hk2⟩ h4) _) (h4.alloc h4.size _)
      have hstp := fun u w3 v' G m cg o2 hb hI hown hg hat => EachRel.step (u := u) (w3 := w3) (v' := v') (G := G) (m := m) (c := cg) (o1 := .cells #[.int .i8 k, .slice B (Ty.len kd) cB] 25) (o2 := o2) hR hb hI hown hg hat hl4
      have hO := hR.own
      have HC := Lib.hid hcall
      have HSTP := Lib.hid hstp
      have HB4 := Lib.hid h4
      have j1 : (i : Int) < n := by omega
      have HAA := Lib.hid hA
      have z4 := h4.size
      clear hcall hstp hR hl1 hl2 hl3 hl4 c1 c2 hA h4
      obtain rfl : A = some ⟨bb, oo, none⟩ := HAA.out
      clear HAA
      go_wp2_with fail
      refine HC.out.mono ?_
      rintro e u ⟨G, m, cg, rfl, hI, hb⟩
      have hs1 := hb.size
      have HI := Lib.hid hI
      have HB := Lib.hid hb
      have hO2 := ownsRow_below (hO.alloc (.cells #[.int .i8 k, .slice B (Ty.len kd) cB] 25)) hb
      clear hI hb c1' c2'
      go_wp2_with (first | (at_builtin; refine wpList_append_own_at _ rfl (.tmp 14) (.tmp 18) 23 rfl w.heap.size 25 i0 (.agg #[.int .i8 0, .slice none 0 0]) 2 32 Tryz.underlying23 hi hz0 hz1 hz2 rfl (by decide) u5 _ _ rfl (hO2.alloc _) ⟨u.heap.size, 0, none⟩ 1 1 [.int .i8 k, .slice G m cg] rfl rfl ?c1 ?c2 ?c3 ?c4 ?c5 ?_))
      case c1 => exact cells_of_heap (heap_new u _)
      case c2 => intro x hx; simp at hx; rcases hx with rfl | rfl <;> rfl
      case c3 => unfold maxLen; omega
      case c4 => omega
      case c5 => simp at hs1 ⊢; omega
      intro v' w3 hown3 hg3 _ hat
      have hR3 := Lib.hid (HSTP.out u w3 v' G m cg _ HB.out HI.out hown3 hg3 (by simpa using hat))
      clear hown3 hg3 hat hO2 hO
      go_wp2_with fail
      go_roundw
      case rel => exact ⟨i + 1, _, r, _, by go_num, hR3.out⟩
      case measure => simp [intOf]; omega

theorem cf_copied (args : Array Value) (W : World) : (callFunc 83 args).run Tryz.prog W = .ok (.enter 83 args) W := by simp [go_sem]

attribute [local go_sem ↓] Go.wp_at_zero Go.wp_at_succ
set_option maxHeartbeats 4000000 in
set_option maxRecDepth 100000 in
theorem copied_any (K : Nat) : ∀ (k : Int) (kids : Fo) (A : Option Addr) (n c : Nat) (w : World), Ty.nodes kids < K → Ty.Is w k kids A n c → Ty.nodes kids ≤ 8192 →
    Calls Tryz.prog 83 #[.agg #[.int .i8 k, .slice A n c]] w (CopyTy w.heap.size w k kids) := by
  induction K with
  | zero => intro _ _ _ _ _ _ hK; omega
  | succ K ih =>
    intro k kids A n c w hK hIs hsm
    have hB0 : Below w.heap.size w ((w.alloc (.cells #[.int .i8 k, .slice A n c] 25)).alloc (.cells #[.int .i8 0, .slice none 0 0] 25)) := ((Below.refl _ _).alloc (Nat.le_refl _) _).alloc (by simp) _
    obtain ⟨r0, r1, r2⟩ := two_new w (.cells #[.int .i8 k, .slice A n c] 25) (.cells #[.int .i8 0, .slice none 0 0] 25)
    have hE := fun (W : World) (hb : Below w.heap.size w W) => ty_each_any 83 kids A n c W (hIs.below hb).lies hIs.n_eq hIs.n_le hIs.c_le hsm cf_copied
      (fun k' kids' A' n' c' W' h1 h2 _ => ih k' kids' A' n' c' W' (by omega) h2 (by omega))
    have HE := Lib.hid hE
    have hlo := hIs.lo
    have hhi := hIs.hi
    clear ih hIs hE hK hsm
    generalize hw1 : (w.alloc (.cells #[.int .i8 k, .slice A n c] 25)).alloc (.cells #[.int .i8 0, .slice none 0 0] 25) = w1 at *
    have HW1 := Lib.hid hw1
    have R0 := Lib.hid r0
    have R1 := Lib.hid r1
    have x1 : w.heap.size + 1 < w1.heap.size := by omega
    have HSZ := Lib.hid r2
    have D0 : Below w.heap.size w w1.drew := hB0.drew
    obtain ⟨b0, b1, _, _, hb0⟩ := own2 r0
    obtain ⟨d0, d1, f0, f1, hd0⟩ := own2 r1
    clear hw1 r0 r1 r2 hB0
    go_enter Tryz.func83, Tryz.ntmps83
    go_wp2_with fail
    rw [HW1.out]
    go_region_law (first
      | (go_simp; go_at_call 105; (with_reducible refine (HE.out _ D0).mono ?_); rintro e u ⟨G, m, cg, rfl, hL, hm, hmc, hcg, hb⟩; have D1 := D0.trans (hb.mono D0.size); have z1 : w.heap.size + 1 < u.heap.size := Nat.lt_of_lt_of_le x1 hb.size; have HL := Lib.hid hL; have HM := Lib.hid hm; have Q1 := Lib.hid (heap_below hb (show w.heap.size + 1 < w1.drew.heap.size from x1) (show w1.drew.heap[w.heap.size + 1]? = _ from R1.out)); have HUB := Lib.hid hb; obtain ⟨a0, a1, _, _, ha0⟩ := own2 (heap_below hb (show w.heap.size < w1.drew.heap.size from hb0) (show w1.drew.heap[w.heap.size]? = _ from R0.out)); obtain ⟨e0, e1, g0, g1, he0⟩ := own2 Q1.out; clear hL hm hb; go_wp2_with fail))
    all_goals
      go_wp2_with fail
      refine bodyPost_ret (v := .agg #[.int .i8 k, .slice G m cg]) (by simp [results, Tryz.results83, go_sem, *]) rfl ⟨G, m, cg, rfl, ⟨?_, HM.out, hmc, hcg, hlo, hhi⟩, ?_⟩
      · refine Ty.Lies.kept (kept_mask fun b o x hP hx => ?_) _ _ _ HL.out
        have hP2 : w1.drew.heap.size ≤ b := of_decide_eq_true hP
        have hP3 : w1.heap.size ≤ b := hP2
        refine ⟨by simp; omega, ?_⟩
        rw [World.cell?_setCell_other _ _ _ _ (fun e => by injection e with e; omega), World.cell?_setCell_other _ _ _ _ (fun e => by injection e with e; omega)]
        exact hx
      · exact (D1.setCell (p := ⟨w.heap.size + 1, 0, none⟩) (by simp) _).setCell (p := ⟨w.heap.size + 1, 1, none⟩) (by simp) _
end Go.Proofs.YtmcmdlaedpdoiaaGreatDoor
namespace Go.Proofs.YtmcmdlaedpdoiaaGreatDoor
open Go.RowKit

theorem info_Term : (Tryz.prog.info? 28).map (fun i => (i.zero, i.size, i.bytes)) = some (some (.agg #[.int .i8 0, .string ⟨#[]⟩, .string ⟨#[]⟩, .int .i64 0, .int .i8 0, .slice none 0 0, .int .i8 0, .slice none 0 0, .int .i64 0, .int .i64 0, .slice none 0 0]), 11, 152) := by kernel_rfl

namespace Tm
/-- what counts of a list of terms -/
def bF : Tm → Tm
  | .nil => .nil
  | .node h kids r => .node (cnt h) (bF kids) (bF r)
theorem len_bF : ∀ f : Tm, len (bF f) = len f
  | .nil => rfl
  | .node h kids r => by simp only [bF, len]; rw [len_bF r]
def app : Tm → Tm → Tm
  | .nil, g => g
  | .node h kids r, g => .node h kids (app r g)
theorem app_nil : ∀ f : Tm, app f .nil = f
  | .nil => rfl
  | .node h kids r => by simp only [app]; rw [app_nil r]
theorem app_snoc : ∀ (f : Tm) (h : Hd) (kids r : Tm), app (app f (.node h kids .nil)) r = app f (.node h kids r)
  | .nil, _, _, _ => rfl
  | .node _ _ q, h, kids, r => by simp only [app]; rw [app_snoc q]
theorem len_snoc : ∀ (f : Tm) (h : Hd) (kids : Tm), len (app f (.node h kids .nil)) = len f + 1
  | .nil, _, _ => rfl
  | .node _ _ q, h, kids => by simp only [app, len]; rw [len_snoc q]
/-- the cells of a list of terms, each of which lies in the world -/
def Flat (w : World) : Tm → List Value → Prop
  | .nil, xs => xs = []
  | .node h kids r, xs => ∃ p ys, xs = h.cells p ++ ys ∧ Is w h kids p ∧ Flat w r ys
theorem Flat.snoc {w : World} {h : Hd} {kids : Tm} {p : Pl} (hI : Is w h kids p) : ∀ (f : Tm) (xs : List Value), Flat w f xs → Flat w (app f (.node h kids .nil)) (xs ++ h.cells p)
  | .nil, xs, e => by cases e; exact ⟨p, [], by simp, hI, rfl⟩
  | .node _ _ q, xs, e => by
    obtain ⟨p', ys, rfl, h1, h2⟩ := e
    exact ⟨p', ys ++ h.cells p, by rw [List.append_assoc], h1, Flat.snoc hI q ys h2⟩
theorem Flat.kept {w w' : World} (hk : Kept w w') : ∀ (f : Tm) (xs : List Value), Flat w f xs → Flat w' f xs
  | .nil, _, e => e
  | .node _ _ q, _, e => by
    obtain ⟨p', ys, rfl, h1, h2⟩ := e
    exact ⟨p', ys, rfl, h1.kept hk, Flat.kept hk q ys h2⟩
theorem Flat.lies {w : World} {g : Nat} : ∀ (f : Tm) (xs : List Value) (i : Nat), Flat w f xs → (∀ j u, xs[j]? = some u → w.cell? ⟨g, i * 11 + j, none⟩ = some u) → Lies w f (some ⟨g, 0, none⟩) i
  | .nil, _, _, _, _ => trivial
  | .node h kids r, _, i, e, hc => by
    obtain ⟨p, ys, rfl, h1, h2⟩ := e
    have hlen : (h.cells p).length = 11 := rfl
    refine ⟨g, 0, p, rfl, fun j v hv => ?_, h1.fit, h1.lies, ?_⟩
    · have hj : j < (h.cells p).length := by
        rcases Nat.lt_or_ge j (h.cells p).length with q | q
        · exact q
        · rw [List.getElem?_eq_none q] at hv; cases hv
      rw [Nat.zero_add]
      exact hc j v (by rw [List.getElem?_append_left hj]; exact hv)
    · exact Flat.lies r ys (i + 1) h2 fun j u hu => by
        have := hc (j + 11) u (by rw [List.getElem?_append_right (by rw [hlen]; omega), hlen, show j + 11 - 11 = j by omega]; exact hu)
        rwa [show i * 11 + (j + 11) = (i + 1) * 11 + j by omega] at this
end Tm

/-- a round's state -/
structure EachRelT (w wr : World) (A : Option Addr) (kids : Tm) (v : Value) (n i : Nat) (done rest : Tm) (xs : List Value) : Prop where
  eq : Tm.app done (Tm.bF rest) = Tm.bF kids
  len : Tm.len done = i
  i_eq : i + Tm.len rest = n
  lies : Tm.Lies w rest A i
  below : Below w.heap.size w wr
  own : wr.ownsRow w.heap.size 28 11 v i xs
  flat : Tm.Flat (mask (fun b => decide (w.heap.size ≤ b) && decide (v.ownBlock ≠ some b)) wr) done xs
  sub : Tm.nodes rest ≤ Tm.nodes kids

theorem EachRelT.step {w wr u w3 : World} {A : Option Addr} {kids : Tm} {v v' : Value} {n i : Nat} {done r kd : Tm} {h : Hd} {xs : List Value} {p : Pl} {o1 o2 : Obj}
    (e : EachRelT w wr A kids v n i done (.node h kd r) xs) (hb : Below (wr.alloc o1).heap.size (wr.alloc o1) u) (hI : Tm.Is (mask (fun b => decide ((wr.alloc o1).heap.size ≤ b)) u) (Tm.cnt h) (Tm.bF kd) p)
    (hown : w3.ownsRow w.heap.size 28 11 v' (i + 1) (xs ++ (Tm.cnt h).cells p)) (hg : (u.alloc o2).grownBy w3 v.ownBlock) (hat : v'.ownBlock = v.ownBlock ∨ v'.ownBlock = some (u.alloc o2).heap.size) (hl : Tm.Lies w r A (i + 1)) :
    EachRelT w w3 A kids v' n (i + 1) (Tm.app done (.node (Tm.cnt h) (Tm.bF kd) .nil)) r (xs ++ (Tm.cnt h).cells p) := by
  obtain ⟨h1, h2, h3, h4, h5, h6, h7, h8⟩ := e
  simp only [Tm.len, Tm.nodes, Tm.bF] at h1 h3 h8
  have hlt := h6.lt
  have hs1 : wr.heap.size < (wr.alloc o1).heap.size := by simp
  have hs2 := hb.size
  have hs3 : u.heap.size < (u.alloc o2).heap.size := by simp
  have hwu : Below wr.heap.size wr (u.alloc o2) := (((Below.refl _ _).alloc (Nat.le_refl _) o1).trans (hb.mono (by omega))).alloc (by omega) o2
  refine ⟨by rw [Tm.app_snoc]; exact h1, by rw [Tm.len_snoc]; omega, by omega, hl, ?_, hown, ?_, by omega⟩
  · exact (h5.trans (hwu.mono h5.size)).grown hg (Nat.le_trans h5.size hwu.size) fun q hq => (hlt q hq).1
  · refine Tm.Flat.snoc (hI.kept (kept_mask fun b' o' x hP hx => ?_)) done xs (h7.kept (kept_mask fun b' o' x hP hx => ?_))
    · have hP' : (wr.alloc o1).heap.size ≤ b' := by simpa using hP
      have hbl := Ty.cell_lt hx
      have hne : some b' ≠ v.ownBlock := fun e => by have := (hlt b' e.symm).2; omega
      refine ⟨?_, ?_⟩
      · simp only [Bool.and_eq_true, decide_eq_true_eq]
        refine ⟨by have := h5.size; omega, fun e => ?_⟩
        rcases hat with q | q
        · exact hne (by rw [← q, e])
        · rw [q] at e; injection e with e; omega
      · rw [World.cell?_of_block (hg.block b' (by omega) hne), ((Below.refl u.heap.size u).alloc (Nat.le_refl _) o2).cell (p := ⟨b', o', none⟩) hbl]; exact hx
    · simp only [Bool.and_eq_true, decide_eq_true_eq] at hP
      have hbl := Ty.cell_lt hx
      have hne : some b' ≠ v.ownBlock := fun e => hP.2 e.symm
      refine ⟨?_, ?_⟩
      · simp only [Bool.and_eq_true, decide_eq_true_eq]
        refine ⟨hP.1, fun e => ?_⟩
        rcases hat with q | q
        · exact hP.2 (by rw [← q, e])
        · rw [q] at e; injection e with e; have := hwu.size; omega
      · rw [World.cell?_of_block (hg.block b' (Nat.lt_of_lt_of_le hbl hwu.size) hne), hwu.cell (p := ⟨b', o', none⟩) hbl]; exact hx

end Go.Proofs.YtmcmdlaedpdoiaaGreatDoor
