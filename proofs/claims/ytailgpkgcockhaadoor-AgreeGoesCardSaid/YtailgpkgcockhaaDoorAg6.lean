/-
  The law's opened: a right type, one part made unknown.
-/
import Derived.Test.YtailgpkgcockhaaDoorAg5
import Derived.Test.YtailgpkgcockhaaDoorInP
import Derived.Deep.DeepCutAuto
namespace Go.Proofs.YtailgpkgcockhaaDoor
open Go.RowKit

namespace Ty
theorem IsP.two {P : Nat → Prop} {w : World} {N : Nat} {kd k k' : Int} {kids kids' : Fo} {A A' : Option Addr} {n c n' c' : Nat} {t : TypeId} (hN : P N) (h1 : -128 ≤ kd) (h2 : kd ≤ 127) (h : w.heap[N]? = some (.cells #[.int .i8 k, .slice A n c, .int .i8 k', .slice A' n' c'] t (0, 0))) (g1 : IsP P w k kids A n c) (g2 : IsP P w k' kids' A' n' c') :
    IsP P w kd (two k kids k' kids') (some ⟨N, 0, none⟩) 2 2 := by
  refine ⟨⟨N, 0, A, c, rfl, hN, ⟨g1.lo, g1.hi⟩, by simp [World.cell?, h], by rw [← g1.n_eq]; simp [World.cell?, h], by rw [← g1.n_eq]; exact g1.n_le, g1.c_le, g1.lies, ?_⟩, rfl, Nat.le_refl _, by unfold maxLen; omega, h1, h2⟩
  exact ⟨N, 0, A', c', rfl, hN, ⟨g2.lo, g2.hi⟩, by simp [World.cell?, h], by rw [← g2.n_eq]; simp [World.cell?, h], by rw [← g2.n_eq]; exact g2.n_le, g2.c_le, g2.lies, trivial⟩

/-- what the opening of a right type keeps -/
structure Opens (k : Int) (kids : Fo) (kc : Int) (fc : Fo) : Prop where
  ok : okT kc fc = true
  nd : nodes fc ≤ nodes kids
  dp : dep fc ≤ dep kids
  self : agT k kids kc fc = true
  more : ∀ k' f', agT k kids k' f' = true → agT kc fc k' f' = true
theorem Opens.refl {k : Int} {kids : Fo} (h : okT k kids = true) : Opens k kids k kids := ⟨h, Nat.le_refl _, Nat.le_refl _, by unfold agT; simp [agF_refl], fun _ _ h => h⟩
theorem Opens.zero (k : Int) (kids : Fo) : Opens k kids 0 .nil := ⟨rfl, Nat.zero_le _, Nat.zero_le _, agT_zero_right _ _ _, fun _ _ _ => rfl⟩
theorem Opens.mk2 {k k1 k2 l1 l2 : Int} {f1 f2 g1 g2 : Fo} {a b c d : Nat} (h : okT k (.node a b k1 f1 (.node c d k2 f2 .nil)) = true) (h1 : Opens k1 f1 l1 g1) (h2 : Opens k2 f2 l2 g2) : Opens k (.node a b k1 f1 (.node c d k2 f2 .nil)) k (two l1 g1 l2 g2) := by
  have o1 := h1.ok
  have o2 := h2.ok
  refine ⟨?_, ?_, ?_, ?_, ?_⟩
  · unfold okT at h o1 o2 ⊢
    rw [Bool.and_eq_true] at h o1 o2 ⊢
    refine ⟨h.1, ?_⟩
    simp only [two, okF, Bool.and_eq_true]
    exact ⟨⟨o1.1, o1.2⟩, ⟨o2.1, o2.2⟩, trivial⟩
  · have := h1.nd; have := h2.nd; simp only [two, nodes]; omega
  · have := h1.dp; have := h2.dp; simp only [two, dep]; omega
  · have e1 := h1.self; have e2 := h2.self
    unfold agT at e1 e2
    unfold agT
    simp only [two, agF, e1, e2]
    simp
  · intro k' f' hh
    unfold agT at hh ⊢
    by_cases q : ((k == 0) || (k' == 0)) = true
    · simp only [q, Bool.true_or]
    · have q' : ((k == 0) || (k' == 0)) = false := by simpa using q
      rw [q', Bool.false_or, Bool.and_eq_true] at hh ⊢
      refine ⟨hh.1, ?_⟩
      have hf := hh.2
      match f', hf with
      | .nil, _ => rfl
      | .node _ _ m1 u1 .nil, hf =>
        simp only [two, agF] at hf ⊢
        have := h1.more m1 u1 (by unfold agT; simpa using hf)
        unfold agT at this
        simpa using this
      | .node _ _ m1 u1 (.node _ _ m2 u2 r), hf =>
        simp only [two, agF, Bool.and_eq_true] at hf ⊢
        have e1 := h1.more m1 u1 hf.1
        have e2 := h2.more m2 u2 hf.2.1
        exact ⟨e1, e2, trivial⟩
end Ty
theorem or_big {P : Nat → Prop} {b m m' : Nat} (h : P b ∨ m ≤ b) (hm : m' ≤ m) : P b ∨ m' ≤ b := h.imp id (Nat.le_trans hm)
theorem or_ne {P : Nat → Prop} {b m N X : Nat} (h : P b ∨ m ≤ b) (hP : ∀ b, P b → b < N) (h1 : N ≤ X) (h2 : X < m) : b ≠ X := by
  rcases h with h | h
  · have := hP b h; omega
  · omega
/-- what opened leaves -/
def OpenPost (P : Nat → Prop) (w : World) (k : Int) (kids : Fo) (e : Ending) (w' : World) : Prop :=
  ∃ kc fc G m cg x, e = .returned (.tuple #[.agg #[.int .i8 kc, .slice G m cg], .int .i64 x]) ∧ (-9223372036854775808 ≤ x ∧ x ≤ 9223372036854775807) ∧ Ty.IsP (fun b => P b ∨ w.heap.size ≤ b) w' kc fc G m cg ∧ Ty.Opens k kids kc fc ∧ Below w.heap.size w w'
theorem two_set {w u : World} {X : Nat} (h : Below w.heap.size w u) (hX : w.heap.size ≤ X) (v0 v1 : Value) : Below w.heap.size w ((u.setCell ⟨X, 0, none⟩ v0).setCell ⟨X, 1, none⟩ v1) :=
  (h.setCell (p := ⟨X, 0, none⟩) hX _).setCell (p := ⟨X, 1, none⟩) hX _
theorem two_keep {u : World} {X b o : Nat} {v v0 v1 : Value} (hX : b ≠ X) (hc : u.cell? ⟨b, o, none⟩ = some v) : ((u.setCell ⟨X, 0, none⟩ v0).setCell ⟨X, 1, none⟩ v1).cell? ⟨b, o, none⟩ = some v := by
  rw [World.cell?_setCell_other _ _ _ _ (fun e => hX (by injection e with e; exact e.symm)), World.cell?_setCell_other _ _ _ _ (fun e => hX (by injection e with e; exact e.symm))]
  exact hc

set_option maxHeartbeats 4000000 in
set_option maxRecDepth 100000 in
theorem opened_any (K : Nat) : ∀ (k : Int) (kids : Fo) (A : Option Addr) (n c : Nat) (s : Int) (P : Nat → Prop) (w : World), Ty.nodes kids < K → Ty.IsP P w k kids A n c → (∀ b, P b → b < w.heap.size) → Ty.okT k kids = true → (-9223372036854775808 ≤ s ∧ s ≤ 9223372036854775807) →
    Calls Tryd.prog 10 #[.agg #[.int .i8 k, .slice A n c], .int .i64 s] w (OpenPost P w k kids) := by
  induction K with
  | zero => intro _ _ _ _ _ _ _ _ hK; omega
  | succ K ih =>
    intro k kids A n c s P w hK hIs hP hok hs
    have hB0 : Below w.heap.size w ((w.alloc (.cells #[.int .i8 k, .slice A n c] 25)).alloc (.cells #[.int .i8 0, .slice none 0 0] 25)) := ((Below.refl _ _).alloc (Nat.le_refl _) _).alloc (by simp) _
    obtain ⟨r0, r1, r2⟩ := two_new w (.cells #[.int .i8 k, .slice A n c] 25) (.cells #[.int .i8 0, .slice none 0 0] 25)
    by_cases hs0 : s = 0
    · subst hs0
      clear hs hok hP hIs ih hK r0 r1 r2
      go_enter Tryd.func10, Tryd.ntmps10
      go_wp2_with fail
      refine bodyPost_ret (v := .tuple #[.agg #[.int .i8 0, .slice none 0 0], .int .i64 (-1)]) (by simp [results, Tryd.results10, go_sem, *]) rfl ⟨0, .nil, none, 0, 0, -1, rfl, by omega, ⟨trivial, rfl, Nat.le_refl _, Nat.zero_le _, by omega, by omega⟩, Ty.Opens.zero _ _, ?_⟩
      exact hB0
    have hsz : (s == 0) = false := by simpa using hs0
    obtain ⟨s', hs', hsb⟩ : ∃ s', wrap64 (s - 1) = s' ∧ (-9223372036854775808 ≤ s' ∧ s' ≤ 9223372036854775807) := ⟨_, rfl, by unfold wrap64; omega⟩
    have HPP := Lib.hid hP
    have HOK := Lib.hid hok
    have HIS := Lib.hid hIs
    have HKB := Lib.hid (show -128 ≤ k ∧ k ≤ 127 from ⟨hIs.lo, hIs.hi⟩)
    have HB0 := Lib.hid hB0
    have IH := Lib.hid ih
    clear hP hIs ih hB0 hs
    by_cases h3 : 3 ≤ k
    case neg =>
      obtain rfl := Ty.none_of hok (by omega)
      have hn : n = 0 := HIS.out.n_eq
      subst hn
      clear h3 hok hs0 hK r2
      obtain ⟨a0, a1, _, _, ha9⟩ := own2 r0
      obtain ⟨z0, z1, zf0, zf1, hz9⟩ := own2 r1
      clear r0 r1
      go_enter Tryd.func10, Tryd.ntmps10
      go_wp2_with fail
      refine bodyPost_ret (v := .tuple #[.agg #[.int .i8 k, .slice A 0 c], .int .i64 s']) (by simp [results, Tryd.results10, go_sem, *]) rfl ⟨k, .nil, A, 0, c, s', rfl, hsb, ⟨trivial, rfl, Nat.zero_le _, HIS.out.c_le, HKB.out.1, HKB.out.2⟩, Ty.Opens.refl HOK.out, ?_⟩
      exact ((Below.refl _ _).alloc (Nat.le_refl _) _).alloc (by simp) _
    obtain ⟨a1, a2, p1, f1, a3, a4, p2, f2, rfl, o1, o2⟩ := Ty.two_of hok h3
    have hn := HIS.out.n_eq
    simp only [Ty.len] at hn
    subst hn
    simp only [Ty.nodes] at hK
    obtain ⟨bb, oo, B1, c1, B2, c2, rfl, x0, x1, x2, x3, i1, i2⟩ := Ty.LiesP.two HIS.out.lies
    have I1 := Lib.hid i1
    have I2 := Lib.hid i2
    have O1 := Lib.hid o1
    have O2 := Lib.hid o2
    have X2 := Lib.hid x2
    have X3 := Lib.hid x3
    have HA1 := Lib.hid r0
    have HZ1 := Lib.hid r1
    have HS1 := Lib.hid r2
    have x0 := keepAt' x0 HB0.out
    have x1 := keepAt' x1 HB0.out
    clear o1 o2 i1 i2 x2 x3 r0 r1 r2 hok h3 hs0
    generalize hw1 : (w.alloc (.cells #[.int .i8 k, .slice (some ⟨bb, oo, none⟩) 2 c] 25)).alloc (.cells #[.int .i8 0, .slice none 0 0] 25) = w1 at *
    have HW1 := Lib.hid hw1
    clear hw1
    obtain ⟨a0, a1', _, _, ha9⟩ := own2 HA1.out
    go_enter Tryd.func10, Tryd.ntmps10
    go_upto_region 1 with fail
    rw [HW1.out]
    go_upto_region 7 with fail
    rw [hs']
    have hb2 : Below w1.heap.size w1 (w1.alloc (.cells #[.int .i8 p1, .slice B1 (Ty.len f1) c1] 25)) := (Below.refl _ _).alloc (Nat.le_refl _) _
    have HL2 := Lib.hid (heap_new w1 (.cells #[.int .i8 p1, .slice B1 (Ty.len f1) c1] 25))
    have HA2 := Lib.hid (heap_below hb2 (heap_lt HA1.out) HA1.out)
    have HZ2 := Lib.hid (heap_below hb2 (heap_lt HZ1.out) HZ1.out)
    have HB2 := Lib.hid (HB0.out.trans (hb2.mono HB0.out.size))
    have hsw : (w1.alloc (.cells #[.int .i8 p1, .slice B1 (Ty.len f1) c1] 25)).heap.size = w1.heap.size + 1 := by simp
    have HSW := Lib.hid hsw
    have hL : w1.heap.size = w.heap.size + 2 := HS1.out
    rw [hL] at HL2 HSW
    rw [hL]
    clear hb2 hsw x0 x1 a0 a1' ha9 hs' hsz HS1
    generalize w1.alloc (.cells #[.int .i8 p1, .slice B1 (Ty.len f1) c1] 25) = w2 at *
    clear hL HA1 HZ1 HB0 HW1
    obtain ⟨l0, l1, lf0, lf1, hl9⟩ := own2 HL2.out
    obtain ⟨a0, a1', _, _, ha9⟩ := own2 HA2.out
    have x2 := keepAt' X2.out HB2.out
    have x3 := keepAt' X3.out HB2.out
    by_cases hp : 0 ≤ s'
    · have HC := Lib.hid (IH.out p1 f1 B1 (Ty.len f1) c1 s' P w2 (by omega) (I1.out.to fun b o v hb hc => ⟨hb, keepAt' hc HB2.out⟩) (fun b hb => Nat.lt_of_lt_of_le (HPP.out b hb) HB2.out.size) O1.out hsb)
      go_wp2_with fail
      refine HC.out.mono ?_
      rintro e u ⟨kl, fl, Gl, ml, cl, x, rfl, hxb, hil, hol, hb⟩
      have HBU := Lib.hid hb
      have hus := hb.size
      have hw2s := HSW.out
      have HLU := Lib.hid (heap_below hb (heap_lt HL2.out) HL2.out)
      obtain ⟨l0, l1, lf0, lf1, hl9⟩ := own2 HLU.out
      have HIL := Lib.hid (show Ty.IsP (fun b => (P b ∨ w.heap.size + 3 ≤ b) ∧ b < u.heap.size) ((u.setCell ⟨w.heap.size + 2, 0, none⟩ (.int .i8 kl)).setCell ⟨w.heap.size + 2, 1, none⟩ (.slice Gl ml cl)) kl fl Gl ml cl from hil.to fun b o v hb hc => by
        have hbl := Ty.cell_lt hc
        refine ⟨⟨or_big hb (by omega), hbl⟩, two_keep (or_ne hb HPP.out (by omega) (by omega)) hc⟩)
      have HOL := Lib.hid hol
      have HB3 := Lib.hid (two_set (X := w.heap.size + 2) (HB2.out.trans (hb.mono HB2.out.size)) (by omega) (.int .i8 kl) (.slice Gl ml cl))
      have hs3 : ((u.setCell ⟨w.heap.size + 2, 0, none⟩ (.int .i8 kl)).setCell ⟨w.heap.size + 2, 1, none⟩ (.slice Gl ml cl)).heap.size = u.heap.size := by simp [World.setCell]
      have HL3 := Lib.hid (show ((u.setCell ⟨w.heap.size + 2, 0, none⟩ (.int .i8 kl)).setCell ⟨w.heap.size + 2, 1, none⟩ (.slice Gl ml cl)).heap[w.heap.size + 2]? = some (.cells #[.int .i8 kl, .slice Gl ml cl] 25 (0, 0)) by simp [World.setCell, Array.getElem?_modify, HLU.out])
      have HA3 := Lib.hid (show ((u.setCell ⟨w.heap.size + 2, 0, none⟩ (.int .i8 kl)).setCell ⟨w.heap.size + 2, 1, none⟩ (.slice Gl ml cl)).heap[w.heap.size]? = some (.cells #[.int .i8 k, .slice (some ⟨bb, oo, none⟩) 2 c] 25 (0, 0)) by
        rw [Below.heap_setCell _ _ _ _ (by show w.heap.size ≠ w.heap.size + 2; omega), Below.heap_setCell _ _ _ _ (by show w.heap.size ≠ w.heap.size + 2; omega)]; exact heap_below hb (heap_lt HA2.out) HA2.out)
      have HZ3 := Lib.hid (show ((u.setCell ⟨w.heap.size + 2, 0, none⟩ (.int .i8 kl)).setCell ⟨w.heap.size + 2, 1, none⟩ (.slice Gl ml cl)).heap[w.heap.size + 1]? = some (.cells #[.int .i8 0, .slice none 0 0] 25 (0, 0)) by
        rw [Below.heap_setCell _ _ _ _ (by show w.heap.size + 1 ≠ w.heap.size + 2; omega), Below.heap_setCell _ _ _ _ (by show w.heap.size + 1 ≠ w.heap.size + 2; omega)]; exact heap_below hb (heap_lt HZ2.out) HZ2.out)
      clear hb hil hol a0 a1' ha9 x2 x3 HC
      generalize hw3 : ((u.setCell ⟨w.heap.size + 2, 0, none⟩ (.int .i8 kl)).setCell ⟨w.heap.size + 2, 1, none⟩ (.slice Gl ml cl)) = w3 at HIL HB3 HL3 HA3 HZ3 hs3
      have x2 := keepAt' X2.out HB3.out
      have x3 := keepAt' X3.out HB3.out
      obtain ⟨a0, a1', _, _, ha9⟩ := own2 HA3.out
      have hR3 := heap_new w3 (.cells #[.int .i8 p2, .slice B2 (Ty.len f2) c2] 25)
      have hb4 : Below w3.heap.size w3 (w3.alloc (.cells #[.int .i8 p2, .slice B2 (Ty.len f2) c2] 25)) := (Below.refl _ _).alloc (Nat.le_refl _) _
      have hs4 : (w3.alloc (.cells #[.int .i8 p2, .slice B2 (Ty.len f2) c2] 25)).heap.size = u.heap.size + 1 := by rw [← hs3]; simp
      rw [hs3] at hR3
      have HS3 := Lib.hid hs3
      have HS4 := Lib.hid hs4
      have HR4 := Lib.hid hR3
      have HB4 := Lib.hid hb4
      clear hs4 hR3 hb4
      go_upto_region 10 with fail
      clear hw3 l0 l1 lf0 lf1 hl9 x2 x3 a0 a1' ha9 hs3
      have HA4 := Lib.hid (heap_below HB4.out (heap_lt HA3.out) HA3.out)
      have HZ4 := Lib.hid (heap_below HB4.out (heap_lt HZ3.out) HZ3.out)
      have HL4 := Lib.hid (heap_below HB4.out (heap_lt HL3.out) HL3.out)
      have HBB4 := Lib.hid (HB3.out.trans (HB4.out.mono HB3.out.size))
      have HIL4 := Lib.hid (show Ty.IsP (fun b => (P b ∨ w.heap.size + 3 ≤ b) ∧ b < u.heap.size) (w3.alloc (.cells #[.int .i8 p2, .slice B2 (Ty.len f2) c2] 25)) kl fl Gl ml cl from HIL.out.to fun b o v hb hc => ⟨hb, keepAt' hc HB4.out⟩)
      clear HIL HB4 HA3 HZ3 HL3
      generalize w3.alloc (.cells #[.int .i8 p2, .slice B2 (Ty.len f2) c2] 25) = v at *
      by_cases hp2 : 0 ≤ x
      · have HC2 := Lib.hid (IH.out p2 f2 B2 (Ty.len f2) c2 x P v (by omega) (I2.out.to fun b o v' hb hc => ⟨hb, keepAt' hc HBB4.out⟩) (fun b hb => Nat.lt_of_lt_of_le (HPP.out b hb) HBB4.out.size) O2.out hxb)
        obtain ⟨r0, r1, rf0, rf1, hr9⟩ := own2 HR4.out
        go_wp2_with fail
        refine HC2.out.mono ?_
        rintro e u2 ⟨kr, fr, Gr, mr, cr, y, rfl, hyb, hir, hor, hb⟩
        have hu2s := hb.size
        have hvs := HS4.out
        have hw3s := HB3.out.size
        have hl4l := heap_lt HL4.out
        have hBU2 := Lib.hid hb
        have HR5 := Lib.hid (heap_below hb (heap_lt HR4.out) HR4.out)
        obtain ⟨r0, r1, rf0, rf1, hr9⟩ := own2 HR5.out
        have HOR := Lib.hid hor
        have HIR := Lib.hid (show Ty.IsP (fun b => (P b ∨ w.heap.size + 3 ≤ b) ∧ True) ((u2.setCell ⟨u.heap.size, 0, none⟩ (.int .i8 kr)).setCell ⟨u.heap.size, 1, none⟩ (.slice Gr mr cr)) kr fr Gr mr cr from hir.to fun b o v' hb hc => ⟨⟨or_big hb (by omega), trivial⟩, two_keep (or_ne hb HPP.out (by omega) (by omega)) hc⟩)
        have HIL5 := Lib.hid (show Ty.IsP (fun b => (P b ∨ w.heap.size + 3 ≤ b) ∧ b < u.heap.size) ((u2.setCell ⟨u.heap.size, 0, none⟩ (.int .i8 kr)).setCell ⟨u.heap.size, 1, none⟩ (.slice Gr mr cr)) kl fl Gl ml cl from HIL4.out.to fun b o v' hb hc => ⟨hb, two_keep (by omega) (keepAt' hc hBU2.out)⟩)
        have HB5 := Lib.hid (two_set (X := u.heap.size) (HBB4.out.trans (hb.mono HBB4.out.size)) (by omega) (.int .i8 kr) (.slice Gr mr cr))
        have HR6 := Lib.hid (show ((u2.setCell ⟨u.heap.size, 0, none⟩ (.int .i8 kr)).setCell ⟨u.heap.size, 1, none⟩ (.slice Gr mr cr)).heap[u.heap.size]? = some (.cells #[.int .i8 kr, .slice Gr mr cr] 25 (0, 0)) by simp [World.setCell, Array.getElem?_modify, HR5.out])
        have hfar : ∀ (X : Nat) (ob : Obj), X < w.heap.size + 3 → v.heap[X]? = some ob → ((u2.setCell ⟨u.heap.size, 0, none⟩ (.int .i8 kr)).setCell ⟨u.heap.size, 1, none⟩ (.slice Gr mr cr)).heap[X]? = some ob := fun X ob hX h => by
          rw [Below.heap_setCell _ _ _ _ (by show X ≠ u.heap.size; omega), Below.heap_setCell _ _ _ _ (by show X ≠ u.heap.size; omega)]; exact heap_below hb (heap_lt h) h
        have HA5 := Lib.hid (hfar _ _ (by omega) HA4.out)
        have HZ5 := Lib.hid (hfar _ _ (by omega) HZ4.out)
        have HL5 := Lib.hid (hfar _ _ (by omega) HL4.out)
        clear hb hir hor HC2 hfar HIL4
        generalize hw5 : ((u2.setCell ⟨u.heap.size, 0, none⟩ (.int .i8 kr)).setCell ⟨u.heap.size, 1, none⟩ (.slice Gr mr cr)) = v5 at HIR HIL5 HB5 HR6 HA5 HZ5 HL5
        go_upto_region 12 with fail
        clear hw5 r0 r1 rf0 rf1 hr9
        obtain ⟨a0, a1, _, _, ha9⟩ := own2 HA5.out
        obtain ⟨l0, l1, _, _, hl9⟩ := own2 HL5.out
        obtain ⟨r0, r1, _, _, hr9⟩ := own2 HR6.out
        go_wp2_with fail
        refine (of_raw k kl _ _ _ kr _ _ _ _).mono ?_
        rintro e v2 ⟨M, rfl, hM, hcs, hb⟩
        have HZ9 := Lib.hid (heap_below hb (heap_lt HZ5.out) HZ5.out)
        obtain ⟨z0, z1, zf0, zf1, hz9⟩ := own2 HZ9.out
        have HBV := Lib.hid hb
        have HCS := Lib.hid hcs
        have HM := Lib.hid hM
        have HB9 := Lib.hid (HB5.out.trans (hb.mono HB5.out.size))
        clear hb hcs hM a0 a1 l0 l1 r0 r1
        go_wp2_with fail
        have hM := HM.out
        have QL := fun (y0 y1 : Value) => HIL5.out.to (P' := fun b => P b ∨ w.heap.size ≤ b) (w' := (v2.setCell ⟨w.heap.size + 1, 0, none⟩ y0).setCell ⟨w.heap.size + 1, 1, none⟩ y1) fun b o v hb hc => ⟨or_big hb.1 (by omega), two_keep (or_ne hb.1 HPP.out (by omega) (by omega)) (keepAt' hc HBV.out)⟩
        have QR := fun (y0 y1 : Value) => HIR.out.to (P' := fun b => P b ∨ w.heap.size ≤ b) (w' := (v2.setCell ⟨w.heap.size + 1, 0, none⟩ y0).setCell ⟨w.heap.size + 1, 1, none⟩ y1) fun b o v hb hc => ⟨or_big hb.1 (by omega), two_keep (or_ne hb.1 HPP.out (by omega) (by omega)) (keepAt' hc HBV.out)⟩
        refine bodyPost_ret (v := .tuple #[.agg #[.int .i8 k, .slice (some ⟨M, 0, none⟩) 2 2], .int .i64 y]) (by simp [results, Tryd.results10, go_sem, *]) rfl ⟨k, Ty.two kl fl kr fr, _, _, _, y, rfl, hyb, Ty.IsP.two (N := M) (t := 25) ?_ HKB.out.1 HKB.out.2 ?_ (QL _ _) (QR _ _), Ty.Opens.mk2 HOK.out HOL.out HOR.out, two_set HB9.out (Nat.le_succ _) _ _⟩
        · exact .inr (by have := HB5.out.size; omega)
        · rw [Below.heap_setCell _ _ _ _ (by show M ≠ w.heap.size + 1; have := heap_lt HZ5.out; omega), Below.heap_setCell _ _ _ _ (by show M ≠ w.heap.size + 1; have := heap_lt HZ5.out; omega)]; exact HCS.out
      · have hpf : decide (0 ≤ x) = false := by simpa using hp2
        go_upto_region 12 with fail
        have HIR4 := Lib.hid (show Ty.IsP (fun b => (P b ∨ w.heap.size + 3 ≤ b) ∧ True) v p2 f2 B2 (Ty.len f2) c2 from I2.out.to fun b o v' hb hc => ⟨⟨.inl hb, trivial⟩, keepAt' hc HBB4.out⟩)
        obtain ⟨a0, a1, _, _, ha9⟩ := own2 HA4.out
        obtain ⟨l0, l1, _, _, hl9⟩ := own2 HL4.out
        obtain ⟨r0, r1, _, _, hr9⟩ := own2 HR4.out
        go_wp2_with fail
        refine (of_raw k kl _ _ _ p2 _ _ _ _).mono ?_
        rintro e v2 ⟨M, rfl, hM, hcs, hb⟩
        have HZ9 := Lib.hid (heap_below hb (heap_lt HZ4.out) HZ4.out)
        obtain ⟨z0, z1, zf0, zf1, hz9⟩ := own2 HZ9.out
        have HBV := Lib.hid hb
        have HCS := Lib.hid hcs
        have HM := Lib.hid hM
        have HB9 := Lib.hid (HBB4.out.trans (hb.mono HBB4.out.size))
        clear hb hcs hM a0 a1 l0 l1 r0 r1
        go_wp2_with fail
        have hM := HM.out
        have QL := fun (y0 y1 : Value) => HIL4.out.to (P' := fun b => P b ∨ w.heap.size ≤ b) (w' := (v2.setCell ⟨w.heap.size + 1, 0, none⟩ y0).setCell ⟨w.heap.size + 1, 1, none⟩ y1) fun b o v hb hc => ⟨or_big hb.1 (by omega), two_keep (or_ne hb.1 HPP.out (by omega) (by omega)) (keepAt' hc HBV.out)⟩
        have QR := fun (y0 y1 : Value) => HIR4.out.to (P' := fun b => P b ∨ w.heap.size ≤ b) (w' := (v2.setCell ⟨w.heap.size + 1, 0, none⟩ y0).setCell ⟨w.heap.size + 1, 1, none⟩ y1) fun b o v hb hc => ⟨or_big hb.1 (by omega), two_keep (or_ne hb.1 HPP.out (by omega) (by omega)) (keepAt' hc HBV.out)⟩
        refine bodyPost_ret (v := .tuple #[.agg #[.int .i8 k, .slice (some ⟨M, 0, none⟩) 2 2], .int .i64 x]) (by simp [results, Tryd.results10, go_sem, *]) rfl ⟨k, Ty.two kl fl p2 f2, _, _, _, x, rfl, hxb, Ty.IsP.two (N := M) (t := 25) ?_ HKB.out.1 HKB.out.2 ?_ (QL _ _) (QR _ _), Ty.Opens.mk2 HOK.out HOL.out (Ty.Opens.refl O2.out), two_set HB9.out (Nat.le_succ _) _ _⟩
        · exact .inr (by have := HBB4.out.size; omega)
        · rw [Below.heap_setCell _ _ _ _ (by show M ≠ w.heap.size + 1; have := heap_lt HZ4.out; omega), Below.heap_setCell _ _ _ _ (by show M ≠ w.heap.size + 1; have := heap_lt HZ4.out; omega)]; exact HCS.out
    · have hpf : decide (0 ≤ s') = false := by simpa using hp
      go_upto_region 12 with fail
      have hb4 : Below w2.heap.size w2 (w2.alloc (.cells #[.int .i8 p2, .slice B2 (Ty.len f2) c2] 25)) := (Below.refl _ _).alloc (Nat.le_refl _) _
      have HR4 := Lib.hid (heap_new w2 (.cells #[.int .i8 p2, .slice B2 (Ty.len f2) c2] 25))
      have HA4 := Lib.hid (heap_below hb4 (heap_lt HA2.out) HA2.out)
      have HZ4 := Lib.hid (heap_below hb4 (heap_lt HZ2.out) HZ2.out)
      have HL4 := Lib.hid (heap_below hb4 (heap_lt HL2.out) HL2.out)
      have HBB4 := Lib.hid (HB2.out.trans (hb4.mono HB2.out.size))
      have HIL4 := Lib.hid (show Ty.IsP (fun b => (P b ∨ w.heap.size + 3 ≤ b) ∧ True) (w2.alloc (.cells #[.int .i8 p2, .slice B2 (Ty.len f2) c2] 25)) p1 f1 B1 (Ty.len f1) c1 from I1.out.to fun b o v' hb hc => ⟨⟨.inl hb, trivial⟩, keepAt' hc HBB4.out⟩)
      have HIR4 := Lib.hid (show Ty.IsP (fun b => (P b ∨ w.heap.size + 3 ≤ b) ∧ True) (w2.alloc (.cells #[.int .i8 p2, .slice B2 (Ty.len f2) c2] 25)) p2 f2 B2 (Ty.len f2) c2 from I2.out.to fun b o v' hb hc => ⟨⟨.inl hb, trivial⟩, keepAt' hc HBB4.out⟩)
      clear hb4 hpf l0 l1 lf0 lf1 hl9 a0 a1' ha9 x2 x3
      generalize w2.alloc (.cells #[.int .i8 p2, .slice B2 (Ty.len f2) c2] 25) = v at *
      obtain ⟨a0, a1, _, _, ha9⟩ := own2 HA4.out
      obtain ⟨l0, l1, _, _, hl9⟩ := own2 HL4.out
      obtain ⟨r0, r1, _, _, hr9⟩ := own2 HR4.out
      go_wp2_with fail
      refine (of_raw k p1 _ _ _ p2 _ _ _ _).mono ?_
      rintro e v2 ⟨M, rfl, hM, hcs, hb⟩
      have HZ9 := Lib.hid (heap_below hb (heap_lt HZ4.out) HZ4.out)
      obtain ⟨z0, z1, zf0, zf1, hz9⟩ := own2 HZ9.out
      have HBV := Lib.hid hb
      have HCS := Lib.hid hcs
      have HM := Lib.hid hM
      have HB9 := Lib.hid (HBB4.out.trans (hb.mono HBB4.out.size))
      clear hb hcs hM a0 a1 l0 l1 r0 r1
      go_wp2_with fail
      have hM := HM.out
      have QL := fun (y0 y1 : Value) => HIL4.out.to (P' := fun b => P b ∨ w.heap.size ≤ b) (w' := (v2.setCell ⟨w.heap.size + 1, 0, none⟩ y0).setCell ⟨w.heap.size + 1, 1, none⟩ y1) fun b o v hb hc => ⟨or_big hb.1 (by omega), two_keep (or_ne hb.1 HPP.out (by omega) (by omega)) (keepAt' hc HBV.out)⟩
      have QR := fun (y0 y1 : Value) => HIR4.out.to (P' := fun b => P b ∨ w.heap.size ≤ b) (w' := (v2.setCell ⟨w.heap.size + 1, 0, none⟩ y0).setCell ⟨w.heap.size + 1, 1, none⟩ y1) fun b o v hb hc => ⟨or_big hb.1 (by omega), two_keep (or_ne hb.1 HPP.out (by omega) (by omega)) (keepAt' hc HBV.out)⟩
      refine bodyPost_ret (v := .tuple #[.agg #[.int .i8 k, .slice (some ⟨M, 0, none⟩) 2 2], .int .i64 s']) (by simp [results, Tryd.results10, go_sem, *]) rfl ⟨k, Ty.two p1 f1 p2 f2, _, _, _, s', rfl, hsb, Ty.IsP.two (N := M) (t := 25) ?_ HKB.out.1 HKB.out.2 ?_ (QL _ _) (QR _ _), Ty.Opens.mk2 HOK.out (Ty.Opens.refl O1.out) (Ty.Opens.refl O2.out), two_set HB9.out (Nat.le_succ _) _ _⟩
      · exact .inr (by have := HBB4.out.size; omega)
      · rw [Below.heap_setCell _ _ _ _ (by show M ≠ w.heap.size + 1; have := heap_lt HZ4.out; omega), Below.heap_setCell _ _ _ _ (by show M ≠ w.heap.size + 1; have := heap_lt HZ4.out; omega)]; exact HCS.out
end Go.Proofs.YtailgpkgcockhaaDoor
