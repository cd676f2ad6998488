/-
  Layer 9: the gradual rules; check.Type, whole. Layer 9: the law's Kind; its tooGreat; what Type leaves, as the law reads it.
-/
import Derived.Test.YtknhoagicdfikaaGreatDoorCk23
import Derived.Test.YtknhoagicdfikaaGreatDoorM14
import Derived.Test.YtknhoagicdfikaaGreatDoorM16
import Derived.Test.YtknhoagicdfikaaGreatDoorLow
import Derived.Deep.RegionHeld3
import Derived.Deep.DeepCutAuto
namespace Go.Proofs.YtknhoagicdfikaaGreatDoor
open Go.RowKit
set_option maxHeartbeats 1000000 in
set_option maxRecDepth 100000 in
theorem gmeet_any (Q : Nat → Prop) (a : Ck.T2) (A : Option Addr) (n c : Nat) (b : Ck.T2) (A' : Option Addr) (n' c' : Nat) (w : World) (hL : Ck.Ly Q w a A n c) (hL' : Ck.Ly Q w b A' n' c') (hag : Ck.ag a b = true) (hS : Shapes w) :
    Calls Tryz.prog 24 #[.agg #[.int .i8 a.1, .slice A n c], .agg #[.int .i8 b.1, .slice A' n' c']] w (Ck.Gives Q w (Ck.mt a b)) := by
  have HB3 := Lib.hid (below_n3 w (.cells #[.int .i8 a.1, .slice A n c] 25) (.cells #[.int .i8 b.1, .slice A' n' c'] 25) (.cells #[.int .i8 0, .slice none 0 0] 25))
  obtain ⟨h0, h1, h2⟩ := heap_n3 w (.cells #[.int .i8 a.1, .slice A n c] 25) (.cells #[.int .i8 b.1, .slice A' n' c'] 25) (.cells #[.int .i8 0, .slice none 0 0] 25)
  have CM := Lib.hid (fun (W : World) (hb : Below w.heap.size w W) => oMeetP_any a.1 a.2 A n c b.1 b.2 A' n' c' W (hL.is.below hb) (hL'.is.below hb) (hS.below hb))
  unfold MeetTellsP at CM
  rw [show Ty.agreeT a.1 a.2 b.1 b.2 = true from hag] at CM
  simp only [if_true] at CM
  have H2 := Lib.hid h2
  clear hL hL' hS hag h0 h1 h2
  go_enter Tryz.func24, Tryz.ntmps24
  go_wp2_with fail
  refine (CM.out _ HB3.out).mono ?_
  rintro e w7 ⟨G, m, cg, rfl, hR, hb7⟩
  have hz7 := hb7.size
  simp only [World.size_alloc] at hz7
  have HB7 := Lib.hid (HB3.out.trans (hb7.mono HB3.out.size))
  have hb8 : Below w7.heap.size w7 (w7.alloc (.cells #[.int .i8 (Ty.mK a.1 b.1), .slice G m cg] 25)) := (Below.refl _ _).alloc (Nat.le_refl _) _
  have HL := Lib.hid (Ck.Ly.later (Ck.Ly.weak (Q' := fun b => w.heap.size + 3 ≤ b) (a := Ck.mt a b) (w := w7) hR (fun b _ h => by simp at h; omega)) hb8)
  have HB8 := Lib.hid (HB7.out.trans (hb8.mono HB7.out.size))
  have H2 := Lib.hid (heap_below (hb7.trans (hb8.mono hb7.size)) (heap_lt H2.out) H2.out)
  have H5 := Lib.hid (heap_new w7 (.cells #[.int .i8 (Ty.mK a.1 b.1), .slice G m cg] 25))
  clear hR hb7 hb8
  go_upto_region 2 with fail
  generalize w7.alloc (.cells #[.int .i8 (Ty.mK a.1 b.1), .slice G m cg] 25) = w8 at *
  obtain ⟨x0, x1, f0, f1, xl⟩ := own2 H2.out
  obtain ⟨y0, y1, f2, f3, yl⟩ := own2 H5.out
  have HNE := Lib.hid (fun (b : Nat) (hq : w.heap.size + 3 ≤ b) => (show b ≠ w.heap.size + 1 + 1 by omega))
  go_wp2_with fail
  refine bodyPost_ret (v := .agg #[.int .i8 (Ty.mK a.1 b.1), .slice G m cg]) (by simp [results, Tryz.results24, go_sem, *]) rfl ⟨G, m, cg, rfl, ?_, ?_⟩
  · exact (HL.out.set2 HNE.out _ _).weak fun b _ hq => by have : w.heap.size + 3 ≤ b := hq; exact .inr (by omega)
  · exact below_set2 HB8.out (by omega) _ _

/-- the gradual rules -/
def gradRv (gK : Nat) : Cg.Rv where
  fr := 44
  cpt := #[.pointer (some ⟨gK, 0, none⟩)]
  vg := .nilFunc
  fa := 22
  fm := 23
  ft := 24
  D := Cg.grad
  cfr := fun args W => by simp [go_sem]
  cfa := fun args W => by simp [go_sem]
  cfm := fun args W => by simp [go_sem]
  cft := fun args W => by simp [go_sem]
  agC := fun k kids A n c k' kids' A' n' c' w h1 h2 hS => agree_any k kids A n c k' kids' A' n' c' w h1 h2 hS
  asC := fun Q kd a A n c w _ hL _ hS => (asP_any kd a.1 a.2 A n c w hL.is hS).mono fun e w' ⟨G1, m1, c1, G2, m2, c2, he, h1, h2, hb⟩ =>
    ⟨G1, m1, c1, G2, m2, c2, he, Ck.Ly.weak (a := Ck.asl kd a) h1 (fun b _ h => .inr h), Ck.Ly.weak (a := Ck.asr kd a) h2 (fun b _ h => .inr h), hb⟩
  mtC := fun Q a A n c b A' n' c' w h1 h2 hag hS => gmeet_any Q a A n c b A' n' c' w h1 h2 hag hS
  gC := fun e => by cases e
set_option maxHeartbeats 1000000 in
set_option maxRecDepth 100000 in
theorem gradual_any (w : World) : Calls Tryz.prog 12 #[] w fun e w' => ∃ gK, e = .returned (.agg #[.func (Fn.func 44) #[] #[.pointer (some ⟨gK, 0, none⟩)], .func (Fn.func 22) #[] #[], .func (Fn.func 23) #[] #[], .func (Fn.func 24) #[] #[], .nilFunc]) ∧ w'.heap[gK]? = some (.cells #[.int .i8 17] 22 (0, 0)) ∧ w.heap.size ≤ gK ∧ Below w.heap.size w w' := by
  have HB := Lib.hid (below_n1 w (.cells #[.nilFunc, .nilFunc, .nilFunc, .nilFunc, .nilFunc] 47))
  have H0 := Lib.hid (heap_new w (.cells #[.nilFunc, .nilFunc, .nilFunc, .nilFunc, .nilFunc] 47))
  have CW := Lib.hid (fun W : World => ckwithout_any 17 W)
  go_enter Tryz.func12, Tryz.ntmps12
  go_upto_region 1 with fail
  generalize w.alloc (.cells #[.nilFunc, .nilFunc, .nilFunc, .nilFunc, .nilFunc] 47) = w1 at *
  go_wp2_with fail
  refine (CW.out _).mono ?_
  rintro e w2 ⟨g, rfl, hk, hg, hb⟩
  have HB2 := Lib.hid (HB.out.trans (hb.mono HB.out.size))
  have H2 := Lib.hid (heap_below hb (heap_lt H0.out) H0.out)
  have HG := Lib.hid hk
  have HL := Lib.hid (Nat.lt_of_lt_of_le (heap_lt H0.out) hg)
  clear hk hg hb
  obtain ⟨r0, r1, r2, r3, r4, z0, z1, z2, z3, z4, rl⟩ := own5 H2.out
  go_wp2_with fail
  have k1 := set_five H2.out (.func (Fn.func 44) #[] #[.pointer (some ⟨g, 0, none⟩)]) (.func (Fn.func 22) #[] #[]) (.func (Fn.func 23) #[] #[]) (.func (Fn.func 24) #[] #[]) .nilFunc
  obtain ⟨s0, s1, s2, s3, s4, -⟩ := own5 k1
  refine bodyPost_ret (v := .agg #[.func (Fn.func 44) #[] #[.pointer (some ⟨g, 0, none⟩)], .func (Fn.func 22) #[] #[], .func (Fn.func 23) #[] #[], .func (Fn.func 24) #[] #[], .nilFunc]) (by simp [results, Tryz.results12, go_sem, s0, s1, s2, s3, s4]) rfl ⟨g, rfl, ?_, ?_, below_set5 HB2.out (Nat.le_refl _) _ _ _ _ _⟩
  · exact set_five_ne HG.out (show w.heap.size ≠ g by have := HL.out; omega) _ _ _ _ _
  · have := HL.out; omega

set_option maxHeartbeats 1000000 in
set_option maxRecDepth 100000 in
theorem ckType_ok (h : Hd) (p : Pl) (w : World) (a : Ck.T2)
    (hC : ∀ (gK : Nat) (W : World), Below w.heap.size w W → W.heap[gK]? = some (.cells #[.int .i8 17] 22 (0, 0)) → Calls Tryz.prog 13 #[.agg #[.func (Fn.func 44) #[] #[.pointer (some ⟨gK, 0, none⟩)], .func (Fn.func 22) #[] #[], .func (Fn.func 23) #[] #[], .func (Fn.func 24) #[] #[], .nilFunc], .agg #[.int .i8 h.kind, .string h.name, .string h.arg, .int .i64 h.num, .int .i8 h.tk, .slice p.TA p.tn p.tc, .int .i8 h.uk, .slice p.UA p.un p.uc, .int .i64 h.label, .int .i64 h.pos, .slice p.A p.n p.c]] W (Ck.TyPost W (.ok a))) :
    Calls Tryz.prog 5 #[.agg #[.int .i8 h.kind, .string h.name, .string h.arg, .int .i64 h.num, .int .i8 h.tk, .slice p.TA p.tn p.tc, .int .i8 h.uk, .slice p.UA p.un p.uc, .int .i64 h.label, .int .i64 h.pos, .slice p.A p.n p.c]] w (Ck.TyPost w (.ok a)) := by
  have hB2 := below_n2 w (.cells #[.int .i8 h.kind, .string h.name, .string h.arg, .int .i64 h.num, .int .i8 h.tk, .slice p.TA p.tn p.tc, .int .i8 h.uk, .slice p.UA p.un p.uc, .int .i64 h.label, .int .i64 h.pos, .slice p.A p.n p.c] 28) (.cells #[.int .i8 0, .slice none 0 0] 25)
  obtain ⟨h0, h1⟩ := heap_n2 w (.cells #[.int .i8 h.kind, .string h.name, .string h.arg, .int .i64 h.num, .int .i8 h.tk, .slice p.TA p.tn p.tc, .int .i8 h.uk, .slice p.UA p.un p.uc, .int .i64 h.label, .int .i64 h.pos, .slice p.A p.n p.c] 28) (.cells #[.int .i8 0, .slice none 0 0] 25)
  have hz : ((w.alloc (.cells #[.int .i8 h.kind, .string h.name, .string h.arg, .int .i64 h.num, .int .i8 h.tk, .slice p.TA p.tn p.tc, .int .i8 h.uk, .slice p.UA p.un p.uc, .int .i64 h.label, .int .i64 h.pos, .slice p.A p.n p.c] 28)).alloc (.cells #[.int .i8 0, .slice none 0 0] 25)).heap.size = w.heap.size + 2 := by simp
  obtain ⟨w1, hw1⟩ : ∃ w1, w1 = (w.alloc (.cells #[.int .i8 h.kind, .string h.name, .string h.arg, .int .i64 h.num, .int .i8 h.tk, .slice p.TA p.tn p.tc, .int .i8 h.uk, .slice p.UA p.un p.uc, .int .i64 h.label, .int .i64 h.pos, .slice p.A p.n p.c] 28)).alloc (.cells #[.int .i8 0, .slice none 0 0] 25) := ⟨_, rfl⟩
  rw [← hw1] at hB2 h0 h1 hz
  have HW1 := Lib.hid hw1
  have HZ := Lib.hid hz
  have H2 := Lib.hid h1
  have hfrom := Lib.hid (fun (W : World) (hb : Below w1.heap.size w1 W) => hB2.trans (hb.mono hB2.size))
  have CT := Lib.hid (fun (gK : Nat) (W : World) (hb : Below w1.heap.size w1 W) => hC gK W (hB2.trans (hb.mono hB2.size)))
  have HK := Lib.hid (fun (W : World) (hb : Below w1.heap.size w1 W) => (own11 (heap_below hb (heap_lt h0) h0)))
  clear hB2 h0 h1 hz hC
  go_enter Tryz.func5, Tryz.ntmps5
  go_upto_region 1 with fail
  rw [← HW1.out]
  clear hw1 HW1
  refine region_inv_end2 9 rfl [4, 5, 6, 7, 8, 3] (by kernel_rfl) (by kernel_rfl) (by kernel_rfl) (fun listed a' w' => a'.defers = [] ∧ a'.tmps.size = 9 ∧ (a'.eval (.tmp 1) = .pointer (some ⟨w.heap.size, 0, none⟩) ∧ a'.eval (.tmp 2) = .pointer (some ⟨w.heap.size + 1, 0, none⟩)) ∧ ∃ gK G m c, (listed[0]? = some true → (a'.eval (.tmp 4) = .agg #[.func (Fn.func 44) #[] #[.pointer (some ⟨gK, 0, none⟩)], .func (Fn.func 22) #[] #[], .func (Fn.func 23) #[] #[], .func (Fn.func 24) #[] #[], .nilFunc]) ∧ ((listed[2]? = some false → w'.heap[gK]? = some (.cells #[.int .i8 17] 22 (0, 0))))) ∧ (listed[1]? = some true → (a'.eval (.tmp 5) = .agg #[.int .i8 h.kind, .string h.name, .string h.arg, .int .i64 h.num, .int .i8 h.tk, .slice p.TA p.tn p.tc, .int .i8 h.uk, .slice p.UA p.un p.uc, .int .i64 h.label, .int .i64 h.pos, .slice p.A p.n p.c])) ∧ (listed[2]? = some true → (a'.eval (.tmp 6) = .tuple #[.agg #[.int .i8 a.1, .slice G m c], .nilIface]) ∧ (listed[0]? = some true) ∧ (listed[1]? = some true) ∧ (Ck.Ly (fun b => w1.heap.size ≤ b) w' a G m c)) ∧ (listed[3]? = some true → (a'.eval (.tmp 7) = .agg #[.int .i8 a.1, .slice G m c]) ∧ (listed[0]? = some true) ∧ (listed[1]? = some true) ∧ (listed[2]? = some true)) ∧ (listed[4]? = some true → (a'.eval (.tmp 8) = .nilIface)) ∧ (listed[5]? = some true → (listed[0]? = some true) ∧ (listed[1]? = some true) ∧ (listed[2]? = some true) ∧ (listed[3]? = some true) ∧ (w'.heap[w.heap.size + 1]? = some (.cells #[.int .i8 a.1, .slice G m c] 25 (0, 0))) ∧ (Below w.heap.size w w')) ∧ (listed[6]? = some true → (a'.eval (.tmp 3) = .nilIface)) ∧ (listed[5]? = some false → Below w1.heap.size w1 w')) (fun _ _ _ h => h.1) ?_ ?_ ?_
  · have hz := HZ.out
    refine ⟨rfl, rfl, ⟨rfl, rfl⟩, 0, none, 0, 0, FH, FH, FH, FH, FH, FH, FH, (fun _ => (Below.refl _ _).drew)⟩
  · rintro listed a' w' i o ⟨hdf, hsz, hx, gK, G, m, c, y0, y1, y2, y3, y4, y5, y6, hbw⟩ hz hsz0 ho hi hp
    have hi13 : i < 7 := by
      rcases Nat.lt_or_ge i 7 with q | q
      · exact q
      · rw [Array.getElem?_eq_none (by simpa using q)] at ho; cases ho
    rcases (by omega : i = 0 ∨ i = 1 ∨ i = 2 ∨ i = 3 ∨ i = 4 ∨ i = 5 ∨ i = 6) with rfl | rfl | rfl | rfl | rfl | rfl | rfl
    · obtain rfl := SI ho
      have hbw := hbw (nf (by rw [hz]; decide) (fun q => (y5 q).1) hi)
      refine C_ ho 4 (gradual_any w') fun e u hg => ?_
      · obtain ⟨gK', he, hkb, hlo, hb⟩ := hg
        refine ⟨.agg #[.func (Fn.func 44) #[] #[.pointer (some ⟨gK', 0, none⟩)], .func (Fn.func 22) #[] #[], .func (Fn.func 23) #[] #[], .func (Fn.func 24) #[] #[], .nilFunc], he, ?_⟩
        have hbs := hbw.size
        have hzz := HZ.out
        have hbs2 := hb.size
        exact ⟨pd hdf, ps hsz, KX hx, gK', G, m, c, (fun _ => ⟨pS hsz, (fun _ => hkb)⟩), K1 y1, KN y2, KN y3, K1 y4, KN y5, K1 y6, (fun _ => hbw.trans (hb.mono hbw.size))⟩
    · obtain rfl := SI ho
      have hbu := hbw
      have hbw := hbw (nf (by rw [hz]; decide) (fun q => (y5 q).2.1) hi)
      obtain ⟨q0, q1, q2, q3, q4, q5, q6, q7, q8, q9, q10, -⟩ := HK.out w' hbw
      exact V_ ho 5 ⟨pd hdf, ps hsz, KX hx, gK, G, m, c, (kF y0 (fun q => ⟨pn q.1, (kU q.2 (fun q => q))⟩)), (fun _ => pS hsz), KN y2, KN y3, K1 y4, KN y5, K1 y6, (kU hbu id)⟩
    · obtain rfl := SI ho
      have v0 := hpv hp 0 (by simp)
      have ww0 := (y0 v0).1
      have v1 := hpv hp 1 (by simp)
      have ww1 := (y1 v1)
      have hbw := hbw (nf (by rw [hz]; decide) (fun q => (y5 q).2.2.1) hi)
      refine C_ ho 6 (CT.out gK w' hbw (((y0 v0).2) hi)) fun e u hg => ?_
      · obtain ⟨G', m', c', rfl, hl, hb⟩ := hg
        refine ⟨.tuple #[.agg #[.int .i8 a.1, .slice G' m' c'], .nilIface], rfl, ?_⟩
        have hbs := hbw.size
        have hzz := HZ.out
        have hbs2 := hb.size
        exact ⟨pd hdf, ps hsz, KX hx, gK, G', m', c', (kF y0 (fun q => ⟨pn q.1, (fun qu => (set_self_false qu).elim)⟩)), K1 y1, (fun _ => ⟨pS hsz, (set_keep v0), (set_keep v1), Ck.Ly.weak hl (fun b _ hq => Nat.le_trans hbw.size hq)⟩), KN y3, K1 y4, KN y5, K1 y6, (fun _ => hbw.trans (hb.mono hbw.size))⟩
    · obtain rfl := SI ho
      have v2 := hpv hp 2 (by simp)
      have ww2 := (y2 v2).1
      exact V_ ho 7 ⟨pd hdf, ps hsz, KX hx, gK, G, m, c, (kF y0 (fun q => ⟨pn q.1, (kU q.2 (fun q => q))⟩)), K1 y1, K1 y2, (fun _ => ⟨pS hsz, (set_keep ((y2 v2).2.1)), (set_keep ((y2 v2).2.2.1)), (set_keep v2)⟩), K1 y4, KN y5, K1 y6, (kU hbw id)⟩
    · obtain rfl := SI ho
      have v2 := hpv hp 2 (by simp)
      have ww2 := (y2 v2).1
      exact V_ ho 8 ⟨pd hdf, ps hsz, KX hx, gK, G, m, c, (kF y0 (fun q => ⟨pn q.1, (kU q.2 (fun q => q))⟩)), K1 y1, K1 y2, K1 y3, (fun _ => pS hsz), K1 y5, K1 y6, (kU hbw id)⟩
    · obtain rfl := SI ho
      have v3 := hpv hp 3 (by simp)
      have ww3 := (y3 v3).1
      have hbw := hbw hi
      have hbox := heap_below hbw (heap_lt H2.out) H2.out
      obtain ⟨bc0, bc1, bf0, bf1, -⟩ := own2 hbox
      refine wpOp_at ho rfl (wp_store rfl (w2 := (w'.setCell ⟨w.heap.size + 1, 0, none⟩ (.int .i8 a.1)).setCell ⟨w.heap.size + 1, 1, none⟩ (.slice G m c)) ?_ ?_)
      · exact EV
      · have hsa : ((w'.setCell ⟨w.heap.size + 1, 0, none⟩ (.int .i8 a.1)).setCell ⟨w.heap.size + 1, 1, none⟩ (.slice G m c)).heap.size = w'.heap.size := by simp
        have hbs := hbw.size
        have hzz := HZ.out
        exact ⟨hdf, hsz, hx, gK, G, m, c, (kF y0 (fun q => ⟨q.1, (kT ((y3 v3).2.2.2))⟩)), K1 y1, K1 y2, K1 y3, K1 y4, (fun _ => ⟨(set_keep ((y3 v3).2.1)), (set_keep ((y3 v3).2.2.1)), (set_keep ((y3 v3).2.2.2)), (set_keep v3), set_two hbox _ _, below_set2 (hfrom.out w' hbw) (by omega) _ _⟩), K1 y6, (fun qu => (set_self_false qu).elim)⟩
    · obtain rfl := SI ho
      have v4 := hpv hp 4 (by simp)
      have ww4 := (y4 v4)
      exact V_ ho 3 ⟨pd hdf, ps hsz, KX hx, gK, G, m, c, (kF y0 (fun q => ⟨pn q.1, (kU q.2 (fun q => q))⟩)), K1 y1, K1 y2, K1 y3, K1 y4, K1 y5, (fun _ => pS hsz), (kU hbw id)⟩
  · rintro listed u w' t ht hu ⟨-, -, -, gK, G, m, c, y0, y1, y2, y3, y4, y5, y6, hbw⟩ hall
    have v2 := hall 2 (by decide)
    have v5 := hall 5 (by decide)
    have v6 := hall 6 (by decide)
    have HBX := Lib.hid ((y5 v5).2.2.2.2.2)
    have hl := ((y2 v2).2.2.2)
    have hx := ((y5 v5).2.2.2.2.1)
    have e3 := ((y6 v6))
    rw [hu 3 (by decide) (by decide)] at e3
    clear y0 y1 y2 y3 y4 y5 y6 v2 v5 v6 hall hu
    clear hbw
    simp only [over, List.setIfInBounds_toArray, List.set_cons_succ, List.set_cons_zero] at ht
    subst ht
    obtain ⟨k0, k1', -, -, -⟩ := own2 hx
    have hz := HZ.out
    go_wp2_with fail
    refine ⟨rfl, .tuple #[.agg #[.int .i8 a.1, .slice G m c], .nilIface], by simp [results, Tryz.results5, go_sem, k0, k1', e3], ?_⟩
    exact ⟨G, m, c, rfl, hl.weak (fun b _ hq => by have h1 : w1.heap.size ≤ b := hq; show w.heap.size ≤ b; omega), HBX.out⟩

set_option maxHeartbeats 1000000 in
set_option maxRecDepth 100000 in
theorem ckType_bad (h : Hd) (p : Pl) (w : World) (E at' : Int) (x : ByteArray)
    (hC : ∀ (gK : Nat) (W : World), Below w.heap.size w W → W.heap[gK]? = some (.cells #[.int .i8 17] 22 (0, 0)) → Calls Tryz.prog 13 #[.agg #[.func (Fn.func 44) #[] #[.pointer (some ⟨gK, 0, none⟩)], .func (Fn.func 22) #[] #[], .func (Fn.func 23) #[] #[], .func (Fn.func 24) #[] #[], .nilFunc], .agg #[.int .i8 h.kind, .string h.name, .string h.arg, .int .i64 h.num, .int .i8 h.tk, .slice p.TA p.tn p.tc, .int .i8 h.uk, .slice p.UA p.un p.uc, .int .i64 h.label, .int .i64 h.pos, .slice p.A p.n p.c]] W (Ck.TyPost W (.bad E at' x))) :
    Calls Tryz.prog 5 #[.agg #[.int .i8 h.kind, .string h.name, .string h.arg, .int .i64 h.num, .int .i8 h.tk, .slice p.TA p.tn p.tc, .int .i8 h.uk, .slice p.UA p.un p.uc, .int .i64 h.label, .int .i64 h.pos, .slice p.A p.n p.c]] w (Ck.TyPost w (.bad E at' x)) := by
  have hB2 := below_n2 w (.cells #[.int .i8 h.kind, .string h.name, .string h.arg, .int .i64 h.num, .int .i8 h.tk, .slice p.TA p.tn p.tc, .int .i8 h.uk, .slice p.UA p.un p.uc, .int .i64 h.label, .int .i64 h.pos, .slice p.A p.n p.c] 28) (.cells #[.int .i8 0, .slice none 0 0] 25)
  obtain ⟨h0, h1⟩ := heap_n2 w (.cells #[.int .i8 h.kind, .string h.name, .string h.arg, .int .i64 h.num, .int .i8 h.tk, .slice p.TA p.tn p.tc, .int .i8 h.uk, .slice p.UA p.un p.uc, .int .i64 h.label, .int .i64 h.pos, .slice p.A p.n p.c] 28) (.cells #[.int .i8 0, .slice none 0 0] 25)
  have hz : ((w.alloc (.cells #[.int .i8 h.kind, .string h.name, .string h.arg, .int .i64 h.num, .int .i8 h.tk, .slice p.TA p.tn p.tc, .int .i8 h.uk, .slice p.UA p.un p.uc, .int .i64 h.label, .int .i64 h.pos, .slice p.A p.n p.c] 28)).alloc (.cells #[.int .i8 0, .slice none 0 0] 25)).heap.size = w.heap.size + 2 := by simp
  obtain ⟨w1, hw1⟩ : ∃ w1, w1 = (w.alloc (.cells #[.int .i8 h.kind, .string h.name, .string h.arg, .int .i64 h.num, .int .i8 h.tk, .slice p.TA p.tn p.tc, .int .i8 h.uk, .slice p.UA p.un p.uc, .int .i64 h.label, .int .i64 h.pos, .slice p.A p.n p.c] 28)).alloc (.cells #[.int .i8 0, .slice none 0 0] 25) := ⟨_, rfl⟩
  rw [← hw1] at hB2 h0 h1 hz
  have HW1 := Lib.hid hw1
  have HZ := Lib.hid hz
  have H2 := Lib.hid h1
  have hfrom := Lib.hid (fun (W : World) (hb : Below w1.heap.size w1 W) => hB2.trans (hb.mono hB2.size))
  have CT := Lib.hid (fun (gK : Nat) (W : World) (hb : Below w1.heap.size w1 W) => hC gK W (hB2.trans (hb.mono hB2.size)))
  have HK := Lib.hid (fun (W : World) (hb : Below w1.heap.size w1 W) => (own11 (heap_below hb (heap_lt h0) h0)))
  clear hB2 h0 h1 hz hC
  go_enter Tryz.func5, Tryz.ntmps5
  go_upto_region 1 with fail
  rw [← HW1.out]
  clear hw1 HW1
  refine region_inv_end2 9 rfl [4, 5, 6, 7, 8, 3] (by kernel_rfl) (by kernel_rfl) (by kernel_rfl) (fun listed a' w' => a'.defers = [] ∧ a'.tmps.size = 9 ∧ (a'.eval (.tmp 1) = .pointer (some ⟨w.heap.size, 0, none⟩) ∧ a'.eval (.tmp 2) = .pointer (some ⟨w.heap.size + 1, 0, none⟩)) ∧ ∃ gK g, (listed[0]? = some true → (a'.eval (.tmp 4) = .agg #[.func (Fn.func 44) #[] #[.pointer (some ⟨gK, 0, none⟩)], .func (Fn.func 22) #[] #[], .func (Fn.func 23) #[] #[], .func (Fn.func 24) #[] #[], .nilFunc]) ∧ ((listed[2]? = some false → w'.heap[gK]? = some (.cells #[.int .i8 17] 22 (0, 0))))) ∧ (listed[1]? = some true → (a'.eval (.tmp 5) = .agg #[.int .i8 h.kind, .string h.name, .string h.arg, .int .i64 h.num, .int .i8 h.tk, .slice p.TA p.tn p.tc, .int .i8 h.uk, .slice p.UA p.un p.uc, .int .i64 h.label, .int .i64 h.pos, .slice p.A p.n p.c])) ∧ (listed[2]? = some true → (a'.eval (.tmp 6) = .tuple #[.agg #[.int .i8 0, .slice none 0 0], .iface 52 (.pointer (some ⟨g, 0, none⟩))]) ∧ (listed[0]? = some true) ∧ (listed[1]? = some true) ∧ (w'.heap[g]? = some (.cells #[.int .i64 E, .int .i64 at', .string x] 56 (0, 0))) ∧ (w1.heap.size ≤ g)) ∧ (listed[3]? = some true → (a'.eval (.tmp 7) = .agg #[.int .i8 0, .slice none 0 0]) ∧ (listed[0]? = some true) ∧ (listed[1]? = some true) ∧ (listed[2]? = some true)) ∧ (listed[4]? = some true → (a'.eval (.tmp 8) = .iface 52 (.pointer (some ⟨g, 0, none⟩))) ∧ (listed[2]? = some true)) ∧ (listed[5]? = some true → (listed[0]? = some true) ∧ (listed[1]? = some true) ∧ (listed[2]? = some true) ∧ (listed[3]? = some true) ∧ (w'.heap[w.heap.size + 1]? = some (.cells #[.int .i8 0, .slice none 0 0] 25 (0, 0))) ∧ (Below w.heap.size w w')) ∧ (listed[6]? = some true → (a'.eval (.tmp 3) = .iface 52 (.pointer (some ⟨g, 0, none⟩))) ∧ (listed[2]? = some true)) ∧ (listed[5]? = some false → Below w1.heap.size w1 w')) (fun _ _ _ h => h.1) ?_ ?_ ?_
  · have hz := HZ.out
    refine ⟨rfl, rfl, ⟨rfl, rfl⟩, 0, 0, FH, FH, FH, FH, FH, FH, FH, (fun _ => (Below.refl _ _).drew)⟩
  · rintro listed a' w' i o ⟨hdf, hsz, hx, gK, g, y0, y1, y2, y3, y4, y5, y6, hbw⟩ hz hsz0 ho hi hp
    have hi13 : i < 7 := by
      rcases Nat.lt_or_ge i 7 with q | q
      · exact q
      · rw [Array.getElem?_eq_none (by simpa using q)] at ho; cases ho
    rcases (by omega : i = 0 ∨ i = 1 ∨ i = 2 ∨ i = 3 ∨ i = 4 ∨ i = 5 ∨ i = 6) with rfl | rfl | rfl | rfl | rfl | rfl | rfl
    · obtain rfl := SI ho
      have hbw := hbw (nf (by rw [hz]; decide) (fun q => (y5 q).1) hi)
      refine C_ ho 4 (gradual_any w') fun e u hg => ?_
      · obtain ⟨gK', he, hkb, hlo, hb⟩ := hg
        refine ⟨.agg #[.func (Fn.func 44) #[] #[.pointer (some ⟨gK', 0, none⟩)], .func (Fn.func 22) #[] #[], .func (Fn.func 23) #[] #[], .func (Fn.func 24) #[] #[], .nilFunc], he, ?_⟩
        have hbs := hbw.size
        have hzz := HZ.out
        have hbs2 := hb.size
        exact ⟨pd hdf, ps hsz, KX hx, gK', g, (fun _ => ⟨pS hsz, (fun _ => hkb)⟩), K1 y1, KN y2, KN y3, K1 y4, KN y5, K1 y6, (fun _ => hbw.trans (hb.mono hbw.size))⟩
    · obtain rfl := SI ho
      have hbu := hbw
      have hbw := hbw (nf (by rw [hz]; decide) (fun q => (y5 q).2.1) hi)
      obtain ⟨q0, q1, q2, q3, q4, q5, q6, q7, q8, q9, q10, -⟩ := HK.out w' hbw
      exact V_ ho 5 ⟨pd hdf, ps hsz, KX hx, gK, g, (kF y0 (fun q => ⟨pn q.1, (kU q.2 (fun q => q))⟩)), (fun _ => pS hsz), KN y2, KN y3, K1 y4, KN y5, K1 y6, (kU hbu id)⟩
    · obtain rfl := SI ho
      have v0 := hpv hp 0 (by simp)
      have ww0 := (y0 v0).1
      have v1 := hpv hp 1 (by simp)
      have ww1 := (y1 v1)
      have hbw := hbw (nf (by rw [hz]; decide) (fun q => (y5 q).2.2.1) hi)
      refine C_ ho 6 (CT.out gK w' hbw (((y0 v0).2) hi)) fun e u hg => ?_
      · obtain ⟨g', rfl, hf, hg, hb⟩ := hg
        refine ⟨.tuple #[.agg #[.int .i8 0, .slice none 0 0], .iface 52 (.pointer (some ⟨g', 0, none⟩))], rfl, ?_⟩
        have hbs := hbw.size
        have hzz := HZ.out
        have hbs2 := hb.size
        exact ⟨pd hdf, ps hsz, KX hx, gK, g', (kF y0 (fun q => ⟨pn q.1, (fun qu => (set_self_false qu).elim)⟩)), K1 y1, (fun _ => ⟨pS hsz, (set_keep v0), (set_keep v1), hf, (Nat.le_trans hbw.size hg)⟩), KN y3, KN y4, KN y5, KN y6, (fun _ => hbw.trans (hb.mono hbw.size))⟩
    · obtain rfl := SI ho
      have v2 := hpv hp 2 (by simp)
      have ww2 := (y2 v2).1
      exact V_ ho 7 ⟨pd hdf, ps hsz, KX hx, gK, g, (kF y0 (fun q => ⟨pn q.1, (kU q.2 (fun q => q))⟩)), K1 y1, K1 y2, (fun _ => ⟨pS hsz, (set_keep ((y2 v2).2.1)), (set_keep ((y2 v2).2.2.1)), (set_keep v2)⟩), K1 y4, KN y5, K1 y6, (kU hbw id)⟩
    · obtain rfl := SI ho
      have v2 := hpv hp 2 (by simp)
      have ww2 := (y2 v2).1
      exact V_ ho 8 ⟨pd hdf, ps hsz, KX hx, gK, g, (kF y0 (fun q => ⟨pn q.1, (kU q.2 (fun q => q))⟩)), K1 y1, K1 y2, K1 y3, (fun _ => ⟨pS hsz, (set_keep v2)⟩), K1 y5, K1 y6, (kU hbw id)⟩
    · obtain rfl := SI ho
      have v3 := hpv hp 3 (by simp)
      have ww3 := (y3 v3).1
      have hbw := hbw hi
      have hbox := heap_below hbw (heap_lt H2.out) H2.out
      obtain ⟨bc0, bc1, bf0, bf1, -⟩ := own2 hbox
      refine wpOp_at ho rfl (wp_store rfl (w2 := (w'.setCell ⟨w.heap.size + 1, 0, none⟩ (.int .i8 0)).setCell ⟨w.heap.size + 1, 1, none⟩ (.slice none 0 0)) ?_ ?_)
      · exact EV
      · have hsa : ((w'.setCell ⟨w.heap.size + 1, 0, none⟩ (.int .i8 0)).setCell ⟨w.heap.size + 1, 1, none⟩ (.slice none 0 0)).heap.size = w'.heap.size := by simp
        have hbs := hbw.size
        have hzz := HZ.out
        exact ⟨hdf, hsz, hx, gK, g, (kF y0 (fun q => ⟨q.1, (kT ((y3 v3).2.2.2))⟩)), K1 y1, (kF y2 (fun q => ⟨q.1, set_keep q.2.1, set_keep q.2.2.1, (set_two_ne q.2.2.2.1 (by omega) _ _), q.2.2.2.2⟩)), K1 y3, K1 y4, (fun _ => ⟨(set_keep ((y3 v3).2.1)), (set_keep ((y3 v3).2.2.1)), (set_keep ((y3 v3).2.2.2)), (set_keep v3), set_two hbox _ _, below_set2 (hfrom.out w' hbw) (by omega) _ _⟩), K1 y6, (fun qu => (set_self_false qu).elim)⟩
    · obtain rfl := SI ho
      have v4 := hpv hp 4 (by simp)
      have ww4 := (y4 v4).1
      exact V_ ho 3 ⟨pd hdf, ps hsz, KX hx, gK, g, (kF y0 (fun q => ⟨pn q.1, (kU q.2 (fun q => q))⟩)), K1 y1, K1 y2, K1 y3, K1 y4, K1 y5, (fun _ => ⟨pS hsz, (set_keep ((y4 v4).2))⟩), (kU hbw id)⟩
  · rintro listed u w' t ht hu ⟨-, -, -, gK, g, y0, y1, y2, y3, y4, y5, y6, hbw⟩ hall
    have v2 := hall 2 (by decide)
    have v5 := hall 5 (by decide)
    have v6 := hall 6 (by decide)
    have HBX := Lib.hid ((y5 v5).2.2.2.2.2)
    have hf := ((y2 v2).2.2.2.1)
    have hg := ((y2 v2).2.2.2.2)
    have hx := ((y5 v5).2.2.2.2.1)
    have e3 := ((y6 v6).1)
    rw [hu 3 (by decide) (by decide)] at e3
    clear y0 y1 y2 y3 y4 y5 y6 v2 v5 v6 hall hu
    clear hbw
    simp only [over, List.setIfInBounds_toArray, List.set_cons_succ, List.set_cons_zero] at ht
    subst ht
    obtain ⟨k0, k1', -, -, -⟩ := own2 hx
    have hz := HZ.out
    have HF := Lib.hid hf
    clear hf
    go_wp2_with fail
    refine ⟨rfl, .tuple #[.agg #[.int .i8 0, .slice none 0 0], .iface 52 (.pointer (some ⟨g, 0, none⟩))], by simp [results, Tryz.results5, go_sem, k0, k1', e3], ?_⟩
    exact ⟨g, rfl, HF.out, (by omega), HBX.out⟩

theorem ckType_of (h : Hd) (p : Pl) (w : World) (R : Ck.R) (hC : ∀ (gK : Nat) (W : World), Below w.heap.size w W → W.heap[gK]? = some (.cells #[.int .i8 17] 22 (0, 0)) → Calls Tryz.prog 13 #[.agg #[.func (Fn.func 44) #[] #[.pointer (some ⟨gK, 0, none⟩)], .func (Fn.func 22) #[] #[], .func (Fn.func 23) #[] #[], .func (Fn.func 24) #[] #[], .nilFunc], .agg #[.int .i8 h.kind, .string h.name, .string h.arg, .int .i64 h.num, .int .i8 h.tk, .slice p.TA p.tn p.tc, .int .i8 h.uk, .slice p.UA p.un p.uc, .int .i64 h.label, .int .i64 h.pos, .slice p.A p.n p.c]] W (Ck.TyPost W R)) :
    Calls Tryz.prog 5 #[.agg #[.int .i8 h.kind, .string h.name, .string h.arg, .int .i64 h.num, .int .i8 h.tk, .slice p.TA p.tn p.tc, .int .i8 h.uk, .slice p.UA p.un p.uc, .int .i64 h.label, .int .i64 h.pos, .slice p.A p.n p.c]] w (Ck.TyPost w R) := by
  cases R with
  | ok a => exact ckType_ok h p w a hC
  | bad E at' x => exact ckType_bad h p w E at' x hC
/-- check.Type -/
theorem ckType_any (h : Hd) (kids : Tm) (p : Pl) (w : World) (hIs : Tm.Is w h kids p) (hG : TGlob w) :
    Calls Tryz.prog 5 #[.agg #[.int .i8 h.kind, .string h.name, .string h.arg, .int .i64 h.num, .int .i8 h.tk, .slice p.TA p.tn p.tc, .int .i8 h.uk, .slice p.UA p.un p.uc, .int .i64 h.label, .int .i64 h.pos, .slice p.A p.n p.c]] w (Ck.TyPost w (Ck.tell h kids)) := by
  refine ckType_of h p w _ fun gK W hb hk => ?_
  have e := rType_any (gradRv gK) h kids p W (Ck.refKO 17 h kids) (hIs.below hb) (hG.below hb) (fun e => ⟨(Ck.refKO_ok e).1, .inr (by rw [Ck.castT_has]; exact (Ck.refKO_ok e).2)⟩)
    (fun U hu => ckwithout1_any 17 gK h kids p U ((hIs.below hb).below hu) ((hG.below hb).below hu) (heap_below hu (heap_lt hk) hk))
  have e2 : Cg.tellR (gradRv gK).D (Ck.refKO 17 h kids) h kids = Ck.tell h kids := by
    unfold Cg.tellR Ck.tell
    show (match Ck.refKO 17 h kids with | some x => Ck.R.bad x.1 x.2 Ck.e0 | none => Cg.ty Cg.grad (Tm.nodes kids + 1) h kids []) = _
    unfold Ck.refKO Ck.refK
    rw [Cg.ty_grad, ← Ck.castT_has]
    by_cases h0 : Tm.chk h kids = 0
    · have h0' : ¬ Tm.chk h kids ≠ 0 := by simpa using h0
      rw [if_neg h0', if_neg h0']
      cases Ck.castT h kids <;> simp
    · rw [if_pos h0, if_pos h0, if_neg (by omega)]
  rw [e2] at e
  exact e
end Go.Proofs.YtknhoagicdfikaaGreatDoor
namespace Go.Proofs.YtknhoagicdfikaaGreatDoor
open Go.RowKit
set_option maxHeartbeats 2000000 in
set_option maxRecDepth 100000 in
theorem kind9_any (K : Nat) : ∀ (k : Int) (kids : Fo) (A : Option Addr) (n c : Nat) (k' : Int) (kids' : Fo) (A' : Option Addr) (n' c' : Nat) (w : World), Ty.nodes kids < K → Ty.Is w k kids A n c → Ty.Is w k' kids' A' n' c' →
    Calls Tryz.prog 7 #[.agg #[.int .i8 k, .slice A n c], .agg #[.int .i8 k', .slice A' n' c']] w fun e w' => e = .returned (.bool (Ty.eqT k kids k' kids')) ∧ Below w.heap.size w w' := by
  induction K with
  | zero => intro _ _ _ _ _ _ _ _ _ _ _ h; omega
  | succ K ih =>
    intro k kids A n c k' kids' A' n' c' w hK hIs hIs'
    have i5 : (n : Int) ≤ 9223372036854775807 := by have h1 := hIs.n_le; have h2 := hIs.c_le; unfold maxLen at h2; omega
    obtain ⟨hB0, hR0, hR1⟩ := two_boxes w k A n c k' A' n' c'
    have HI := Lib.hid hIs
    have HI' := Lib.hid hIs'
    have IH := Lib.hid ih
    clear ih hIs hIs'
    obtain ⟨b0, b1, _, _, hb0⟩ := own2 hR0
    obtain ⟨d0, d1, _, _, hd0⟩ := own2 hR1
    by_cases hkk : k = k'
    · by_cases hnn : n = n'
      · subst hkk
        subst hnn
        rw [show Ty.eqT k kids k kids' = Ty.eqF kids kids' by unfold Ty.eqT; simp]
        have hk2 : (k != k) = false := by simp
        obtain ⟨R, hR⟩ : ∃ R, Ty.eqF kids kids' = R := ⟨_, rfl⟩
        rw [hR]
        have HR := Lib.hid hR
        have hlies2 := HI'.out.lies.below hB0
        have hst := Over.start (HI.out.lies.below hB0) HI.out.n_eq
        have hst2 : Over2 w _ A' n 0 kids' := ⟨by have := HI'.out.n_eq; omega, hlies2⟩
        have hn2 : ((n : Int) != (n : Int)) = false := by simp
        clear hR0 hR1 hR hlies2
        generalize hw1 : (w.alloc (.cells #[.int .i8 k, .slice A n c] 25)).alloc (.cells #[.int .i8 k, .slice A' n c'] 25) = w1 at *
        have HS := Lib.hid hst
        have HS2 := Lib.hid hst2
        have HW := Lib.hid hw1
        clear hst hst2 hw1
        go_enter Tryz.func7, Tryz.ntmps7
        go_wp2_with fail
        rw [HW.out]
        go_wp2_with fail
        go_loopw [23] (fun v23 wr => ∃ (i : Nat) (r1 r2 : Fo), v23 = .int .i64 i ∧ Over w1 wr A n (Ty.nodes kids) i r1 ∧ Over2 w wr A' n i r2 ∧ Ty.eqF r1 r2 = R) (fun v _ => n - (intOf v).toNat)
        case atStart => exact ⟨0, kids, kids', rfl, HS.out, HS2.out, HR.out⟩
        case round =>
          obtain ⟨i, r1, r2, rfl, hO, hO2, hRR⟩ := hrel
          have hbB := hB0.trans (hO.below.mono hB0.size)
          obtain ⟨e0, e1⟩ := hO.box b0 b1
          obtain ⟨g0, g1⟩ := hO.box d0 d1
          clear b0 b1 d0 d1
          cases r1 with
          | nil =>
            have hi : i = n := by have := hO.i_eq; simpa [Ty.len] using this
            have hr2 : r2 = .nil := by
              have := hO2.i_eq
              cases r2 with
              | nil => rfl
              | node _ _ _ _ _ => simp only [Ty.len] at this; omega
            subst hr2
            clear hO hO2
            simp only [Ty.eqF] at hRR
            subst hi
            subst hRR
            go_wp2_with fail
            go_ret
            exact ⟨rfl, hbB⟩
          | node a b kk kks r =>
            cases r2 with
            | nil => have q1 := hO.i_eq; have q2 := hO2.i_eq; simp only [Ty.len] at q1 q2; omega
            | node a2 b2 kk2 kks2 s =>
            have hst := fun w2 hb => Over.step (w2 := w2) hO hb
            have h1 := hO.i_eq
            have h2 := hO.lies
            have h3 := hO.sub
            have q1 := hO2.i_eq
            have q2 := hO2.lies
            simp only [Ty.len, Ty.nodes, Ty.eqF] at h1 h3 hRR q1
            obtain ⟨bb, oo, B, c9, rfl, ⟨hk1, hk2'⟩, c1', c2', hl1, hl2, hl3, hl4⟩ := h2
            obtain ⟨bb2, oo2, B2, c3, rfl, ⟨gk1, gk2⟩, x1, x2, gl1, gl2, gl3, gl4⟩ := q2
            have hcall := fun (W : World) (hb : Below wr.heap.size wr W) => IH.out kk kks B (Ty.len kks) c9 kk2 kks2 B2 (Ty.len kks2) c3 W (by omega) ⟨hl3.below hb, rfl, hl1, hl2, hk1, hk2'⟩ ⟨gl3.below hb, rfl, gl1, gl2, gk1, gk2⟩
            have HST := Lib.hid hst
            have HL := Lib.hid hl4
            have HL2 := Lib.hid gl4
            have HC := Lib.hid hcall
            have HRR := Lib.hid hRR
            have j1 : (i : Int) < n := by omega
            have j2 : (0 : Int) ≤ i ∧ (i : Int) < n := by omega
            have hBd := Lib.hid (below_drewN (Below.refl wr.heap.size wr) 1)
            clear hst hl3 hl4 gl3 gl4 hcall hO hO2 hRR
            cases hp : Ty.eqT kk kks kk2 kks2
            · have hp0 : R = false := by rw [← HRR.out]; unfold Ty.eqT at hp; rw [hp]; rfl
              rw [hp] at HC
              subst hp0
              clear hp
              go_wp2_with fail
              go_still_tail 10, (by kernel_rfl)
              change wpList _ _ _ _ _ (wr.drewN 1)
              have hbB1 := hbB.trans (hBd.out.mono hbB.size)
              have hsz : (wr.drewN 1).heap.size = wr.heap.size := rfl
              clear e0 e1 g0 g1 c1' c2' x1 x2
              generalize wr.drewN 1 = w2 at *
              go_wp2_with fail
              refine (HC.out _ hBd.out).mono ?_
              rintro e w3 ⟨rfl, hb⟩
              go_wp2_with fail
              go_ret
              exact ⟨rfl, hbB1.trans (hb.mono hbB1.size)⟩
            · have hp0 := HRR.out
              unfold Ty.eqT at hp
              rw [hp, Bool.true_and] at hp0
              have HP := Lib.hid hp0
              rw [show Ty.eqT kk kks kk2 kks2 = true from hp] at HC
              clear hp hp0
              go_wp2_with fail
              go_still_tail 10, (by kernel_rfl)
              change wpList _ _ _ _ _ (wr.drewN 1)
              have hsz : (wr.drewN 1).heap.size = wr.heap.size := rfl
              clear e0 e1 g0 g1 c1' c2' x1 x2
              generalize wr.drewN 1 = w2 at *
              go_wp2_with fail
              refine (HC.out _ hBd.out).mono ?_
              rintro e w3 ⟨rfl, hb⟩
              have hB2 : Below wr.heap.size wr w3 := hBd.out.trans (hb.mono (by omega))
              have hbb := Lib.hid (HST.out w3 hB2 HL.out)
              have hbb2 : Hid (Over2 w w3 (some ⟨bb2, oo2, none⟩) n (i + 1) s) := Lib.hid ⟨by omega, HL2.out.below hB2⟩
              clear hb hB2 hsz
              go_wp2_with fail
              go_roundw
              case rel => exact ⟨i + 1, r, s, by go_num, hbb.out, hbb2.out, HP.out⟩
              case measure => simp [intOf]; omega
      · subst hkk
        have hl : Ty.len kids ≠ Ty.len kids' := by have h1 := HI.out.n_eq; have h2 := HI'.out.n_eq; omega
        rw [show Ty.eqT k kids k kids' = false by unfold Ty.eqT; simp [Ty.eqF_ne _ _ hl]]
        have hk2 : (k != k) = false := by simp
        have hn2 : ((n : Int) != (n' : Int)) = true := by simp; omega
        clear hl hR0 hR1
        go_enter Tryz.func7, Tryz.ntmps7
        go_wp2_with fail
        go_ret
        exact ⟨rfl, hB0⟩
    · rw [show Ty.eqT k kids k' kids' = false by unfold Ty.eqT; simp [hkk]]
      have hk2 : (k != k') = true := by simpa using hkk
      clear hkk hR0 hR1
      go_enter Tryz.func7, Tryz.ntmps7
      go_wp2_with fail
      go_ret
      exact ⟨rfl, hB0⟩


theorem eNeqF (p : Option Addr) (w : World) : (binOp .neq 30 (.iface 52 (.pointer p)) .nilIface).run Tryz.prog w = .ok (.bool true) w := by kernel_rfl
theorem eNeqN (w : World) : (binOp .neq 30 .nilIface .nilIface).run Tryz.prog w = .ok (.bool false) w := by kernel_rfl
theorem eEqlF (p : Option Addr) (w : World) : (binOp .eql 30 (.iface 52 (.pointer p)) .nilIface).run Tryz.prog w = .ok (.bool false) w := by kernel_rfl
theorem eEqlN (w : World) : (binOp .eql 30 .nilIface .nilIface).run Tryz.prog w = .ok (.bool true) w := by kernel_rfl
namespace Ck
def badB : R → Bool
  | .ok _ => false
  | .bad _ _ _ => true
def tyOf : R → T2
  | .ok a => a
  | .bad _ _ _ => (0, .nil)
/-- an error's value, of which b says whether it is one -/
structure ErrV (v : Value) (b : Bool) : Prop where
  neq : ∀ w : World, (binOp .neq 30 v .nilIface).run Tryz.prog w = .ok (.bool b) w
  eql : ∀ w : World, (binOp .eql 30 v .nilIface).run Tryz.prog w = .ok (.bool !b) w
/-- what Type leaves -/
theorem TyPost.told {w w' : World} {r : R} {e : Ending} (h : TyPost w r e w') : ∃ G m c v, e = .returned (.tuple #[.agg #[.int .i8 (tyOf r).1, .slice G m c], v]) ∧ Ly (fun b => w.heap.size ≤ b) w' (tyOf r) G m c ∧ Below w.heap.size w w' ∧ ErrV v (badB r) := by
  cases r with
  | ok a =>
    obtain ⟨G, m, c, h1, h2, h3⟩ := h
    exact ⟨G, m, c, _, h1, h2, h3, eNeqN, eEqlN⟩
  | bad E p x =>
    obtain ⟨g, h1, -, -, h3⟩ := h
    exact ⟨none, 0, 0, _, h1, Ly.zero _ _, h3, eNeqF _, eEqlF _⟩
/-- a pair of terms that a block holds -/
theorem two_is {w : World} {X : Nat} {h h' : Hd} {k k' : Tm} {p p' : Pl} {ty : TypeId} (hX : w.heap[X]? = some (.cells #[.int .i8 h.kind, .string h.name, .string h.arg, .int .i64 h.num, .int .i8 h.tk, .slice p.TA p.tn p.tc, .int .i8 h.uk, .slice p.UA p.un p.uc, .int .i64 h.label, .int .i64 h.pos, .slice p.A p.n p.c, .int .i8 h'.kind, .string h'.name, .string h'.arg, .int .i64 h'.num, .int .i8 h'.tk, .slice p'.TA p'.tn p'.tc, .int .i8 h'.uk, .slice p'.UA p'.un p'.uc, .int .i64 h'.label, .int .i64 h'.pos, .slice p'.A p'.n p'.c] ty (0, 0)))
    (hI : Tm.Is w h k p) (hI' : Tm.Is w h' k' p') : Tm.Is w hd9 (two h k h' k') ⟨none, 0, 0, none, 0, 0, some ⟨X, 0, none⟩, 2, 2⟩ := by
  have hz : Ty.Is w 0 .nil none 0 0 := Ty.zero_is w
  refine ⟨⟨hz, hz, rfl, Nat.le_refl _, (show (2 : Nat) ≤ maxLen by decide), (show (-128 : Int) ≤ 9 by decide), (show (9 : Int) ≤ 127 by decide), (show (-9223372036854775808 : Int) ≤ 0 by decide), (show (0 : Int) ≤ 9223372036854775807 by decide), (show (0 : Nat) ≤ 281474976710656 by decide), (show (0 : Nat) ≤ 281474976710656 by decide)⟩, ?_⟩
  refine ⟨X, 0, p, rfl, fun j v hj => ?_, hI.fit, hI.lies, X, 0, p', rfl, fun j v hj => ?_, hI'.fit, hI'.lies, trivial⟩
  · have hlt : j < 11 := by
      rcases Nat.lt_or_ge j 11 with q | q
      · exact q
      · rw [List.getElem?_eq_none (by simpa using q)] at hj; cases hj
    refine cell_of_heap hX (0 + 0 * 11 + j) ?_
    rcases (by omega : j = 0 ∨ j = 1 ∨ j = 2 ∨ j = 3 ∨ j = 4 ∨ j = 5 ∨ j = 6 ∨ j = 7 ∨ j = 8 ∨ j = 9 ∨ j = 10) with rfl | rfl | rfl | rfl | rfl | rfl | rfl | rfl | rfl | rfl | rfl <;> exact hj
  · have hlt : j < 11 := by
      rcases Nat.lt_or_ge j 11 with q | q
      · exact q
      · rw [List.getElem?_eq_none (by simpa using q)] at hj; cases hj
    refine cell_of_heap hX (0 + (0 + 1) * 11 + j) ?_
    rcases (by omega : j = 0 ∨ j = 1 ∨ j = 2 ∨ j = 3 ∨ j = 4 ∨ j = 5 ∨ j = 6 ∨ j = 7 ∨ j = 8 ∨ j = 9 ∨ j = 10) with rfl | rfl | rfl | rfl | rfl | rfl | rfl | rfl | rfl | rfl | rfl <;> exact hj
end Ck
end Go.Proofs.YtknhoagicdfikaaGreatDoor
