/-
  Layer 9: the rules' small parts: meet, answerOf, named. Layer 9: how much fuel is enough; what is told of a closed pair. Layer 13: what the kernel's rules tell; a cast over what they take.
-/
import Derived.Test.YteefhebdfeaojaaGreatDoorKc
import Derived.Test.YteefhebdfeaojaaGreatDoorCk5
import Derived.WalkSmall
import Derived.Test.YteefhebdfeaojaaGreatDoorM18
import Derived.Test.YteefhebdfeaojaaGreatDoorM17
import Derived.Test.YteefhebdfeaojaaGreatDoorM21
namespace Go.Proofs.YteefhebdfeaojaaGreatDoor
open Go.RowKit

set_option maxHeartbeats 2000000 in
set_option maxRecDepth 100000 in
theorem ckmeet_no (rv : Cg.Rv) (Q : Nat → Prop) (h : Hd) (p : Pl) (a : Ck.T2) (A : Option Addr) (n c : Nat) (b : Ck.T2) (A' : Option Addr) (n' c' : Nat) (w : World) (hL : Ck.Ly Q w a A n c) (hL' : Ck.Ly Q w b A' n' c') (hS : Shapes w) (hag : rv.D.ag a b = false) :
    Calls Tryz.prog 70 #[.agg #[.func (Fn.func rv.fr) #[] rv.cpt, .func (Fn.func rv.fa) #[] #[], .func (Fn.func rv.fm) #[] #[], .func (Fn.func rv.ft) #[] #[], rv.vg], .agg #[.int .i8 h.kind, .string h.name, .string h.arg, .int .i64 h.num, .int .i8 h.tk, .slice p.TA p.tn p.tc, .int .i8 h.uk, .slice p.UA p.un p.uc, .int .i64 h.label, .int .i64 h.pos, .slice p.A p.n p.c], .agg #[.int .i8 a.1, .slice A n c], .agg #[.int .i8 b.1, .slice A' n' c']] w (Ck.Gave w 91 h.pos Ck.e0) := by
  have HB5 := Lib.hid (below_n5 w (.cells #[.func (Fn.func rv.fr) #[] rv.cpt, .func (Fn.func rv.fa) #[] #[], .func (Fn.func rv.fm) #[] #[], .func (Fn.func rv.ft) #[] #[], rv.vg] 44) (.cells #[.int .i8 h.kind, .string h.name, .string h.arg, .int .i64 h.num, .int .i8 h.tk, .slice p.TA p.tn p.tc, .int .i8 h.uk, .slice p.UA p.un p.uc, .int .i64 h.label, .int .i64 h.pos, .slice p.A p.n p.c] 28) (.cells #[.int .i8 a.1, .slice A n c] 25) (.cells #[.int .i8 b.1, .slice A' n' c'] 25) (.cells #[.int .i8 0, .slice none 0 0] 25))
  have CW := Lib.hid (fun (W : World) (hb : Below w.heap.size w W) => ckwant_no rv h p a.1 a.2 A n c b.1 b.2 A' n' c' W (hL.later hb).is (hL'.later hb).is (hS.below hb) hag)
  clear hL hL' hS hag
  go_enter Tryz.func70, Tryz.ntmps70
  go_wp2_with fail
  refine (CW.out _ HB5.out).mono ?_
  rintro e w6 hg
  have HG := Lib.hid (Ck.Gave.from (w := w) hg HB5.out)
  obtain ⟨g, rfl, -⟩ := hg
  go_wp2_with fail
  exact ⟨rfl, HG.out⟩

set_option maxHeartbeats 2000000 in
set_option maxRecDepth 100000 in
theorem ckmeet_yes (rv : Cg.Rv) (Q : Nat → Prop) (h : Hd) (p : Pl) (a : Ck.T2) (A : Option Addr) (n c : Nat) (b : Ck.T2) (A' : Option Addr) (n' c' : Nat) (w : World) (hL : Ck.Ly Q w a A n c) (hL' : Ck.Ly Q w b A' n' c') (hS : Shapes w) (hag : rv.D.ag a b = true) :
    Calls Tryz.prog 70 #[.agg #[.func (Fn.func rv.fr) #[] rv.cpt, .func (Fn.func rv.fa) #[] #[], .func (Fn.func rv.fm) #[] #[], .func (Fn.func rv.ft) #[] #[], rv.vg], .agg #[.int .i8 h.kind, .string h.name, .string h.arg, .int .i64 h.num, .int .i8 h.tk, .slice p.TA p.tn p.tc, .int .i8 h.uk, .slice p.UA p.un p.uc, .int .i64 h.label, .int .i64 h.pos, .slice p.A p.n p.c], .agg #[.int .i8 a.1, .slice A n c], .agg #[.int .i8 b.1, .slice A' n' c']] w (Ck.Gives Q w (rv.D.mt a b)) := by
  have HB5 := Lib.hid (below_n5 w (.cells #[.func (Fn.func rv.fr) #[] rv.cpt, .func (Fn.func rv.fa) #[] #[], .func (Fn.func rv.fm) #[] #[], .func (Fn.func rv.ft) #[] #[], rv.vg] 44) (.cells #[.int .i8 h.kind, .string h.name, .string h.arg, .int .i64 h.num, .int .i8 h.tk, .slice p.TA p.tn p.tc, .int .i8 h.uk, .slice p.UA p.un p.uc, .int .i64 h.label, .int .i64 h.pos, .slice p.A p.n p.c] 28) (.cells #[.int .i8 a.1, .slice A n c] 25) (.cells #[.int .i8 b.1, .slice A' n' c'] 25) (.cells #[.int .i8 0, .slice none 0 0] 25))
  have CW := Lib.hid (fun (W : World) (hb : Below w.heap.size w W) => ckwant_yes rv h p a.1 a.2 A n c b.1 b.2 A' n' c' W (hL.later hb).is (hL'.later hb).is (hS.below hb) hag)
  obtain ⟨h0, -, h2, h3, h4⟩ := heap_n5 w (.cells #[.func (Fn.func rv.fr) #[] rv.cpt, .func (Fn.func rv.fa) #[] #[], .func (Fn.func rv.fm) #[] #[], .func (Fn.func rv.ft) #[] #[], rv.vg] 44) (.cells #[.int .i8 h.kind, .string h.name, .string h.arg, .int .i64 h.num, .int .i8 h.tk, .slice p.TA p.tn p.tc, .int .i8 h.uk, .slice p.UA p.un p.uc, .int .i64 h.label, .int .i64 h.pos, .slice p.A p.n p.c] 28) (.cells #[.int .i8 a.1, .slice A n c] 25) (.cells #[.int .i8 b.1, .slice A' n' c'] 25) (.cells #[.int .i8 0, .slice none 0 0] 25)
  have hcf := rv.cft
  have CM := Lib.hid (fun (W : World) (hb : Below w.heap.size w W) => rv.mtC (fun b => Q b ∧ b < w.heap.size) a A n c b A' n' c' W ((hL.weak (fun b hl hq => ⟨hq, hl⟩)).later hb) ((hL'.weak (fun b hl hq => ⟨hq, hl⟩)).later hb) hag (hS.below hb))
  have H0 := Lib.hid h0
  have H2 := Lib.hid h2
  have H3 := Lib.hid h3
  have H4 := Lib.hid h4
  clear hL hL' hS hag h0 h2 h3 h4
  go_enter Tryz.func70, Tryz.ntmps70
  go_wp2_with fail
  refine (CW.out _ HB5.out).mono ?_
  rintro e w6 ⟨rfl, hb6⟩
  have HB6 := Lib.hid (HB5.out.trans (hb6.mono HB5.out.size))
  have H0 := Lib.hid (heap_below hb6 (heap_lt H0.out) H0.out)
  have H2 := Lib.hid (heap_below hb6 (heap_lt H2.out) H2.out)
  have H3 := Lib.hid (heap_below hb6 (heap_lt H3.out) H3.out)
  have H4 := Lib.hid (heap_below hb6 (heap_lt H4.out) H4.out)
  have hz6 := hb6.size
  simp only [World.size_alloc] at hz6
  clear hb6
  obtain ⟨r0, r1, r2, r3, r4, -, -, -, -, -, rl⟩ := own5 H0.out
  obtain ⟨x0, x1, -, -, xl⟩ := own2 H2.out
  obtain ⟨y0, y1, -, -, yl⟩ := own2 H3.out
  go_wp2_with fail
  refine (CM.out _ HB6.out).mono ?_
  rintro e w7 ⟨G, m, cg, rfl, hR, hb7⟩
  have HB7 := Lib.hid (HB6.out.trans (hb7.mono HB6.out.size))
  have HL := Lib.hid (Ck.Ly.weak (Q' := Ck.Cut Q w.heap.size (w.heap.size + 5)) (a := rv.D.mt a b) (w := w7) hR (fun b _ h => Or.elim h (fun h => .inl h.1) (fun h => .inr (by omega))))
  have H4 := Lib.hid (heap_below hb7 (heap_lt H4.out) H4.out)
  clear hR hb7 r0 r1 r2 r3 r4 rl x0 x1 xl y0 y1 yl
  obtain ⟨x0, x1, f0, f1, xl⟩ := own2 H4.out
  have HNE := Lib.hid (fun (b : Nat) (hq : Ck.Cut Q w.heap.size (w.heap.size + 5) b) => hq.ne (X := w.heap.size + 1 + 1 + 1 + 1) (by omega) (by omega))
  go_wp2_with fail
  refine bodyPost_ret (v := .agg #[.int .i8 (rv.D.mt a b).1, .slice G m cg]) (by simp [results, Tryz.results70, go_sem, *]) rfl ⟨G, m, cg, rfl, ?_, ?_⟩
  · exact (HL.out.set2 HNE.out _ _).weak fun b _ hq => hq.out (by omega)
  · exact below_set2 HB7.out (by omega) _ _

set_option maxHeartbeats 1000000 in
set_option maxRecDepth 100000 in
theorem ckanswer_any (s : ByteArray) (w : World) : Calls Tryz.prog 71 #[.string s] w fun e w' => e = .returned (.agg #[.int .i8 (Ck.opAns s).1, .slice none 0 0]) ∧ Below w.heap.size w w' := by
  have HB1 := Lib.hid (below_n1 w (.cells #[.int .i8 0, .slice none 0 0] 25))
  have CO := Lib.hid (fun (k : Int) (W : World) => ckof_any k none 0 0 W)
  have H1 := Lib.hid (heap_new w (.cells #[.int .i8 0, .slice none 0 0] 25))
  cases h60 : (s.toList == [60]) with
  | true =>
    have hR : (Ck.opAns s).1 = 2 := by unfold Ck.opAns; rw [h60]; rfl
    rw [hR]
    clear hR
    go_enter Tryz.func71, Tryz.ntmps71
    go_wp2_with fail
    refine (CO.out 2 _).mono ?_
    rintro e w2 ⟨rfl, hb2⟩
    obtain ⟨x0, x1, f0, f1, xl⟩ := own2 (heap_below hb2 (heap_lt H1.out) H1.out)
    have HB2 := Lib.hid (HB1.out.trans (hb2.mono HB1.out.size))
    clear hb2 h60
    go_wp2_with fail
    exact bodyPost_ret (v := .agg #[.int .i8 2, .slice none 0 0]) (by simp [results, Tryz.results71, go_sem, *]) rfl ⟨rfl, below_set2 HB2.out (Nat.le_refl _) _ _⟩
  | false =>
    cases h61 : (s.toList == [61]) with
    | true =>
      have hR : (Ck.opAns s).1 = 2 := by unfold Ck.opAns; rw [h60, h61]; rfl
      rw [hR]
      clear hR
      go_enter Tryz.func71, Tryz.ntmps71
      go_wp2_with fail
      refine (CO.out 2 _).mono ?_
      rintro e w2 ⟨rfl, hb2⟩
      obtain ⟨x0, x1, f0, f1, xl⟩ := own2 (heap_below hb2 (heap_lt H1.out) H1.out)
      have HB2 := Lib.hid (HB1.out.trans (hb2.mono HB1.out.size))
      clear hb2 h60 h61
      go_wp2_with fail
      exact bodyPost_ret (v := .agg #[.int .i8 2, .slice none 0 0]) (by simp [results, Tryz.results71, go_sem, *]) rfl ⟨rfl, below_set2 HB2.out (Nat.le_refl _) _ _⟩
    | false =>
      have hR : (Ck.opAns s).1 = 1 := by unfold Ck.opAns; rw [h60, h61]; rfl
      rw [hR]
      clear hR
      go_enter Tryz.func71, Tryz.ntmps71
      go_wp2_with fail
      refine (CO.out 1 _).mono ?_
      rintro e w2 ⟨rfl, hb2⟩
      obtain ⟨x0, x1, f0, f1, xl⟩ := own2 (heap_below hb2 (heap_lt H1.out) H1.out)
      have HB2 := Lib.hid (HB1.out.trans (hb2.mono HB1.out.size))
      clear hb2 h60 h61
      go_wp2_with fail
      exact bodyPost_ret (v := .agg #[.int .i8 1, .slice none 0 0]) (by simp [results, Tryz.results71, go_sem, *]) rfl ⟨rfl, below_set2 HB2.out (Nat.le_refl _) _ _⟩

/-- none of the first i names, from the end on, is this one -/
theorem Ck.fnd_split : ∀ (l : Ck.Env) (x : ByteArray) (i : Nat), i ≤ l.length → (∀ j y, i ≤ j → l[j]? = some y → (y.1.toList == x.toList) = false) → Ck.fnd l x = Ck.fnd (l.take i) x
  | [], x, i, _, _ => by simp
  | b :: l, x, 0, _, h => by
    have h1 := Ck.fnd_split l x 0 (Nat.zero_le _) (fun j y hj hy => h (j + 1) y (by omega) (by rw [List.getElem?_cons_succ]; exact hy))
    have h2 := h 0 b (Nat.le_refl _) rfl
    simp only [List.take_zero] at h1 ⊢
    unfold Ck.fnd
    rw [h1]
    simp [Ck.fnd, h2]
  | b :: l, x, i + 1, hi, h => by
    have h1 := Ck.fnd_split l x i (by simp only [List.length_cons] at hi; omega) (fun j y hj hy => h (j + 1) y (by omega) (by rw [List.getElem?_cons_succ]; exact hy))
    rw [List.take_succ_cons]
    unfold Ck.fnd
    rw [h1]
theorem Ck.fnd_last {l : Ck.Env} {x : ByteArray} {i : Nat} {y : ByteArray × Ck.T2} (hy : l[i]? = some y) (he : (y.1.toList == x.toList) = true) (h : ∀ j z, i + 1 ≤ j → l[j]? = some z → (z.1.toList == x.toList) = false) : Ck.fnd l x = some y.2 := by
  have hi : i < l.length := by rcases Nat.lt_or_ge i l.length with q | q; exact q; rw [List.getElem?_eq_none q] at hy; cases hy
  rw [Ck.fnd_split l x (i + 1) (by omega) h, List.take_add_one, hy]
  have hs : ∀ m : Ck.Env, Ck.fnd (m ++ [y]) x = some y.2 := by
    intro m
    induction m with
    | nil => simp [Ck.fnd, he]
    | cons b m ih => simp only [List.cons_append]; unfold Ck.fnd; rw [ih]
  exact hs _
theorem Ck.fnd_none {l : Ck.Env} {x : ByteArray} (h : ∀ (j : Nat) (z : ByteArray × Ck.T2), l[j]? = some z → (z.1.toList == x.toList) = false) : Ck.fnd l x = none := by
  rw [Ck.fnd_split l x 0 (Nat.zero_le _) (fun j y _ hy => h j y hy), List.take_zero]; rfl

/-- a type that is found around, or none -/
def Ck.OfPost (Q : Nat → Prop) (w : World) (r : Option Ck.T2) (e : Ending) (w' : World) : Prop := match r with
  | some a => ∃ G m c, e = .returned (.tuple #[.agg #[.int .i8 a.1, .slice G m c], .bool true]) ∧ Ck.Ly (Ck.Cut Q w.heap.size w.heap.size) w' a G m c ∧ Below w.heap.size w w'
  | none => e = .returned (.tuple #[.agg #[.int .i8 0, .slice none 0 0], .bool false]) ∧ Below w.heap.size w w'
set_option maxHeartbeats 2000000 in
set_option maxRecDepth 100000 in
theorem ckaround_any (Q : Nat → Prop) (x : ByteArray) (l : Ck.Env) (A : Option Addr) (n c : Nat) (w : World) (hE : Ck.EAt Q w l A n c) :
    Calls Tryz.prog 66 #[.slice A n c, .string x] w (Ck.OfPost Q w (Ck.fnd l x)) := by
  have HB1 := Lib.hid (below_n1 w (.cells #[.int .i8 0, .slice none 0 0] 25))
  have h1 := heap_new w (.cells #[.int .i8 0, .slice none 0 0] 25)
  have HY := Lib.hid h1
  have HE := Lib.hid hE
  have hn := hE.n_eq
  have HN := Lib.hid hn
  have hnc := hE.n_le
  have hcm := hE.c_le
  have i5 : (n : Int) ≤ 9223372036854775807 := by unfold maxLen at hcm; omega
  obtain ⟨R, hR⟩ : ∃ R, R = Ck.fnd l x := ⟨_, rfl⟩
  rw [← hR]
  have HR := Lib.hid hR
  clear h1 hE hn hR
  go_enter Tryz.func66, Tryz.ntmps66
  go_upto_region 1 with fail
  generalize w.alloc (.cells #[.int .i8 0, .slice none 0 0] 25) = w1 at *
  go_wp2_with fail
  go_loopw [6] (fun v5 wr => ∃ i : Nat, v5 = .int .i64 ((i : Int) - 1) ∧ i ≤ n ∧ (∀ (j : Nat) (y : ByteArray × Ck.T2), i ≤ j → l[j]? = some y → (y.1.toList == x.toList) = false) ∧ Below w1.heap.size w1 wr) (fun v _ => (intOf v + 1).toNat)
  case atStart =>
    refine ⟨n, rfl, Nat.le_refl _, fun j y hj hy => ?_, Below.refl _ _⟩
    have hnn := HN.out
    rw [List.getElem?_eq_none (by omega)] at hy; cases hy
  case round =>
    obtain ⟨i, rfl, hin, hno, hb⟩ := hrel
    cases i with
    | zero =>
      have HF := Lib.hid (Ck.fnd_none fun j z hz => hno j z (Nat.zero_le _) hz)
      have HBR := Lib.hid (HB1.out.trans (hb.mono HB1.out.size))
      have HY2 := Lib.hid (heap_below hb (heap_lt HY.out) HY.out)
      clear hno hb
      obtain ⟨y0, y1, f0, f1, yl⟩ := own2 HY2.out
      go_wp2_with fail
      have z3 := set_two HY2.out (.int .i8 0) (.slice none 0 0)
      obtain ⟨k0, k1, -, -, -⟩ := own2 z3
      refine bodyPost_ret (v := .tuple #[.agg #[.int .i8 0, .slice none 0 0], .bool false]) (by simp [results, Tryz.results66, go_sem, k0, k1]) rfl ?_
      rw [HR.out, HF.out]
      exact ⟨rfl, below_set2 HBR.out (Nat.le_refl _) _ _⟩
    | succ j =>
      have hj : j < l.length := by have := HN.out; omega
      obtain ⟨y, hy⟩ : ∃ y, l[j]? = some y := ⟨l[j]'hj, List.getElem?_eq_getElem hj⟩
      obtain ⟨b, o, G, m, k, hA, c0, c1, c2, hL⟩ := HE.out.at hy
      have hbw := HB1.out.trans (hb.mono HB1.out.size)
      have c0 := keep_cell c0 hbw
      have c1 := keep_cell c1 hbw
      have c2 := keep_cell c2 hbw
      have hL := (hL.weak (Q' := Ck.Cut Q w.heap.size (w.heap.size + 1)) fun b hb hq => .inl ⟨hq, hb⟩).later hbw
      clear hbw
      have HY2 := Lib.hid (heap_below hb (heap_lt HY.out) HY.out)
      have HBR := Lib.hid (HB1.out.trans (hb.mono HB1.out.size))
      have HB := Lib.hid hb
      have HL := Lib.hid hL
      have HNO := Lib.hid hno
      have HYY := Lib.hid hy
      have e1 : ((j + 1 : Nat) : Int) - 1 = (j : Int) := by omega
      rw [e1]
      have j1 : (0 : Int) ≤ j := by omega
      have j2 : (j : Int) < n := by omega
      have j3 : (0 : Int) ≤ j ∧ (j : Int) < n := by omega
      clear hno hb hL hy e1 hj
      subst hA
      cases hq : (y.1.toList == x.toList)
      · have HQ := Lib.hid hq
        go_wp2_with fail
        go_roundw
        case rel =>
          refine ⟨j, by go_num, by omega, fun i' y' hi' hy' => ?_, HB.out⟩
          rcases Nat.lt_or_ge j i' with g | g
          · exact HNO.out i' y' (by omega) hy'
          · obtain rfl : i' = j := by omega
            have q := HYY.out
            rw [hy'] at q
            injection q with q
            rw [q]; exact HQ.out
        case measure => simp [intOf]
      · have HQ := Lib.hid hq
        have HF := Lib.hid (Ck.fnd_last HYY.out HQ.out fun i' z hi' hz' => HNO.out i' z hi' hz')
        have HBL := Lib.hid (fun (b : Nat) (hq : Ck.Cut Q w.heap.size (w.heap.size + 1) b) => hq.ne (X := w.heap.size) (by omega) (by omega))
        obtain ⟨x0, x1, f0, f1, xl⟩ := own2 HY2.out
        go_wp2_with fail
        have z3 := set_two HY2.out (.int .i8 y.2.1) (.slice G m k)
        obtain ⟨k0, k1, -, -, -⟩ := own2 z3
        refine bodyPost_ret (v := .tuple #[.agg #[.int .i8 y.2.1, .slice G m k], .bool true]) (by simp [results, Tryz.results66, go_sem, k0, k1]) rfl ?_
        rw [HR.out, HF.out]
        refine ⟨G, m, k, rfl, ?_, below_set2 HBR.out (Nat.le_refl _) _ _⟩
        exact (HL.out.set2 HBL.out _ _).weak fun b _ hq => hq.out (by omega)

set_option maxHeartbeats 2000000 in
set_option maxRecDepth 100000 in
theorem cknamed_any (Q : Nat → Prop) (h : Hd) (p : Pl) (l : Ck.Env) (A : Option Addr) (n c : Nat) (w : World) (hE : Ck.EAt Q w l A n c) (hnm : h.name.size ≤ 281474976710656) :
    Calls Tryz.prog 57 #[.agg #[.int .i8 h.kind, .string h.name, .string h.arg, .int .i64 h.num, .int .i8 h.tk, .slice p.TA p.tn p.tc, .int .i8 h.uk, .slice p.UA p.un p.uc, .int .i64 h.label, .int .i64 h.pos, .slice p.A p.n p.c], .slice A n c] w (Ck.Post Q w (match Ck.fnd l h.name with | some a => .ok a | none => .bad 41 h.pos h.name)) := by
  have HB2 := Lib.hid (below_n2 w (.cells #[.int .i8 h.kind, .string h.name, .string h.arg, .int .i64 h.num, .int .i8 h.tk, .slice p.TA p.tn p.tc, .int .i8 h.uk, .slice p.UA p.un p.uc, .int .i64 h.label, .int .i64 h.pos, .slice p.A p.n p.c] 28) (.cells #[.int .i8 0, .slice none 0 0] 25))
  obtain ⟨h0, h1⟩ := heap_n2 w (.cells #[.int .i8 h.kind, .string h.name, .string h.arg, .int .i64 h.num, .int .i8 h.tk, .slice p.TA p.tn p.tc, .int .i8 h.uk, .slice p.UA p.un p.uc, .int .i64 h.label, .int .i64 h.pos, .slice p.A p.n p.c] 28) (.cells #[.int .i8 0, .slice none 0 0] 25)
  have HX := Lib.hid h0
  have HY := Lib.hid h1
  have HCL := Lib.hid (fun W => clone_any h.name hnm W)
  have HA := Lib.hid (fun (W : World) (hb : Below w.heap.size w W) => ckaround_any (fun b => Q b ∧ b < w.heap.size) h.name l A n c W ((hE.weak (fun b hl hq => ⟨hq, hl⟩)).below hb))
  have hzz : ((w.alloc (.cells #[.int .i8 h.kind, .string h.name, .string h.arg, .int .i64 h.num, .int .i8 h.tk, .slice p.TA p.tn p.tc, .int .i8 h.uk, .slice p.UA p.un p.uc, .int .i64 h.label, .int .i64 h.pos, .slice p.A p.n p.c] 28)).alloc (.cells #[.int .i8 0, .slice none 0 0] 25)).heap.size = w.heap.size + 2 := by simp
  have HZ := Lib.hid hzz
  obtain ⟨R, hR⟩ : ∃ R, R = (match Ck.fnd l h.name with | some a => Ck.R.ok a | none => Ck.R.bad 41 h.pos h.name) := ⟨_, rfl⟩
  rw [← hR]
  have HR := Lib.hid hR
  clear h0 h1 hE hR hzz
  go_enter Tryz.func57, Tryz.ntmps57
  go_upto_region 1 with fail
  generalize (w.alloc (.cells #[.int .i8 h.kind, .string h.name, .string h.arg, .int .i64 h.num, .int .i8 h.tk, .slice p.TA p.tn p.tc, .int .i8 h.uk, .slice p.UA p.un p.uc, .int .i64 h.label, .int .i64 h.pos, .slice p.A p.n p.c] 28)).alloc (.cells #[.int .i8 0, .slice none 0 0] 25) = w1 at *
  obtain ⟨q0, q1, q2, q3, q4, q5, q6, q7, q8, q9, q10, ql⟩ := own11 HX.out
  cases hf : Ck.fnd l h.name with
  | none =>
    have HF := Lib.hid hf
    rw [hf] at HA
    clear hf
    go_wp2_with fail
    refine (HA.out _ HB2.out).mono ?_
    rintro e w5 ⟨rfl, hb5⟩
    have hb6 := below_n1 w5 (.cells #[.int .i8 0, .slice none 0 0] 25)
    have HB6 := Lib.hid (HB2.out.trans ((hb5.trans (hb6.mono hb5.size)).mono HB2.out.size))
    have HX6 := Lib.hid (heap_below (hb5.trans (hb6.mono hb5.size)) (heap_lt HX.out) HX.out)
    clear q0 q1 q2 q3 q4 q5 q6 q7 q8 q9 q10 ql hb5 hb6
    go_upto_region 3 with fail
    generalize w5.alloc (.cells #[.int .i8 0, .slice none 0 0] 25) = wr at *
    obtain ⟨q0, q1, q2, q3, q4, q5, q6, q7, q8, q9, q10, ql⟩ := own11 HX6.out
    have HQ1 := Lib.hid q1
    have HQ9 := Lib.hid q9
    have HFIN := Lib.hid (fun (u : World) (hbu : Below wr.heap.size wr u) => (show Ck.Post Q w R (.panicked [{ v := .iface 54 (.pointer (some ⟨u.heap.size, 0, none⟩)), recovered := false }]) (u.alloc (.cells #[.int .i64 41, .int .i64 h.pos, .string h.name] 81)) from by
      rw [HR.out, HF.out]
      exact ⟨u.heap.size, rfl, heap_new u _, Nat.le_trans HB6.out.size hbu.size, (HB6.out.trans (hbu.mono HB6.out.size)).alloc (Nat.le_trans HB6.out.size hbu.size) _⟩))
    clear q0 q2 q3 q4 q5 q6 q7 q8 q10
    have D0 : Below wr.heap.size wr wr.drew := (Below.refl _ _).drew
    go_region_with (first
      | (go_at_call 67; (with_reducible refine (HCL.out _).mono ?_); rintro e u ⟨rfl, hbu⟩; have D1 := D0.trans (hbu.mono D0.size); have e9 := keep_cell HQ9.out D1; have HFU := Lib.hid (HFIN.out u D1); clear hbu)
      | (with_reducible (refine (show bodyPost _ _ _ (.panic _) _ _ from ?_)); refine panic_end (P := Tryz.prog) (w := wr) ?_))
    all_goals exact ⟨rfl, HFU.out⟩
  | some a =>
    have HF := Lib.hid hf
    rw [hf] at HA
    clear hf
    go_wp2_with fail
    refine (HA.out _ HB2.out).mono ?_
    rintro e w5 ⟨G, m, cg, rfl, hl, hb5⟩
    have hb6 := below_n1 w5 (.cells #[.int .i8 a.1, .slice G m cg] 25)
    have hs5 := hb5.size
    have hz := HZ.out
    have HL := Lib.hid (Ck.Ly.later (Ck.Ly.weak (Q' := Ck.Cut Q w.heap.size (w.heap.size + 2)) (a := a) (w := w5) hl (fun b _ h => Or.elim h (fun h => .inl h.1) (fun h => .inr (by omega)))) hb6)
    have HB6 := Lib.hid (HB2.out.trans ((hb5.trans (hb6.mono hb5.size)).mono HB2.out.size))
    have HY6 := Lib.hid (heap_below (hb5.trans (hb6.mono hb5.size)) (heap_lt HY.out) HY.out)
    have HN6 := Lib.hid (heap_new w5 (.cells #[.int .i8 a.1, .slice G m cg] 25))
    clear q0 q1 q2 q3 q4 q5 q6 q7 q8 q9 q10 ql hb5 hb6 hl
    go_upto_region 4 with fail
    generalize w5.alloc (.cells #[.int .i8 a.1, .slice G m cg] 25) = w6 at *
    obtain ⟨y0, y1, f0, f1, yl⟩ := own2 HY6.out
    obtain ⟨u0, u1, -, -, -⟩ := own2 HN6.out
    go_wp2_with fail
    have z3 := set_two HY6.out (.int .i8 a.1) (.slice G m cg)
    obtain ⟨k0, k1, -, -, -⟩ := own2 z3
    refine bodyPost_ret (v := .agg #[.int .i8 a.1, .slice G m cg]) (by simp [results, Tryz.results57, go_sem, k0, k1]) rfl ?_
    rw [HR.out, HF.out]
    exact ⟨G, m, cg, rfl, (HL.out.set2 (fun b hq => hq.ne (X := w.heap.size + 1) (by omega) (by omega)) _ _).weak (fun b _ hq => hq.out (by omega)), below_set2 HB6.out (by omega) _ _⟩

end Go.Proofs.YteefhebdfeaojaaGreatDoor
namespace Go.Proofs.YteefhebdfeaojaaGreatDoor
namespace Ck
theorem raw_congr {F G : Hd → Tm → Env → R} (h : Hd) (kids : Tm) (l : Env) (hi : Tm.isKind h.kind = true) (hn : Tm.len kids = Tm.kidsN h.kind)
    (h1 : 1 ≤ Tm.len kids → ∀ l, F (k1 kids).1 (k1 kids).2 l = G (k1 kids).1 (k1 kids).2 l)
    (h2 : 2 ≤ Tm.len kids → ∀ l, F (k2 kids).1 (k2 kids).2 l = G (k2 kids).1 (k2 kids).2 l)
    (h3 : 3 ≤ Tm.len kids → ∀ l, F (k3 kids).1 (k3 kids).2 l = G (k3 kids).1 (k3 kids).2 l) : raw F h kids l = raw G h kids l := by
  have hk : h.kind = 0 ∨ h.kind = 1 ∨ h.kind = 2 ∨ h.kind = 3 ∨ h.kind = 4 ∨ h.kind = 5 ∨ h.kind = 6 ∨ h.kind = 7 ∨ h.kind = 8 ∨ h.kind = 9 ∨ h.kind = 10 ∨ h.kind = 11 ∨ h.kind = 12 ∨ h.kind = 13 ∨ h.kind = 14 ∨ h.kind = 15 ∨ h.kind = 16 ∨ h.kind = 17 := by
    simp only [Tm.isKind, decide_eq_true_eq] at hi
    omega
  rcases hk with hk | hk | hk | hk | hk | hk | hk | hk | hk | hk | hk | hk | hk | hk | hk | hk | hk | hk
  · rw [hn, hk] at h1 h2 h3
    simp only [raw_0 F h kids l hk, raw_0 G h kids l hk]
  · rw [hn, hk] at h1 h2 h3
    simp only [raw_1 F h kids l hk, raw_1 G h kids l hk]
  · rw [hn, hk] at h1 h2 h3
    simp only [raw_2 F h kids l hk, raw_2 G h kids l hk]
  · rw [hn, hk] at h1 h2 h3
    simp only [raw_3 F h kids l hk, raw_3 G h kids l hk]
  · rw [hn, hk] at h1 h2 h3
    simp only [raw_4 F h kids l hk, raw_4 G h kids l hk, h1 (by decide)]
  · rw [hn, hk] at h1 h2 h3
    simp only [raw_5 F h kids l hk, raw_5 G h kids l hk, h1 (by decide)]
  · rw [hn, hk] at h1 h2 h3
    simp only [raw_6 F h kids l hk, raw_6 G h kids l hk, h1 (by decide), h2 (by decide)]
  · rw [hn, hk] at h1 h2 h3
    simp only [raw_7 F h kids l hk, raw_7 G h kids l hk, h1 (by decide), h2 (by decide)]
  · rw [hn, hk] at h1 h2 h3
    simp only [raw_8 F h kids l hk, raw_8 G h kids l hk, h1 (by decide), h2 (by decide), h3 (by decide)]
  · rw [hn, hk] at h1 h2 h3
    simp only [raw_9 F h kids l hk, raw_9 G h kids l hk, h1 (by decide), h2 (by decide)]
  · rw [hn, hk] at h1 h2 h3
    simp only [raw_10 F h kids l hk, raw_10 G h kids l hk, h1 (by decide)]
  · rw [hn, hk] at h1 h2 h3
    simp only [raw_11 F h kids l hk, raw_11 G h kids l hk, h1 (by decide)]
  · rw [hn, hk] at h1 h2 h3
    simp only [raw_12 F h kids l hk, raw_12 G h kids l hk, h1 (by decide)]
  · rw [hn, hk] at h1 h2 h3
    simp only [raw_13 F h kids l hk, raw_13 G h kids l hk, h1 (by decide)]
  · rw [hn, hk] at h1 h2 h3
    simp only [raw_14 F h kids l hk, raw_14 G h kids l hk, h1 (by decide), h2 (by decide), h3 (by decide)]
  · rw [hn, hk] at h1 h2 h3
    simp only [raw_15 F h kids l hk, raw_15 G h kids l hk, h1 (by decide), h2 (by decide)]
  · rw [hn, hk] at h1 h2 h3
    simp only [raw_16 F h kids l hk, raw_16 G h kids l hk, h1 (by decide)]
  · rw [hn, hk] at h1 h2 h3
    simp only [raw_17 F h kids l hk, raw_17 G h kids l hk, h1 (by decide)]
theorem okF_node' {h : Hd} {k r : Tm} (h0 : Tm.okF (.node h k r) = true) : Tm.okT h k = true ∧ Tm.okF r = true := by
  simp only [Tm.okF, Bool.and_eq_true] at h0
  exact ⟨by unfold Tm.okT; rw [h0.1.1, h0.1.2]; rfl, h0.2⟩
theorem k1_in {kids : Tm} (h : 1 ≤ Tm.len kids) : (Tm.okF kids = true → Tm.okT (k1 kids).1 (k1 kids).2 = true) ∧ (castF kids = false → castT (k1 kids).1 (k1 kids).2 = false) ∧ Tm.nodes (k1 kids).2 < Tm.nodes kids := by
  cases kids with
  | nil => simp [Tm.len] at h
  | node h k r =>
    refine ⟨fun h0 => (okF_node' h0).1, fun h0 => ?_, by simp only [k1, Tm.nodes]; omega⟩
    simp only [castF, Bool.or_eq_false_iff] at h0
    simp only [k1, castT, h0.1.1, h0.1.2, Bool.or_false]
theorem k2_in {kids : Tm} (h : 2 ≤ Tm.len kids) : (Tm.okF kids = true → Tm.okT (k2 kids).1 (k2 kids).2 = true) ∧ (castF kids = false → castT (k2 kids).1 (k2 kids).2 = false) ∧ Tm.nodes (k2 kids).2 < Tm.nodes kids := by
  cases kids with
  | nil => simp [Tm.len] at h
  | node h' k r =>
    obtain ⟨x, y, z⟩ := k1_in (kids := r) (by simp only [Tm.len] at h; omega)
    refine ⟨fun h0 => x (okF_node' h0).2, fun h0 => ?_, by simp only [k2, Tm.nodes]; omega⟩
    simp only [castF, Bool.or_eq_false_iff] at h0
    exact y h0.2
theorem k3_in {kids : Tm} (h : 3 ≤ Tm.len kids) : (Tm.okF kids = true → Tm.okT (k3 kids).1 (k3 kids).2 = true) ∧ (castF kids = false → castT (k3 kids).1 (k3 kids).2 = false) ∧ Tm.nodes (k3 kids).2 < Tm.nodes kids := by
  cases kids with
  | nil => simp [Tm.len] at h
  | node h' k r =>
    obtain ⟨x, y, z⟩ := k2_in (kids := r) (by simp only [Tm.len] at h; omega)
    refine ⟨fun h0 => x (okF_node' h0).2, fun h0 => ?_, by simp only [k3, Tm.nodes]; omega⟩
    simp only [castF, Bool.or_eq_false_iff] at h0
    exact y h0.2
/-- what a right term's fields say -/
theorem okT_parts {h : Hd} {kids : Tm} (h0 : Tm.okT h kids = true) : Tm.isKind h.kind = true ∧ Tm.len kids = Tm.kidsN h.kind ∧ Tm.okF kids = true := by
  unfold Tm.okT Tm.headOk at h0
  simp only [Bool.and_eq_true, decide_eq_true_eq] at h0
  exact ⟨h0.1.1.1.1.1, h0.1.1.1.1.2, h0.2⟩
theorem castT_parts {h : Hd} {kids : Tm} (h0 : castT h kids = false) : h.kind ≠ 17 ∧ castF kids = false := by
  unfold castT at h0
  simp only [Bool.or_eq_false_iff, beq_eq_false_iff_ne] at h0
  exact h0
/-- more fuel tells the same -/
theorem ty_more : ∀ (K K' : Nat) (h : Hd) (kids : Tm) (l : Env), Tm.okT h kids = true → Tm.nodes kids < K → Tm.nodes kids < K' → ty K h kids l = ty K' h kids l
  | 0, _, _, _, _, _, h1, _ => by omega
  | _ + 1, 0, _, _, _, _, _, h2 => by omega
  | K + 1, K' + 1, h, kids, l, h0, hK, hK' => by
    obtain ⟨x, y, z⟩ := okT_parts h0
    rw [ty_succ, ty_succ, raw_congr (F := ty K) (G := ty K') h kids l x y
      (fun g l => by obtain ⟨a, -, c⟩ := k1_in g; exact ty_more K K' _ _ l (a z) (by omega) (by omega))
      (fun g l => by obtain ⟨a, -, c⟩ := k2_in g; exact ty_more K K' _ _ l (a z) (by omega) (by omega))
      (fun g l => by obtain ⟨a, -, c⟩ := k3_in g; exact ty_more K K' _ _ l (a z) (by omega) (by omega))]
theorem chk_parts {h : Hd} {kids : Tm} (h0 : Tm.chk h kids = 0) : Tm.nd h kids ≤ 8192 ∧ Tm.dp h kids ≤ 200 ∧ Tm.okT h kids = true := by
  unfold Tm.chk at h0
  split at h0
  · cases h0
  · split at h0
    · cases h0
    · split at h0
      · exact ⟨by omega, by omega, by assumption⟩
      · cases h0
def two (h : Hd) (k : Tm) (h' : Hd) (k' : Tm) : Tm := .node h k (.node h' k' .nil)
end Ck
end Go.Proofs.YteefhebdfeaojaaGreatDoor
namespace Go.Proofs.YteefhebdfeaojaaGreatDoor
open Go.RowKit
namespace Cg
open Ck
theorem raw_congr (D : Ops) {F G : Hd → Tm → Env → R} (h : Hd) (kids : Tm) (l : Env) (hi : Tm.isKind h.kind = true) (hn : Tm.len kids = Tm.kidsN h.kind)
    (h1 : 1 ≤ Tm.len kids → ∀ l, F (k1 kids).1 (k1 kids).2 l = G (k1 kids).1 (k1 kids).2 l)
    (h2 : 2 ≤ Tm.len kids → ∀ l, F (k2 kids).1 (k2 kids).2 l = G (k2 kids).1 (k2 kids).2 l)
    (h3 : 3 ≤ Tm.len kids → ∀ l, F (k3 kids).1 (k3 kids).2 l = G (k3 kids).1 (k3 kids).2 l) : raw D F h kids l = raw D G h kids l := by
  have hk : h.kind = 0 ∨ h.kind = 1 ∨ h.kind = 2 ∨ h.kind = 3 ∨ h.kind = 4 ∨ h.kind = 5 ∨ h.kind = 6 ∨ h.kind = 7 ∨ h.kind = 8 ∨ h.kind = 9 ∨ h.kind = 10 ∨ h.kind = 11 ∨ h.kind = 12 ∨ h.kind = 13 ∨ h.kind = 14 ∨ h.kind = 15 ∨ h.kind = 16 ∨ h.kind = 17 := by
    simp only [Tm.isKind, decide_eq_true_eq] at hi
    omega
  rcases hk with hk | hk | hk | hk | hk | hk | hk | hk | hk | hk | hk | hk | hk | hk | hk | hk | hk | hk
  all_goals rw [hn, hk] at h1 h2 h3
  · simp only [raw_0 D F h kids l hk, raw_0 D G h kids l hk]
  · simp only [raw_1 D F h kids l hk, raw_1 D G h kids l hk]
  · simp only [raw_2 D F h kids l hk, raw_2 D G h kids l hk]
  · simp only [raw_3 D F h kids l hk, raw_3 D G h kids l hk]
  · simp only [raw_4 D F h kids l hk, raw_4 D G h kids l hk, h1 (by decide)]
  · simp only [raw_5 D F h kids l hk, raw_5 D G h kids l hk, h1 (by decide)]
  · simp only [raw_6 D F h kids l hk, raw_6 D G h kids l hk, h1 (by decide), h2 (by decide)]
  · simp only [raw_7 D F h kids l hk, raw_7 D G h kids l hk, h1 (by decide), h2 (by decide)]
  · simp only [raw_8 D F h kids l hk, raw_8 D G h kids l hk, h1 (by decide), h2 (by decide), h3 (by decide)]
  · simp only [raw_9 D F h kids l hk, raw_9 D G h kids l hk, h1 (by decide), h2 (by decide)]
  · simp only [raw_10 D F h kids l hk, raw_10 D G h kids l hk, h1 (by decide)]
  · simp only [raw_11 D F h kids l hk, raw_11 D G h kids l hk, h1 (by decide)]
  · simp only [raw_12 D F h kids l hk, raw_12 D G h kids l hk, h1 (by decide)]
  · simp only [raw_13 D F h kids l hk, raw_13 D G h kids l hk, h1 (by decide)]
  · simp only [raw_14 D F h kids l hk, raw_14 D G h kids l hk, h1 (by decide), h2 (by decide), h3 (by decide)]
  · simp only [raw_15 D F h kids l hk, raw_15 D G h kids l hk, h1 (by decide), h2 (by decide)]
  · simp only [raw_16 D F h kids l hk, raw_16 D G h kids l hk, h1 (by decide)]
  · simp only [raw_17 D F h kids l hk, raw_17 D G h kids l hk, h1 (by decide)]
/-- more fuel tells the same -/
theorem ty_more (D : Ops) : ∀ (K K' : Nat) (h : Hd) (kids : Tm) (l : Env), Tm.okT h kids = true → Tm.nodes kids < K → Tm.nodes kids < K' → ty D K h kids l = ty D K' h kids l
  | 0, _, _, _, _, _, h1, _ => by omega
  | _ + 1, 0, _, _, _, _, _, h2 => by omega
  | K + 1, K' + 1, h, kids, l, h0, hK, hK' => by
    obtain ⟨x, y, z⟩ := okT_parts h0
    rw [ty_succ, ty_succ, raw_congr D (F := ty D K) (G := ty D K') h kids l x y
      (fun g l => by obtain ⟨a, -, c⟩ := k1_in g; exact ty_more D K K' _ _ l (a z) (by omega) (by omega))
      (fun g l => by obtain ⟨a, -, c⟩ := k2_in g; exact ty_more D K K' _ _ l (a z) (by omega) (by omega))
      (fun g l => by obtain ⟨a, -, c⟩ := k3_in g; exact ty_more D K K' _ _ l (a z) (by omega) (by omega))]
end Cg
namespace Kn
open Ck
/-- the strict rules, of terms with casts -/
def ops : Cg.Ops := { St.ops with gs := fun a b => Ty.agreeT a.1 a.2 b.1 b.2, ca := true }
/-- what Type tells -/
def tell (h : Hd) (kids : Tm) : R := Cg.tellR ops (refKO 16 h kids) h kids
/-- which rule failed makes no difference -/
def num (E : Int) : Int := if E = 30 ∨ E = 32 ∨ E = 31 then E else 130
/-- a cast's fields -/
def castH (a b : T2) (lab : Int) : Hd := ⟨17, e0, e0, 0, a.1, a.2, b.1, b.2, lab, 0⟩
theorem same_self (k : Int) (kids : Fo) (h : Ty.chk k kids = 0) : Ty.sameT k kids k kids = true := by
  unfold Ty.sameT Ty.eqT
  rw [Ty.eqF_refl]
  simp [h]
theorem chk_num {h : Hd} {kids : Tm} (h0 : Tm.chk h kids ≠ 0) : num (Tm.chk h kids : Int) = (Tm.chk h kids : Int) := by
  unfold num Tm.chk at *
  split
  · rfl
  · split
    · rfl
    · split
      · rename_i q1 q2 q3; rw [if_neg q1, if_neg q2, if_pos q3] at h0; exact absurd rfl h0
      · rfl
/-- what is told of a cast over what is taken -/
theorem tell_cast {h : Hd} {kids : Tm} {a : T2} (b : T2) (lab : Int) (ht : tell h kids = .ok a) :
    (Tm.chk (castH a b lab) (.node h kids .nil) ≠ 0 ∧ tell (castH a b lab) (.node h kids .nil) = .bad (Tm.chk (castH a b lab) (.node h kids .nil)) 0 e0)
    ∨ (Tm.chk (castH a b lab) (.node h kids .nil) = 0 ∧ Ty.agreeT a.1 a.2 b.1 b.2 = false ∧ tell (castH a b lab) (.node h kids .nil) = .bad 91 0 e0)
    ∨ (Tm.chk (castH a b lab) (.node h kids .nil) = 0 ∧ Ty.agreeT a.1 a.2 b.1 b.2 = true ∧ Ty.chk b.1 b.2 = 0 ∧ tell (castH a b lab) (.node h kids .nil) = .ok b) := by
  have hno : hasT 16 h kids = false ∧ Cg.ty ops (Tm.nodes kids + 1) h kids [] = .ok a := by
    unfold tell Cg.tellR at ht
    cases hq : refKO 16 h kids with
    | some x => rw [hq] at ht; cases ht
    | none =>
      rw [hq] at ht
      refine ⟨?_, ht⟩
      unfold refKO refK at hq
      by_cases h0 : Tm.chk h kids ≠ 0
      · rw [if_pos h0, if_neg (by omega)] at hq; cases hq
      · rw [if_neg h0] at hq
        cases hc : hasT 16 h kids
        · rfl
        · rw [hc] at hq; cases hq
  obtain ⟨hno, hty⟩ := hno
  by_cases h0 : Tm.chk (castH a b lab) (.node h kids .nil) = 0
  case neg =>
    refine .inl ⟨h0, ?_⟩
    unfold tell Cg.tellR refKO refK
    rw [if_pos h0, if_neg (by omega)]
  refine .inr ?_
  have hc : hasT 16 (castH a b lab) (.node h kids .nil) = false := by
    unfold hasT at hno ⊢
    simp only [hasF, hno]
    rfl
  have hr : refKO 16 (castH a b lab) (.node h kids .nil) = none := by
    have hu : refK 16 (castH a b lab) (.node h kids .nil) = 0 := by
      unfold refK
      rw [if_neg (by simpa using h0), if_neg (by rw [hc]; decide)]
    unfold refKO
    rw [if_pos hu]
  obtain ⟨-, -, hok⟩ := chk_parts h0
  have hho : Tm.headOk (castH a b lab) 1 = true := by
    unfold Tm.okT at hok
    rw [Bool.and_eq_true] at hok
    exact hok.1
  have hca : chk a = 0 := tt_chk hho rfl
  have hcb : chk b = 0 := uu_chk hho rfl
  obtain ⟨-, -, hokF⟩ := okT_parts hok
  have hk := (okF_node' hokF).1
  have ht2 : tell (castH a b lab) (.node h kids .nil) = Cg.ty ops (Tm.nodes (.node h kids .nil) + 1) (castH a b lab) (.node h kids .nil) [] := by
    unfold tell Cg.tellR
    rw [hr]
  have hkid : Cg.ty ops (Tm.nodes (.node h kids .nil)) h kids [] = .ok a := by
    rw [Cg.ty_more ops _ (Tm.nodes kids + 1) h kids [] hk (by simp only [Tm.nodes]; omega) (by omega), hty]
  rw [ht2, Cg.ty_succ, Cg.raw_17 _ _ _ _ _ rfl]
  show _ ∨ (_ ∧ _ ∧ _ ∧ lift _ (bnd (Cg.ty ops (Tm.nodes (.node h kids .nil)) h kids []) _) = _)
  show (_ ∧ _ ∧ lift _ (bnd (Cg.ty ops (Tm.nodes (.node h kids .nil)) h kids []) _) = _) ∨ _
  rw [hkid]
  show (_ ∧ _ ∧ lift _ (Cg.over ops _ a _ _) = _) ∨ (_ ∧ _ ∧ _ ∧ lift _ (Cg.over ops _ a _ _) = _)
  rw [Cg.over_17 _ _ _ _ _ rfl rfl, if_pos (show ops.ag a (TT (castH a b lab)) = true from same_self a.1 a.2 hca)]
  cases hg : Ty.agreeT a.1 a.2 b.1 b.2
  · exact .inl ⟨h0, rfl, by rw [if_neg (show ¬ ops.gs (TT (castH a b lab)) (UU (castH a b lab)) = true from by show ¬ Ty.agreeT a.1 a.2 b.1 b.2 = true; rw [hg]; decide)]; rfl⟩
  · refine .inr ⟨h0, rfl, hcb, ?_⟩
    rw [if_pos (show ops.gs (TT (castH a b lab)) (UU (castH a b lab)) = true from hg)]
    show (if chk b = 0 then _ else _) = _
    rw [if_pos hcb]
    rfl
end Kn
end Go.Proofs.YteefhebdfeaojaaGreatDoor
