import Derived.Test.YtgjemmmbnpkamaaGreatDoorKc
import Derived.Test.YtgjemmmbnpkamaaGreatDoorM25
namespace Go.Proofs.YtgjemmmbnpkamaaGreatDoor
set_option maxHeartbeats 2000000
set_option maxRecDepth 100000
open Go.RowKit
theorem zCv (rv : Cg.Rv) (Q : Nat → Prop) (h : Hd) (p : Pl) (a : Ck.T2) (A : Option Addr) (n c : Nat) (b : Ck.T2) (A' : Option Addr) (n' c' : Nat) (w : World) (hL : Ck.Ly Q w a A n c) (hL' : Ck.Ly Q w b A' n' c') (hS : Shapes w) (hag : rv.D.ag a b = false) :
    Calls Tryz.prog 130 #[.agg (rF_ rv), .agg (tC_ h p), .agg #[.int .i8 a.1, .slice A n c], .agg #[.int .i8 b.1, .slice A' n' c']] w (Ck.Gave w 91 h.pos Ck.e0) := by
  try unfold tC_
  try unfold rF_
  have HB5 := k0_ (vk w (.cells (rF_ rv) 56) (.cells (tC_ h p) 28) (.cells #[.int .i8 a.1, .slice A n c] 25) (.cells #[.int .i8 b.1, .slice A' n' c'] 25) (.cells #[.int .i8 0, .slice none 0 0] 25))
  have CW := k0_ (fun (W : World) (hb : Below w.heap.size w W) => wG rv h p a.1 a.2 A n c b.1 b.2 A' n' c' W (hL.later hb).is (hL'.later hb).is (hS.below hb) hag)
  clear hL hL' hS hag
  go_enter Tryz.func130, Tryz.ntmps130
  go_wp2_with fail
  refine (CW.out _ HB5.out).mono ?_
  rintro e w6 hg
  have HG := k0_ (Ck.Gave.from (w := w) hg HB5.out)
  obtain ⟨g, rfl, -⟩ := hg
  go_wp2_with fail
  exact ⟨rfl, HG.out⟩
theorem zBM (rv : Cg.Rv) (Q : Nat → Prop) (h : Hd) (p : Pl) (a : Ck.T2) (A : Option Addr) (n c : Nat) (b : Ck.T2) (A' : Option Addr) (n' c' : Nat) (w : World) (hL : Ck.Ly Q w a A n c) (hL' : Ck.Ly Q w b A' n' c') (hS : Shapes w) (hag : rv.D.ag a b = true) :
    Calls Tryz.prog 130 #[.agg (rF_ rv), .agg (tC_ h p), .agg #[.int .i8 a.1, .slice A n c], .agg #[.int .i8 b.1, .slice A' n' c']] w (Ck.Gives Q w (rv.D.mt a b)) := by
  try unfold tC_
  try unfold rF_
  have HB5 := k0_ (vk w (.cells (rF_ rv) 56) (.cells (tC_ h p) 28) (.cells #[.int .i8 a.1, .slice A n c] 25) (.cells #[.int .i8 b.1, .slice A' n' c'] 25) (.cells #[.int .i8 0, .slice none 0 0] 25))
  have CW := k0_ (fun (W : World) (hb : Below w.heap.size w W) => xH rv h p a.1 a.2 A n c b.1 b.2 A' n' c' W (hL.later hb).is (hL'.later hb).is (hS.below hb) hag)
  obtain ⟨h0, -, h2, h3, h4⟩ := uD w (.cells (rF_ rv) 56) (.cells (tC_ h p) 28) (.cells #[.int .i8 a.1, .slice A n c] 25) (.cells #[.int .i8 b.1, .slice A' n' c'] 25) (.cells #[.int .i8 0, .slice none 0 0] 25)
  have hcf := rv.cft
  have CM := k0_ (fun (W : World) (hb : Below w.heap.size w W) => rv.mtC (fun b => Q b ∧ b < w.heap.size) a A n c b A' n' c' W ((hL.weak (fun b hl hq => ⟨hq, hl⟩)).later hb) ((hL'.weak (fun b hl hq => ⟨hq, hl⟩)).later hb) hag (hS.below hb))
  have H0 := k0_ h0
  have H2 := k0_ h2
  have H3 := k0_ h3
  have H4 := k0_ h4
  clear hL hL' hS hag h0 h2 h3 h4
  go_enter Tryz.func130, Tryz.ntmps130
  go_wp2_with fail
  refine (CW.out _ HB5.out).mono ?_
  rintro e w6 ⟨rfl, hb6⟩
  have HB6 := kt_ HB5 hb6
  have H0 := kp_ hb6 H0
  have H2 := kp_ hb6 H2
  have H3 := kp_ hb6 H3
  have H4 := kp_ hb6 H4
  have hz6 := hb6.size
  simp only [World.size_alloc] at hz6
  clear hb6
  obtain ⟨r0, r1, r2, r3, r4, -, -, -, -, -, rl⟩ := jI H0.out
  obtain ⟨x0, x1, -, -, xl⟩ := zM H2.out
  obtain ⟨y0, y1, -, -, yl⟩ := zM H3.out
  go_wp2_with fail
  refine (CM.out _ HB6.out).mono ?_
  rintro e w7 ⟨G, m, cg, rfl, hR, hb7⟩
  have HB7 := kt_ HB6 hb7
  have HL := k0_ (Ck.Ly.weak (Q' := Ck.Cut Q w.heap.size (w.heap.size + 5)) (a := rv.D.mt a b) (w := w7) hR (fun b _ h => Or.elim h (fun h => .inl h.1) (fun h => .inr (by omega))))
  have H4 := kp_ hb7 H4
  clear hR hb7 r0 r1 r2 r3 r4 rl x0 x1 xl y0 y1 yl
  obtain ⟨x0, x1, f0, f1, xl⟩ := zM H4.out
  have HNE := k0_ (fun (b : Nat) (hq : Ck.Cut Q w.heap.size (w.heap.size + 5) b) => hq.ne (X := w.heap.size + 1 + 1 + 1 + 1) (by omega) (by omega))
  go_wp2_with fail
  refine bodyPost_ret (v := .agg #[.int .i8 (rv.D.mt a b).1, .slice G m cg]) (by simp [results, Tryz.results130, go_sem, *]) rfl ⟨G, m, cg, rfl, ?_, ?_⟩
  · exact (HL.out.set2 HNE.out _ _).weak fun b _ hq => hq.out (by omega)
  · exact zL HB7.out (by omega) _ _
theorem uN (s : ByteArray) (w : World) : Calls Tryz.prog 131 #[.string s] w fun e w' => e = .returned (.agg #[.int .i8 (Ck.opAns s).1, .slice none 0 0]) ∧ Below w.heap.size w w' := by
  have HB1 := k0_ (za w (.cells #[.int .i8 0, .slice none 0 0] 25))
  have CO := k0_ (fun (k : Int) (W : World) => qf k none 0 0 W)
  have H1 := k0_ (zF w (.cells #[.int .i8 0, .slice none 0 0] 25))
  cases h60 : (s.toList == [60]) with
  | true =>
    have hR : (Ck.opAns s).1 = 2 := by unfold Ck.opAns; rw [h60]; rfl
    rw [hR]
    clear hR
    go_enter Tryz.func131, Tryz.ntmps131
    go_wp2_with fail
    refine (CO.out 2 _).mono ?_
    rintro e w2 ⟨rfl, hb2⟩
    obtain ⟨x0, x1, f0, f1, xl⟩ := zM (zC hb2 (zD H1.out) H1.out)
    have HB2 := kt_ HB1 hb2
    clear hb2 h60
    exact zGv
  | false =>
    cases h61 : (s.toList == [61]) with
    | true =>
      have hR : (Ck.opAns s).1 = 2 := by unfold Ck.opAns; rw [h60, h61]; rfl
      rw [hR]
      clear hR
      go_enter Tryz.func131, Tryz.ntmps131
      go_wp2_with fail
      refine (CO.out 2 _).mono ?_
      rintro e w2 ⟨rfl, hb2⟩
      obtain ⟨x0, x1, f0, f1, xl⟩ := zM (zC hb2 (zD H1.out) H1.out)
      have HB2 := kt_ HB1 hb2
      clear hb2 h60 h61
      exact zGv
    | false =>
      have hR : (Ck.opAns s).1 = 1 := by unfold Ck.opAns; rw [h60, h61]; rfl
      rw [hR]
      clear hR
      go_enter Tryz.func131, Tryz.ntmps131
      go_wp2_with fail
      refine (CO.out 1 _).mono ?_
      rintro e w2 ⟨rfl, hb2⟩
      obtain ⟨x0, x1, f0, f1, xl⟩ := zM (zC hb2 (zD H1.out) H1.out)
      have HB2 := kt_ HB1 hb2
      clear hb2 h60 h61
      go_wp2_with fail
      exact bodyPost_ret (v := .agg #[.int .i8 1, .slice none 0 0]) (by simp [results, Tryz.results131, go_sem, *]) rfl ⟨rfl, zL HB2.out (Nat.le_refl _) _ _⟩
theorem Ck.vC : ∀ (l : Ck.Env) (x : ByteArray) (i : Nat), i ≤ l.length → (∀ j y, i ≤ j → l[j]? = some y → (y.1.toList == x.toList) = false) → Ck.fnd l x = Ck.fnd (l.take i) x
  | [], x, i, _, _ => by simp
  | b :: l, x, 0, _, h => by
    have h1 := Ck.vC l x 0 (Nat.zero_le _) (fun j y hj hy => h (j + 1) y (by omega) (by rw [List.getElem?_cons_succ]; exact hy))
    have h2 := h 0 b (Nat.le_refl _) rfl
    simp only [List.take_zero] at h1 ⊢
    unfold Ck.fnd
    rw [h1]
    simp [Ck.fnd, h2]
  | b :: l, x, i + 1, hi, h => by
    have h1 := Ck.vC l x i (by simp only [List.length_cons] at hi; omega) (fun j y hj hy => h (j + 1) y (by omega) (by rw [List.getElem?_cons_succ]; exact hy))
    rw [List.take_succ_cons]
    unfold Ck.fnd
    rw [h1]
theorem Ck.zE5 {l : Ck.Env} {x : ByteArray} {i : Nat} {y : ByteArray × Ck.T2} (hy : l[i]? = some y) (he : (y.1.toList == x.toList) = true) (h : ∀ j z, i + 1 ≤ j → l[j]? = some z → (z.1.toList == x.toList) = false) : Ck.fnd l x = some y.2 := by
  have hi : i < l.length := by rcases Nat.lt_or_ge i l.length with q | q; exact q; rw [List.getElem?_eq_none q] at hy; cases hy
  rw [Ck.vC l x (i + 1) (by omega) h, List.take_add_one, hy]
  have hs : ∀ m : Ck.Env, Ck.fnd (m ++ [y]) x = some y.2 := by
    intro m
    induction m with
    | nil => simp [Ck.fnd, he]
    | cons b m ih => simp only [List.cons_append]; unfold Ck.fnd; rw [ih]
  exact hs _
theorem Ck.zE4 {l : Ck.Env} {x : ByteArray} (h : ∀ (j : Nat) (z : ByteArray × Ck.T2), l[j]? = some z → (z.1.toList == x.toList) = false) : Ck.fnd l x = none := by
  rw [Ck.vC l x 0 (Nat.zero_le _) (fun j y _ hy => h j y hy), List.take_zero]; rfl
def Ck.OfPost (Q : Nat → Prop) (w : World) (r : Option Ck.T2) (e : Ending) (w' : World) : Prop := match r with
  | some a => ∃ G m c, e = .returned (.tuple #[.agg #[.int .i8 a.1, .slice G m c], .bool true]) ∧ Ck.Ly (Ck.Cut Q w.heap.size w.heap.size) w' a G m c ∧ Below w.heap.size w w'
  | none => e = .returned (.tuple #[.agg #[.int .i8 0, .slice none 0 0], .bool false]) ∧ Below w.heap.size w w'
theorem uM (Q : Nat → Prop) (x : ByteArray) (l : Ck.Env) (A : Option Addr) (n c : Nat) (w : World) (hE : Ck.EAt Q w l A n c) :
    Calls Tryz.prog 127 #[.slice A n c, .string x] w (Ck.OfPost Q w (Ck.fnd l x)) := by
  have HB1 := k0_ (za w (.cells #[.int .i8 0, .slice none 0 0] 25))
  have h1 := zF w (.cells #[.int .i8 0, .slice none 0 0] 25)
  have HY := k0_ h1
  have HE := k0_ hE
  have hn := hE.n_eq
  have HN := k0_ hn
  have hnc := hE.n_le
  have hcm := hE.c_le
  have i5 : (n : Int) ≤ 9223372036854775807 := by unfold maxLen at hcm; omega
  obtain ⟨R, hR⟩ : ∃ R, R = Ck.fnd l x := ⟨_, rfl⟩
  rw [← hR]
  have HR := k0_ hR
  clear h1 hE hn hR
  go_enter Tryz.func127, Tryz.ntmps127
  go_upto_region 1 with fail
  generalize w.alloc (.cells #[.int .i8 0, .slice none 0 0] 25) = w1 at *
  go_wp2_with fail
  go_loopw [6] (fun v5 wr => ∃ i : Nat, v5 = .int .i64 ((i : Int) - 1) ∧ i ≤ n ∧ (∀ (j : Nat) (y : ByteArray × Ck.T2), i ≤ j → l[j]? = some y → (y.1.toList == x.toList) = false) ∧ Below w1.heap.size w1 wr) (fun v _ => (intOf v + 1).toNat)
  case atStart =>
    refine ⟨n, rfl, Nat.le_refl _, fun j y hj hy => ?_, Below.refl _ _⟩
    have hnn := HN.out
    rw [List.getElem?_eq_none (by omega)] at hy; cases hy
  case round =>
    obtain ⟨i, rfl, hin, hno, hb⟩ := hrel
    cases i with
    | zero =>
      have HF := k0_ (Ck.zE4 fun j z hz => hno j z (Nat.zero_le _) hz)
      have HBR := kt_ HB1 hb
      have HY2 := kp_ hb HY
      clear hno hb
      obtain ⟨y0, y1, f0, f1, yl⟩ := zM HY2.out
      go_wp2_with fail
      have z3 := zT HY2.out (.int .i8 0) (.slice none 0 0)
      obtain ⟨k0, k1, -, -, -⟩ := zM z3
      refine bodyPost_ret (v := .tuple #[.agg #[.int .i8 0, .slice none 0 0], .bool false]) (by simp [results, Tryz.results127, go_sem, k0, k1]) rfl ?_
      rw [HR.out, HF.out]
      exact ⟨rfl, zL HBR.out (Nat.le_refl _) _ _⟩
    | succ j =>
      have hj : j < l.length := by have := HN.out; omega
      obtain ⟨y, hy⟩ : ∃ y, l[j]? = some y := ⟨l[j]'hj, List.getElem?_eq_getElem hj⟩
      obtain ⟨b, o, G, m, k, hA, c0, c1, c2, hL⟩ := HE.out.at hy
      have hbw := HB1.out.trans (hb.mono HB1.out.size)
      have c0 := zB c0 hbw
      have c1 := zB c1 hbw
      have c2 := zB c2 hbw
      have hL := (hL.weak (Q' := Ck.Cut Q w.heap.size (w.heap.size + 1)) fun b hb hq => .inl ⟨hq, hb⟩).later hbw
      clear hbw
      have HY2 := kp_ hb HY
      have HBR := kt_ HB1 hb
      have HB := k0_ hb
      have HL := k0_ hL
      have HNO := k0_ hno
      have HYY := k0_ hy
      have e1 : ((j + 1 : Nat) : Int) - 1 = (j : Int) := by omega
      rw [e1]
      have j1 : (0 : Int) ≤ j := by omega
      have j2 : (j : Int) < n := by omega
      have j3 : (0 : Int) ≤ j ∧ (j : Int) < n := by omega
      clear hno hb hL hy e1 hj
      subst hA
      cases hq : (y.1.toList == x.toList)
      · have HQ := k0_ hq
        go_wp2_with fail
        go_roundw
        case rel =>
          refine ⟨j, by go_num, by omega, fun i' y' hi' hy' => ?_, HB.out⟩
          rcases Nat.lt_or_ge j i' with g | g
          · exact HNO.out i' y' (by omega) hy'
          · obtain rfl : i' = j := by omega
            have q := HYY.out
            rw [hy'] at q
            injection q with q
            rw [q]; exact HQ.out
        case measure => simp [intOf]
      · have HQ := k0_ hq
        have HF := k0_ (Ck.zE5 HYY.out HQ.out fun i' z hi' hz' => HNO.out i' z hi' hz')
        have HBL := k0_ (fun (b : Nat) (hq : Ck.Cut Q w.heap.size (w.heap.size + 1) b) => hq.ne (X := w.heap.size) (by omega) (by omega))
        obtain ⟨x0, x1, f0, f1, xl⟩ := zM HY2.out
        go_wp2_with fail
        have z3 := zT HY2.out (.int .i8 y.2.1) (.slice G m k)
        obtain ⟨k0, k1, -, -, -⟩ := zM z3
        refine bodyPost_ret (v := .tuple #[.agg #[.int .i8 y.2.1, .slice G m k], .bool true]) (by simp [results, Tryz.results127, go_sem, k0, k1]) rfl ?_
        rw [HR.out, HF.out]
        refine ⟨G, m, k, rfl, ?_, zL HBR.out (Nat.le_refl _) _ _⟩
        exact (HL.out.set2 HBL.out _ _).weak fun b _ hq => hq.out (by omega)
theorem zAJ (Q : Nat → Prop) (h : Hd) (p : Pl) (l : Ck.Env) (A : Option Addr) (n c : Nat) (w : World) (hE : Ck.EAt Q w l A n c) (hnm : h.name.size ≤ 281474976710656) :
    Calls Tryz.prog 97 #[.agg (tC_ h p), .slice A n c] w (Ck.Post Q w (match Ck.fnd l h.name with | some a => .ok a | none => .bad 41 h.pos h.name)) := by
  try unfold tC_
  have HB2 := k0_ (qg w (.cells (tC_ h p) 28) (.cells #[.int .i8 0, .slice none 0 0] 25))
  obtain ⟨h0, h1⟩ := qz w (.cells (tC_ h p) 28) (.cells #[.int .i8 0, .slice none 0 0] 25)
  have HX := k0_ h0
  have HY := k0_ h1
  have HCL := k0_ (fun W => jC h.name hnm W)
  have HA := k0_ (fun (W : World) (hb : Below w.heap.size w W) => uM (fun b => Q b ∧ b < w.heap.size) h.name l A n c W ((hE.weak (fun b hl hq => ⟨hq, hl⟩)).below hb))
  have hzz : ((w.alloc (.cells (tC_ h p) 28)).alloc (.cells #[.int .i8 0, .slice none 0 0] 25)).heap.size = w.heap.size + 2 := by simp
  have HZ := k0_ hzz
  obtain ⟨R, hR⟩ : ∃ R, R = (match Ck.fnd l h.name with | some a => Ck.R.ok a | none => Ck.R.bad 41 h.pos h.name) := ⟨_, rfl⟩
  rw [← hR]
  have HR := k0_ hR
  clear h0 h1 hE hR hzz
  go_enter Tryz.func97, Tryz.ntmps97
  go_upto_region 1 with fail
  generalize (w.alloc (.cells (tC_ h p) 28)).alloc (.cells #[.int .i8 0, .slice none 0 0] 25) = w1 at *
  obtain ⟨q0, q1, q2, q3, q4, q5, q6, q7, q8, q9, q10, ql⟩ := zN HX.out
  cases hf : Ck.fnd l h.name with
  | none =>
    have HF := k0_ hf
    rw [hf] at HA
    clear hf
    go_wp2_with fail
    refine (HA.out _ HB2.out).mono ?_
    rintro e w5 ⟨rfl, hb5⟩
    have hb6 := za w5 (.cells #[.int .i8 0, .slice none 0 0] 25)
    have HB6 := k0_ (HB2.out.trans ((hb5.trans (hb6.mono hb5.size)).mono HB2.out.size))
    have HX6 := k0_ (zC (hb5.trans (hb6.mono hb5.size)) (zD HX.out) HX.out)
    clear q0 q1 q2 q3 q4 q5 q6 q7 q8 q9 q10 ql hb5 hb6
    go_upto_region 3 with fail
    generalize w5.alloc (.cells #[.int .i8 0, .slice none 0 0] 25) = wr at *
    obtain ⟨q0, q1, q2, q3, q4, q5, q6, q7, q8, q9, q10, ql⟩ := zN HX6.out
    have HQ1 := k0_ q1
    have HQ9 := k0_ q9
    have HFIN := k0_ (fun (u : World) (hbu : Below wr.heap.size wr u) => (show Ck.Post Q w R (.panicked [{ v := .iface 49 (.pointer (some ⟨u.heap.size, 0, none⟩)), recovered := false }]) (u.alloc (.cells #[.int .i64 41, .int .i64 h.pos, .string h.name] 61)) from by
      rw [HR.out, HF.out]
      exact ⟨u.heap.size, rfl, zF u _, Nat.le_trans HB6.out.size hbu.size, (HB6.out.trans (hbu.mono HB6.out.size)).alloc (Nat.le_trans HB6.out.size hbu.size) _⟩))
    clear q0 q2 q3 q4 q5 q6 q7 q8 q10
    have D0 : Below wr.heap.size wr wr.drew := (Below.refl _ _).drew
    go_region_with (first
      | (go_at_call 23; (with_reducible refine (HCL.out _).mono ?_); rintro e u ⟨rfl, hbu⟩; have D1 := D0.trans (hbu.mono D0.size); have e9 := zB HQ9.out D1; have HFU := k0_ (HFIN.out u D1); clear hbu)
      | (with_reducible (refine (show bodyPost _ _ _ (.panic _) _ _ from ?_)); refine xh (P := Tryz.prog) (w := wr) ?_))
    all_goals exact ⟨rfl, HFU.out⟩
  | some a =>
    have HF := k0_ hf
    rw [hf] at HA
    clear hf
    go_wp2_with fail
    refine (HA.out _ HB2.out).mono ?_
    rintro e w5 ⟨G, m, cg, rfl, hl, hb5⟩
    have hb6 := za w5 (.cells #[.int .i8 a.1, .slice G m cg] 25)
    have hs5 := hb5.size
    have hz := HZ.out
    have HL := k0_ (Ck.Ly.later (Ck.Ly.weak (Q' := Ck.Cut Q w.heap.size (w.heap.size + 2)) (a := a) (w := w5) hl (fun b _ h => Or.elim h (fun h => .inl h.1) (fun h => .inr (by omega)))) hb6)
    have HB6 := k0_ (HB2.out.trans ((hb5.trans (hb6.mono hb5.size)).mono HB2.out.size))
    have HY6 := k0_ (zC (hb5.trans (hb6.mono hb5.size)) (zD HY.out) HY.out)
    have HN6 := k0_ (zF w5 (.cells #[.int .i8 a.1, .slice G m cg] 25))
    clear q0 q1 q2 q3 q4 q5 q6 q7 q8 q9 q10 ql hb5 hb6 hl
    go_upto_region 4 with fail
    generalize w5.alloc (.cells #[.int .i8 a.1, .slice G m cg] 25) = w6 at *
    obtain ⟨y0, y1, f0, f1, yl⟩ := zM HY6.out
    obtain ⟨u0, u1, -, -, -⟩ := zM HN6.out
    go_wp2_with fail
    have z3 := zT HY6.out (.int .i8 a.1) (.slice G m cg)
    obtain ⟨k0, k1, -, -, -⟩ := zM z3
    refine bodyPost_ret (v := .agg #[.int .i8 a.1, .slice G m cg]) (by simp [results, Tryz.results97, go_sem, k0, k1]) rfl ?_
    rw [HR.out, HF.out]
    exact ⟨G, m, cg, rfl, (HL.out.set2 (fun b hq => hq.ne (X := w.heap.size + 1) (by omega) (by omega)) _ _).weak (fun b _ hq => hq.out (by omega)), zL HB6.out (by omega) _ _⟩
end Go.Proofs.YtgjemmmbnpkamaaGreatDoor
namespace Go.Proofs.YtgjemmmbnpkamaaGreatDoor
open Go.RowKit
def mask (P : Nat → Bool) (w : World) : World := { w with heap := w.heap.mapIdx fun i o => if P i then o else .cells #[] 0 (0, 0) }
theorem zEl {P : Nat → Bool} {w : World} {b o : Nat} {v : Value} (hP : P b = true) (h : w.cell? ⟨b, o, none⟩ = some v) : (mask P w).cell? ⟨b, o, none⟩ = some v := by
  unfold mask
  simp only [World.cell?, Array.getElem?_mapIdx] at h ⊢
  cases hb : w.heap[b]? with
  | none => simp [hb] at h
  | some x => rw [hb] at h; simpa [hP] using h
theorem zEm {P : Nat → Bool} {w : World} {b o : Nat} {v : Value} (h : (mask P w).cell? ⟨b, o, none⟩ = some v) : P b = true ∧ w.cell? ⟨b, o, none⟩ = some v := by
  unfold mask at h
  simp only [World.cell?, Array.getElem?_mapIdx] at h ⊢
  cases hb : w.heap[b]? with
  | none => simp [hb] at h
  | some x =>
    rw [hb] at h
    cases hp : P b
    · simp [hp] at h
    · exact ⟨rfl, by simpa [hp] using h⟩
theorem jB {P P' : Nat → Bool} {w w' : World} (hk : ∀ b o v, P b = true → w.cell? ⟨b, o, none⟩ = some v → P' b = true ∧ w'.cell? ⟨b, o, none⟩ = some v) : Tm.Kept (mask P w) (mask P' w') := fun b _ o v h => by
  obtain ⟨h1, h2⟩ := zEm h
  obtain ⟨h3, h4⟩ := hk b o v h1 h2
  exact zEl h3 h4
namespace Ty
def app : Fo → Fo → Fo
  | .nil, g => g
  | .node a b k kids r, g => .node a b k kids (app r g)
theorem jo : ∀ (f : Fo) (a b : Nat) (k : Int) (kids r : Fo), app (app f (.node a b k kids .nil)) r = app f (.node a b k kids r)
  | .nil, _, _, _, _, _ => rfl
  | .node _ _ _ _ q, a, b, k, kids, r => by simp only [app]; rw [jo q]
theorem jh : ∀ (f : Fo) (a b : Nat) (k : Int) (kids : Fo), len (app f (.node a b k kids .nil)) = len f + 1
  | .nil, _, _, _, _ => rfl
  | .node _ _ _ _ q, a, b, k, kids => by simp only [app, len]; rw [jh q]
def Flat (w : World) : Fo → List Value → Prop
  | .nil, xs => xs = []
  | .node _ _ k kids r, xs => ∃ A m c ys, xs = .int .i8 k :: .slice A m c :: ys ∧ Is w k kids A m c ∧ Flat w r ys
theorem Flat.snoc {w : World} {a b : Nat} {k : Int} {kids : Fo} {A : Option Addr} {m c : Nat} (hI : Is w k kids A m c) : ∀ (f : Fo) (xs : List Value), Flat w f xs → Flat w (app f (.node a b k kids .nil)) (xs ++ [.int .i8 k, .slice A m c])
  | .nil, xs, h => by cases h; exact ⟨A, m, c, [], rfl, hI, rfl⟩
  | .node _ _ _ _ q, xs, h => by
    obtain ⟨A', m', c', ys, rfl, h1, h2⟩ := h
    exact ⟨A', m', c', _, rfl, h1, Flat.snoc hI q ys h2⟩
theorem Flat.kept {w w' : World} (hk : Tm.Kept w w') : ∀ (f : Fo) (xs : List Value), Flat w f xs → Flat w' f xs
  | .nil, _, h => h
  | .node _ _ _ _ q, _, h => by
    obtain ⟨A', m', c', ys, rfl, h1, h2⟩ := h
    exact ⟨A', m', c', ys, rfl, h1.kept hk, Flat.kept hk q ys h2⟩
theorem Flat.lies {w : World} {g : Nat} : ∀ (f : Fo) (xs : List Value) (i : Nat), Flat w f xs → (∀ j u, xs[j]? = some u → w.cell? ⟨g, i * 2 + j, none⟩ = some u) → Lies w f (some ⟨g, 0, none⟩) i
  | .nil, _, _, _, _ => trivial
  | .node _ _ k kids r, _, i, h, hc => by
    obtain ⟨A', m', c', ys, rfl, h1, h2⟩ := h
    refine ⟨g, 0, A', c', rfl, ⟨h1.lo, h1.hi⟩, by rw [Nat.zero_add]; exact hc 0 _ rfl, by rw [Nat.zero_add, ← h1.n_eq]; exact hc 1 _ rfl, by rw [← h1.n_eq]; exact h1.n_le, h1.c_le, h1.lies, ?_⟩
    exact Flat.lies r ys (i + 1) h2 fun j u hu => by
      have := hc (j + 2) u (by simpa using hu)
      rwa [show i * 2 + (j + 2) = (i + 1) * 2 + j by omega] at this
end Ty
structure EachRel (w wr : World) (A : Option Addr) (kids : Fo) (v : Value) (n i : Nat) (done rest : Fo) (xs : List Value) : Prop where
  eq : Ty.app done rest = kids
  len : Ty.len done = i
  i_eq : i + Ty.len rest = n
  lies : Ty.Lies w rest A i
  below : Below w.heap.size w wr
  own : wr.ownsRow w.heap.size 25 2 v i xs
  flat : Ty.Flat (mask (fun b => decide (w.heap.size ≤ b) && decide (v.ownBlock ≠ some b)) wr) done xs
  sub : Ty.nodes rest ≤ Ty.nodes kids
theorem EachRel.step {w wr u w3 : World} {A : Option Addr} {kids : Fo} {v v' : Value} {n i a b : Nat} {done r kd : Fo} {k : Int} {xs : List Value} {G : Option Addr} {m c : Nat} {o1 o2 : Obj}
    (h : EachRel w wr A kids v n i done (.node a b k kd r) xs) (hb : Below (wr.alloc o1).heap.size (wr.alloc o1) u) (hI : Ty.Is (mask (fun b => decide ((wr.alloc o1).heap.size ≤ b)) u) k kd G m c)
    (hown : w3.ownsRow w.heap.size 25 2 v' (i + 1) (xs ++ [.int .i8 k, .slice G m c])) (hg : (u.alloc o2).grownBy w3 v.ownBlock) (hat : v'.ownBlock = v.ownBlock ∨ v'.ownBlock = some (u.alloc o2).heap.size) (hl : Ty.Lies w r A (i + 1)) :
    EachRel w w3 A kids v' n (i + 1) (Ty.app done (.node a b k kd .nil)) r (xs ++ [.int .i8 k, .slice G m c]) := by
  obtain ⟨h1, h2, h3, h4, h5, h6, h7, h8⟩ := h
  simp only [Ty.len, Ty.nodes] at h3 h8
  have hlt := h6.lt
  have hs1 : wr.heap.size < (wr.alloc o1).heap.size := by simp
  have hs2 := hb.size
  have hs3 : u.heap.size < (u.alloc o2).heap.size := by simp
  have hwu : Below wr.heap.size wr (u.alloc o2) := (((Below.refl _ _).alloc (Nat.le_refl _) o1).trans (hb.mono (by omega))).alloc (by omega) o2
  refine ⟨by rw [Ty.jo]; exact h1, by rw [Ty.jh]; omega, by omega, hl, ?_, hown, ?_, by omega⟩
  · exact zG5
  · refine Ty.Flat.snoc (hI.kept (jB fun b' o' x hP hx => ?_)) done xs (h7.kept (jB fun b' o' x hP hx => ?_))
    · exact zHP
    · exact zHN
attribute [local go_sem ↓] Go.wp_at_zero Go.wp_at_succ
namespace Tm
def bF : Tm → Tm
  | .nil => .nil
  | .node h kids r => .node (cnt h) (bF kids) (bF r)
def app : Tm → Tm → Tm
  | .nil, g => g
  | .node h kids r, g => .node h kids (app r g)
theorem jo : ∀ (f : Tm) (h : Hd) (kids r : Tm), app (app f (.node h kids .nil)) r = app f (.node h kids r)
  | .nil, _, _, _ => rfl
  | .node _ _ q, h, kids, r => by simp only [app]; rw [jo q]
theorem jh : ∀ (f : Tm) (h : Hd) (kids : Tm), len (app f (.node h kids .nil)) = len f + 1
  | .nil, _, _ => rfl
  | .node _ _ q, h, kids => by simp only [app, len]; rw [jh q]
def Flat (w : World) : Tm → List Value → Prop
  | .nil, xs => xs = []
  | .node h kids r, xs => ∃ p ys, xs = h.cells p ++ ys ∧ Is w h kids p ∧ Flat w r ys
theorem Flat.snoc {w : World} {h : Hd} {kids : Tm} {p : Pl} (hI : Is w h kids p) : ∀ (f : Tm) (xs : List Value), Flat w f xs → Flat w (app f (.node h kids .nil)) (xs ++ h.cells p)
  | .nil, xs, e => by cases e; exact ⟨p, [], by simp, hI, rfl⟩
  | .node _ _ q, xs, e => by
    obtain ⟨p', ys, rfl, h1, h2⟩ := e
    exact ⟨p', ys ++ h.cells p, by rw [List.append_assoc], h1, Flat.snoc hI q ys h2⟩
theorem Flat.kept {w w' : World} (hk : Kept w w') : ∀ (f : Tm) (xs : List Value), Flat w f xs → Flat w' f xs
  | .nil, _, e => e
  | .node _ _ q, _, e => by
    obtain ⟨p', ys, rfl, h1, h2⟩ := e
    exact ⟨p', ys, rfl, h1.kept hk, Flat.kept hk q ys h2⟩
theorem Flat.lies {w : World} {g : Nat} : ∀ (f : Tm) (xs : List Value) (i : Nat), Flat w f xs → (∀ j u, xs[j]? = some u → w.cell? ⟨g, i * 11 + j, none⟩ = some u) → Lies w f (some ⟨g, 0, none⟩) i
  | .nil, _, _, _, _ => trivial
  | .node h kids r, _, i, e, hc => by
    obtain ⟨p, ys, rfl, h1, h2⟩ := e
    have hlen : (h.cells p).length = 11 := rfl
    refine ⟨g, 0, p, rfl, fun j v hv => ?_, h1.fit, h1.lies, ?_⟩
    · have hj : j < (h.cells p).length := by
        rcases Nat.lt_or_ge j (h.cells p).length with q | q
        · exact q
        · rw [List.getElem?_eq_none q] at hv; cases hv
      rw [Nat.zero_add]
      exact hc j v (by rw [List.getElem?_append_left hj]; exact hv)
    · exact Flat.lies r ys (i + 1) h2 fun j u hu => by
        have := hc (j + 11) u (by rw [List.getElem?_append_right (by rw [hlen]; omega), hlen, show j + 11 - 11 = j by omega]; exact hu)
        rwa [show i * 11 + (j + 11) = (i + 1) * 11 + j by omega] at this
end Tm
structure EachRelT (w wr : World) (A : Option Addr) (kids : Tm) (v : Value) (n i : Nat) (done rest : Tm) (xs : List Value) : Prop where
  eq : Tm.app done (Tm.bF rest) = Tm.bF kids
  len : Tm.len done = i
  i_eq : i + Tm.len rest = n
  lies : Tm.Lies w rest A i
  below : Below w.heap.size w wr
  own : wr.ownsRow w.heap.size 28 11 v i xs
  flat : Tm.Flat (mask (fun b => decide (w.heap.size ≤ b) && decide (v.ownBlock ≠ some b)) wr) done xs
  sub : Tm.nodes rest ≤ Tm.nodes kids
theorem EachRelT.step {w wr u w3 : World} {A : Option Addr} {kids : Tm} {v v' : Value} {n i : Nat} {done r kd : Tm} {h : Hd} {xs : List Value} {p : Pl} {o1 o2 : Obj}
    (e : EachRelT w wr A kids v n i done (.node h kd r) xs) (hb : Below (wr.alloc o1).heap.size (wr.alloc o1) u) (hI : Tm.Is (mask (fun b => decide ((wr.alloc o1).heap.size ≤ b)) u) (Tm.cnt h) (Tm.bF kd) p)
    (hown : w3.ownsRow w.heap.size 28 11 v' (i + 1) (xs ++ (Tm.cnt h).cells p)) (hg : (u.alloc o2).grownBy w3 v.ownBlock) (hat : v'.ownBlock = v.ownBlock ∨ v'.ownBlock = some (u.alloc o2).heap.size) (hl : Tm.Lies w r A (i + 1)) :
    EachRelT w w3 A kids v' n (i + 1) (Tm.app done (.node (Tm.cnt h) (Tm.bF kd) .nil)) r (xs ++ (Tm.cnt h).cells p) := by
  obtain ⟨h1, h2, h3, h4, h5, h6, h7, h8⟩ := e
  simp only [Tm.len, Tm.nodes, Tm.bF] at h1 h3 h8
  have hlt := h6.lt
  have hs1 : wr.heap.size < (wr.alloc o1).heap.size := by simp
  have hs2 := hb.size
  have hs3 : u.heap.size < (u.alloc o2).heap.size := by simp
  have hwu : Below wr.heap.size wr (u.alloc o2) := (((Below.refl _ _).alloc (Nat.le_refl _) o1).trans (hb.mono (by omega))).alloc (by omega) o2
  refine ⟨by rw [Tm.jo]; exact h1, by rw [Tm.jh]; omega, by omega, hl, ?_, hown, ?_, by omega⟩
  · exact zG5
  · refine Tm.Flat.snoc (hI.kept (jB fun b' o' x hP hx => ?_)) done xs (h7.kept (jB fun b' o' x hP hx => ?_))
    · exact zHP
    · exact zHN
structure BareRel (w wx : World) (B R : Nat) (a : Hd) (q : Pl) : Prop where
  bx : wx.heap[B]? = some (.cells (tC_ a q) 28 (0, 0))
  rx : wx.heap[R]? = some (.cells #[.int .i8 0, .string ⟨#[]⟩, .string ⟨#[]⟩, .int .i64 0, .int .i8 0, .slice none 0 0, .int .i8 0, .slice none 0 0, .int .i64 0, .int .i64 0, .slice none 0 0] 28 (0, 0))
  below : Below w.heap.size w wx
  gt : w.heap.size < B
  ne : R ≠ B
structure BareRel2 (w wx : World) (B R : Nat) (a : Hd) (q q2 : Pl) : Prop where
  rel : BareRel w wx B R a q2
  ty : Ty.Is (mask (fun b => decide (B < b)) wx) a.tk a.tkids q2.TA q2.tn q2.tc
  tu : Ty.Is (mask (fun b => decide (B < b)) wx) a.uk a.ukids q2.UA q2.un q2.uc
  A : q2.A = q.A
  n : q2.n = q.n
  c : q2.c = q.c
theorem BareRel.types {w u v : World} {B R : Nat} {a : Hd} {q : Pl} {G1 G2 : Option Addr} {m1 c1 m2 c2 n1 n2 : Nat} (hB : v.heap[B]? = some (.cells (tC_ a q) 28 (0, 0))) (hR : v.heap[R]? = some (.cells #[.int .i8 0, .string ⟨#[]⟩, .string ⟨#[]⟩, .int .i64 0, .int .i8 0, .slice none 0 0, .int .i8 0, .slice none 0 0, .int .i64 0, .int .i64 0, .slice none 0 0] 28 (0, 0))) (hb : Below w.heap.size w v) (hg : w.heap.size < B) (hne : R ≠ B)
    (h1 : Ty.Is (mask (fun b => decide (n1 ≤ b)) u) a.tk a.tkids G1 m1 c1) (hn1 : B < n1) (huv : Below u.heap.size u v) (h2 : Ty.Is (mask (fun b => decide (n2 ≤ b)) v) a.uk a.ukids G2 m2 c2) (hn2 : B < n2) :
    BareRel2 w ((((v.setCell ⟨B, 4, none⟩ (.int .i8 a.tk)).setCell ⟨B, 5, none⟩ (.slice G1 m1 c1)).setCell ⟨B, 6, none⟩ (.int .i8 a.uk)).setCell ⟨B, 7, none⟩ (.slice G2 m2 c2)) B R a q ⟨G1, m1, c1, G2, m2, c2, q.A, q.n, q.c⟩ := by
  try unfold tC_
  have hoth : ∀ (b o : Nat) (x : Value), b ≠ B → v.cell? ⟨b, o, none⟩ = some x → ((((v.setCell ⟨B, 4, none⟩ (.int .i8 a.tk)).setCell ⟨B, 5, none⟩ (.slice G1 m1 c1)).setCell ⟨B, 6, none⟩ (.int .i8 a.uk)).setCell ⟨B, 7, none⟩ (.slice G2 m2 c2)).cell? ⟨b, o, none⟩ = some x := by
    intro b o x hbB hx
    rw [World.cell?_setCell_other _ _ _ _ (fun e => hbB (by injection e with e; exact e.symm)), World.cell?_setCell_other _ _ _ _ (fun e => hbB (by injection e with e; exact e.symm)), World.cell?_setCell_other _ _ _ _ (fun e => hbB (by injection e with e; exact e.symm)), World.cell?_setCell_other _ _ _ _ (fun e => hbB (by injection e with e; exact e.symm))]
    exact hx
  refine ⟨⟨?_, ?_, (((hb.setCell (p := ⟨B, 4, none⟩) (Nat.le_of_lt hg) _).setCell (p := ⟨B, 5, none⟩) (Nat.le_of_lt hg) _).setCell (p := ⟨B, 6, none⟩) (Nat.le_of_lt hg) _).setCell (p := ⟨B, 7, none⟩) (Nat.le_of_lt hg) _, hg, hne⟩, ?_, ?_, rfl, rfl, rfl⟩
  · simp [World.setCell, Array.getElem?_modify, hB]
  · rw [Below.heap_setCell _ _ _ R hne, Below.heap_setCell _ _ _ R hne, Below.heap_setCell _ _ _ R hne, Below.heap_setCell _ _ _ R hne]; exact hR
  · refine h1.kept (jB fun b o x hP hx => ?_)
    have hP' : n1 ≤ b := by simpa using hP
    exact ⟨by simp; omega, hoth b o x (by omega) (by rw [huv.cell (p := ⟨b, o, none⟩) (Ty.zR hx)]; exact hx)⟩
  · refine h2.kept (jB fun b o x hP hx => ?_)
    have hP' : n2 ≤ b := by simpa using hP
    exact ⟨by simp; omega, hoth b o x (by omega) hx⟩
attribute [local go_sem ↓] Go.wp_at_zero Go.wp_at_succ
def Tm.zero : Hd := ⟨0, ⟨#[]⟩, ⟨#[]⟩, 0, 0, .nil, 0, .nil, 0, 0⟩
def RowEl (w : World) (g : Nat) (h : Hd) (p : Pl) : Prop :=
  w.cell? ⟨g, 0, none⟩ = some (.int .i8 h.kind) ∧ w.cell? ⟨g, 1, none⟩ = some (.string h.name) ∧ w.cell? ⟨g, 2, none⟩ = some (.string h.arg) ∧ w.cell? ⟨g, 3, none⟩ = some (.int .i64 h.num) ∧ w.cell? ⟨g, 4, none⟩ = some (.int .i8 h.tk) ∧
  w.cell? ⟨g, 5, none⟩ = some (.slice p.TA p.tn p.tc) ∧ w.cell? ⟨g, 6, none⟩ = some (.int .i8 h.uk) ∧ w.cell? ⟨g, 7, none⟩ = some (.slice p.UA p.un p.uc) ∧ w.cell? ⟨g, 8, none⟩ = some (.int .i64 h.label) ∧ w.cell? ⟨g, 9, none⟩ = some (.int .i64 h.pos) ∧
  w.cell? ⟨g, 10, none⟩ = some (.slice p.A p.n p.c)
theorem RowEl.below {w w' : World} {g : Nat} {h : Hd} {p : Pl} (hr : RowEl w g h p) (hb : Below w.heap.size w w') : RowEl w' g h p := by
  have hl := Ty.zR hr.1
  have hc := fun o => (vo hb).1 g o hl
  unfold RowEl at *
  rw [hc, hc, hc, hc, hc, hc, hc, hc, hc, hc, hc]
  exact hr
namespace Tm
def reH (h h' : Hd) : Bool := (h.kind == h'.kind) && ((!hasName h.kind || (h.name.toList == h'.name.toList)) && ((!hasArg h.kind || (h.arg.toList == h'.arg.toList)) && ((!hasNum h.kind || (h.num == h'.num)) &&
    ((!hasType h.kind || Ty.leT h.tk h.tkids h'.tk h'.tkids) && (!hasTo h.kind || Ty.leT h.uk h.ukids h'.uk h'.ukids)))))
theorem xA {h : Hd} {n : Nat} (ho : headOk h n = true) : tysOk h = true := by
  unfold headOk at ho
  rw [Bool.and_eq_true] at ho
  exact ho.2
end Tm
end Go.Proofs.YtgjemmmbnpkamaaGreatDoor
namespace Go.Proofs.YtgjemmmbnpkamaaGreatDoor
namespace Ty
end Ty
namespace Ck
def le2 (a b : T2) : Prop := chk a = 0 ∧ chk b = 0 ∧ Ty.leT a.1 a.2 b.1 b.2 = true
theorem le2.refl {a : T2} (h : chk a = 0) : le2 a a := ⟨h, h, by unfold Ty.leT; simp [Ty.ym]⟩
def eLe : Env → Env → Prop
  | [], [] => True
  | b' :: l', b :: l => (b'.1.toList = b.1.toList ∧ le2 b'.2 b.2) ∧ eLe l' l
  | _, _ => False
theorem eLe.snoc : ∀ {l' l : Env} {x' x : ByteArray} {a' a : T2}, eLe l' l → x'.toList = x.toList → le2 a' a → eLe (l' ++ [(x', a')]) (l ++ [(x, a)])
  | [], [], _, _, _, _, _, h1, h2 => ⟨⟨h1, h2⟩, trivial⟩
  | _ :: _, _ :: _, _, _, _, _, h, h1, h2 => ⟨h.1, eLe.snoc h.2 h1 h2⟩
  | [], _ :: _, _, _, _, _, h, _, _ => h.elim
  | _ :: _, [], _, _, _, _, h, _, _ => h.elim
theorem zAW {h : Hd} {n : Nat} (ho : Tm.headOk h n = true) (hk : Tm.hasType h.kind = true) : chk (TT h) = 0 := by
  have := Tm.xA ho
  unfold Tm.tysOk at this
  rw [hk] at this
  simp only [Bool.not_true, Bool.false_or, Bool.and_eq_true, beq_iff_eq] at this
  exact this.1
theorem zDE {h : Hd} {n : Nat} (ho : Tm.headOk h n = true) (hk : Tm.hasTo h.kind = true) : chk (UU h) = 0 := by
  have := Tm.xA ho
  unfold Tm.tysOk at this
  rw [hk] at this
  simp only [Bool.not_true, Bool.false_or, Bool.and_eq_true, beq_iff_eq] at this
  exact this.2
structure HdLe (h' h : Hd) : Prop where
  kind : h'.kind = h.kind
  name : Tm.hasName h.kind = true → h'.name.toList = h.name.toList
  arg : Tm.hasArg h.kind = true → h'.arg.toList = h.arg.toList
  tt : Tm.hasType h.kind = true → le2 (TT h') (TT h)
  uu : Tm.hasTo h.kind = true → le2 (UU h') (UU h)
theorem HdLe.of {h' h : Hd} {n m : Nat} (e : Tm.reH h' h = true) (h1 : Tm.headOk h' n = true) (h2 : Tm.headOk h m = true) : HdLe h' h := by
  unfold Tm.reH at e
  simp only [Bool.and_eq_true, beq_iff_eq] at e
  obtain ⟨ek, en, ea, -, et, eu⟩ := e
  rw [ek] at en ea et eu
  refine ⟨ek, fun q => ?_, fun q => ?_, fun q => ?_, fun q => ?_⟩
  · rw [q] at en; simpa using en
  · rw [q] at ea; simpa using ea
  · rw [q] at et
    exact ⟨zAW h1 (by rw [ek]; exact q), zAW h2 q, by rw [Bool.not_true, Bool.false_or] at et; exact et⟩
  · rw [q] at eu
    exact ⟨zDE h1 (by rw [ek]; exact q), zDE h2 q, by rw [Bool.not_true, Bool.false_or] at eu; exact eu⟩
end Ck
end Go.Proofs.YtgjemmmbnpkamaaGreatDoor
