import Derived.Test.YtglgjaomneljbacGreatDoorM20
namespace Go.Proofs.YtglgjaomneljbacGreatDoor
set_option maxHeartbeats 4000000
set_option maxRecDepth 100000
open Go.RowKit
theorem zD1 (args : Array Value) (W : World) : (callFunc 60 args).run Tryz.prog W = .ok (.enter 60 args) W := by simp [go_sem]
theorem zBT (kd : Int) (g : Addr) (h : Hd) (p : Pl) (w : World) (R : Bool) (hg : ∀ W : World, Below w.heap.size w W → W.cell? g = some (.int .i8 kd))
  (hC : ∀ W : World, Below w.heap.size w W → Calls Tryz.prog 42 #[.agg (tC_ h p), .int .i8 kd] W fun e w' => e = .returned (.bool R) ∧ Below W.heap.size W w') :
  Calls Tryz.prog 60 #[.agg (tC_ h p), .pointer (some g)] w fun e w' => e = .returned (.bool R) ∧ Below w.heap.size w w' := by
 try unfold tC_
 have HB1 := k0_ (zN w (.cells (tC_ h p) 28))
 have HX := k0_ (zD w (.cells (tC_ h p) 28))
 have hgg := hg _ HB1.out
 have HC := k0_ (hC _ HB1.out)
 clear hg hC
 go_enter Tryz.func60, Tryz.ntmps60
 go_upto_region 1 with fail
 generalize w.alloc (.cells (tC_ h p) 28) = w1 at *
 obtain ⟨q0, q1, q2, q3, q4, q5, q6, q7, q8, q9, q10, ql⟩ := zK HX.out
 go_wp2_with fail
 refine HC.out.mono ?_
 rintro e w2 ⟨rfl, hb⟩
 have HB2 := kt_ HB1 hb
 clear hb
 go_wp2_with fail
 go_ret
 exact ⟨rfl, HB2.out⟩
theorem zBS (kd : Int) (K : Nat) : ∀ (h : Hd) (kids : Tm) (p : Pl) (w : World), Tm.nodes kids < K → Tm.Is w h kids p →
  Calls Tryz.prog 42 #[.agg (tC_ h p), .int .i8 kd] w fun e w' => e = .returned (.bool (Ck.hasT kd h kids)) ∧ Below w.heap.size w w' := by
 try unfold tC_
 induction K with
 | zero => intro _ _ _ _ hK; omega
 | succ K ih =>
  intro h kids p w hK hIs
  have hB0 := zb w (.cells (tC_ h p) 28) (.cells #[.int .i8 kd] 22)
  obtain ⟨h0, h1⟩ := zt w (.cells (tC_ h p) 28) (.cells #[.int .i8 kd] 22)
  have HX := k0_ h0
  have HY := k0_ h1
  have hI := hIs.below hB0
  have CC := k0_ (jd 60 ⟨w.heap.size + 1, 0, none⟩ (Ck.hasT kd) kids p.A p.n p.c _ hI.lies hI.fit.n_eq hI.fit.n_le hI.fit.c_le zD1
   (fun h1 k1 q W h2 h3 h4 => zBT kd _ h1 q W (Ck.hasT kd h1 k1) (fun U hU => (jE (zB (h4.trans (hU.mono h4.size)) (zC HY.out) HY.out)).1) (fun U hU => ih h1 k1 q U (by omega) (h3.below hU))))
  rw [← Ck.wI] at CC
  obtain ⟨b0, hb0⟩ : ∃ b, (h.kind == kd) = b := ⟨_, rfl⟩
  obtain ⟨R, hR⟩ : ∃ b, Ck.hasF kd kids = b := ⟨_, rfl⟩
  have hres : Ck.hasT kd h kids = (b0 || R) := by unfold Ck.hasT; rw [hb0, hR]
  rw [hres]
  rw [hR] at CC
  have HB0 := k0_ hB0
  clear ih hIs hI hres hR h0 h1 hB0
  cases b0
  all_goals
   go_enter Tryz.func42, Tryz.ntmps42
   go_upto_region 1 with fail
   generalize (w.alloc (.cells (tC_ h p) 28)).alloc (.cells #[.int .i8 kd] 22) = w1 at *
   obtain ⟨q0, q1, q2, q3, q4, q5, q6, q7, q8, q9, q10, ql⟩ := zK HX.out
   obtain ⟨y0, -, yl⟩ := jE HY.out
   go_wp2_with fail
   first
    | (go_ret
       exact ⟨rfl, HB0.out⟩)
    | (refine CC.out.mono ?_
       rintro e w2 ⟨rfl, hb⟩
       have HB2 := kt_ HB0 hb
       clear hb
       go_wp2_with fail
       go_ret
       exact ⟨rfl, HB2.out⟩)
theorem qR (kd : Int) (w : World) : Calls Tryz.prog 21 #[.int .i8 kd] w fun e w' => ∃ g, e = .returned (.func (Fn.func 40) #[] #[.pointer (some ⟨g, 0, none⟩)]) ∧ w'.heap[g]? = some (.cells #[.int .i8 kd] 22 (0, 0)) ∧ w.heap.size ≤ g ∧ Below w.heap.size w w' := by
 have HB := k0_ (zN w (.cells #[.int .i8 kd] 22))
 have HX := k0_ (zD w (.cells #[.int .i8 kd] 22))
 go_enter Tryz.func21, Tryz.ntmps21
 go_wp2_with fail
 go_ret
 exact ⟨w.heap.size, rfl, HX.out, Nat.le_refl _, HB.out⟩
theorem qw (kd : Int) (g : Nat) (h : Hd) (kids : Tm) (p : Pl) (w : World) (hIs : Tm.Is w h kids p) (hG : TGlob w) (hg : w.heap[g]? = some (.cells #[.int .i8 kd] 22 (0, 0))) :
  Calls Tryz.prog 40 #[.agg (tC_ h p), .pointer (some ⟨g, 0, none⟩)] w (Cg.RefPost w (Ck.refKO kd h kids)) := by
 try unfold tC_
 have HB0 := k0_ (zN w (.cells (tC_ h p) 28))
 have HC := k0_ (fun (W : World) (hb : Below w.heap.size w W) => wh h kids p W (hIs.below hb) (hG.below hb))
 have HH := k0_ (fun (W : World) (hb : Below w.heap.size w W) => zBS kd (Tm.nodes kids + 1) h kids p W (Nat.lt_succ_self _) (hIs.below hb))
 have HKG := k0_ (fun (W : World) (hb : Below w.heap.size w W) => (jE (zB hb (zC hg) hg)).1)
 have HX := k0_ (zD w (.cells (tC_ h p) 28))
 clear hIs hG hg
 by_cases h0 : Tm.chk h kids = 0
 ·rw [h0] at HC
  cases hc : Ck.hasT kd h kids
  all_goals rw [hc] at HH
  ·have hr : Ck.refKO kd h kids = none := by
    have hu : Ck.refK kd h kids = 0 := by unfold Ck.refK; rw [if_neg (by simpa using h0), if_neg (by rw [hc]; decide)]
    unfold Ck.refKO; rw [if_pos hu]
   rw [hr]
   clear hc hr h0
   go_enter Tryz.func40, Tryz.ntmps40
   go_upto_region 1 with fail
   generalize w.alloc (.cells (tC_ h p) 28) = w1 at *
   obtain ⟨q0, q1, q2, q3, q4, q5, q6, q7, q8, q9, q10, ql⟩ := zK HX.out
   go_wp2_with fail
   refine (HC.out _ HB0.out).mono ?_
   rintro e w2 ⟨rfl, hb2⟩
   have HB2 := kt_ HB0 hb2
   have HX2 := kp_ hb2 HX
   clear q0 q1 q2 q3 q4 q5 q6 q7 q8 q9 q10 ql
   obtain ⟨q0, q1, q2, q3, q4, q5, q6, q7, q8, q9, q10, ql⟩ := zK HX2.out
   have hk := HKG.out _ HB2.out
   clear hb2
   go_wp2_with fail
   refine (HH.out _ HB2.out).mono ?_
   rintro e w3 ⟨rfl, hb3⟩
   have HB3 := kt_ HB2 hb3
   clear hb3 hk q0 q1 q2 q3 q4 q5 q6 q7 q8 q9 q10 ql
   go_wp2_with fail
   go_ret
   exact ⟨rfl, HB3.out⟩
  ·have hr : Ck.refKO kd h kids = some (30, 0) := by
    have hu : Ck.refK kd h kids = 30 := by unfold Ck.refK; rw [if_neg (by simpa using h0), if_pos hc]
    unfold Ck.refKO; rw [hu]; rfl
   rw [hr]
   clear hc hr h0
   go_enter Tryz.func40, Tryz.ntmps40
   go_upto_region 1 with fail
   generalize w.alloc (.cells (tC_ h p) 28) = w1 at *
   obtain ⟨q0, q1, q2, q3, q4, q5, q6, q7, q8, q9, q10, ql⟩ := zK HX.out
   go_wp2_with fail
   refine (HC.out _ HB0.out).mono ?_
   rintro e w2 ⟨rfl, hb2⟩
   have HB2 := kt_ HB0 hb2
   have HX2 := kp_ hb2 HX
   clear q0 q1 q2 q3 q4 q5 q6 q7 q8 q9 q10 ql
   obtain ⟨q0, q1, q2, q3, q4, q5, q6, q7, q8, q9, q10, ql⟩ := zK HX2.out
   have hk := HKG.out _ HB2.out
   clear hb2
   go_wp2_with fail
   refine (HH.out _ HB2.out).mono ?_
   rintro e w3 ⟨rfl, hb3⟩
   have HB3 := kt_ HB2 hb3
   have HB4 := k0_ (HB3.out.alloc HB3.out.size (.cells #[.int .i64 30, .int .i64 0, .string ⟨#[]⟩] 53))
   have HF := k0_ (zD w3 (.cells #[.int .i64 30, .int .i64 0, .string ⟨#[]⟩] 53))
   clear hb3 hk q0 q1 q2 q3 q4 q5 q6 q7 q8 q9 q10 ql
   go_wp2_with fail
   go_ret
   exact ⟨w3.heap.size, rfl, HF.out, HB3.out.size, HB4.out⟩
 ·have hr : Ck.refKO kd h kids = some (((Tm.chk h kids : Nat) : Int), 0) := by
   have hu : Ck.refK kd h kids = Tm.chk h kids := by unfold Ck.refK; rw [if_pos (by simpa using h0)]
   unfold Ck.refKO; rw [hu, if_neg (by omega)]
  rw [hr]
  have hcn : (((Tm.chk h kids : Nat) : Int) == 0) = false := by simp; omega
  generalize Tm.chk h kids = C at *
  clear hr h0 HH
  go_enter Tryz.func40, Tryz.ntmps40
  go_upto_region 1 with fail
  generalize w.alloc (.cells (tC_ h p) 28) = w1 at *
  obtain ⟨q0, q1, q2, q3, q4, q5, q6, q7, q8, q9, q10, ql⟩ := zK HX.out
  go_wp2_with fail
  refine (HC.out _ HB0.out).mono ?_
  rintro e w2 ⟨rfl, hb2⟩
  have HB2 := kt_ HB0 hb2
  have HB4 := k0_ (HB2.out.alloc HB2.out.size (.cells #[.int .i64 C, .int .i64 0, .string ⟨#[]⟩] 53))
  have HF := k0_ (zD w2 (.cells #[.int .i64 C, .int .i64 0, .string ⟨#[]⟩] 53))
  clear hb2 q0 q1 q2 q3 q4 q5 q6 q7 q8 q9 q10 ql
  go_wp2_with fail
  go_ret
  exact ⟨w2.heap.size, rfl, HF.out, HB2.out.size, HB4.out⟩
theorem zBU (p : Option Addr) (w : World) : (Instr.typeAssert (.iface 48 (.pointer p)) 20 48 true).run Tryz.prog w = .ok (.tuple #[.pointer p, .bool true]) w := by kernel_rfl
theorem zCQ (w : World) : (Instr.typeAssert .nilIface 20 48 true).run Tryz.prog w = .ok (.tuple #[.pointer none, .bool false]) w := by kernel_rfl
theorem kZ (P R : Nat) (g : Addr) (x0 x1 z : Value) (w : World) (h0 : w.cell? ⟨P, 0, none⟩ = some x0) (h1 : w.cell? ⟨P, 1, none⟩ = some x1) (hr : w.cell? ⟨R, 0, none⟩ = some z)
  (hPR : P ≠ R) (f0 : w.frozen? ⟨P, 0, none⟩ = false) (f1 : w.frozen? ⟨P, 1, none⟩ = false) (fr : w.frozen? ⟨R, 0, none⟩ = false) :
  CallsD Tryz.prog 23 #[.pointer (some ⟨P, 0, none⟩), .pointer (some ⟨R, 0, none⟩)] (.panicking [{ v := .iface 48 (.pointer (some g)), recovered := false }]) w fun e u' w' =>
   e = .returned (.tuple #[]) ∧ u' = .panicking [{ v := .iface 48 (.pointer (some g)), recovered := true }] ∧ w' = ((w.setCell ⟨P, 0, none⟩ (.int .i8 0)).setCell ⟨P, 1, none⟩ (.slice none 0 0)).setCell ⟨R, 0, none⟩ (.iface 48 (.pointer (some g))) := by
 have e1 := zBU
 have k1 : (w.setCell ⟨P, 0, none⟩ (.int .i8 0)).cell? ⟨P, 1, none⟩ = some x1 := by
  rw [World.cell?_setCell_other _ _ _ _ (fun e => by injection e with e1 e2; omega)]; exact h1
 have kr : ((w.setCell ⟨P, 0, none⟩ (.int .i8 0)).setCell ⟨P, 1, none⟩ (.slice none 0 0)).cell? ⟨R, 0, none⟩ = some z := by
  rw [World.cell?_setCell_other _ _ _ _ (fun e => by injection e with e1 e2; omega), World.cell?_setCell_other _ _ _ _ (fun e => by injection e with e1 e2; omega)]; exact hr
 refine callsD_of_wpS Tryz.func23 rfl fun c₀ cs hu => ?_
 apply wpS_seq
 apply wpS_region
 simp [wpOpsS, go_sem, recoverD, hu, Tryz.ntmps23, Exit.thenS]
 refine wpS_of_wp ?_
 change Code.wp _ _ _ { tmps := #[.pointer (some ⟨P, 0, none⟩), .pointer (some ⟨R, 0, none⟩), .iface 48 (.pointer (some g)), undef, undef, .iface 48 (.pointer (some g)), undef, undef, undef, undef, undef, undef, undef, undef, undef, undef, undef, undef], defers := [] } w
 clear hu
 go_wp2_with fail
 exact ⟨rfl, _, rfl, .tuple #[], by simp [results, Tryz.results23], rfl, rfl, rfl⟩
theorem xU (p r : Addr) (w : World) :
  CallsD Tryz.prog 23 #[.pointer (some p), .pointer (some r)] .returning w fun e u' w' => e = .returned (.tuple #[]) ∧ u' = .returning ∧ w' = w := by
 have e1 := zCQ
 have e2 := zAY
 refine callsD_of_wpS Tryz.func23 rfl fun c₀ cs hu => ?_
 apply wpS_seq
 apply wpS_region
 simp [wpOpsS, go_sem, recoverD, hu, Tryz.ntmps23, Exit.thenS]
 refine wpS_of_wp ?_
 change Code.wp _ _ _ { tmps := #[.pointer (some p), .pointer (some r), .nilIface, undef, undef, .nilIface, undef, undef, undef, undef, undef, undef, undef, undef, undef, undef, undef, undef], defers := [] } w
 go_wp2_with fail
 exact ⟨rfl, .returning, by cases c₀; simp_all, .tuple #[], by simp [results, Tryz.results23], rfl, rfl, rfl⟩
namespace Ck
theorem zAS (F : Hd → Tm → Env → R) (h : Hd) (kids : Tm) (l : Env) (hk : h.kind = 0) : raw F h kids l = (match fnd l h.name with | some a => .ok a | none => .bad 41 h.pos h.name) := by
 unfold raw
 rw [if_pos hk]
 all_goals (cases fnd l h.name <;> rfl)
theorem zAR (F : Hd → Tm → Env → R) (h : Hd) (kids : Tm) (l : Env) (hk : h.kind = 1) : raw F h kids l = .ok (1, .nil) := by
 unfold raw
 simp [hk]
theorem zAQ (F : Hd → Tm → Env → R) (h : Hd) (kids : Tm) (l : Env) (hk : h.kind = 2) : raw F h kids l = .ok (2, .nil) := by
 unfold raw
 simp [hk]
theorem zAP (F : Hd → Tm → Env → R) (h : Hd) (kids : Tm) (l : Env) (hk : h.kind = 3) : raw F h kids l = .ok (2, .nil) := by
 unfold raw
 simp [hk]
theorem zAO (F : Hd → Tm → Env → R) (h : Hd) (kids : Tm) (l : Env) (hk : h.kind = 4) : raw F h kids l = bnd (F (k1 kids).1 (k1 kids).2 (l ++ [(h.name, TT h)])) fun b => .ok (mk2 3 (TT h) b) := by
 unfold raw
 simp [hk]
theorem zAN (F : Hd → Tm → Env → R) (h : Hd) (kids : Tm) (l : Env) (hk : h.kind = 5) : raw F h kids l = bnd (F (k1 kids).1 (k1 kids).2 (l ++ [(h.name, mk2 3 (TT h) (UU h)), (h.arg, TT h)])) fun b => if ag b (UU h) = true then .ok (mk2 3 (TT h) (UU h)) else fault h 91 := by
 unfold raw
 simp [hk]
theorem zAM (F : Hd → Tm → Env → R) (h : Hd) (kids : Tm) (l : Env) (hk : h.kind = 6) : raw F h kids l = bnd (F (k1 kids).1 (k1 kids).2 l) fun a => bnd (F (k2 kids).1 (k2 kids).2 l) fun b => over h a b (0, .nil) := by
 unfold raw
 simp [hk]
theorem zAL (F : Hd → Tm → Env → R) (h : Hd) (kids : Tm) (l : Env) (hk : h.kind = 7) : raw F h kids l = bnd (F (k1 kids).1 (k1 kids).2 l) fun a => if ag a (TT h) = true then F (k2 kids).1 (k2 kids).2 (l ++ [(h.name, TT h)]) else fault h 91 := by
 unfold raw
 simp [hk]
theorem zAK (F : Hd → Tm → Env → R) (h : Hd) (kids : Tm) (l : Env) (hk : h.kind = 8) : raw F h kids l = bnd (F (k1 kids).1 (k1 kids).2 l) fun a => bnd (F (k2 kids).1 (k2 kids).2 l) fun b => bnd (F (k3 kids).1 (k3 kids).2 l) fun c => over h a b c := by
 unfold raw
 simp [hk]
theorem zAJ (F : Hd → Tm → Env → R) (h : Hd) (kids : Tm) (l : Env) (hk : h.kind = 9) : raw F h kids l = bnd (F (k1 kids).1 (k1 kids).2 l) fun a => bnd (F (k2 kids).1 (k2 kids).2 l) fun b => over h a b (0, .nil) := by
 unfold raw
 simp [hk]
theorem xA (F : Hd → Tm → Env → R) (h : Hd) (kids : Tm) (l : Env) (hk : h.kind = 10) : raw F h kids l = bnd (F (k1 kids).1 (k1 kids).2 l) fun a => over h a (0, .nil) (0, .nil) := by
 unfold raw
 simp [hk]
theorem yz (F : Hd → Tm → Env → R) (h : Hd) (kids : Tm) (l : Env) (hk : h.kind = 11) : raw F h kids l = bnd (F (k1 kids).1 (k1 kids).2 l) fun a => over h a (0, .nil) (0, .nil) := by
 unfold raw
 simp [hk]
theorem yx (F : Hd → Tm → Env → R) (h : Hd) (kids : Tm) (l : Env) (hk : h.kind = 12) : raw F h kids l = bnd (F (k1 kids).1 (k1 kids).2 l) fun a => over h a (0, .nil) (0, .nil) := by
 unfold raw
 simp [hk]
theorem yw (F : Hd → Tm → Env → R) (h : Hd) (kids : Tm) (l : Env) (hk : h.kind = 13) : raw F h kids l = bnd (F (k1 kids).1 (k1 kids).2 l) fun a => over h a (0, .nil) (0, .nil) := by
 unfold raw
 simp [hk]
theorem yu (F : Hd → Tm → Env → R) (h : Hd) (kids : Tm) (l : Env) (hk : h.kind = 14) : raw F h kids l = bnd (F (k1 kids).1 (k1 kids).2 l) fun a => if asO 5 a = true then bnd (F (k2 kids).1 (k2 kids).2 (l ++ [(h.name, asl 5 a)])) fun b => bnd (F (k3 kids).1 (k3 kids).2 (l ++ [(h.arg, asr 5 a)])) fun c => meet h b c else fault h 90 := by
 unfold raw
 simp [hk]
theorem yt (F : Hd → Tm → Env → R) (h : Hd) (kids : Tm) (l : Env) (hk : h.kind = 15) : raw F h kids l = bnd (F (k1 kids).1 (k1 kids).2 l) fun a => bnd (F (k2 kids).1 (k2 kids).2 l) fun b => over h a b (0, .nil) := by
 unfold raw
 simp [hk]
theorem yo (F : Hd → Tm → Env → R) (h : Hd) (kids : Tm) (l : Env) (hk : h.kind = 16) : raw F h kids l = bnd (F (k1 kids).1 (k1 kids).2 l) fun a => over h a (0, .nil) (0, .nil) := by
 unfold raw
 simp [hk]
theorem zBw (F : Hd → Tm → Env → R) (h : Hd) (kids : Tm) (l : Env) (hk : h.kind = 17) : raw F h kids l = bnd (F (k1 kids).1 (k1 kids).2 l) fun a => over h a (0, .nil) (0, .nil) := by
 unfold raw
 simp [hk]
theorem xD (h : Hd) (a b c : T2) (hk : h.kind = 6) : over h a b c = if asO 3 a = true then (if ag b (asl 3 a) = true then .ok (asr 3 a) else fault h 91) else fault h 90 := by
 unfold over
 simp [hk]
theorem xC (h : Hd) (a b c : T2) (hk : h.kind = 8) : over h a b c = if ag a (2, .nil) = true then meet h b c else fault h 91 := by
 unfold over
 simp [hk]
theorem xB (h : Hd) (a b c : T2) (hk : h.kind = 9) : over h a b c = .ok (mk2 4 a b) := by
 unfold over
 simp [hk]
theorem vO (h : Hd) (a b c : T2) (hk : h.kind = 10) : over h a b c = if asO 4 a = true then .ok (asl 4 a) else fault h 90 := by
 unfold over
 simp [hk]
theorem vN (h : Hd) (a b c : T2) (hk : h.kind = 11) : over h a b c = if asO 4 a = true then .ok (asr 4 a) else fault h 90 := by
 unfold over
 simp [hk]
theorem vM (h : Hd) (a b c : T2) (hk : h.kind = 12) : over h a b c = if asO 5 (TT h) = true then (if ag a (asl 5 (TT h)) = true then .ok (mk2 5 (asl 5 (TT h)) (asr 5 (TT h))) else fault h 91) else fault h 90 := by
 unfold over
 simp [hk]
theorem vL (h : Hd) (a b c : T2) (hk : h.kind = 13) : over h a b c = if asO 5 (TT h) = true then (if ag a (asr 5 (TT h)) = true then .ok (mk2 5 (asl 5 (TT h)) (asr 5 (TT h))) else fault h 91) else fault h 90 := by
 unfold over
 simp [hk]
theorem vK (h : Hd) (a b c : T2) (hk : h.kind = 15) : over h a b c = if ag a (1, .nil) = true then (if ag b (1, .nil) = true then .ok (opAns h.name) else fault h 91) else fault h 91 := by
 unfold over
 simp [hk]
theorem vJ (h : Hd) (a b c : T2) (hk : h.kind = 16) : over h a b c = if ag a (TT h) = true then .ok (TT h) else fault h 91 := by
 unfold over
 simp [hk]
theorem zAT (h : Hd) (a b c : T2) (hk : h.kind = 17) : over h a b c = if ag a (TT h) = true then .ok (TT h) else fault h 91 := by
 unfold over
 simp [hk]
end Ck
namespace Ck
theorem zV {h : Hd} {k r : Tm} (h0 : Tm.okF (.node h k r) = true) : Tm.okT h k = true ∧ Tm.okF r = true := by
 simp only [Tm.okF, Bool.and_eq_true] at h0
 exact ⟨by unfold Tm.okT; rw [h0.1.1, h0.1.2]; rfl, h0.2⟩
theorem je {h : Hd} {kids : Tm} (h0 : Tm.okT h kids = true) : Tm.isKind h.kind = true ∧ Tm.len kids = Tm.kidsN h.kind ∧ Tm.okF kids = true := by
 unfold Tm.okT Tm.headOk at h0
 simp only [Bool.and_eq_true, decide_eq_true_eq] at h0
 exact ⟨h0.1.1.1.1.1, h0.1.1.1.1.2, h0.2⟩
theorem qQ {h : Hd} {kids : Tm} (h0 : castT h kids = false) : h.kind ≠ 17 ∧ castF kids = false := by
 unfold castT at h0
 simp only [Bool.or_eq_false_iff, beq_eq_false_iff_ne] at h0
 exact h0
theorem yQ {h : Hd} {kids : Tm} (h0 : Tm.chk h kids = 0) : Tm.nd h kids ≤ 8192 ∧ Tm.dp h kids ≤ 200 ∧ Tm.okT h kids = true := by
 unfold Tm.chk at h0
 split at h0
 ·cases h0
 ·split at h0
  ·cases h0
  ·split at h0
   ·exact ⟨by omega, by omega, by assumption⟩
   ·cases h0
def two (h : Hd) (k : Tm) (h' : Hd) (k' : Tm) : Tm := .node h k (.node h' k' .nil)
theorem yc {h : Hd} {k : Tm} (h0 : Tm.chk h k = 0) (hc : castT h k = false) : tell h k = ty (Tm.nodes k + 1) h k [] := by
 unfold tell
 rw [if_neg (by omega), if_neg (by rw [hc]; decide)]
end Ck
end Go.Proofs.YtglgjaomneljbacGreatDoor
namespace Go.Proofs.YtglgjaomneljbacGreatDoor
open Go.RowKit
def mask (P : Nat → Bool) (w : World) : World := { w with heap := w.heap.mapIdx fun i o => if P i then o else .cells #[] 0 (0, 0) }
theorem zCj {P : Nat → Bool} {w : World} {b o : Nat} {v : Value} (hP : P b = true) (h : w.cell? ⟨b, o, none⟩ = some v) : (mask P w).cell? ⟨b, o, none⟩ = some v := by
 unfold mask
 simp only [World.cell?, Array.getElem?_mapIdx] at h ⊢
 cases hb : w.heap[b]? with
 | none => simp [hb] at h
 | some x => rw [hb] at h; simpa [hP] using h
theorem zCk {P : Nat → Bool} {w : World} {b o : Nat} {v : Value} (h : (mask P w).cell? ⟨b, o, none⟩ = some v) : P b = true ∧ w.cell? ⟨b, o, none⟩ = some v := by
 unfold mask at h
 simp only [World.cell?, Array.getElem?_mapIdx] at h ⊢
 cases hb : w.heap[b]? with
 | none => simp [hb] at h
 | some x =>
  rw [hb] at h
  cases hp : P b
  ·simp [hp] at h
  ·exact ⟨rfl, by simpa [hp] using h⟩
theorem qJ {P P' : Nat → Bool} {w w' : World} (hk : ∀ b o v, P b = true → w.cell? ⟨b, o, none⟩ = some v → P' b = true ∧ w'.cell? ⟨b, o, none⟩ = some v) : Tm.Kept (mask P w) (mask P' w') := fun b _ o v h => by
 obtain ⟨h1, h2⟩ := zCk h
 obtain ⟨h3, h4⟩ := hk b o v h1 h2
 exact zCj h3 h4
namespace Ty
def app : Fo → Fo → Fo
 | .nil, g => g
 | .node a b k kids r, g => .node a b k kids (app r g)
theorem qy : ∀ (f : Fo) (a b : Nat) (k : Int) (kids r : Fo), app (app f (.node a b k kids .nil)) r = app f (.node a b k kids r)
 | .nil, _, _, _, _, _ => rfl
 | .node _ _ _ _ q, a, b, k, kids, r => by simp only [app]; rw [qy q]
theorem qo : ∀ (f : Fo) (a b : Nat) (k : Int) (kids : Fo), len (app f (.node a b k kids .nil)) = len f + 1
 | .nil, _, _, _, _ => rfl
 | .node _ _ _ _ q, a, b, k, kids => by simp only [app, len]; rw [qo q]
def Flat (w : World) : Fo → List Value → Prop
 | .nil, xs => xs = []
 | .node _ _ k kids r, xs => ∃ A m c ys, xs = .int .i8 k :: .slice A m c :: ys ∧ Is w k kids A m c ∧ Flat w r ys
theorem Flat.snoc {w : World} {a b : Nat} {k : Int} {kids : Fo} {A : Option Addr} {m c : Nat} (hI : Is w k kids A m c) : ∀ (f : Fo) (xs : List Value), Flat w f xs → Flat w (app f (.node a b k kids .nil)) (xs ++ [.int .i8 k, .slice A m c])
 | .nil, xs, h => by cases h; exact ⟨A, m, c, [], rfl, hI, rfl⟩
 | .node _ _ _ _ q, xs, h => by
  obtain ⟨A', m', c', ys, rfl, h1, h2⟩ := h
  exact ⟨A', m', c', _, rfl, h1, Flat.snoc hI q ys h2⟩
theorem Flat.kept {w w' : World} (hk : Tm.Kept w w') : ∀ (f : Fo) (xs : List Value), Flat w f xs → Flat w' f xs
 | .nil, _, h => h
 | .node _ _ _ _ q, _, h => by
  obtain ⟨A', m', c', ys, rfl, h1, h2⟩ := h
  exact ⟨A', m', c', ys, rfl, h1.kept hk, Flat.kept hk q ys h2⟩
theorem Flat.lies {w : World} {g : Nat} : ∀ (f : Fo) (xs : List Value) (i : Nat), Flat w f xs → (∀ j u, xs[j]? = some u → w.cell? ⟨g, i * 2 + j, none⟩ = some u) → Lies w f (some ⟨g, 0, none⟩) i
 | .nil, _, _, _, _ => trivial
 | .node _ _ k kids r, _, i, h, hc => by
  obtain ⟨A', m', c', ys, rfl, h1, h2⟩ := h
  refine ⟨g, 0, A', c', rfl, ⟨h1.lo, h1.hi⟩, by rw [Nat.zero_add]; exact hc 0 _ rfl, by rw [Nat.zero_add, ← h1.n_eq]; exact hc 1 _ rfl, by rw [← h1.n_eq]; exact h1.n_le, h1.c_le, h1.lies, ?_⟩
  exact Flat.lies r ys (i + 1) h2 fun j u hu => by
   have := hc (j + 2) u (by simpa using hu)
   rwa [show i * 2 + (j + 2) = (i + 1) * 2 + j by omega] at this
end Ty
structure EachRel (w wr : World) (A : Option Addr) (kids : Fo) (v : Value) (n i : Nat) (done rest : Fo) (xs : List Value) : Prop where
 eq : Ty.app done rest = kids
 len : Ty.len done = i
 i_eq : i + Ty.len rest = n
 lies : Ty.Lies w rest A i
 below : Below w.heap.size w wr
 own : wr.ownsRow w.heap.size 25 2 v i xs
 flat : Ty.Flat (mask (fun b => decide (w.heap.size ≤ b) && decide (v.ownBlock ≠ some b)) wr) done xs
 sub : Ty.nodes rest ≤ Ty.nodes kids
theorem EachRel.step {w wr u w3 : World} {A : Option Addr} {kids : Fo} {v v' : Value} {n i a b : Nat} {done r kd : Fo} {k : Int} {xs : List Value} {G : Option Addr} {m c : Nat} {o1 o2 : Obj}
  (h : EachRel w wr A kids v n i done (.node a b k kd r) xs) (hb : Below (wr.alloc o1).heap.size (wr.alloc o1) u) (hI : Ty.Is (mask (fun b => decide ((wr.alloc o1).heap.size ≤ b)) u) k kd G m c)
  (hown : w3.ownsRow w.heap.size 25 2 v' (i + 1) (xs ++ [.int .i8 k, .slice G m c])) (hg : (u.alloc o2).grownBy w3 v.ownBlock) (hat : v'.ownBlock = v.ownBlock ∨ v'.ownBlock = some (u.alloc o2).heap.size) (hl : Ty.Lies w r A (i + 1)) :
  EachRel w w3 A kids v' n (i + 1) (Ty.app done (.node a b k kd .nil)) r (xs ++ [.int .i8 k, .slice G m c]) := by
 obtain ⟨h1, h2, h3, h4, h5, h6, h7, h8⟩ := h
 simp only [Ty.len, Ty.nodes] at h3 h8
 have hlt := h6.lt
 have hs1 : wr.heap.size < (wr.alloc o1).heap.size := by simp
 have hs2 := hb.size
 have hs3 : u.heap.size < (u.alloc o2).heap.size := by simp
 have hwu : Below wr.heap.size wr (u.alloc o2) := (((Below.refl _ _).alloc (Nat.le_refl _) o1).trans (hb.mono (by omega))).alloc (by omega) o2
 refine ⟨by rw [Ty.qy]; exact h1, by rw [Ty.qo]; omega, by omega, hl, ?_, hown, ?_, by omega⟩
 ·exact zDZ
 ·refine Ty.Flat.snoc (hI.kept (qJ fun b' o' x hP hx => ?_)) done xs (h7.kept (qJ fun b' o' x hP hx => ?_))
  ·exact zEO
  ·exact zEN
attribute [local go_sem ↓] Go.wp_at_zero Go.wp_at_succ
namespace Tm
def bF : Tm → Tm
 | .nil => .nil
 | .node h kids r => .node (cnt h) (bF kids) (bF r)
def app : Tm → Tm → Tm
 | .nil, g => g
 | .node h kids r, g => .node h kids (app r g)
theorem qy : ∀ (f : Tm) (h : Hd) (kids r : Tm), app (app f (.node h kids .nil)) r = app f (.node h kids r)
 | .nil, _, _, _ => rfl
 | .node _ _ q, h, kids, r => by simp only [app]; rw [qy q]
theorem qo : ∀ (f : Tm) (h : Hd) (kids : Tm), len (app f (.node h kids .nil)) = len f + 1
 | .nil, _, _ => rfl
 | .node _ _ q, h, kids => by simp only [app, len]; rw [qo q]
def Flat (w : World) : Tm → List Value → Prop
 | .nil, xs => xs = []
 | .node h kids r, xs => ∃ p ys, xs = h.cells p ++ ys ∧ Is w h kids p ∧ Flat w r ys
theorem Flat.snoc {w : World} {h : Hd} {kids : Tm} {p : Pl} (hI : Is w h kids p) : ∀ (f : Tm) (xs : List Value), Flat w f xs → Flat w (app f (.node h kids .nil)) (xs ++ h.cells p)
 | .nil, xs, e => by cases e; exact ⟨p, [], by simp, hI, rfl⟩
 | .node _ _ q, xs, e => by
  obtain ⟨p', ys, rfl, h1, h2⟩ := e
  exact ⟨p', ys ++ h.cells p, by rw [List.append_assoc], h1, Flat.snoc hI q ys h2⟩
theorem Flat.kept {w w' : World} (hk : Kept w w') : ∀ (f : Tm) (xs : List Value), Flat w f xs → Flat w' f xs
 | .nil, _, e => e
 | .node _ _ q, _, e => by
  obtain ⟨p', ys, rfl, h1, h2⟩ := e
  exact ⟨p', ys, rfl, h1.kept hk, Flat.kept hk q ys h2⟩
theorem Flat.lies {w : World} {g : Nat} : ∀ (f : Tm) (xs : List Value) (i : Nat), Flat w f xs → (∀ j u, xs[j]? = some u → w.cell? ⟨g, i * 11 + j, none⟩ = some u) → Lies w f (some ⟨g, 0, none⟩) i
 | .nil, _, _, _, _ => trivial
 | .node h kids r, _, i, e, hc => by
  obtain ⟨p, ys, rfl, h1, h2⟩ := e
  have hlen : (h.cells p).length = 11 := rfl
  refine ⟨g, 0, p, rfl, fun j v hv => ?_, h1.fit, h1.lies, ?_⟩
  ·have hj : j < (h.cells p).length := by
    rcases Nat.lt_or_ge j (h.cells p).length with q | q
    ·exact q
    ·rw [List.getElem?_eq_none q] at hv; cases hv
   rw [Nat.zero_add]
   exact hc j v (by rw [List.getElem?_append_left hj]; exact hv)
  ·exact Flat.lies r ys (i + 1) h2 fun j u hu => by
    have := hc (j + 11) u (by rw [List.getElem?_append_right (by rw [hlen]; omega), hlen, show j + 11 - 11 = j by omega]; exact hu)
    rwa [show i * 11 + (j + 11) = (i + 1) * 11 + j by omega] at this
end Tm
structure EachRelT (w wr : World) (A : Option Addr) (kids : Tm) (v : Value) (n i : Nat) (done rest : Tm) (xs : List Value) : Prop where
 eq : Tm.app done (Tm.bF rest) = Tm.bF kids
 len : Tm.len done = i
 i_eq : i + Tm.len rest = n
 lies : Tm.Lies w rest A i
 below : Below w.heap.size w wr
 own : wr.ownsRow w.heap.size 28 11 v i xs
 flat : Tm.Flat (mask (fun b => decide (w.heap.size ≤ b) && decide (v.ownBlock ≠ some b)) wr) done xs
 sub : Tm.nodes rest ≤ Tm.nodes kids
theorem EachRelT.step {w wr u w3 : World} {A : Option Addr} {kids : Tm} {v v' : Value} {n i : Nat} {done r kd : Tm} {h : Hd} {xs : List Value} {p : Pl} {o1 o2 : Obj}
  (e : EachRelT w wr A kids v n i done (.node h kd r) xs) (hb : Below (wr.alloc o1).heap.size (wr.alloc o1) u) (hI : Tm.Is (mask (fun b => decide ((wr.alloc o1).heap.size ≤ b)) u) (Tm.cnt h) (Tm.bF kd) p)
  (hown : w3.ownsRow w.heap.size 28 11 v' (i + 1) (xs ++ (Tm.cnt h).cells p)) (hg : (u.alloc o2).grownBy w3 v.ownBlock) (hat : v'.ownBlock = v.ownBlock ∨ v'.ownBlock = some (u.alloc o2).heap.size) (hl : Tm.Lies w r A (i + 1)) :
  EachRelT w w3 A kids v' n (i + 1) (Tm.app done (.node (Tm.cnt h) (Tm.bF kd) .nil)) r (xs ++ (Tm.cnt h).cells p) := by
 obtain ⟨h1, h2, h3, h4, h5, h6, h7, h8⟩ := e
 simp only [Tm.len, Tm.nodes, Tm.bF] at h1 h3 h8
 have hlt := h6.lt
 have hs1 : wr.heap.size < (wr.alloc o1).heap.size := by simp
 have hs2 := hb.size
 have hs3 : u.heap.size < (u.alloc o2).heap.size := by simp
 have hwu : Below wr.heap.size wr (u.alloc o2) := (((Below.refl _ _).alloc (Nat.le_refl _) o1).trans (hb.mono (by omega))).alloc (by omega) o2
 refine ⟨by rw [Tm.qy]; exact h1, by rw [Tm.qo]; omega, by omega, hl, ?_, hown, ?_, by omega⟩
 ·exact zDZ
 ·refine Tm.Flat.snoc (hI.kept (qJ fun b' o' x hP hx => ?_)) done xs (h7.kept (qJ fun b' o' x hP hx => ?_))
  ·exact zEO
  ·exact zEN
structure BareRel (w wx : World) (B R : Nat) (a : Hd) (q : Pl) : Prop where
 bx : wx.heap[B]? = some (.cells (tC_ a q) 28 (0, 0))
 rx : wx.heap[R]? = some (.cells #[.int .i8 0, .string ⟨#[]⟩, .string ⟨#[]⟩, .int .i64 0, .int .i8 0, .slice none 0 0, .int .i8 0, .slice none 0 0, .int .i64 0, .int .i64 0, .slice none 0 0] 28 (0, 0))
 below : Below w.heap.size w wx
 gt : w.heap.size < B
 ne : R ≠ B
structure BareRel2 (w wx : World) (B R : Nat) (a : Hd) (q q2 : Pl) : Prop where
 rel : BareRel w wx B R a q2
 ty : Ty.Is (mask (fun b => decide (B < b)) wx) a.tk a.tkids q2.TA q2.tn q2.tc
 tu : Ty.Is (mask (fun b => decide (B < b)) wx) a.uk a.ukids q2.UA q2.un q2.uc
 A : q2.A = q.A
 n : q2.n = q.n
 c : q2.c = q.c
theorem BareRel.types {w u v : World} {B R : Nat} {a : Hd} {q : Pl} {G1 G2 : Option Addr} {m1 c1 m2 c2 n1 n2 : Nat} (hB : v.heap[B]? = some (.cells (tC_ a q) 28 (0, 0))) (hR : v.heap[R]? = some (.cells #[.int .i8 0, .string ⟨#[]⟩, .string ⟨#[]⟩, .int .i64 0, .int .i8 0, .slice none 0 0, .int .i8 0, .slice none 0 0, .int .i64 0, .int .i64 0, .slice none 0 0] 28 (0, 0))) (hb : Below w.heap.size w v) (hg : w.heap.size < B) (hne : R ≠ B)
  (h1 : Ty.Is (mask (fun b => decide (n1 ≤ b)) u) a.tk a.tkids G1 m1 c1) (hn1 : B < n1) (huv : Below u.heap.size u v) (h2 : Ty.Is (mask (fun b => decide (n2 ≤ b)) v) a.uk a.ukids G2 m2 c2) (hn2 : B < n2) :
  BareRel2 w ((((v.setCell ⟨B, 4, none⟩ (.int .i8 a.tk)).setCell ⟨B, 5, none⟩ (.slice G1 m1 c1)).setCell ⟨B, 6, none⟩ (.int .i8 a.uk)).setCell ⟨B, 7, none⟩ (.slice G2 m2 c2)) B R a q ⟨G1, m1, c1, G2, m2, c2, q.A, q.n, q.c⟩ := by
 try unfold tC_
 have hoth : ∀ (b o : Nat) (x : Value), b ≠ B → v.cell? ⟨b, o, none⟩ = some x → ((((v.setCell ⟨B, 4, none⟩ (.int .i8 a.tk)).setCell ⟨B, 5, none⟩ (.slice G1 m1 c1)).setCell ⟨B, 6, none⟩ (.int .i8 a.uk)).setCell ⟨B, 7, none⟩ (.slice G2 m2 c2)).cell? ⟨b, o, none⟩ = some x := by
  intro b o x hbB hx
  rw [World.cell?_setCell_other _ _ _ _ (fun e => hbB (by injection e with e; exact e.symm)), World.cell?_setCell_other _ _ _ _ (fun e => hbB (by injection e with e; exact e.symm)), World.cell?_setCell_other _ _ _ _ (fun e => hbB (by injection e with e; exact e.symm)), World.cell?_setCell_other _ _ _ _ (fun e => hbB (by injection e with e; exact e.symm))]
  exact hx
 refine ⟨⟨?_, ?_, (((hb.setCell (p := ⟨B, 4, none⟩) (Nat.le_of_lt hg) _).setCell (p := ⟨B, 5, none⟩) (Nat.le_of_lt hg) _).setCell (p := ⟨B, 6, none⟩) (Nat.le_of_lt hg) _).setCell (p := ⟨B, 7, none⟩) (Nat.le_of_lt hg) _, hg, hne⟩, ?_, ?_, rfl, rfl, rfl⟩
 ·simp [World.setCell, Array.getElem?_modify, hB]
 ·rw [Below.heap_setCell _ _ _ R hne, Below.heap_setCell _ _ _ R hne, Below.heap_setCell _ _ _ R hne, Below.heap_setCell _ _ _ R hne]; exact hR
 ·refine h1.kept (qJ fun b o x hP hx => ?_)
  have hP' : n1 ≤ b := by simpa using hP
  exact ⟨by simp; omega, hoth b o x (by omega) (by rw [huv.cell (p := ⟨b, o, none⟩) (Ty.zO hx)]; exact hx)⟩
 ·refine h2.kept (qJ fun b o x hP hx => ?_)
  have hP' : n2 ≤ b := by simpa using hP
  exact ⟨by simp; omega, hoth b o x (by omega) hx⟩
attribute [local go_sem ↓] Go.wp_at_zero Go.wp_at_succ
def Tm.zero : Hd := ⟨0, ⟨#[]⟩, ⟨#[]⟩, 0, 0, .nil, 0, .nil, 0, 0⟩
def RowEl (w : World) (g : Nat) (h : Hd) (p : Pl) : Prop :=
 w.cell? ⟨g, 0, none⟩ = some (.int .i8 h.kind) ∧ w.cell? ⟨g, 1, none⟩ = some (.string h.name) ∧ w.cell? ⟨g, 2, none⟩ = some (.string h.arg) ∧ w.cell? ⟨g, 3, none⟩ = some (.int .i64 h.num) ∧ w.cell? ⟨g, 4, none⟩ = some (.int .i8 h.tk) ∧
 w.cell? ⟨g, 5, none⟩ = some (.slice p.TA p.tn p.tc) ∧ w.cell? ⟨g, 6, none⟩ = some (.int .i8 h.uk) ∧ w.cell? ⟨g, 7, none⟩ = some (.slice p.UA p.un p.uc) ∧ w.cell? ⟨g, 8, none⟩ = some (.int .i64 h.label) ∧ w.cell? ⟨g, 9, none⟩ = some (.int .i64 h.pos) ∧
 w.cell? ⟨g, 10, none⟩ = some (.slice p.A p.n p.c)
theorem RowEl.below {w w' : World} {g : Nat} {h : Hd} {p : Pl} (hr : RowEl w g h p) (hb : Below w.heap.size w w') : RowEl w' g h p := by
 have hl := Ty.zO hr.1
 have hc := fun o => (jK hb).1 g o hl
 unfold RowEl at *
 rw [hc, hc, hc, hc, hc, hc, hc, hc, hc, hc, hc]
 exact hr
namespace Tm
def reH (h h' : Hd) : Bool := (h.kind == h'.kind) && ((!hasName h.kind || (h.name.toList == h'.name.toList)) && ((!hasArg h.kind || (h.arg.toList == h'.arg.toList)) && ((!hasNum h.kind || (h.num == h'.num)) &&
  ((!hasType h.kind || Ty.leT h.tk h.tkids h'.tk h'.tkids) && (!hasTo h.kind || Ty.leT h.uk h.ukids h'.uk h'.ukids)))))
theorem kE {h : Hd} {n : Nat} (ho : headOk h n = true) : tysOk h = true := by
 unfold headOk at ho
 rw [Bool.and_eq_true] at ho
 exact ho.2
end Tm
end Go.Proofs.YtglgjaomneljbacGreatDoor
namespace Go.Proofs.YtglgjaomneljbacGreatDoor
namespace Ty
theorem zAU {k : Int} {n m : Nat} (h : okK k n = true) (h' : okK k m = true) : n = m := by
 unfold okK at h h'
 split at h
 ·rename_i e; rw [if_pos e] at h'; simp at h h'; omega
 ·rename_i e
  rw [if_neg e] at h'
  split at h
  ·rename_i e2; rw [if_pos e2] at h'; simp at h h'; omega
  ·cases h
theorem zCR {k : Int} {kids : Fo} (h : okT k kids = true) (h1 : nodes kids + 1 ≤ 8192) (h2 : dep kids + 1 ≤ 200) : chk k kids = 0 := by
 unfold okT at h
 unfold chk
 rw [if_neg (by omega), if_neg (by omega), if_pos h]
end Ty
namespace Ck
def le2 (a b : T2) : Prop := chk a = 0 ∧ chk b = 0 ∧ Ty.leT a.1 a.2 b.1 b.2 = true
theorem le2.refl {a : T2} (h : chk a = 0) : le2 a a := ⟨h, h, by unfold Ty.leT; simp [Ty.vv]⟩
theorem zCS {k : Int} {a b c d : Nat} {k1 k2 : Int} {f1 f2 : Fo} (h : Ty.chk k (.node a b k1 f1 (.node c d k2 f2 .nil)) = 0) : Ty.chk k1 f1 = 0 ∧ Ty.chk k2 f2 = 0 := by
 obtain ⟨x, y, z⟩ := Ty.qD h
 unfold Ty.okT at x
 simp only [Ty.okF, Ty.nodes, Ty.dep, Bool.and_eq_true] at x y z
 exact ⟨Ty.zCR (by unfold Ty.okT; rw [x.2.1.1, x.2.1.2]; rfl) (by omega) (by omega), Ty.zCR (by unfold Ty.okT; rw [x.2.2.1.1, x.2.2.1.2]; rfl) (by omega) (by omega)⟩
def eLe : Env → Env → Prop
 | [], [] => True
 | b' :: l', b :: l => (b'.1.toList = b.1.toList ∧ le2 b'.2 b.2) ∧ eLe l' l
 | _, _ => False
theorem eLe.snoc : ∀ {l' l : Env} {x' x : ByteArray} {a' a : T2}, eLe l' l → x'.toList = x.toList → le2 a' a → eLe (l' ++ [(x', a')]) (l ++ [(x, a)])
 | [], [], _, _, _, _, _, h1, h2 => ⟨⟨h1, h2⟩, trivial⟩
 | _ :: _, _ :: _, _, _, _, _, h, h1, h2 => ⟨h.1, eLe.snoc h.2 h1 h2⟩
 | [], _ :: _, _, _, _, _, h, _, _ => h.elim
 | _ :: _, [], _, _, _, _, h, _, _ => h.elim
theorem wY {h : Hd} {n : Nat} (ho : Tm.headOk h n = true) (hk : Tm.hasType h.kind = true) : chk (TT h) = 0 := by
 have := Tm.kE ho
 unfold Tm.tysOk at this
 rw [hk] at this
 simp only [Bool.not_true, Bool.false_or, Bool.and_eq_true, beq_iff_eq] at this
 exact this.1
theorem zBf {h : Hd} {n : Nat} (ho : Tm.headOk h n = true) (hk : Tm.hasTo h.kind = true) : chk (UU h) = 0 := by
 have := Tm.kE ho
 unfold Tm.tysOk at this
 rw [hk] at this
 simp only [Bool.not_true, Bool.false_or, Bool.and_eq_true, beq_iff_eq] at this
 exact this.2
structure HdLe (h' h : Hd) : Prop where
 kind : h'.kind = h.kind
 name : Tm.hasName h.kind = true → h'.name.toList = h.name.toList
 arg : Tm.hasArg h.kind = true → h'.arg.toList = h.arg.toList
 tt : Tm.hasType h.kind = true → le2 (TT h') (TT h)
 uu : Tm.hasTo h.kind = true → le2 (UU h') (UU h)
theorem HdLe.of {h' h : Hd} {n m : Nat} (e : Tm.reH h' h = true) (h1 : Tm.headOk h' n = true) (h2 : Tm.headOk h m = true) : HdLe h' h := by
 unfold Tm.reH at e
 simp only [Bool.and_eq_true, beq_iff_eq] at e
 obtain ⟨ek, en, ea, -, et, eu⟩ := e
 rw [ek] at en ea et eu
 refine ⟨ek, fun q => ?_, fun q => ?_, fun q => ?_, fun q => ?_⟩
 ·rw [q] at en; simpa using en
 ·rw [q] at ea; simpa using ea
 ·rw [q] at et
  exact ⟨wY h1 (by rw [ek]; exact q), wY h2 q, by rw [Bool.not_true, Bool.false_or] at et; exact et⟩
 ·rw [q] at eu
  exact ⟨zBf h1 (by rw [ek]; exact q), zBf h2 q, by rw [Bool.not_true, Bool.false_or] at eu; exact eu⟩
end Ck
end Go.Proofs.YtglgjaomneljbacGreatDoor
