import Derived.Test.YtglgjaomneljbaaGreatDoorTmRef
namespace Go.Proofs.YtglgjaomneljbaaGreatDoor
open Go.RowKit
theorem zB8 (args : Array Value) (W : World) : (callFunc 111 args).run Tryz.prog W = .ok (.enter 111 args) W := by simp [go_sem]
theorem wT (args : Array Value) (W : World) : (callFunc 73 args).run Tryz.prog W = .ok (.enter 73 args) W := by simp [go_sem]
theorem Tm.jQ (h : Hd) (kids : Tm) : Tm.okT h kids = (Tm.isKind h.kind && (decide (Tm.len kids = Tm.kidsN h.kind) && (Tm.nameOk h && ((!Tm.hasLabel h.kind || Tm.labelOk h.label) && (Tm.tysOk h && Tm.okF kids))))) := by
 unfold Tm.okT Tm.headOk;simp only [Bool.and_assoc]
set_option maxHeartbeats 8000000 in
set_option maxRecDepth 100000 in
theorem yu (K : Nat) : ∀ (h : Hd) (kids : Tm) (p : Pl) (w : World), Tm.nodes kids < K -> Tm.Is w h kids p -> TGlob w ->
  Calls Tryz.prog 73 #[.agg (tC_ h p)] w fun e w' => e = .returned (.bool (!Tm.okT h kids)) /\ Below w.heap.size w w' := by
 try unfold tC_
 induction K with
 | zero => intro _ _ _ _ hK; omega
 | succ K ih =>
  intro h kids p w hK hIs hG;have hB0 : Below w.heap.size w (w.alloc (.cells (tC_ h p) 28)) := (Below.refl _ _).alloc (Nat.le_refl _) _;have hsh := kS h.kind (w.alloc (.cells (tC_ h p) 28)) hIs.fit.klo hIs.fit.khi (hG.terms.below hB0);have HN := k0_ (zD w (.cells (tC_ h p) 28));have HI := k0_ (fun (W : World) (hb : Below w.heap.size w W) => hIs.below hb);have HG := k0_ (fun (W : World) (hb : Below w.heap.size w W) => hG.below hb);have HM := k0_ (fun (W : World) (hb : Below w.heap.size w W) (b2 b3 b4 b5 : Bool) (kn : Int) => wG h p W _ (hIs.below hb).fit (hG.below hb) b2 b3 b4 b5 kn);have HT := k0_ (fun (W : World) (hb : Below w.heap.size w W) => kP h _ p W (hIs.below hb).fit (hG.terms.below hb));have HL := k0_ (fun (W : World) => zC1 h.label W hIs.fit.llo hIs.fit.lhi)
  have HU := k0_ (fun (W : World) (hb : Below w.heap.size w W) (A : Option Addr) (n c : Nat) (hL : Ty.Lies W (Tm.tys h) A 0) (hn : n = Ty.len (Tm.tys h)) (hnc : n <= c) (hc : c <= maxLen) =>
   je 111 (fun k kids => Ty.chk k kids != 0) (Tm.tys h) A n c W hL hn hnc hc zB8
    (fun k' kids' A' n' c' W' h1 h2 => wh k' kids' A' n' c' W' h1 ((hG.types.below hb).below h2)))
  rw [Tm.zBU] at HU
  have HK := k0_ (fun (W : World) (hb : Below w.heap.size w W) =>
   kW 73 (fun h kids => !Tm.okT h kids) kids p.A p.n p.c W (hIs.below hb).lies hIs.fit.n_eq hIs.fit.n_le hIs.fit.c_le wT
    (fun h' kids' p' W' h0 h1 h2 => ih h' kids' p' W' (by omega) h1 ((hG.below hb).below h2)))
  rw [Tm.zBG] at HK;have i5 : (p.n : Int) <= 9223372036854775807 := by have h1 := hIs.fit.n_le; have h2 := hIs.fit.c_le; unfold maxLen at h2; omega
  have HNE := k0_ hIs.fit.n_eq;clear ih hIs hG hK;have HO := k0_ (Tm.jQ h kids);generalize hR : Tm.okT h kids = R at *;clear hR;generalize Tm.okF kids = okk at *;generalize Tm.tysOk h = okt at *;generalize Tm.labelOk h.label = okl at *;generalize Tm.nameOk h = okn at *;generalize ha0 : Tm.hasName h.kind = a0 at *;generalize ha1 : Tm.hasArg h.kind = a1 at *;generalize Tm.hasNum h.kind = a2 at *;generalize Tm.hasType h.kind = a3 at *;generalize Tm.hasTo h.kind = a4 at *;generalize Tm.hasLabel h.kind = a5 at *;generalize Tm.kidsN h.kind = kn at *;generalize Tm.isKind h.kind = ik at *;clear ha0 ha1;cases ik
  ·obtain rfl : R = false := by rw [HO.out]; rfl
   clear HO HNE;exact zG3
  by_cases hl : p.n = kn
  ·have hl2 : ((p.n : Int) != (kn : Int)) = false := by simp; omega
   have hO := HO.out;rw [show decide (Tm.len kids = kn) = true by simp; have := HNE.out; omega] at hO;simp only [Bool.true_and] at hO;clear HO HNE;cases okn
   ·obtain rfl : R = false := by rw [hO]; rfl
    clear hO hl;have HSH := k0_ hsh;clear hsh
    go_enter Tryz.func73, Tryz.ntmps73
    go_wp2_with fail
    refine HSH.out.mono ?_;rintro e w2 ⟨rfl, hb⟩;have hB2 := hB0.trans (hb.mono hB0.size);have RB2 := k0_ (zA hb (by simp) HN.out);obtain ⟨q0, q1, q2, q3, q4, q5, q6, q7, q8, q9, q10, ql⟩ := zJ RB2.out;clear hb
    go_wp2_with fail
    have hB3 := hB2.alloc hB2.size (.cells #[.bool a0, .bool a1, .bool a2, .bool a3, .bool a4, .bool a5, .int .i64 kn] 154);refine (HM.out _ hB3 _ _ _ _ _).mono ?_;rintro e w4 ⟨rfl, hb⟩;have RS := k0_ (zD w2 (.cells #[.bool a0, .bool a1, .bool a2, .bool a3, .bool a4, .bool a5, .int .i64 kn] 154));have hB4 := hB3.trans (hb.mono hB3.size);have RB4 := k0_ (zA hb (by simp; omega) (zH RB2.out (.cells #[.bool a0, .bool a1, .bool a2, .bool a3, .bool a4, .bool a5, .int .i64 kn] 154)));have RS4 := kp_ hb RS;clear q0 q1 q2 q3 q4 q5 q6 q7 q8 q9 q10 ql;obtain ⟨q0, q1, q2, q3, q4, q5, q6, q7, q8, q9, q10, ql⟩ := zJ RB4.out;obtain ⟨s0, s1, s2, s3, s4, s5, s6, sl⟩ := vW RS4.out;clear hb
    go_wp2_with fail
    go_ret
    exact ⟨rfl, hB4⟩
   ·cases a5
    ·simp only [Bool.not_false, Bool.true_or, Bool.true_and] at hO
     cases okt
     ·obtain rfl : R = false := by rw [hO]; rfl
      clear hO hl;have HSH := k0_ hsh;clear hsh
      go_enter Tryz.func73, Tryz.ntmps73
      go_wp2_with fail
      refine HSH.out.mono ?_;rintro e w2 ⟨rfl, hb⟩;have hB2 := hB0.trans (hb.mono hB0.size);have RB2 := k0_ (zA hb (by simp) HN.out);obtain ⟨q0, q1, q2, q3, q4, q5, q6, q7, q8, q9, q10, ql⟩ := zJ RB2.out;clear hb
      go_wp2_with fail
      have hB3 := hB2.alloc hB2.size (.cells #[.bool a0, .bool a1, .bool a2, .bool a3, .bool a4, .bool false, .int .i64 kn] 154);refine (HM.out _ hB3 _ _ _ _ _).mono ?_;rintro e w4 ⟨rfl, hb⟩;have RS := k0_ (zD w2 (.cells #[.bool a0, .bool a1, .bool a2, .bool a3, .bool a4, .bool false, .int .i64 kn] 154));have hB4 := hB3.trans (hb.mono hB3.size);have RB4 := k0_ (zA hb (by simp; omega) (zH RB2.out (.cells #[.bool a0, .bool a1, .bool a2, .bool a3, .bool a4, .bool false, .int .i64 kn] 154)));have RS4 := kp_ hb RS;clear q0 q1 q2 q3 q4 q5 q6 q7 q8 q9 q10 ql;obtain ⟨q0, q1, q2, q3, q4, q5, q6, q7, q8, q9, q10, ql⟩ := zJ RB4.out;obtain ⟨s0, s1, s2, s3, s4, s5, s6, sl⟩ := vW RS4.out;clear hb;exact zGJ
     ·obtain rfl : R = okk := by rw [hO]; rfl
      clear hO hl;have HSH := k0_ hsh;clear hsh
      go_enter Tryz.func73, Tryz.ntmps73
      go_wp2_with fail
      refine HSH.out.mono ?_;rintro e w2 ⟨rfl, hb⟩;have hB2 := hB0.trans (hb.mono hB0.size);have RB2 := k0_ (zA hb (by simp) HN.out);obtain ⟨q0, q1, q2, q3, q4, q5, q6, q7, q8, q9, q10, ql⟩ := zJ RB2.out;clear hb
      go_wp2_with fail
      have hB3 := hB2.alloc hB2.size (.cells #[.bool a0, .bool a1, .bool a2, .bool a3, .bool a4, .bool false, .int .i64 kn] 154);refine (HM.out _ hB3 _ _ _ _ _).mono ?_;rintro e w4 ⟨rfl, hb⟩;have RS := k0_ (zD w2 (.cells #[.bool a0, .bool a1, .bool a2, .bool a3, .bool a4, .bool false, .int .i64 kn] 154));have hB4 := hB3.trans (hb.mono hB3.size);have RB4 := k0_ (zA hb (by simp; omega) (zH RB2.out (.cells #[.bool a0, .bool a1, .bool a2, .bool a3, .bool a4, .bool false, .int .i64 kn] 154)));have RS4 := kp_ hb RS;clear q0 q1 q2 q3 q4 q5 q6 q7 q8 q9 q10 ql;obtain ⟨q0, q1, q2, q3, q4, q5, q6, q7, q8, q9, q10, ql⟩ := zJ RB4.out;obtain ⟨s0, s1, s2, s3, s4, s5, s6, sl⟩ := vW RS4.out;clear hb;exact zGK
    ·cases okl
     ·obtain rfl : R = false := by rw [hO]; rfl
      clear hO hl;have HSH := k0_ hsh;clear hsh
      go_enter Tryz.func73, Tryz.ntmps73
      go_wp2_with fail
      refine HSH.out.mono ?_;rintro e w2 ⟨rfl, hb⟩;have hB2 := hB0.trans (hb.mono hB0.size);have RB2 := k0_ (zA hb (by simp) HN.out);obtain ⟨q0, q1, q2, q3, q4, q5, q6, q7, q8, q9, q10, ql⟩ := zJ RB2.out;clear hb
      go_wp2_with fail
      have hB3 := hB2.alloc hB2.size (.cells #[.bool a0, .bool a1, .bool a2, .bool a3, .bool a4, .bool true, .int .i64 kn] 154);refine (HM.out _ hB3 _ _ _ _ _).mono ?_;rintro e w4 ⟨rfl, hb⟩;have RS := k0_ (zD w2 (.cells #[.bool a0, .bool a1, .bool a2, .bool a3, .bool a4, .bool true, .int .i64 kn] 154));have hB4 := hB3.trans (hb.mono hB3.size);have RB4 := k0_ (zA hb (by simp; omega) (zH RB2.out (.cells #[.bool a0, .bool a1, .bool a2, .bool a3, .bool a4, .bool true, .int .i64 kn] 154)));have RS4 := kp_ hb RS;clear q0 q1 q2 q3 q4 q5 q6 q7 q8 q9 q10 ql;obtain ⟨q0, q1, q2, q3, q4, q5, q6, q7, q8, q9, q10, ql⟩ := zJ RB4.out;obtain ⟨s0, s1, s2, s3, s4, s5, s6, sl⟩ := vW RS4.out;clear hb
      go_wp2_with fail
      refine (HL.out _).mono ?_;rintro e w5 ⟨rfl, rfl⟩
      go_wp2_with fail
      go_ret
      exact ⟨rfl, hB4⟩
     ·simp only [Bool.not_true, Bool.false_or, Bool.true_and] at hO
      cases okt
      ·obtain rfl : R = false := by rw [hO]; rfl
       clear hO hl;have HSH := k0_ hsh;clear hsh
       go_enter Tryz.func73, Tryz.ntmps73
       go_wp2_with fail
       refine HSH.out.mono ?_;rintro e w2 ⟨rfl, hb⟩;have hB2 := hB0.trans (hb.mono hB0.size);have RB2 := k0_ (zA hb (by simp) HN.out);obtain ⟨q0, q1, q2, q3, q4, q5, q6, q7, q8, q9, q10, ql⟩ := zJ RB2.out;clear hb
       go_wp2_with fail
       have hB3 := hB2.alloc hB2.size (.cells #[.bool a0, .bool a1, .bool a2, .bool a3, .bool a4, .bool true, .int .i64 kn] 154);refine (HM.out _ hB3 _ _ _ _ _).mono ?_;rintro e w4 ⟨rfl, hb⟩;have RS := k0_ (zD w2 (.cells #[.bool a0, .bool a1, .bool a2, .bool a3, .bool a4, .bool true, .int .i64 kn] 154));have hB4 := hB3.trans (hb.mono hB3.size);have RB4 := k0_ (zA hb (by simp; omega) (zH RB2.out (.cells #[.bool a0, .bool a1, .bool a2, .bool a3, .bool a4, .bool true, .int .i64 kn] 154)));have RS4 := kp_ hb RS;clear q0 q1 q2 q3 q4 q5 q6 q7 q8 q9 q10 ql;obtain ⟨q0, q1, q2, q3, q4, q5, q6, q7, q8, q9, q10, ql⟩ := zJ RB4.out;obtain ⟨s0, s1, s2, s3, s4, s5, s6, sl⟩ := vW RS4.out;clear hb
       go_wp2_with fail
       refine (HL.out _).mono ?_;rintro e w5 ⟨rfl, rfl⟩;exact zGJ
      ·obtain rfl : R = okk := by rw [hO]; rfl
       clear hO hl;have HSH := k0_ hsh;clear hsh
       go_enter Tryz.func73, Tryz.ntmps73
       go_wp2_with fail
       refine HSH.out.mono ?_;rintro e w2 ⟨rfl, hb⟩;have hB2 := hB0.trans (hb.mono hB0.size);have RB2 := k0_ (zA hb (by simp) HN.out);obtain ⟨q0, q1, q2, q3, q4, q5, q6, q7, q8, q9, q10, ql⟩ := zJ RB2.out;clear hb
       go_wp2_with fail
       have hB3 := hB2.alloc hB2.size (.cells #[.bool a0, .bool a1, .bool a2, .bool a3, .bool a4, .bool true, .int .i64 kn] 154);refine (HM.out _ hB3 _ _ _ _ _).mono ?_;rintro e w4 ⟨rfl, hb⟩;have RS := k0_ (zD w2 (.cells #[.bool a0, .bool a1, .bool a2, .bool a3, .bool a4, .bool true, .int .i64 kn] 154));have hB4 := hB3.trans (hb.mono hB3.size);have RB4 := k0_ (zA hb (by simp; omega) (zH RB2.out (.cells #[.bool a0, .bool a1, .bool a2, .bool a3, .bool a4, .bool true, .int .i64 kn] 154)));have RS4 := kp_ hb RS;clear q0 q1 q2 q3 q4 q5 q6 q7 q8 q9 q10 ql;obtain ⟨q0, q1, q2, q3, q4, q5, q6, q7, q8, q9, q10, ql⟩ := zJ RB4.out;obtain ⟨s0, s1, s2, s3, s4, s5, s6, sl⟩ := vW RS4.out;clear hb
       go_wp2_with fail
       refine (HL.out _).mono ?_;rintro e w5 ⟨rfl, rfl⟩;exact zGK
  ·have hl2 : ((p.n : Int) != (kn : Int)) = true := by simp; omega
   obtain rfl : R = false := by rw [HO.out, show decide (Tm.len kids = kn) = false by simp; have := HNE.out; omega]; rfl
   clear HO HNE hl;exact zG3
set_option maxHeartbeats 2000000 in
set_option maxRecDepth 100000 in
theorem zA5 (h : Hd) (kids : Tm) (p : Pl) (w : World) (hIs : Tm.Is w h kids p) (hG : TGlob w) :
  Calls Tryz.prog 42 #[.agg (tC_ h p)] w fun e w' => e = .returned (.int .i64 (Tm.chk h kids)) /\ Below w.heap.size w w' := by
 try unfold tC_
 have hB0 : Below w.heap.size w (w.alloc (.cells (tC_ h p) 28)) := (Below.refl _ _).alloc (Nat.le_refl _) _;have HM := k0_ (xW h kids p _ (hIs.below hB0) (hG.terms.below hB0));have HF := k0_ (fun (W : World) (hb : Below w.heap.size w W) => yu (Tm.nodes kids + 1) h kids p W (by omega) (hIs.below hb) (hG.below hb));have HN := k0_ (zD w (.cells (tC_ h p) 28));clear hIs hG
 by_cases h1 : 8192 < Tm.nd h kids
 ·have e1 : Tm.chk h kids = 32 := by unfold Tm.chk; rw [if_pos h1]
  have e2 : ((Tm.nod h kids : Nat) : Int) = 8193 := by unfold Tm.nod; omega
  rw [e1];rw [e2] at HM;clear e2 e1 h1 HF HN
  go_enter Tryz.func42, Tryz.ntmps42
  go_wp2_with fail
  refine HM.out.mono ?_;exact yZ
 ·have e2 : ((Tm.nod h kids : Nat) : Int) <= 8192 := by unfold Tm.nod; omega
  have e4 : Tm.dpt h kids = min (Tm.dp h kids) 201 := by unfold Tm.dpt; rw [if_neg h1]
  by_cases h2 : 200 < Tm.dp h kids
  ·have e1 : Tm.chk h kids = 31 := by unfold Tm.chk; rw [if_neg h1, if_pos h2]
   have e3 : ((Tm.dpt h kids : Nat) : Int) = 201 := by rw [e4]; omega
   rw [e1];rw [e3] at HM;generalize Tm.nod h kids = N at *;clear e3 e1 h1 h2 e4 HF HN
   go_enter Tryz.func42, Tryz.ntmps42
   go_wp2_with fail
   refine HM.out.mono ?_;exact yZ
  ·have e3 : ((Tm.dpt h kids : Nat) : Int) <= 200 := by rw [e4]; omega
   have e1 : Tm.chk h kids = if Tm.okT h kids then 0 else 30 := by unfold Tm.chk; rw [if_neg h1, if_neg h2]
   rw [e1];generalize Tm.nod h kids = N at *;generalize Tm.dpt h kids = D at *;clear e1 h1 h2 e4;cases ho : Tm.okT h kids
   all_goals
    rw [ho] at HF;clear ho
    go_enter Tryz.func42, Tryz.ntmps42
    go_wp2_with fail
    refine HM.out.mono ?_;rintro e w3 ⟨rfl, hb⟩;have hB1 := hB0.trans (hb.mono hB0.size);obtain ⟨q0, q1, q2, q3, q4, q5, q6, q7, q8, q9, q10, ql⟩ := zJ (zA hb (by simp) HN.out);clear hb
    go_wp2_with fail
    refine (HF.out _ hB1).mono ?_;exact uy
namespace Tm
def cnt (h : Hd) : Hd :=
 ⟨h.kind, if hasName h.kind then h.name else ⟨#[]⟩, if hasArg h.kind then h.arg else ⟨#[]⟩, if hasNum h.kind then h.num else 0,
  if hasType h.kind then h.tk else 0, if hasType h.kind then h.tkids else .nil, if hasTo h.kind then h.uk else 0, if hasTo h.kind then h.ukids else .nil, if hasLabel h.kind then h.label else 0, 0⟩
def cntP (h : Hd) (p : Pl) : Pl :=
 ⟨if hasType h.kind then p.TA else none, if hasType h.kind then p.tn else 0, if hasType h.kind then p.tc else 0, if hasTo h.kind then p.UA else none, if hasTo h.kind then p.un else 0, if hasTo h.kind then p.uc else 0, p.A, p.n, p.c⟩
theorem Fit.cnt {w : World} {h : Hd} {p : Pl} {n : Nat} (f : Fit w h p n) : Fit w (cnt h) (cntP h p) n := by
 have hz : ∀ w : World, Ty.Is w 0 .nil none 0 0 := fun w => ⟨trivial, rfl, Nat.le_refl _, Nat.zero_le _, by omega, by omega⟩
 obtain ⟨f1, f2, f3, f4, f5, f6, f7, f8, f9, f10, f11⟩ := f;unfold Tm.cnt cntP;refine ⟨?_, ?_, f3, f4, f5, f6, f7, ?_, ?_, ?_, ?_⟩
 ·dsimp only; cases hasType h.kind
  ·exact hz w
  ·exact f1
 ·dsimp only; cases hasTo h.kind
  ·exact hz w
  ·exact f2
 ·dsimp only; split <;> omega
 ·dsimp only; split <;> omega
 ·dsimp only; split
  ·exact f10
  ·exact Nat.zero_le _
 ·dsimp only; split
  ·exact f11
  ·exact Nat.zero_le _
theorem Is.cnt {w : World} {h : Hd} {kids : Tm} {p : Pl} (f : Is w h kids p) : Is w (cnt h) kids (cntP h p) := ⟨f.fit.cnt, f.lies⟩
end Tm
theorem Tm.qi (k : Int) (n : Nat) : (Tm.kidsI k != (n : Int)) = !(Tm.isKind k && decide (n = Tm.kidsN k)) := by
 unfold Tm.kidsI;cases Tm.isKind k
 ·simp <;> omega
 ·rw [Bool.eq_iff_iff]; simp; omega
theorem Tm.qy (h : Hd) : Tm.tysOk h = ((!Tm.hasType h.kind || (((Ty.chk h.tk h.tkids : Nat) : Int) == 0)) && (!Tm.hasTo h.kind || (((Ty.chk h.uk h.ukids : Nat) : Int) == 0))) := by
 have e : ∀ n : Nat, (n == 0) = ((n : Int) == 0) := fun n => by rw [Bool.eq_iff_iff]; simp
 unfold Tm.tysOk;rw [e, e]
structure RightCtx (w : World) (h : Hd) (kids : Tm) (p : Pl) : Prop where
 below0 : Below w.heap.size w (w.alloc (.cells (tC_ h p) 28))
 ty : ∀ W : World, Below w.heap.size w W -> Calls Tryz.prog 92 #[.agg #[.int .i8 h.tk, .slice p.TA p.tn p.tc]] W fun e w' => e = .returned (.int .i64 (Ty.chk h.tk h.tkids)) /\ Below W.heap.size W w'
 to : ∀ W : World, Below w.heap.size w W -> Calls Tryz.prog 92 #[.agg #[.int .i8 h.uk, .slice p.UA p.un p.uc]] W fun e w' => e = .returned (.int .i64 (Ty.chk h.uk h.ukids)) /\ Below W.heap.size W w'
 lies : ∀ W : World, Below w.heap.size w W -> Tm.Lies W kids p.A 0
 n_eq : p.n = Tm.len kids
 n_max : (p.n : Int) <= 9223372036854775807
 row : ∀ a, Below w.heap.size w ((w.alloc (.cells (tC_ h p) 28)).drewN a) /\ ((w.alloc (.cells (tC_ h p) 28)).drewN a).heap[w.heap.size]? = some (.cells (tC_ h p) 28 (0, 0))
theorem RightCtx.vX {w : World} {h : Hd} {kids : Tm} {p : Pl} (hIs : Tm.Is w h kids p) : RightCtx w h kids p := by
 have hB0 : Below w.heap.size w (w.alloc (.cells (tC_ h p) 28)) := (Below.refl _ _).alloc (Nat.le_refl _) _
 exact ⟨hB0, fun W hb => jU h.tk h.tkids p.TA p.tn p.tc W (hIs.fit.ty.below hb), fun W hb => jU h.uk h.ukids p.UA p.un p.uc W (hIs.fit.to.below hb), fun W hb => (hIs.below hb).lies, hIs.fit.n_eq,
  by have h1 := hIs.fit.n_le; have h2 := hIs.fit.c_le; unfold maxLen at h2; omega, fun a => ⟨below_drewN hB0 a, zD w _⟩⟩
end Go.Proofs.YtglgjaomneljbaaGreatDoor
namespace Go.Proofs.YtglgjaomneljbaaGreatDoor
set_option maxHeartbeats 8000000
set_option maxRecDepth 100000
open Go.RowKit
theorem zCi (h : Hd) (kids : Tm) (p : Pl) (w : World) (K : Nat) (hK : Tm.nodes kids < K + 1) (hIs : Tm.Is w h kids p) (hk : h.kind = 1 \/ h.kind = 2 \/ h.kind = 3 \/ h.kind = 6 \/ h.kind = 8 \/ h.kind = 9 \/ h.kind = 10 \/ h.kind = 11) (hkn : Tm.len kids = Tm.kidsN h.kind)
  (ih : ∀ (h : Hd) (kids : Tm) (p : Pl) (w : World), Tm.nodes kids < K -> Tm.Is w h kids p -> Calls Tryz.prog 52 #[.agg (tC_ h p)] w fun e w' => e = .returned (.bool (Tm.okT h kids)) /\ Below w.heap.size w w') :
  Calls Tryz.prog 52 #[.agg (tC_ h p)] w fun e w' => e = .returned (.bool (Tm.okT h kids)) /\ Below w.heap.size w w' := by
 try unfold tC_
 have HX := k0_ (RightCtx.vX hIs);have IH := k0_ ih;have hKD : ∀ W : World, Calls Tryz.prog 87 #[.int .i8 h.kind] W fun e w' => e = .returned (.int .i64 (Tm.kidsI h.kind)) /\ w' = W := fun W => (zt h.kind W).mono fun e w' ⟨h1, h2⟩ => ⟨h1, h2.symm⟩
 have hHN := zg h.kind;have hHA := zk h.kind;have hHT := zX h.kind;have hHU := ze h.kind;have hOP := qL h.name;have hNM := zV h.name;have hNA := zV h.arg;have HO := k0_ (Tm.jQ h kids);have hTO := Tm.qy h;have hne := Tm.qi h.kind p.n;have hn := hIs.fit.n_eq;have i5 := HX.out.n_max;clear ih hIs;have f5 : Tm.isKind h.kind = true := by simp [Tm.isKind] <;> omega
 have f0 : Tm.hasName h.kind = false := by simp [Tm.hasName] <;> omega
 have f1 : Tm.hasArg h.kind = false := by simp [Tm.hasArg] <;> omega
 have f2 : Tm.hasType h.kind = false := by simp [Tm.hasType] <;> omega
 have f3 : Tm.hasTo h.kind = false := by simp [Tm.hasTo] <;> omega
 have f4 : Tm.hasLabel h.kind = false := by simp [Tm.hasLabel] <;> omega
 have k1 : (h.kind == 15) = false := by simp <;> omega
 have k2 : (h.kind != 15) = true := by simp <;> omega
 have k3 : (h.kind == 17) = false := by simp <;> omega
 rw [f5, show decide (p.n = Tm.kidsN h.kind) = true by simp <;> omega, Bool.and_self, Bool.not_true] at hne;have hO := HO.out;rw [f5, show decide (Tm.len kids = Tm.kidsN h.kind) = true by simp <;> omega, f4, hTO, f2, f3] at hO;have hno : Tm.nameOk h = ((!false || Sc.isName h.name) && (!false || Sc.isName h.arg)) := by unfold Tm.nameOk; rw [if_neg (by omega), f0, f1]
 rw [hno] at hO;simp only [Bool.true_and, Bool.not_false, Bool.true_or] at hO;rw [f0] at hHN;rw [f1] at hHA;rw [f2] at hHT;rw [f3] at hHU;generalize Tm.okT h kids = R at *;clear HO hTO hno hk hkn hn f0 f1 f2 f3 f4 f5;exact zEb
theorem zCb (h : Hd) (kids : Tm) (p : Pl) (w : World) (K : Nat) (hK : Tm.nodes kids < K + 1) (hIs : Tm.Is w h kids p) (hk : h.kind = 0) (hkn : Tm.len kids = Tm.kidsN h.kind)
  (ih : ∀ (h : Hd) (kids : Tm) (p : Pl) (w : World), Tm.nodes kids < K -> Tm.Is w h kids p -> Calls Tryz.prog 52 #[.agg (tC_ h p)] w fun e w' => e = .returned (.bool (Tm.okT h kids)) /\ Below w.heap.size w w') :
  Calls Tryz.prog 52 #[.agg (tC_ h p)] w fun e w' => e = .returned (.bool (Tm.okT h kids)) /\ Below w.heap.size w w' := by
 try unfold tC_
 have HX := k0_ (RightCtx.vX hIs);have IH := k0_ ih;have hKD : ∀ W : World, Calls Tryz.prog 87 #[.int .i8 h.kind] W fun e w' => e = .returned (.int .i64 (Tm.kidsI h.kind)) /\ w' = W := fun W => (zt h.kind W).mono fun e w' ⟨h1, h2⟩ => ⟨h1, h2.symm⟩
 have hHN := zg h.kind;have hHA := zk h.kind;have hHT := zX h.kind;have hHU := ze h.kind;have hOP := qL h.name;have hNM := zV h.name;have hNA := zV h.arg;have HO := k0_ (Tm.jQ h kids);have hTO := Tm.qy h;have hne := Tm.qi h.kind p.n;have hn := hIs.fit.n_eq;have i5 := HX.out.n_max;clear ih hIs;have f5 : Tm.isKind h.kind = true := by simp [Tm.isKind] <;> omega
 have f0 : Tm.hasName h.kind = true := by simp [Tm.hasName] <;> omega
 have f1 : Tm.hasArg h.kind = false := by simp [Tm.hasArg] <;> omega
 have f2 : Tm.hasType h.kind = false := by simp [Tm.hasType] <;> omega
 have f3 : Tm.hasTo h.kind = false := by simp [Tm.hasTo] <;> omega
 have f4 : Tm.hasLabel h.kind = false := by simp [Tm.hasLabel] <;> omega
 have k1 : (h.kind == 15) = false := by simp <;> omega
 have k2 : (h.kind != 15) = true := by simp <;> omega
 have k3 : (h.kind == 17) = false := by simp <;> omega
 rw [f5, show decide (p.n = Tm.kidsN h.kind) = true by simp <;> omega, Bool.and_self, Bool.not_true] at hne;have hO := HO.out;rw [f5, show decide (Tm.len kids = Tm.kidsN h.kind) = true by simp <;> omega, f4, hTO, f2, f3] at hO;have hno : Tm.nameOk h = ((!true || Sc.isName h.name) && (!false || Sc.isName h.arg)) := by unfold Tm.nameOk; rw [if_neg (by omega), f0, f1]
 rw [hno] at hO;simp only [Bool.true_and, Bool.not_true, Bool.not_false, Bool.true_or, Bool.false_or] at hO;rw [f0] at hHN;rw [f1] at hHA;rw [f2] at hHT;rw [f3] at hHU;generalize Tm.okT h kids = R at *;clear HO hTO hno hk hkn hn f0 f1 f2 f3 f4 f5;generalize Sc.isName h.name = xn at *;cases xn
 ·exact zBB
 exact zEb
theorem zCe (h : Hd) (kids : Tm) (p : Pl) (w : World) (K : Nat) (hK : Tm.nodes kids < K + 1) (hIs : Tm.Is w h kids p) (hk : h.kind = 4 \/ h.kind = 7) (hkn : Tm.len kids = Tm.kidsN h.kind)
  (ih : ∀ (h : Hd) (kids : Tm) (p : Pl) (w : World), Tm.nodes kids < K -> Tm.Is w h kids p -> Calls Tryz.prog 52 #[.agg (tC_ h p)] w fun e w' => e = .returned (.bool (Tm.okT h kids)) /\ Below w.heap.size w w') :
  Calls Tryz.prog 52 #[.agg (tC_ h p)] w fun e w' => e = .returned (.bool (Tm.okT h kids)) /\ Below w.heap.size w w' := by
 try unfold tC_
 have HX := k0_ (RightCtx.vX hIs);have IH := k0_ ih;have hKD : ∀ W : World, Calls Tryz.prog 87 #[.int .i8 h.kind] W fun e w' => e = .returned (.int .i64 (Tm.kidsI h.kind)) /\ w' = W := fun W => (zt h.kind W).mono fun e w' ⟨h1, h2⟩ => ⟨h1, h2.symm⟩
 have hHN := zg h.kind;have hHA := zk h.kind;have hHT := zX h.kind;have hHU := ze h.kind;have hOP := qL h.name;have hNM := zV h.name;have hNA := zV h.arg;have HO := k0_ (Tm.jQ h kids);have hTO := Tm.qy h;have hne := Tm.qi h.kind p.n;have hn := hIs.fit.n_eq;have i5 := HX.out.n_max;clear ih hIs;have f5 : Tm.isKind h.kind = true := by simp [Tm.isKind] <;> omega
 have f0 : Tm.hasName h.kind = true := by simp [Tm.hasName] <;> omega
 have f1 : Tm.hasArg h.kind = false := by simp [Tm.hasArg] <;> omega
 have f2 : Tm.hasType h.kind = true := by simp [Tm.hasType] <;> omega
 have f3 : Tm.hasTo h.kind = false := by simp [Tm.hasTo] <;> omega
 have f4 : Tm.hasLabel h.kind = false := by simp [Tm.hasLabel] <;> omega
 have k1 : (h.kind == 15) = false := by simp <;> omega
 have k2 : (h.kind != 15) = true := by simp <;> omega
 have k3 : (h.kind == 17) = false := by simp <;> omega
 rw [f5, show decide (p.n = Tm.kidsN h.kind) = true by simp <;> omega, Bool.and_self, Bool.not_true] at hne;have hO := HO.out;rw [f5, show decide (Tm.len kids = Tm.kidsN h.kind) = true by simp <;> omega, f4, hTO, f2, f3] at hO;have hno : Tm.nameOk h = ((!true || Sc.isName h.name) && (!false || Sc.isName h.arg)) := by unfold Tm.nameOk; rw [if_neg (by omega), f0, f1]
 rw [hno] at hO;simp only [Bool.true_and, Bool.not_true, Bool.not_false, Bool.true_or, Bool.false_or] at hO;rw [f0] at hHN;rw [f1] at hHA;rw [f2] at hHT;rw [f3] at hHU;generalize Tm.okT h kids = R at *;clear HO hTO hno hk hkn hn f0 f1 f2 f3 f4 f5;generalize Sc.isName h.name = xn at *;generalize ht : (((Ty.chk h.tk h.tkids : Nat) : Int) == 0) = xt at *;have ht2 : (((Ty.chk h.tk h.tkids : Nat) : Int) != 0) = !xt := by rw [← ht]; rfl
 clear ht;cases xn
 ·exact zBB
 exact zGA
theorem zCc (h : Hd) (kids : Tm) (p : Pl) (w : World) (K : Nat) (hK : Tm.nodes kids < K + 1) (hIs : Tm.Is w h kids p) (hk : h.kind = 5) (hkn : Tm.len kids = Tm.kidsN h.kind)
  (ih : ∀ (h : Hd) (kids : Tm) (p : Pl) (w : World), Tm.nodes kids < K -> Tm.Is w h kids p -> Calls Tryz.prog 52 #[.agg (tC_ h p)] w fun e w' => e = .returned (.bool (Tm.okT h kids)) /\ Below w.heap.size w w') :
  Calls Tryz.prog 52 #[.agg (tC_ h p)] w fun e w' => e = .returned (.bool (Tm.okT h kids)) /\ Below w.heap.size w w' := by
 try unfold tC_
 have HX := k0_ (RightCtx.vX hIs);have IH := k0_ ih;have hKD : ∀ W : World, Calls Tryz.prog 87 #[.int .i8 h.kind] W fun e w' => e = .returned (.int .i64 (Tm.kidsI h.kind)) /\ w' = W := fun W => (zt h.kind W).mono fun e w' ⟨h1, h2⟩ => ⟨h1, h2.symm⟩
 have hHN := zg h.kind;have hHA := zk h.kind;have hHT := zX h.kind;have hHU := ze h.kind;have hOP := qL h.name;have hNM := zV h.name;have hNA := zV h.arg;have HO := k0_ (Tm.jQ h kids);have hTO := Tm.qy h;have hne := Tm.qi h.kind p.n;have hn := hIs.fit.n_eq;have i5 := HX.out.n_max;clear ih hIs;have f5 : Tm.isKind h.kind = true := by simp [Tm.isKind] <;> omega
 have f0 : Tm.hasName h.kind = true := by simp [Tm.hasName] <;> omega
 have f1 : Tm.hasArg h.kind = true := by simp [Tm.hasArg] <;> omega
 have f2 : Tm.hasType h.kind = true := by simp [Tm.hasType] <;> omega
 have f3 : Tm.hasTo h.kind = true := by simp [Tm.hasTo] <;> omega
 have f4 : Tm.hasLabel h.kind = false := by simp [Tm.hasLabel] <;> omega
 have k1 : (h.kind == 15) = false := by simp <;> omega
 have k2 : (h.kind != 15) = true := by simp <;> omega
 have k3 : (h.kind == 17) = false := by simp <;> omega
 rw [f5, show decide (p.n = Tm.kidsN h.kind) = true by simp <;> omega, Bool.and_self, Bool.not_true] at hne;have hO := HO.out;rw [f5, show decide (Tm.len kids = Tm.kidsN h.kind) = true by simp <;> omega, f4, hTO, f2, f3] at hO;have hno : Tm.nameOk h = ((!true || Sc.isName h.name) && (!true || Sc.isName h.arg)) := by unfold Tm.nameOk; rw [if_neg (by omega), f0, f1]
 rw [hno] at hO;simp only [Bool.true_and, Bool.not_true, Bool.not_false, Bool.true_or, Bool.false_or] at hO;rw [f0] at hHN;rw [f1] at hHA;rw [f2] at hHT;rw [f3] at hHU;generalize Tm.okT h kids = R at *;clear HO hTO hno hk hkn hn f0 f1 f2 f3 f4 f5;generalize Sc.isName h.name = xn at *;generalize Sc.isName h.arg = xa at *;generalize ht : (((Ty.chk h.tk h.tkids : Nat) : Int) == 0) = xt at *;have ht2 : (((Ty.chk h.tk h.tkids : Nat) : Int) != 0) = !xt := by rw [← ht]; rfl
 clear ht;generalize hu : (((Ty.chk h.uk h.ukids : Nat) : Int) == 0) = xu at *;have hu2 : (((Ty.chk h.uk h.ukids : Nat) : Int) != 0) = !xu := by rw [← hu]; rfl
 clear hu;cases xn
 ·exact zBB
 cases xa
 ·exact zBB
 exact zGB
set_option maxHeartbeats 8000000
set_option maxRecDepth 100000
open Go.RowKit
theorem zCg (h : Hd) (kids : Tm) (p : Pl) (w : World) (K : Nat) (hK : Tm.nodes kids < K + 1) (hIs : Tm.Is w h kids p) (hk : h.kind = 12 \/ h.kind = 13 \/ h.kind = 16) (hkn : Tm.len kids = Tm.kidsN h.kind)
  (ih : ∀ (h : Hd) (kids : Tm) (p : Pl) (w : World), Tm.nodes kids < K -> Tm.Is w h kids p -> Calls Tryz.prog 52 #[.agg (tC_ h p)] w fun e w' => e = .returned (.bool (Tm.okT h kids)) /\ Below w.heap.size w w') :
  Calls Tryz.prog 52 #[.agg (tC_ h p)] w fun e w' => e = .returned (.bool (Tm.okT h kids)) /\ Below w.heap.size w w' := by
 try unfold tC_
 have HX := k0_ (RightCtx.vX hIs);have IH := k0_ ih;have hKD : ∀ W : World, Calls Tryz.prog 87 #[.int .i8 h.kind] W fun e w' => e = .returned (.int .i64 (Tm.kidsI h.kind)) /\ w' = W := fun W => (zt h.kind W).mono fun e w' ⟨h1, h2⟩ => ⟨h1, h2.symm⟩
 have hHN := zg h.kind;have hHA := zk h.kind;have hHT := zX h.kind;have hHU := ze h.kind;have hOP := qL h.name;have hNM := zV h.name;have hNA := zV h.arg;have HO := k0_ (Tm.jQ h kids);have hTO := Tm.qy h;have hne := Tm.qi h.kind p.n;have hn := hIs.fit.n_eq;have i5 := HX.out.n_max;clear ih hIs;have f5 : Tm.isKind h.kind = true := by simp [Tm.isKind] <;> omega
 have f0 : Tm.hasName h.kind = false := by simp [Tm.hasName] <;> omega
 have f1 : Tm.hasArg h.kind = false := by simp [Tm.hasArg] <;> omega
 have f2 : Tm.hasType h.kind = true := by simp [Tm.hasType] <;> omega
 have f3 : Tm.hasTo h.kind = false := by simp [Tm.hasTo] <;> omega
 have f4 : Tm.hasLabel h.kind = false := by simp [Tm.hasLabel] <;> omega
 have k1 : (h.kind == 15) = false := by simp <;> omega
 have k2 : (h.kind != 15) = true := by simp <;> omega
 have k3 : (h.kind == 17) = false := by simp <;> omega
 rw [f5, show decide (p.n = Tm.kidsN h.kind) = true by simp <;> omega, Bool.and_self, Bool.not_true] at hne;have hO := HO.out;rw [f5, show decide (Tm.len kids = Tm.kidsN h.kind) = true by simp <;> omega, f4, hTO, f2, f3] at hO;have hno : Tm.nameOk h = ((!false || Sc.isName h.name) && (!false || Sc.isName h.arg)) := by unfold Tm.nameOk; rw [if_neg (by omega), f0, f1]
 rw [hno] at hO;simp only [Bool.true_and, Bool.not_true, Bool.not_false, Bool.true_or, Bool.false_or] at hO;rw [f0] at hHN;rw [f1] at hHA;rw [f2] at hHT;rw [f3] at hHU;generalize Tm.okT h kids = R at *;clear HO hTO hno hk hkn hn f0 f1 f2 f3 f4 f5;generalize ht : (((Ty.chk h.tk h.tkids : Nat) : Int) == 0) = xt at *;have ht2 : (((Ty.chk h.tk h.tkids : Nat) : Int) != 0) = !xt := by rw [← ht]; rfl
 clear ht;exact zGA
theorem zCh (h : Hd) (kids : Tm) (p : Pl) (w : World) (K : Nat) (hK : Tm.nodes kids < K + 1) (hIs : Tm.Is w h kids p) (hk : h.kind = 14) (hkn : Tm.len kids = Tm.kidsN h.kind)
  (ih : ∀ (h : Hd) (kids : Tm) (p : Pl) (w : World), Tm.nodes kids < K -> Tm.Is w h kids p -> Calls Tryz.prog 52 #[.agg (tC_ h p)] w fun e w' => e = .returned (.bool (Tm.okT h kids)) /\ Below w.heap.size w w') :
  Calls Tryz.prog 52 #[.agg (tC_ h p)] w fun e w' => e = .returned (.bool (Tm.okT h kids)) /\ Below w.heap.size w w' := by
 try unfold tC_
 have HX := k0_ (RightCtx.vX hIs);have IH := k0_ ih;have hKD : ∀ W : World, Calls Tryz.prog 87 #[.int .i8 h.kind] W fun e w' => e = .returned (.int .i64 (Tm.kidsI h.kind)) /\ w' = W := fun W => (zt h.kind W).mono fun e w' ⟨h1, h2⟩ => ⟨h1, h2.symm⟩
 have hHN := zg h.kind;have hHA := zk h.kind;have hHT := zX h.kind;have hHU := ze h.kind;have hOP := qL h.name;have hNM := zV h.name;have hNA := zV h.arg;have HO := k0_ (Tm.jQ h kids);have hTO := Tm.qy h;have hne := Tm.qi h.kind p.n;have hn := hIs.fit.n_eq;have i5 := HX.out.n_max;clear ih hIs;have f5 : Tm.isKind h.kind = true := by simp [Tm.isKind] <;> omega
 have f0 : Tm.hasName h.kind = true := by simp [Tm.hasName] <;> omega
 have f1 : Tm.hasArg h.kind = true := by simp [Tm.hasArg] <;> omega
 have f2 : Tm.hasType h.kind = false := by simp [Tm.hasType] <;> omega
 have f3 : Tm.hasTo h.kind = false := by simp [Tm.hasTo] <;> omega
 have f4 : Tm.hasLabel h.kind = false := by simp [Tm.hasLabel] <;> omega
 have k1 : (h.kind == 15) = false := by simp <;> omega
 have k2 : (h.kind != 15) = true := by simp <;> omega
 have k3 : (h.kind == 17) = false := by simp <;> omega
 rw [f5, show decide (p.n = Tm.kidsN h.kind) = true by simp <;> omega, Bool.and_self, Bool.not_true] at hne;have hO := HO.out;rw [f5, show decide (Tm.len kids = Tm.kidsN h.kind) = true by simp <;> omega, f4, hTO, f2, f3] at hO;have hno : Tm.nameOk h = ((!true || Sc.isName h.name) && (!true || Sc.isName h.arg)) := by unfold Tm.nameOk; rw [if_neg (by omega), f0, f1]
 rw [hno] at hO;simp only [Bool.true_and, Bool.not_true, Bool.not_false, Bool.true_or, Bool.false_or] at hO;rw [f0] at hHN;rw [f1] at hHA;rw [f2] at hHT;rw [f3] at hHU;generalize Tm.okT h kids = R at *;clear HO hTO hno hk hkn hn f0 f1 f2 f3 f4 f5;generalize Sc.isName h.name = xn at *;generalize Sc.isName h.arg = xa at *;cases xn
 ·exact zBB
 cases xa
 ·exact zBB
 exact zEb
theorem zCd (h : Hd) (kids : Tm) (p : Pl) (w : World) (K : Nat) (hK : Tm.nodes kids < K + 1) (hIs : Tm.Is w h kids p) (hk : h.kind = 15) (hkn : Tm.len kids = Tm.kidsN h.kind)
  (ih : ∀ (h : Hd) (kids : Tm) (p : Pl) (w : World), Tm.nodes kids < K -> Tm.Is w h kids p -> Calls Tryz.prog 52 #[.agg (tC_ h p)] w fun e w' => e = .returned (.bool (Tm.okT h kids)) /\ Below w.heap.size w w') :
  Calls Tryz.prog 52 #[.agg (tC_ h p)] w fun e w' => e = .returned (.bool (Tm.okT h kids)) /\ Below w.heap.size w w' := by
 try unfold tC_
 have HX := k0_ (RightCtx.vX hIs);have IH := k0_ ih;have hKD : ∀ W : World, Calls Tryz.prog 87 #[.int .i8 h.kind] W fun e w' => e = .returned (.int .i64 (Tm.kidsI h.kind)) /\ w' = W := fun W => (zt h.kind W).mono fun e w' ⟨h1, h2⟩ => ⟨h1, h2.symm⟩
 have hHN := zg h.kind;have hHA := zk h.kind;have hHT := zX h.kind;have hHU := ze h.kind;have hOP := qL h.name;have hNM := zV h.name;have hNA := zV h.arg;have HO := k0_ (Tm.jQ h kids);have hTO := Tm.qy h;have hne := Tm.qi h.kind p.n;have hn := hIs.fit.n_eq;have i5 := HX.out.n_max;clear ih hIs;have f5 : Tm.isKind h.kind = true := by simp [Tm.isKind] <;> omega
 have f0 : Tm.hasName h.kind = true := by simp [Tm.hasName] <;> omega
 have f1 : Tm.hasArg h.kind = false := by simp [Tm.hasArg] <;> omega
 have f2 : Tm.hasType h.kind = false := by simp [Tm.hasType] <;> omega
 have f3 : Tm.hasTo h.kind = false := by simp [Tm.hasTo] <;> omega
 have f4 : Tm.hasLabel h.kind = false := by simp [Tm.hasLabel] <;> omega
 have k1 : (h.kind == 15) = true := by simp <;> omega
 have k2 : (h.kind != 15) = false := by simp <;> omega
 have k3 : (h.kind == 17) = false := by simp <;> omega
 rw [f5, show decide (p.n = Tm.kidsN h.kind) = true by simp <;> omega, Bool.and_self, Bool.not_true] at hne;have hO := HO.out;rw [f5, show decide (Tm.len kids = Tm.kidsN h.kind) = true by simp <;> omega, f4, hTO, f2, f3] at hO;have hno : Tm.nameOk h = Tm.isOp h.name := by unfold Tm.nameOk; rw [if_pos (by omega)]
 rw [hno] at hO;simp only [Bool.true_and, Bool.not_false, Bool.true_or] at hO;rw [f0] at hHN;rw [f1] at hHA;rw [f2] at hHT;rw [f3] at hHU;generalize Tm.okT h kids = R at *;clear HO hTO hno hk hkn hn f0 f1 f2 f3 f4 f5;generalize Tm.isOp h.name = xn at *;cases xn
 ·exact zBB
 exact zEb
theorem zCf (h : Hd) (kids : Tm) (p : Pl) (w : World) (K : Nat) (hK : Tm.nodes kids < K + 1) (hIs : Tm.Is w h kids p) (hk : h.kind = 17) (hkn : Tm.len kids = Tm.kidsN h.kind)
  (ih : ∀ (h : Hd) (kids : Tm) (p : Pl) (w : World), Tm.nodes kids < K -> Tm.Is w h kids p -> Calls Tryz.prog 52 #[.agg (tC_ h p)] w fun e w' => e = .returned (.bool (Tm.okT h kids)) /\ Below w.heap.size w w') :
  Calls Tryz.prog 52 #[.agg (tC_ h p)] w fun e w' => e = .returned (.bool (Tm.okT h kids)) /\ Below w.heap.size w w' := by
 try unfold tC_
 have HX := k0_ (RightCtx.vX hIs);have IH := k0_ ih;have hKD : ∀ W : World, Calls Tryz.prog 87 #[.int .i8 h.kind] W fun e w' => e = .returned (.int .i64 (Tm.kidsI h.kind)) /\ w' = W := fun W => (zt h.kind W).mono fun e w' ⟨h1, h2⟩ => ⟨h1, h2.symm⟩
 have hHN := zg h.kind;have hHA := zk h.kind;have hHT := zX h.kind;have hHU := ze h.kind;have hOP := qL h.name;have hNM := zV h.name;have hNA := zV h.arg;have HO := k0_ (Tm.jQ h kids);have hTO := Tm.qy h;have hne := Tm.qi h.kind p.n;have hn := hIs.fit.n_eq;have i5 := HX.out.n_max;clear ih hIs;have f5 : Tm.isKind h.kind = true := by simp [Tm.isKind] <;> omega
 have f0 : Tm.hasName h.kind = false := by simp [Tm.hasName] <;> omega
 have f1 : Tm.hasArg h.kind = false := by simp [Tm.hasArg] <;> omega
 have f2 : Tm.hasType h.kind = true := by simp [Tm.hasType] <;> omega
 have f3 : Tm.hasTo h.kind = true := by simp [Tm.hasTo] <;> omega
 have f4 : Tm.hasLabel h.kind = true := by simp [Tm.hasLabel] <;> omega
 have k1 : (h.kind == 15) = false := by simp <;> omega
 have k2 : (h.kind != 15) = true := by simp <;> omega
 have k3 : (h.kind == 17) = true := by simp <;> omega
 rw [f5, show decide (p.n = Tm.kidsN h.kind) = true by simp <;> omega, Bool.and_self, Bool.not_true] at hne;have hO := HO.out;rw [f5, show decide (Tm.len kids = Tm.kidsN h.kind) = true by simp <;> omega, f4, hTO, f2, f3] at hO;have hno : Tm.nameOk h = ((!false || Sc.isName h.name) && (!false || Sc.isName h.arg)) := by unfold Tm.nameOk; rw [if_neg (by omega), f0, f1]
 rw [hno] at hO;simp only [Bool.true_and, Bool.not_true, Bool.not_false, Bool.true_or, Bool.false_or] at hO;rw [f0] at hHN;rw [f1] at hHA;rw [f2] at hHT;rw [f3] at hHU;generalize Tm.okT h kids = R at *;clear HO hTO hno hk hkn hn f0 f1 f2 f3 f4 f5;generalize ht : (((Ty.chk h.tk h.tkids : Nat) : Int) == 0) = xt at *;have ht2 : (((Ty.chk h.tk h.tkids : Nat) : Int) != 0) = !xt := by rw [← ht]; rfl
 clear ht;generalize hu : (((Ty.chk h.uk h.ukids : Nat) : Int) == 0) = xu at *;have hu2 : (((Ty.chk h.uk h.ukids : Nat) : Int) != 0) = !xu := by rw [← hu]; rfl
 clear hu;have l0 : Tm.labelOk h.label = decide (h.label ≠ 0 /\ -2147483648 <= h.label /\ h.label <= 2147483648) := rfl
 by_cases y0 : h.label = 0
 ·obtain rfl : R = false := by rw [hO, l0, decide_eq_false (by omega)]; rfl
  have z0 : (h.label == 0) = true := by simp <;> omega
  clear hO l0 y0;exact c4_
 by_cases y1 : h.label < -2147483648
 ·obtain rfl : R = false := by rw [hO, l0, decide_eq_false (by omega)]; rfl
  have z0 : (h.label == 0) = false := by simp; omega
  have z1 : decide (h.label < -2147483648) = true := by simp; omega
  clear hO l0 y0 y1;exact c4_
 by_cases y2 : 2147483648 < h.label
 ·obtain rfl : R = false := by rw [hO, l0, decide_eq_false (by omega)]; rfl
  have z0 : (h.label == 0) = false := by simp; omega
  have z1 : decide (h.label < -2147483648) = false := by simp; omega
  have z2 : decide (2147483648 < h.label) = true := by simp; omega
  clear hO l0 y0 y1 y2;exact c4_
 have z0 : (h.label == 0) = false := by simp; omega
 have z1 : decide (h.label < -2147483648) = false := by simp; omega
 have z2 : decide (2147483648 < h.label) = false := by simp; omega
 rw [l0, decide_eq_true (by omega)] at hO;simp only [Bool.true_and] at hO;clear l0 y0 y1 y2;exact zGB
set_option maxHeartbeats 2000000
set_option maxRecDepth 100000
open Go.RowKit
theorem zBW (h : Hd) (kids : Tm) (p : Pl) (w : World) (hIs : Tm.Is w h kids p) (hno : (Tm.isKind h.kind && decide (Tm.len kids = Tm.kidsN h.kind)) = false) :
  Calls Tryz.prog 52 #[.agg (tC_ h p)] w fun e w' => e = .returned (.bool (Tm.okT h kids)) /\ Below w.heap.size w w' := by
 try unfold tC_
 have HX := k0_ (RightCtx.vX hIs);have hKD : ∀ W : World, Calls Tryz.prog 87 #[.int .i8 h.kind] W fun e w' => e = .returned (.int .i64 (Tm.kidsI h.kind)) /\ w' = W := fun W => (zt h.kind W).mono fun e w' ⟨h1, h2⟩ => ⟨h1, h2.symm⟩
 have hne := Tm.qi h.kind p.n;have hO := Tm.jQ h kids;rw [hIs.fit.n_eq, hno, Bool.not_false, ← hIs.fit.n_eq] at hne;rw [← Bool.and_assoc, hno, Bool.false_and] at hO;rw [hO];have i5 := HX.out.n_max;clear hO hno hIs
 go_enter Tryz.func52, Tryz.ntmps52
 go_wp2_with fail
 obtain ⟨q0, q1, q2, q3, q4, q5, q6, q7, q8, q9, q10, ql⟩ := zJ (zD w (.cells (tC_ h p) 28))
 go_quiet ((go_at_call 87; exact Calls.quiet_of_same (hKD _)))
 clear q0 q1 q2 q3 q4 q5 q6 q7 q8 q9 q10 ql;generalize hwq : World.drewN (w.alloc (.cells (tC_ h p) 28)) _ = wq;have hBq : Below w.heap.size w wq := hwq ▸ (HX.out.row _).1;have RQ := k0_ (show wq.heap[w.heap.size]? = some (.cells (tC_ h p) 28 (0, 0)) from hwq ▸ (HX.out.row _).2);clear hwq;obtain ⟨q0, q1, q2, q3, q4, q5, q6, q7, q8, q9, q10, ql⟩ := zJ RQ.out
 go_wp2_with fail
 go_ret
 exact ⟨rfl, hBq⟩
theorem zA1 (K : Nat) : ∀ (h : Hd) (kids : Tm) (p : Pl) (w : World), Tm.nodes kids < K -> Tm.Is w h kids p ->
  Calls Tryz.prog 52 #[.agg (tC_ h p)] w fun e w' => e = .returned (.bool (Tm.okT h kids)) /\ Below w.heap.size w w' := by
 try unfold tC_
 induction K with
 | zero => intro _ _ _ _ hK; omega
 | succ K ih =>
  intro h kids p w hK hIs;cases hno : (Tm.isKind h.kind && decide (Tm.len kids = Tm.kidsN h.kind))
  ·exact zBW h kids p w hIs hno
  ·simp only [Bool.and_eq_true, decide_eq_true_eq] at hno
   obtain ⟨h1, h2⟩ := hno;have h3 : 0 <= h.kind /\ h.kind <= 17 := by simpa [Tm.isKind] using h1
   have h4 : (h.kind = 1 \/ h.kind = 2 \/ h.kind = 3 \/ h.kind = 6 \/ h.kind = 8 \/ h.kind = 9 \/ h.kind = 10 \/ h.kind = 11) \/ (h.kind = 0) \/ (h.kind = 4 \/ h.kind = 7) \/ (h.kind = 5) \/ (h.kind = 12 \/ h.kind = 13 \/ h.kind = 16) \/ (h.kind = 14) \/ (h.kind = 15) \/ (h.kind = 17) := by omega
   rcases h4 with h4 | h4 | h4 | h4 | h4 | h4 | h4 | h4
   ·exact zCi h kids p w K hK hIs h4 h2 ih
   ·exact zCb h kids p w K hK hIs h4 h2 ih
   ·exact zCe h kids p w K hK hIs h4 h2 ih
   ·exact zCc h kids p w K hK hIs h4 h2 ih
   ·exact zCg h kids p w K hK hIs h4 h2 ih
   ·exact zCh h kids p w K hK hIs h4 h2 ih
   ·exact zCd h kids p w K hK hIs h4 h2 ih
   ·exact zCf h kids p w K hK hIs h4 h2 ih
theorem zA3 (h : Hd) (kids : Tm) (p : Pl) (w : World) (hIs : Tm.Is w h kids p) :
  Calls Tryz.prog 25 #[.agg (tC_ h p)] w fun e w' => e = .returned (.int .i64 (Tm.chk h kids)) /\ Below w.heap.size w w' := by
 try unfold tC_
 have hB0 : Below w.heap.size w (w.alloc (.cells (tC_ h p) 28)) := (Below.refl _ _).alloc (Nat.le_refl _) _;have HNO := k0_ (kv h kids p _ (hIs.below hB0));have HDP := k0_ (fun (W : World) (hb : Below w.heap.size w W) => zA2 h kids p W (hIs.below hb));have HF := k0_ (fun (W : World) (hb : Below w.heap.size w W) => zA1 (Tm.nodes kids + 1) h kids p W (by omega) (hIs.below hb));have HN := k0_ (zD w (.cells (tC_ h p) 28));clear hIs
 by_cases h1 : 8192 < Tm.nd h kids
 ·have e1 : Tm.chk h kids = 32 := by unfold Tm.chk; rw [if_pos h1]
  have e2 : ((Tm.nod h kids : Nat) : Int) = 8193 := by unfold Tm.nod; omega
  rw [e1];rw [e2] at HNO;clear e2 e1 h1 HF HN HDP
  go_enter Tryz.func25, Tryz.ntmps25
  go_wp2_with fail
  refine HNO.out.mono ?_;exact yZ
 ·have e2 : ((Tm.nod h kids : Nat) : Int) <= 8192 := by unfold Tm.nod; omega
  have e4 : Tm.dpt h kids = min (Tm.dp h kids) 201 := by unfold Tm.dpt; rw [if_neg h1]
  by_cases h2 : 200 < Tm.dp h kids
  ·have e1 : Tm.chk h kids = 31 := by unfold Tm.chk; rw [if_neg h1, if_pos h2]
   have e3 : ((Tm.dpt h kids : Nat) : Int) = 201 := by rw [e4]; omega
   rw [e1];rw [e3] at HDP;generalize Tm.nod h kids = N at *;clear e3 e1 h1 h2 e4 HF
   go_enter Tryz.func25, Tryz.ntmps25
   go_wp2_with fail
   refine HNO.out.mono ?_;rintro e w3 ⟨rfl, hb⟩;have hB1 := hB0.trans (hb.mono hB0.size);obtain ⟨q0, q1, q2, q3, q4, q5, q6, q7, q8, q9, q10, ql⟩ := zJ (zA hb (by simp) HN.out);clear hb
   go_wp2_with fail
   refine (HDP.out _ hB1).mono ?_;exact uy
  ·have e3 : ((Tm.dpt h kids : Nat) : Int) <= 200 := by rw [e4]; omega
   have e1 : Tm.chk h kids = if Tm.okT h kids then 0 else 30 := by unfold Tm.chk; rw [if_neg h1, if_neg h2]
   rw [e1];generalize Tm.nod h kids = N at *;generalize Tm.dpt h kids = D at *;clear e1 h1 h2 e4;cases ho : Tm.okT h kids
   all_goals
    rw [ho] at HF;clear ho
    go_enter Tryz.func25, Tryz.ntmps25
    go_wp2_with fail
    refine HNO.out.mono ?_;rintro e w3 ⟨rfl, hb⟩;have hB1 := hB0.trans (hb.mono hB0.size);have HN1 := k0_ (zA hb (by simp) HN.out);obtain ⟨q0, q1, q2, q3, q4, q5, q6, q7, q8, q9, q10, ql⟩ := zJ HN1.out;clear hb
    go_wp2_with fail
    refine (HDP.out _ hB1).mono ?_;rintro e w4 ⟨rfl, hb⟩;have hB2 := hB1.trans (hb.mono hB1.size);clear q0 q1 q2 q3 q4 q5 q6 q7 q8 q9 q10 ql;obtain ⟨q0, q1, q2, q3, q4, q5, q6, q7, q8, q9, q10, ql⟩ := zJ (zA hb (zC HN1.out) HN1.out);clear hb
    go_wp2_with fail
    refine (HF.out _ hB2).mono ?_;exact zEX
end Go.Proofs.YtglgjaomneljbaaGreatDoor
