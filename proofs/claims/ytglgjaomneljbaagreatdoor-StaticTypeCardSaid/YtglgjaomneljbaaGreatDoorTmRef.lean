import Derived.Test.YtglgjaomneljbaaGreatDoorM9
namespace Go.Proofs.YtglgjaomneljbaaGreatDoor
set_option maxHeartbeats 4000000
set_option maxRecDepth 100000
open Go.RowKit
theorem zA4 (K : Nat) : ∀ (h : Hd) (kids : Tm) (p : Pl) (w : World) (m : Nat), Tm.nodes kids < K -> Tm.Is w h kids p -> m <= 8192 ->
  Calls Tryz.prog 85 #[.agg (tC_ h p), .int .i64 m] w fun e w' => ∃ R : Nat, e = .returned (.int .i64 R) /\ min R 8193 = min (m + Tm.nd h kids) 8193 /\ R <= 40000 /\ Below w.heap.size w w' := by
 try unfold tC_
 induction K with
 | zero => intro _ _ _ _ _ hK; omega
 | succ K ih =>
  intro h kids p w m hK hIs hm;have hB0 : Below w.heap.size w (w.alloc (.cells (tC_ h p) 28)) := (Below.refl _ _).alloc (Nat.le_refl _) _;have HN := k0_ (zD w (.cells (tC_ h p) 28));have HT := k0_ (fun (W : World) (hb : Below w.heap.size w W) => jT h.tk h.tkids p.TA p.tn p.tc W (hIs.fit.ty.below hb));have HU := k0_ (fun (W : World) (hb : Below w.heap.size w W) => jT h.uk h.ukids p.UA p.un p.uc W (hIs.fit.to.below hb));have h1 := Tm.zAi h.tkids;have h2 := Tm.zAi h.ukids;have H1 := k0_ (zX h.kind);have H2 := k0_ (ze h.kind);have IH := k0_ ih;have HI := k0_ (fun (W : World) (hb : Below w.heap.size w W) => (hIs.below hb).lies);have HNE := k0_ hIs.fit.n_eq;have i5 : (p.n : Int) <= 9223372036854775807 := by have h1 := hIs.fit.n_le; have h2 := hIs.fit.c_le; unfold maxLen at h2; omega
  have i6 : (m : Int) <= 8192 := by omega
  have hnd : Tm.nd h kids = 1 + ((if Tm.hasType h.kind then Ty.nod h.tkids else 0) + (if Tm.hasTo h.kind then Ty.nod h.ukids else 0)) + Tm.nodes kids := rfl;rw [hnd];clear ih hIs hnd;generalize Ty.nod h.tkids = N1 at *;generalize Ty.nod h.ukids = N2 at *;have g1 : (N1 : Int) <= 8193 := by omega
  have g2 : (N2 : Int) <= 8193 := by omega
  have z0 := hB0.size;generalize ht : Tm.hasType h.kind = b1 at *;generalize hu : Tm.hasTo h.kind = b2 at *;clear ht hu;cases b1
  ·cases b2
   ·simp only [Bool.false_eq_true, if_false]
    obtain ⟨q0, q1, q2, q3, q4, q5, q6, q7, q8, q9, q10, ql⟩ := zJ HN.out
    go_enter Tryz.func85, Tryz.ntmps85
    go_wp2_with fail
    refine (H1.out _).mono ?_;rintro e w2 ⟨rfl, rfl⟩
    go_wp2_with fail
    refine (H2.out _).mono ?_;rintro e w4 ⟨rfl, rfl⟩
    go_wp2_with fail
    have HST := k0_ (OverT.start (HI.out _ hB0) HNE.out);clear q0 q1 q2 q3 q4 q5 q6 q7 q8 q9 q10;generalize hW1 : (w.alloc (.cells (tC_ h p) 28)) = w1 at *;clear hW1
    go_loopw [1, 5] (fun v1 v5 wr => ∃ (i : Nat) (rest : Tm) (m2 : Nat), v5 = .int .i64 i /\ v1 = .int .i64 m2 /\ OverT w1 wr p.A p.n (Tm.nodes kids) i rest /\ m2 <= 40000 /\ min (m2 + Tm.nodes rest) 8193 = min (m + (1 + (0 + 0) + Tm.nodes kids)) 8193) (fun _ v _ => p.n - (intOf v).toNat)
    case atStart => exact ⟨0, kids, m + 1, rfl, by go_num, HST.out, by omega, by omega⟩
    case round =>
     obtain ⟨i, rest, m2, rfl, rfl, hO, hm2, hRR⟩ := hrel;have hbB := hB0.trans (hO.below.mono hB0.size);have HX := k0_ (zA hO.below (zC HN.out) HN.out);obtain ⟨q0, q1, q2, q3, q4, q5, q6, q7, q8, q9, q10, ql2⟩ := zJ HX.out;have HRR := k0_ hRR;clear hRR;have i7 : (m2 : Int) <= 40000 := by omega
     cases rest with
     | nil =>
      have hi : i = p.n := by have := hO.i_eq; simpa [Tm.len] using this
      have hfin : min m2 8193 = min (m + (1 + (0 + 0) + Tm.nodes kids)) 8193 := by have := HRR.out; simp only [Tm.nodes] at this; omega
      exact zEY
     | node h' kids' r =>
      have hst := fun w2 hb => OverT.step (w2 := w2) hO hb
      have h1 := hO.i_eq;have h2 := hO.lies;have h3 := hO.sub;simp only [Tm.len, Tm.nodes] at h1 h3;obtain ⟨bb, oo, p', hpA, hcs, hfit, hl3, hl4⟩ := h2;have j1 : (i : Int) < p.n := by omega
      by_cases hq : m2 <= 8192
      ·have hcall := IH.out h' kids' p' wr m2 (by omega) ⟨hfit, hl3⟩ hq
       obtain ⟨c0, c1, c2, c3, c4, c5, c6, c7, c8, c9, c10⟩ := Tm.row hcs;have HCK := k0_ hcall;have HS2 := k0_ hst;have HL := k0_ hl4;have j2 : (m2 : Int) <= 8192 := by omega
       have HPA := k0_ hpA;clear hst hl3 hl4 hcall hO hcs hfit hpA;generalize hPA : p.A = PA at *;obtain rfl : PA = some ⟨bb, oo, none⟩ := HPA.out;clear hPA HPA
       go_wp2_with fail
       refine HCK.out.mono ?_;rintro e w2 ⟨R', rfl, hR1, hR2, hb⟩;have hbb := k0_ (HS2.out w2 hb HL.out)
       have hnx : min (R' + Tm.nodes r) 8193 = min (m + (1 + (0 + 0) + Tm.nodes kids)) 8193 := by
        exact zEa
       exact zEe
      ·have hfin : min m2 8193 = min (m + (1 + (0 + 0) + Tm.nodes kids)) 8193 := by have := HRR.out; omega
       exact zEd
   ·simp only [if_true, Bool.false_eq_true, if_false]
    obtain ⟨q0, q1, q2, q3, q4, q5, q6, q7, q8, q9, q10, ql⟩ := zJ HN.out
    go_enter Tryz.func85, Tryz.ntmps85
    go_wp2_with fail
    refine (H1.out _).mono ?_;rintro e w2 ⟨rfl, rfl⟩
    go_wp2_with fail
    refine (H2.out _).mono ?_;rintro e w4 ⟨rfl, rfl⟩
    go_wp2_with fail
    refine (HU.out _ hB0).mono ?_;rintro e w5 ⟨rfl, hb⟩;have hB2 := hB0.trans (hb.mono hB0.size);have R2 := kp_ hb HN;clear q0 q1 q2 q3 q4 q5 q6 q7 q8 q9 q10 ql;obtain ⟨q0, q1, q2, q3, q4, q5, q6, q7, q8, q9, q10, ql⟩ := zJ R2.out;clear hb
    go_wp2_with fail
    have HST := k0_ (OverT.start (HI.out _ hB2) HNE.out);clear q0 q1 q2 q3 q4 q5 q6 q7 q8 q9 q10;generalize hW1 : w5 = w1 at *;clear hW1
    go_loopw [1, 5] (fun v1 v5 wr => ∃ (i : Nat) (rest : Tm) (m2 : Nat), v5 = .int .i64 i /\ v1 = .int .i64 m2 /\ OverT w1 wr p.A p.n (Tm.nodes kids) i rest /\ m2 <= 40000 /\ min (m2 + Tm.nodes rest) 8193 = min (m + (1 + (0 + N2) + Tm.nodes kids)) 8193) (fun _ v _ => p.n - (intOf v).toNat)
    case atStart => exact ⟨0, kids, m + 1 + N2, rfl, by go_num, HST.out, by omega, by omega⟩
    case round =>
     obtain ⟨i, rest, m2, rfl, rfl, hO, hm2, hRR⟩ := hrel;have hbB := hB2.trans (hO.below.mono hB2.size);have HX := k0_ (zA hO.below (zC R2.out) R2.out);obtain ⟨q0, q1, q2, q3, q4, q5, q6, q7, q8, q9, q10, ql2⟩ := zJ HX.out;have HRR := k0_ hRR;clear hRR;have i7 : (m2 : Int) <= 40000 := by omega
     cases rest with
     | nil =>
      have hi : i = p.n := by have := hO.i_eq; simpa [Tm.len] using this
      have hfin : min m2 8193 = min (m + (1 + (0 + N2) + Tm.nodes kids)) 8193 := by have := HRR.out; simp only [Tm.nodes] at this; omega
      exact zEY
     | node h' kids' r =>
      have hst := fun w2 hb => OverT.step (w2 := w2) hO hb
      have h1 := hO.i_eq;have h2 := hO.lies;have h3 := hO.sub;simp only [Tm.len, Tm.nodes] at h1 h3;obtain ⟨bb, oo, p', hpA, hcs, hfit, hl3, hl4⟩ := h2;have j1 : (i : Int) < p.n := by omega
      by_cases hq : m2 <= 8192
      ·have hcall := IH.out h' kids' p' wr m2 (by omega) ⟨hfit, hl3⟩ hq
       obtain ⟨c0, c1, c2, c3, c4, c5, c6, c7, c8, c9, c10⟩ := Tm.row hcs;have HCK := k0_ hcall;have HS2 := k0_ hst;have HL := k0_ hl4;have j2 : (m2 : Int) <= 8192 := by omega
       have HPA := k0_ hpA;clear hst hl3 hl4 hcall hO hcs hfit hpA;generalize hPA : p.A = PA at *;obtain rfl : PA = some ⟨bb, oo, none⟩ := HPA.out;clear hPA HPA
       go_wp2_with fail
       refine HCK.out.mono ?_;rintro e w2 ⟨R', rfl, hR1, hR2, hb⟩;have hbb := k0_ (HS2.out w2 hb HL.out)
       have hnx : min (R' + Tm.nodes r) 8193 = min (m + (1 + (0 + N2) + Tm.nodes kids)) 8193 := by
        exact zEa
       exact zEe
      ·have hfin : min m2 8193 = min (m + (1 + (0 + N2) + Tm.nodes kids)) 8193 := by have := HRR.out; omega
       exact zEd
  ·cases b2
   ·simp only [if_true, Bool.false_eq_true, if_false]
    obtain ⟨q0, q1, q2, q3, q4, q5, q6, q7, q8, q9, q10, ql⟩ := zJ HN.out
    go_enter Tryz.func85, Tryz.ntmps85
    go_wp2_with fail
    refine (H1.out _).mono ?_;rintro e w2 ⟨rfl, rfl⟩
    go_wp2_with fail
    refine (HT.out _ hB0).mono ?_;rintro e w3 ⟨rfl, hb⟩;have hB1 := hB0.trans (hb.mono hB0.size);have R1 := kp_ hb HN;clear q0 q1 q2 q3 q4 q5 q6 q7 q8 q9 q10 ql;obtain ⟨q0, q1, q2, q3, q4, q5, q6, q7, q8, q9, q10, ql⟩ := zJ R1.out;clear hb
    go_wp2_with fail
    refine (H2.out _).mono ?_;rintro e w4 ⟨rfl, rfl⟩
    go_wp2_with fail
    have HST := k0_ (OverT.start (HI.out _ hB1) HNE.out);clear q0 q1 q2 q3 q4 q5 q6 q7 q8 q9 q10;generalize hW1 : w3 = w1 at *;clear hW1
    go_loopw [1, 5] (fun v1 v5 wr => ∃ (i : Nat) (rest : Tm) (m2 : Nat), v5 = .int .i64 i /\ v1 = .int .i64 m2 /\ OverT w1 wr p.A p.n (Tm.nodes kids) i rest /\ m2 <= 40000 /\ min (m2 + Tm.nodes rest) 8193 = min (m + (1 + (N1 + 0) + Tm.nodes kids)) 8193) (fun _ v _ => p.n - (intOf v).toNat)
    case atStart => exact ⟨0, kids, m + 1 + N1, rfl, by go_num, HST.out, by omega, by omega⟩
    case round =>
     obtain ⟨i, rest, m2, rfl, rfl, hO, hm2, hRR⟩ := hrel;have hbB := hB1.trans (hO.below.mono hB1.size);have HX := k0_ (zA hO.below (zC R1.out) R1.out);obtain ⟨q0, q1, q2, q3, q4, q5, q6, q7, q8, q9, q10, ql2⟩ := zJ HX.out;have HRR := k0_ hRR;clear hRR;have i7 : (m2 : Int) <= 40000 := by omega
     cases rest with
     | nil =>
      have hi : i = p.n := by have := hO.i_eq; simpa [Tm.len] using this
      have hfin : min m2 8193 = min (m + (1 + (N1 + 0) + Tm.nodes kids)) 8193 := by have := HRR.out; simp only [Tm.nodes] at this; omega
      exact zEY
     | node h' kids' r =>
      have hst := fun w2 hb => OverT.step (w2 := w2) hO hb
      have h1 := hO.i_eq;have h2 := hO.lies;have h3 := hO.sub;simp only [Tm.len, Tm.nodes] at h1 h3;obtain ⟨bb, oo, p', hpA, hcs, hfit, hl3, hl4⟩ := h2;have j1 : (i : Int) < p.n := by omega
      by_cases hq : m2 <= 8192
      ·have hcall := IH.out h' kids' p' wr m2 (by omega) ⟨hfit, hl3⟩ hq
       obtain ⟨c0, c1, c2, c3, c4, c5, c6, c7, c8, c9, c10⟩ := Tm.row hcs;have HCK := k0_ hcall;have HS2 := k0_ hst;have HL := k0_ hl4;have j2 : (m2 : Int) <= 8192 := by omega
       have HPA := k0_ hpA;clear hst hl3 hl4 hcall hO hcs hfit hpA;generalize hPA : p.A = PA at *;obtain rfl : PA = some ⟨bb, oo, none⟩ := HPA.out;clear hPA HPA
       go_wp2_with fail
       refine HCK.out.mono ?_;rintro e w2 ⟨R', rfl, hR1, hR2, hb⟩;have hbb := k0_ (HS2.out w2 hb HL.out)
       have hnx : min (R' + Tm.nodes r) 8193 = min (m + (1 + (N1 + 0) + Tm.nodes kids)) 8193 := by
        exact zEa
       exact zEe
      ·have hfin : min m2 8193 = min (m + (1 + (N1 + 0) + Tm.nodes kids)) 8193 := by have := HRR.out; omega
       exact zEd
   ·simp only [if_true]
    obtain ⟨q0, q1, q2, q3, q4, q5, q6, q7, q8, q9, q10, ql⟩ := zJ HN.out
    go_enter Tryz.func85, Tryz.ntmps85
    go_wp2_with fail
    refine (H1.out _).mono ?_;rintro e w2 ⟨rfl, rfl⟩
    go_wp2_with fail
    refine (HT.out _ hB0).mono ?_;rintro e w3 ⟨rfl, hb⟩;have hB1 := hB0.trans (hb.mono hB0.size);have R1 := kp_ hb HN;clear q0 q1 q2 q3 q4 q5 q6 q7 q8 q9 q10 ql;obtain ⟨q0, q1, q2, q3, q4, q5, q6, q7, q8, q9, q10, ql⟩ := zJ R1.out;clear hb
    go_wp2_with fail
    refine (H2.out _).mono ?_;rintro e w4 ⟨rfl, rfl⟩
    go_wp2_with fail
    refine (HU.out _ hB1).mono ?_;rintro e w5 ⟨rfl, hb⟩;have hB2 := hB1.trans (hb.mono hB1.size);have R2 := kp_ hb R1;clear q0 q1 q2 q3 q4 q5 q6 q7 q8 q9 q10 ql;obtain ⟨q0, q1, q2, q3, q4, q5, q6, q7, q8, q9, q10, ql⟩ := zJ R2.out;clear hb
    go_wp2_with fail
    have HST := k0_ (OverT.start (HI.out _ hB2) HNE.out);clear q0 q1 q2 q3 q4 q5 q6 q7 q8 q9 q10;generalize hW1 : w5 = w1 at *;clear hW1
    go_loopw [1, 5] (fun v1 v5 wr => ∃ (i : Nat) (rest : Tm) (m2 : Nat), v5 = .int .i64 i /\ v1 = .int .i64 m2 /\ OverT w1 wr p.A p.n (Tm.nodes kids) i rest /\ m2 <= 40000 /\ min (m2 + Tm.nodes rest) 8193 = min (m + (1 + (N1 + N2) + Tm.nodes kids)) 8193) (fun _ v _ => p.n - (intOf v).toNat)
    case atStart => exact ⟨0, kids, m + 1 + N1 + N2, rfl, by go_num, HST.out, by omega, by omega⟩
    case round =>
     obtain ⟨i, rest, m2, rfl, rfl, hO, hm2, hRR⟩ := hrel;have hbB := hB2.trans (hO.below.mono hB2.size);have HX := k0_ (zA hO.below (zC R2.out) R2.out);obtain ⟨q0, q1, q2, q3, q4, q5, q6, q7, q8, q9, q10, ql2⟩ := zJ HX.out;have HRR := k0_ hRR;clear hRR;have i7 : (m2 : Int) <= 40000 := by omega
     cases rest with
     | nil =>
      have hi : i = p.n := by have := hO.i_eq; simpa [Tm.len] using this
      have hfin : min m2 8193 = min (m + (1 + (N1 + N2) + Tm.nodes kids)) 8193 := by have := HRR.out; simp only [Tm.nodes] at this; omega
      exact zEY
     | node h' kids' r =>
      have hst := fun w2 hb => OverT.step (w2 := w2) hO hb
      have h1 := hO.i_eq;have h2 := hO.lies;have h3 := hO.sub;simp only [Tm.len, Tm.nodes] at h1 h3;obtain ⟨bb, oo, p', hpA, hcs, hfit, hl3, hl4⟩ := h2;have j1 : (i : Int) < p.n := by omega
      by_cases hq : m2 <= 8192
      ·have hcall := IH.out h' kids' p' wr m2 (by omega) ⟨hfit, hl3⟩ hq
       obtain ⟨c0, c1, c2, c3, c4, c5, c6, c7, c8, c9, c10⟩ := Tm.row hcs;have HCK := k0_ hcall;have HS2 := k0_ hst;have HL := k0_ hl4;have j2 : (m2 : Int) <= 8192 := by omega
       have HPA := k0_ hpA;clear hst hl3 hl4 hcall hO hcs hfit hpA;generalize hPA : p.A = PA at *;obtain rfl : PA = some ⟨bb, oo, none⟩ := HPA.out;clear hPA HPA
       go_wp2_with fail
       refine HCK.out.mono ?_;rintro e w2 ⟨R', rfl, hR1, hR2, hb⟩;have hbb := k0_ (HS2.out w2 hb HL.out)
       have hnx : min (R' + Tm.nodes r) 8193 = min (m + (1 + (N1 + N2) + Tm.nodes kids)) 8193 := by
        exact zEa
       exact zEe
      ·have hfin : min m2 8193 = min (m + (1 + (N1 + N2) + Tm.nodes kids)) 8193 := by have := HRR.out; omega
       exact zEd
theorem kv (h : Hd) (kids : Tm) (p : Pl) (w : World) (hIs : Tm.Is w h kids p) :
  Calls Tryz.prog 50 #[.agg (tC_ h p)] w fun e w' => e = .returned (.int .i64 (Tm.nod h kids)) /\ Below w.heap.size w w' := by
 try unfold tC_
 have hB0 : Below w.heap.size w (w.alloc (.cells (tC_ h p) 28)) := (Below.refl _ _).alloc (Nat.le_refl _) _;have hc := zA4 (Tm.nodes kids + 1) h kids p _ 0 (by omega) (hIs.below hB0) (by omega);have HC := k0_ hc;clear hIs hc
 go_enter Tryz.func50, Tryz.ntmps50
 go_wp2_with fail
 refine HC.out.mono ?_;rintro e w3 ⟨R, rfl, hR, hR2, hb⟩;have HR := k0_ hR;clear hR
 go_wp2_with fail
 go_ret
 exact ⟨xC (by have := HR.out; unfold Tm.nod; omega), hB0.trans (hb.mono hB0.size)⟩
theorem zBZ (K : Nat) : ∀ (h : Hd) (kids : Tm) (p : Pl) (w : World) (m : Nat), Tm.nodes kids < K -> Tm.Is w h kids p -> 1 <= m -> m <= 201 ->
  Calls Tryz.prog 86 #[.agg (tC_ h p), .int .i64 m] w fun e w' => e = .returned (.int .i64 (min (Tm.dp h kids) m : Nat)) /\ Below w.heap.size w w' := by
 try unfold tC_
 induction K with
 | zero => intro _ _ _ _ _ hK; omega
 | succ K ih =>
  intro h kids p w m hK hIs hm hm2;have hB0 : Below w.heap.size w (w.alloc (.cells (tC_ h p) 28)) := (Below.refl _ _).alloc (Nat.le_refl _) _;have HN := k0_ (zD w (.cells (tC_ h p) 28));have HT := k0_ (fun (W : World) (hb : Below w.heap.size w W) => jv h.tk h.tkids p.TA p.tn p.tc W (hIs.fit.ty.below hb));have HU := k0_ (fun (W : World) (hb : Below w.heap.size w W) => jv h.uk h.ukids p.UA p.un p.uc W (hIs.fit.to.below hb));have h1 := Tm.jq h.tkids;have h2 := Tm.jq h.ukids;have H1 := k0_ (zX h.kind);have H2 := k0_ (ze h.kind);have IH := k0_ ih;have HI := k0_ (fun (W : World) (hb : Below w.heap.size w W) => (hIs.below hb).lies);have HNE := k0_ hIs.fit.n_eq;have i5 : (p.n : Int) <= 9223372036854775807 := by have h1 := hIs.fit.n_le; have h2 := hIs.fit.c_le; unfold maxLen at h2; omega
  have hdp : Tm.dp h kids = 1 + max (max (if Tm.hasType h.kind then Ty.dpt h.tkids else 0) (if Tm.hasTo h.kind then Ty.dpt h.ukids else 0)) (Tm.dep kids) := rfl;rw [hdp];clear ih hIs hdp;generalize Ty.dpt h.tkids = N1 at *;generalize Ty.dpt h.ukids = N2 at *;have g1 : (N1 : Int) <= 201 := by omega
  have g2 : (N2 : Int) <= 201 := by omega
  have z0 := hB0.size;generalize ht : Tm.hasType h.kind = b1 at *;generalize hu : Tm.hasTo h.kind = b2 at *;clear ht hu
  by_cases hm1 : m = 1
  ·subst hm1
   have e1 : min (1 + max (max (if b1 = true then N1 else 0) (if b2 = true then N2 else 0)) (Tm.dep kids)) 1 = 1 := by omega
   rw [e1];clear e1
   go_enter Tryz.func86, Tryz.ntmps86
   go_wp2_with fail
   go_ret
   exact ⟨rfl, hB0⟩
  have i6 : (1 : Int) < m := by omega
  have i7 : (m : Int) <= 201 := by omega
  cases b1
  ·cases b2
   ·simp only [Bool.false_eq_true, if_false]
    obtain ⟨q0, q1, q2, q3, q4, q5, q6, q7, q8, q9, q10, ql⟩ := zJ HN.out
    go_enter Tryz.func86, Tryz.ntmps86
    go_wp2_with fail
    refine (H1.out _).mono ?_;rintro e w2 ⟨rfl, rfl⟩
    go_wp2_with fail
    refine (H2.out _).mono ?_;rintro e w4 ⟨rfl, rfl⟩
    go_wp2_with fail
    have HST := k0_ (OverT.start (HI.out _ hB0) HNE.out);clear q0 q1 q2 q3 q4 q5 q6 q7 q8 q9 q10;generalize hW1 : (w.alloc (.cells (tC_ h p) 28)) = w1 at *;clear hW1
    go_loopw [5, 6] (fun v5 v6 wr => ∃ (i : Nat) (rest : Tm) (d : Nat), v6 = .int .i64 i /\ v5 = .int .i64 d /\ OverT w1 wr p.A p.n (Tm.nodes kids) i rest /\ d <= 201 /\ min (1 + max d (Tm.dep rest)) m = min (1 + max (max 0 0) (Tm.dep kids)) m) (fun _ v _ => p.n - (intOf v).toNat)
    case atStart => exact ⟨0, kids, 0, rfl, by first | rfl | go_num, HST.out, by omega, by omega⟩
    case round =>
     obtain ⟨i, rest, d, rfl, rfl, hO, hm2, hRR⟩ := hrel;have hbB := hB0.trans (hO.below.mono hB0.size);have HX := k0_ (zA hO.below (zC HN.out) HN.out);obtain ⟨q0, q1, q2, q3, q4, q5, q6, q7, q8, q9, q10, ql2⟩ := zJ HX.out;have HRR := k0_ hRR;clear hRR;have i8 : (d : Int) <= 201 := by omega
     cases rest with
     | nil =>
      have hi : i = p.n := by have := hO.i_eq; simpa [Tm.len] using this
      have hfin : min (1 + d) m = min (1 + max (max 0 0) (Tm.dep kids)) m := by have := HRR.out; simp only [Tm.dep] at this; omega
      exact zEc
     | node h' kids' r =>
      have hst := fun w2 hb => OverT.step (w2 := w2) hO hb
      have h1 := hO.i_eq;have h2 := hO.lies;have h3 := hO.sub;simp only [Tm.len, Tm.nodes] at h1 h3;obtain ⟨bb, oo, p', hpA, hcs, hfit, hl3, hl4⟩ := h2;have j1 : (i : Int) < p.n := by omega
      have hcall := IH.out h' kids' p' wr (m - 1) (by omega) ⟨hfit, hl3⟩ (by omega) (by omega);rw [show ((m - 1 : Nat) : Int) = (m : Int) - 1 by omega] at hcall;obtain ⟨c0, c1, c2, c3, c4, c5, c6, c7, c8, c9, c10⟩ := Tm.row hcs;have HCK := k0_ hcall;have HS2 := k0_ hst;have HL := k0_ hl4;have HPA := k0_ hpA
      have hnx : min (1 + max (max d (min (Tm.dp h' kids') (m - 1))) (Tm.dep r)) m = min (1 + max (max 0 0) (Tm.dep kids)) m := by
       exact zEZ
      exact zEf
   ·simp only [if_true, Bool.false_eq_true, if_false]
    obtain ⟨q0, q1, q2, q3, q4, q5, q6, q7, q8, q9, q10, ql⟩ := zJ HN.out
    go_enter Tryz.func86, Tryz.ntmps86
    go_wp2_with fail
    refine (H1.out _).mono ?_;rintro e w2 ⟨rfl, rfl⟩
    go_wp2_with fail
    refine (H2.out _).mono ?_;rintro e w4 ⟨rfl, rfl⟩
    go_wp2_with fail
    refine (HU.out _ hB0).mono ?_;rintro e w5 ⟨rfl, hb⟩;have hB2 := hB0.trans (hb.mono hB0.size);have R2 := kp_ hb HN;clear q0 q1 q2 q3 q4 q5 q6 q7 q8 q9 q10 ql;obtain ⟨q0, q1, q2, q3, q4, q5, q6, q7, q8, q9, q10, ql⟩ := zJ R2.out;clear hb
    go_wp2_with fail
    have HST := k0_ (OverT.start (HI.out _ hB2) HNE.out);clear q0 q1 q2 q3 q4 q5 q6 q7 q8 q9 q10;generalize hW1 : w5 = w1 at *;clear hW1
    go_loopw [5, 6] (fun v5 v6 wr => ∃ (i : Nat) (rest : Tm) (d : Nat), v6 = .int .i64 i /\ v5 = .int .i64 d /\ OverT w1 wr p.A p.n (Tm.nodes kids) i rest /\ d <= 201 /\ min (1 + max d (Tm.dep rest)) m = min (1 + max (max 0 N2) (Tm.dep kids)) m) (fun _ v _ => p.n - (intOf v).toNat)
    case atStart => exact ⟨0, kids, N2, rfl, by first | rfl | go_num, HST.out, by omega, by omega⟩
    case round =>
     obtain ⟨i, rest, d, rfl, rfl, hO, hm2, hRR⟩ := hrel;have hbB := hB2.trans (hO.below.mono hB2.size);have HX := k0_ (zA hO.below (zC R2.out) R2.out);obtain ⟨q0, q1, q2, q3, q4, q5, q6, q7, q8, q9, q10, ql2⟩ := zJ HX.out;have HRR := k0_ hRR;clear hRR;have i8 : (d : Int) <= 201 := by omega
     cases rest with
     | nil =>
      have hi : i = p.n := by have := hO.i_eq; simpa [Tm.len] using this
      have hfin : min (1 + d) m = min (1 + max (max 0 N2) (Tm.dep kids)) m := by have := HRR.out; simp only [Tm.dep] at this; omega
      exact zEc
     | node h' kids' r =>
      have hst := fun w2 hb => OverT.step (w2 := w2) hO hb
      have h1 := hO.i_eq;have h2 := hO.lies;have h3 := hO.sub;simp only [Tm.len, Tm.nodes] at h1 h3;obtain ⟨bb, oo, p', hpA, hcs, hfit, hl3, hl4⟩ := h2;have j1 : (i : Int) < p.n := by omega
      have hcall := IH.out h' kids' p' wr (m - 1) (by omega) ⟨hfit, hl3⟩ (by omega) (by omega);rw [show ((m - 1 : Nat) : Int) = (m : Int) - 1 by omega] at hcall;obtain ⟨c0, c1, c2, c3, c4, c5, c6, c7, c8, c9, c10⟩ := Tm.row hcs;have HCK := k0_ hcall;have HS2 := k0_ hst;have HL := k0_ hl4;have HPA := k0_ hpA
      have hnx : min (1 + max (max d (min (Tm.dp h' kids') (m - 1))) (Tm.dep r)) m = min (1 + max (max 0 N2) (Tm.dep kids)) m := by
       exact zEZ
      exact zEf
  ·cases b2
   ·simp only [if_true, Bool.false_eq_true, if_false]
    obtain ⟨q0, q1, q2, q3, q4, q5, q6, q7, q8, q9, q10, ql⟩ := zJ HN.out
    go_enter Tryz.func86, Tryz.ntmps86
    go_wp2_with fail
    refine (H1.out _).mono ?_;rintro e w2 ⟨rfl, rfl⟩
    go_wp2_with fail
    refine (HT.out _ hB0).mono ?_;rintro e w3 ⟨rfl, hb⟩;have hB1 := hB0.trans (hb.mono hB0.size);have R1 := kp_ hb HN;clear q0 q1 q2 q3 q4 q5 q6 q7 q8 q9 q10 ql;obtain ⟨q0, q1, q2, q3, q4, q5, q6, q7, q8, q9, q10, ql⟩ := zJ R1.out;clear hb
    go_wp2_with fail
    refine (H2.out _).mono ?_;rintro e w4 ⟨rfl, rfl⟩
    go_wp2_with fail
    have HST := k0_ (OverT.start (HI.out _ hB1) HNE.out);clear q0 q1 q2 q3 q4 q5 q6 q7 q8 q9 q10;generalize hW1 : w3 = w1 at *;clear hW1
    go_loopw [5, 6] (fun v5 v6 wr => ∃ (i : Nat) (rest : Tm) (d : Nat), v6 = .int .i64 i /\ v5 = .int .i64 d /\ OverT w1 wr p.A p.n (Tm.nodes kids) i rest /\ d <= 201 /\ min (1 + max d (Tm.dep rest)) m = min (1 + max (max N1 0) (Tm.dep kids)) m) (fun _ v _ => p.n - (intOf v).toNat)
    case atStart => exact ⟨0, kids, N1, rfl, by first | rfl | go_num, HST.out, by omega, by omega⟩
    case round =>
     obtain ⟨i, rest, d, rfl, rfl, hO, hm2, hRR⟩ := hrel;have hbB := hB1.trans (hO.below.mono hB1.size);have HX := k0_ (zA hO.below (zC R1.out) R1.out);obtain ⟨q0, q1, q2, q3, q4, q5, q6, q7, q8, q9, q10, ql2⟩ := zJ HX.out;have HRR := k0_ hRR;clear hRR;have i8 : (d : Int) <= 201 := by omega
     cases rest with
     | nil =>
      have hi : i = p.n := by have := hO.i_eq; simpa [Tm.len] using this
      have hfin : min (1 + d) m = min (1 + max (max N1 0) (Tm.dep kids)) m := by have := HRR.out; simp only [Tm.dep] at this; omega
      exact zEc
     | node h' kids' r =>
      have hst := fun w2 hb => OverT.step (w2 := w2) hO hb
      have h1 := hO.i_eq;have h2 := hO.lies;have h3 := hO.sub;simp only [Tm.len, Tm.nodes] at h1 h3;obtain ⟨bb, oo, p', hpA, hcs, hfit, hl3, hl4⟩ := h2;have j1 : (i : Int) < p.n := by omega
      have hcall := IH.out h' kids' p' wr (m - 1) (by omega) ⟨hfit, hl3⟩ (by omega) (by omega);rw [show ((m - 1 : Nat) : Int) = (m : Int) - 1 by omega] at hcall;obtain ⟨c0, c1, c2, c3, c4, c5, c6, c7, c8, c9, c10⟩ := Tm.row hcs;have HCK := k0_ hcall;have HS2 := k0_ hst;have HL := k0_ hl4;have HPA := k0_ hpA
      have hnx : min (1 + max (max d (min (Tm.dp h' kids') (m - 1))) (Tm.dep r)) m = min (1 + max (max N1 0) (Tm.dep kids)) m := by
       exact zEZ
      exact zEf
   ·simp only [if_true]
    obtain ⟨q0, q1, q2, q3, q4, q5, q6, q7, q8, q9, q10, ql⟩ := zJ HN.out
    go_enter Tryz.func86, Tryz.ntmps86
    go_wp2_with fail
    refine (H1.out _).mono ?_;rintro e w2 ⟨rfl, rfl⟩
    go_wp2_with fail
    refine (HT.out _ hB0).mono ?_;rintro e w3 ⟨rfl, hb⟩;have hB1 := hB0.trans (hb.mono hB0.size);have R1 := kp_ hb HN;clear q0 q1 q2 q3 q4 q5 q6 q7 q8 q9 q10 ql;obtain ⟨q0, q1, q2, q3, q4, q5, q6, q7, q8, q9, q10, ql⟩ := zJ R1.out;clear hb
    go_wp2_with fail
    refine (H2.out _).mono ?_;rintro e w4 ⟨rfl, rfl⟩
    go_wp2_with fail
    refine (HU.out _ hB1).mono ?_;rintro e w5 ⟨rfl, hb⟩;have hB2 := hB1.trans (hb.mono hB1.size);have R2 := kp_ hb R1;clear q0 q1 q2 q3 q4 q5 q6 q7 q8 q9 q10 ql;obtain ⟨q0, q1, q2, q3, q4, q5, q6, q7, q8, q9, q10, ql⟩ := zJ R2.out;clear hb
    go_wp2_with fail
    have HST := k0_ (OverT.start (HI.out _ hB2) HNE.out);clear q0 q1 q2 q3 q4 q5 q6 q7 q8 q9 q10;generalize hW1 : w5 = w1 at *;clear hW1
    go_loopw [5, 6] (fun v5 v6 wr => ∃ (i : Nat) (rest : Tm) (d : Nat), v6 = .int .i64 i /\ v5 = .int .i64 d /\ OverT w1 wr p.A p.n (Tm.nodes kids) i rest /\ d <= 201 /\ min (1 + max d (Tm.dep rest)) m = min (1 + max (max N1 N2) (Tm.dep kids)) m) (fun _ v _ => p.n - (intOf v).toNat)
    case atStart => exact ⟨0, kids, max N1 N2, rfl, by first | rfl | go_num, HST.out, by omega, by omega⟩
    case round =>
     obtain ⟨i, rest, d, rfl, rfl, hO, hm2, hRR⟩ := hrel;have hbB := hB2.trans (hO.below.mono hB2.size);have HX := k0_ (zA hO.below (zC R2.out) R2.out);obtain ⟨q0, q1, q2, q3, q4, q5, q6, q7, q8, q9, q10, ql2⟩ := zJ HX.out;have HRR := k0_ hRR;clear hRR;have i8 : (d : Int) <= 201 := by omega
     cases rest with
     | nil =>
      have hi : i = p.n := by have := hO.i_eq; simpa [Tm.len] using this
      have hfin : min (1 + d) m = min (1 + max (max N1 N2) (Tm.dep kids)) m := by have := HRR.out; simp only [Tm.dep] at this; omega
      exact zEc
     | node h' kids' r =>
      have hst := fun w2 hb => OverT.step (w2 := w2) hO hb
      have h1 := hO.i_eq;have h2 := hO.lies;have h3 := hO.sub;simp only [Tm.len, Tm.nodes] at h1 h3;obtain ⟨bb, oo, p', hpA, hcs, hfit, hl3, hl4⟩ := h2;have j1 : (i : Int) < p.n := by omega
      have hcall := IH.out h' kids' p' wr (m - 1) (by omega) ⟨hfit, hl3⟩ (by omega) (by omega);rw [show ((m - 1 : Nat) : Int) = (m : Int) - 1 by omega] at hcall;obtain ⟨c0, c1, c2, c3, c4, c5, c6, c7, c8, c9, c10⟩ := Tm.row hcs;have HCK := k0_ hcall;have HS2 := k0_ hst;have HL := k0_ hl4;have HPA := k0_ hpA
      have hnx : min (1 + max (max d (min (Tm.dp h' kids') (m - 1))) (Tm.dep r)) m = min (1 + max (max N1 N2) (Tm.dep kids)) m := by
       exact zEZ
      exact zEf
theorem zA2 (h : Hd) (kids : Tm) (p : Pl) (w : World) (hIs : Tm.Is w h kids p) :
  Calls Tryz.prog 51 #[.agg (tC_ h p)] w fun e w' => e = .returned (.int .i64 (Tm.dpt h kids)) /\ Below w.heap.size w w' := by
 try unfold tC_
 have hB0 : Below w.heap.size w (w.alloc (.cells (tC_ h p) 28)) := (Below.refl _ _).alloc (Nat.le_refl _) _;have HC := k0_ (kv h kids p _ (hIs.below hB0));have HD := k0_ (fun (W : World) (hb : Below w.heap.size w W) => zBZ (Tm.nodes kids + 1) h kids p W 201 (by omega) (hIs.below hb) (by omega) (by omega));have HN := k0_ (zD w (.cells (tC_ h p) 28));clear hIs
 by_cases hn : 8192 < Tm.nd h kids
 ·have e1 : ((Tm.nod h kids : Nat) : Int) = 8193 := by unfold Tm.nod; omega
  have e2 : ((Tm.dpt h kids : Nat) : Int) = 201 := by unfold Tm.dpt; rw [if_pos hn]; rfl
  rw [e2];rw [e1] at HC;clear e1 e2 hn HD
  go_enter Tryz.func51, Tryz.ntmps51
  go_wp2_with fail
  refine HC.out.mono ?_;exact yZ
 ·have e1 : ((Tm.nod h kids : Nat) : Int) <= 8192 := by unfold Tm.nod; omega
  have e2 : Tm.dpt h kids = min (Tm.dp h kids) 201 := by unfold Tm.dpt; rw [if_neg hn]
  rw [e2];generalize Tm.nod h kids = N at *;generalize min (Tm.dp h kids) 201 = D at *;clear e2 hn
  go_enter Tryz.func51, Tryz.ntmps51
  go_wp2_with fail
  refine HC.out.mono ?_;rintro e w3 ⟨rfl, hb⟩;have hB1 := hB0.trans (hb.mono hB0.size);obtain ⟨q0, q1, q2, q3, q4, q5, q6, q7, q8, q9, q10, ql⟩ := zJ (zA hb (by simp) HN.out);clear hb
  go_wp2_with fail
  refine (HD.out _ hB1).mono ?_;exact uy
end Go.Proofs.YtglgjaomneljbaaGreatDoor
