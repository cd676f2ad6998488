import Derived.WalkKit
import Derived.ChangeSame
import Derived.Deep.Trees
import Derived.Deep.Slices
import Derived.Below
import Derived.Lib.Hide
import Derived.StillTailTactics
import Derived.WalkSpells
import Derived.WalkLawsBesides
import Derived.Deep.QuietTactic
import Derived.BigQuiet
import Derived.RegionTactic
import Derived.BigRegion
import Derived.Defers
import Derived.Recover
import Derived.Deep.LoopGhost
import Derived.WalkSmall
import Derived.OwnWalk
import Derived.Laws.AppendOwn
import Derived.Deep.AppendLies
import Derived.Lib.ParseIntB
import Derived.Laws.Cover4
import Derived.Deep.OwnRows
import Derived.Test.YtglgjaomneljbaaGreatDoorRows
import Derived.IntWalk
import Derived.Shelf.Small.Utf8
import Derived.Shelf.Small.Strs
import Derived.Shelf.LaysM
import Derived.Shelf.Strconv.Clone
import Derived.Shelf.LaysC
import Derived.Shelf.Strconv.Lower
import Derived.Shelf.Strconv.ParseUint10
import Derived.Shelf.Strconv.ParseUint10Empty
import Derived.Shelf.Strconv.ParseUint10Any
import Derived.Shelf.Strconv.ParseInt10
import Derived.Shelf.Strconv.RangeError
import Derived.Shelf.Strconv.ParseUintEmpty
import Derived.Shelf.Strconv.ParseInt10At64
import Derived.Shelf.Strconv.ParseInt10All
import Derived.Shelf.Strconv.ParseIntPublic10
import Derived.Shelf.Strconv.ErrVarParseInt
import Derived.Shelf.Strings.Search1
import Derived.Shelf.Strings.Prefix
import Derived.Shelf.Strings.Runes
import Derived.Deep.RegionHeld3
import Derived.Deep.DrawnRows
import Derived.Deep.RegionWith
import Derived.Lib.DecodeN
import Derived.Lib.Strings
import Derived.Laws.RangeAny
namespace Go.Proofs.YtglgjaomneljbaaGreatDoor
open Go.RowKit
theorem c1_ {P : Prop} (h : P := by
 obtain ⟨q0, q1, q2, q3, q4, q5, q6, q7, q8, q9, q10, ql2⟩ := zJ HX2.out;have HRR := k0_ hRR;clear hRR
 cases rest with
 | nil =>
  have hi : i = p.n := by have := hO.i_eq; simpa [Tm.len] using this
  clear hO;subst hi
  go_wp2_with fail
  go_ret
  exact ⟨qQ (by rw [← HRR.out]; rfl), hbB⟩
 | node h' kids' r =>
  have hst := fun w2 hb => OverT.step (w2 := w2) hO hb
  have h1 := hO.i_eq;have h2 := hO.lies;have h3 := hO.sub;simp only [Tm.len, Tm.nodes] at h1 h3;obtain ⟨bb, oo, p', hpA, hcs, hfit, hl3, hl4⟩ := h2;have j1 : (i : Int) < p.n := by omega
  have hcall := IH.out h' kids' p' wr (by omega) ⟨hfit, hl3⟩;obtain ⟨c0, c1, c2, c3, c4, c5, c6, c7, c8, c9, c10⟩ := Tm.row hcs;have HS2 := k0_ hst;have HL := k0_ hl4;have HPA := k0_ hpA;have hokk := HRR.out;simp only [Tm.okF] at hokk;have hokt : Tm.okT h' kids' = (Tm.headOk h' (Tm.len kids') && Tm.okF kids') := rfl;rw [← hokt] at hokk;clear hst hl3 hl4 hO hcs hfit hpA hokt;generalize Tm.okT h' kids' = b at *;have HCK := k0_ hcall;have HOK := k0_ hokk;clear hcall hokk;generalize hPA : p.A = PA at *;obtain rfl : PA = some ⟨bb, oo, none⟩ := HPA.out;clear hPA HPA;cases b
  ·go_wp2_with fail
   refine HCK.out.mono ?_;rintro e w2 ⟨rfl, hb⟩
   go_wp2_with fail
   go_ret
   exact ⟨qQ (by rw [← HOK.out]; rfl), hbB.trans (hb.mono hbB.size)⟩
  ·go_wp2_with fail
   refine HCK.out.mono ?_;rintro e w2 ⟨rfl, hb⟩;have hbb := k0_ (HS2.out w2 hb HL.out);have HNX := k0_ (show Tm.okF r = Tm.okF kids by rw [← HOK.out]; rfl);clear hb
   go_wp2_with fail
   go_roundw
   case rel => exact ⟨i + 1, r, by go_num, hbb.out, HNX.out⟩
   case measure => simp [intOf]; omega) : P := h
theorem c4_ {P : Prop} (h : P := by
 go_enter Tryz.func52, Tryz.ntmps52
 go_wp2_with fail
 obtain ⟨q0, q1, q2, q3, q4, q5, q6, q7, q8, q9, q10, ql⟩ := zJ (zD w (.cells (tC_ h p) 28))
 go_quiet ((go_at_call 87; exact Calls.quiet_of_same (hKD _)))
 clear q0 q1 q2 q3 q4 q5 q6 q7 q8 q9 q10 ql;generalize hwq : World.drewN (w.alloc (.cells (tC_ h p) 28)) _ = wq;have hBq : Below w.heap.size w wq := hwq ▸ (HX.out.row _).1;have RQ := k0_ (show wq.heap[w.heap.size]? = some (.cells (tC_ h p) 28 (0, 0)) from hwq ▸ (HX.out.row _).2);clear hwq;obtain ⟨q0, q1, q2, q3, q4, q5, q6, q7, q8, q9, q10, ql⟩ := zJ RQ.out
 go_wp2_with (first | (go_at_call 89; refine (hHN _).mono ?_; rintro e w9 ⟨rfl, rfl⟩) | (go_at_call 91; refine (hHA _).mono ?_; rintro e w9 ⟨rfl, rfl⟩) | (go_at_call 53; refine (hHT _).mono ?_; rintro e w9 ⟨rfl, rfl⟩) | (go_at_call 55; refine (hHU _).mono ?_; rintro e w9 ⟨rfl, rfl⟩) | (go_at_call 88; refine (hOP _).mono ?_; rintro e w9 ⟨rfl, rfl⟩) | (go_at_call 90; (with_reducible refine (hNM _).mono ?_); rintro e w9 ⟨rfl, rfl⟩) | (go_at_call 90; (with_reducible refine (hNA _).mono ?_); rintro e w9 ⟨rfl, rfl⟩))
 go_ret
 exact ⟨rfl, hBq⟩) : P := h
theorem c6_ {P : Prop} (h : P := by
 obtain rfl : R = false := by rw [hO]; rfl
 clear hO;simp only [Bool.not_false] at ht2
 go_enter Tryz.func52, Tryz.ntmps52
 go_wp2_with fail
 obtain ⟨q0, q1, q2, q3, q4, q5, q6, q7, q8, q9, q10, ql⟩ := zJ (zD w (.cells (tC_ h p) 28))
 go_quiet ((go_at_call 87; exact Calls.quiet_of_same (hKD _)))
 clear q0 q1 q2 q3 q4 q5 q6 q7 q8 q9 q10 ql;generalize hwq : World.drewN (w.alloc (.cells (tC_ h p) 28)) _ = wq;have hBq : Below w.heap.size w wq := hwq ▸ (HX.out.row _).1;have RQ := k0_ (show wq.heap[w.heap.size]? = some (.cells (tC_ h p) 28 (0, 0)) from hwq ▸ (HX.out.row _).2);clear hwq;obtain ⟨q0, q1, q2, q3, q4, q5, q6, q7, q8, q9, q10, ql⟩ := zJ RQ.out
 go_wp2_with (first | (go_at_call 89; refine (hHN _).mono ?_; rintro e w9 ⟨rfl, rfl⟩) | (go_at_call 91; refine (hHA _).mono ?_; rintro e w9 ⟨rfl, rfl⟩) | (go_at_call 53; refine (hHT _).mono ?_; rintro e w9 ⟨rfl, rfl⟩) | (go_at_call 55; refine (hHU _).mono ?_; rintro e w9 ⟨rfl, rfl⟩) | (go_at_call 88; refine (hOP _).mono ?_; rintro e w9 ⟨rfl, rfl⟩) | (go_at_call 90; (with_reducible refine (hNM _).mono ?_); rintro e w9 ⟨rfl, rfl⟩) | (go_at_call 90; (with_reducible refine (hNA _).mono ?_); rintro e w9 ⟨rfl, rfl⟩))
 refine (HX.out.ty _ hBq).mono ?_;rintro e w3 ⟨rfl, hb⟩;have hB3 := hBq.trans (hb.mono hBq.size);have R3 := kp_ hb RQ;clear q0 q1 q2 q3 q4 q5 q6 q7 q8 q9 q10 ql;obtain ⟨q0, q1, q2, q3, q4, q5, q6, q7, q8, q9, q10, ql⟩ := zJ R3.out;clear hb
 go_wp2_with (first | (go_at_call 89; refine (hHN _).mono ?_; rintro e w9 ⟨rfl, rfl⟩) | (go_at_call 91; refine (hHA _).mono ?_; rintro e w9 ⟨rfl, rfl⟩) | (go_at_call 53; refine (hHT _).mono ?_; rintro e w9 ⟨rfl, rfl⟩) | (go_at_call 55; refine (hHU _).mono ?_; rintro e w9 ⟨rfl, rfl⟩) | (go_at_call 88; refine (hOP _).mono ?_; rintro e w9 ⟨rfl, rfl⟩) | (go_at_call 90; (with_reducible refine (hNM _).mono ?_); rintro e w9 ⟨rfl, rfl⟩) | (go_at_call 90; (with_reducible refine (hNA _).mono ?_); rintro e w9 ⟨rfl, rfl⟩))
 go_ret
 exact ⟨rfl, hB3⟩) : P := h
theorem c9_ {P : Prop} (h : P := by
 obtain rfl : R = false := by rw [hO]; rfl
 clear hO;simp only [Bool.not_false] at hu2
 go_enter Tryz.func52, Tryz.ntmps52
 go_wp2_with fail
 obtain ⟨q0, q1, q2, q3, q4, q5, q6, q7, q8, q9, q10, ql⟩ := zJ (zD w (.cells (tC_ h p) 28))
 go_quiet ((go_at_call 87; exact Calls.quiet_of_same (hKD _)))
 clear q0 q1 q2 q3 q4 q5 q6 q7 q8 q9 q10 ql;generalize hwq : World.drewN (w.alloc (.cells (tC_ h p) 28)) _ = wq;have hBq : Below w.heap.size w wq := hwq ▸ (HX.out.row _).1;have RQ := k0_ (show wq.heap[w.heap.size]? = some (.cells (tC_ h p) 28 (0, 0)) from hwq ▸ (HX.out.row _).2);clear hwq;obtain ⟨q0, q1, q2, q3, q4, q5, q6, q7, q8, q9, q10, ql⟩ := zJ RQ.out
 go_wp2_with (first | (go_at_call 89; refine (hHN _).mono ?_; rintro e w9 ⟨rfl, rfl⟩) | (go_at_call 91; refine (hHA _).mono ?_; rintro e w9 ⟨rfl, rfl⟩) | (go_at_call 53; refine (hHT _).mono ?_; rintro e w9 ⟨rfl, rfl⟩) | (go_at_call 55; refine (hHU _).mono ?_; rintro e w9 ⟨rfl, rfl⟩) | (go_at_call 88; refine (hOP _).mono ?_; rintro e w9 ⟨rfl, rfl⟩) | (go_at_call 90; (with_reducible refine (hNM _).mono ?_); rintro e w9 ⟨rfl, rfl⟩) | (go_at_call 90; (with_reducible refine (hNA _).mono ?_); rintro e w9 ⟨rfl, rfl⟩))
 refine (HX.out.ty _ hBq).mono ?_;rintro e w3 ⟨rfl, hb⟩;have hB3 := hBq.trans (hb.mono hBq.size);have R3 := kp_ hb RQ;clear q0 q1 q2 q3 q4 q5 q6 q7 q8 q9 q10 ql;obtain ⟨q0, q1, q2, q3, q4, q5, q6, q7, q8, q9, q10, ql⟩ := zJ R3.out;clear hb
 go_wp2_with (first | (go_at_call 89; refine (hHN _).mono ?_; rintro e w9 ⟨rfl, rfl⟩) | (go_at_call 91; refine (hHA _).mono ?_; rintro e w9 ⟨rfl, rfl⟩) | (go_at_call 53; refine (hHT _).mono ?_; rintro e w9 ⟨rfl, rfl⟩) | (go_at_call 55; refine (hHU _).mono ?_; rintro e w9 ⟨rfl, rfl⟩) | (go_at_call 88; refine (hOP _).mono ?_; rintro e w9 ⟨rfl, rfl⟩) | (go_at_call 90; (with_reducible refine (hNM _).mono ?_); rintro e w9 ⟨rfl, rfl⟩) | (go_at_call 90; (with_reducible refine (hNA _).mono ?_); rintro e w9 ⟨rfl, rfl⟩))
 refine (HX.out.to _ hB3).mono ?_;rintro e w4 ⟨rfl, hb⟩;have hB4 := hB3.trans (hb.mono hB3.size);have R4 := kp_ hb R3;clear q0 q1 q2 q3 q4 q5 q6 q7 q8 q9 q10 ql;obtain ⟨q0, q1, q2, q3, q4, q5, q6, q7, q8, q9, q10, ql⟩ := zJ R4.out;clear hb
 go_wp2_with (first | (go_at_call 89; refine (hHN _).mono ?_; rintro e w9 ⟨rfl, rfl⟩) | (go_at_call 91; refine (hHA _).mono ?_; rintro e w9 ⟨rfl, rfl⟩) | (go_at_call 53; refine (hHT _).mono ?_; rintro e w9 ⟨rfl, rfl⟩) | (go_at_call 55; refine (hHU _).mono ?_; rintro e w9 ⟨rfl, rfl⟩) | (go_at_call 88; refine (hOP _).mono ?_; rintro e w9 ⟨rfl, rfl⟩) | (go_at_call 90; (with_reducible refine (hNM _).mono ?_); rintro e w9 ⟨rfl, rfl⟩) | (go_at_call 90; (with_reducible refine (hNA _).mono ?_); rintro e w9 ⟨rfl, rfl⟩))
 go_ret
 exact ⟨rfl, hB4⟩) : P := h
theorem zGQ {P : Prop} (h : P := by
 have hst := OverT.start hL hn;have HF := k0_ hf;have HS := k0_ hst;have i5 : (n : Int) <= 9223372036854775807 := by unfold maxLen at hc; omega
 clear hst hn hf hL;obtain ⟨R, hR⟩ : ∃ R, Tm.firstI q kids 0 = R := ⟨_, rfl⟩
 rw [hR];have HR := k0_ hR;clear hR
 go_enter Tryz.func112, Tryz.ntmps112
 go_wp2_with fail
 go_loopw [8] (fun v wr => ∃ (i : Nat) (rest : Tm), v = .int .i64 i /\ OverT w wr A n (Tm.nodes kids) i rest /\ Tm.firstI q rest i = R) (fun v _ => n - (intOf v).toNat)
 case atStart => exact ⟨0, kids, rfl, HS.out, HR.out⟩
 case round =>
  obtain ⟨i, rest, rfl, hO, hR⟩ := hrel
  cases rest with
  | nil =>
   have hi : i = n := by have := hO.i_eq; simpa [Tm.len] using this
   have hB := hO.below;clear hO;simp only [Tm.firstI] at hR;subst hi;subst hR
   go_wp2_with fail
   go_ret
   exact ⟨rfl, hB⟩
  | node h kids' r =>
   have hst := fun w2 hb => OverT.step (w2 := w2) hO hb
   have h1 := hO.i_eq;have h2 := hO.lies;have h3 := hO.sub;have h4 := hO.below;simp only [Tm.len, Tm.nodes, Tm.firstI] at h1 h3 hR;obtain ⟨bb, oo, p, rfl, hcs, hfit, hl3, hl4⟩ := h2;have hcall := HF.out h kids' p wr (by omega) ⟨hfit, hl3⟩ h4;obtain ⟨c0, c1, c2, c3, c4, c5, c6, c7, c8, c9, c10⟩ := Tm.row hcs;have HS := k0_ hst;have HL := k0_ hl4;have HRR := k0_ hR;have j1 : (i : Int) < n := by omega
   clear hst hl3 hl4 hO hR hcs hfit;cases hp : q h kids'
   ·have hp0 := HRR.out
    rw [hp, if_neg (by simp)] at hp0;have HP := k0_ hp0;rw [hp] at hcall;have HC := k0_ hcall;clear hp hp0 hcall
    go_wp2_with fail
    refine HC.out.mono ?_;rintro e w2 ⟨rfl, hb⟩;have hbb := k0_ (HS.out w2 hb HL.out);clear hb
    go_wp2_with fail
    go_roundw
    case rel => exact ⟨i + 1, r, by go_num, hbb.out, HP.out⟩
    case measure => simp [intOf]; omega
   ·have hp0 : R = i := by rw [← HRR.out, hp]; rfl
    rw [hp] at hcall;have HC := k0_ hcall;clear hp hcall;subst hp0
    go_wp2_with fail
    refine HC.out.mono ?_;rintro e w2 ⟨rfl, hb⟩
    go_wp2_with fail
    go_ret
    exact ⟨rfl, h4.trans (hb.mono h4.size)⟩) : P := h
theorem zEf {P : Prop} (h : P := by
 have HNX := k0_ hnx;clear hst hl3 hl4 hcall hO hcs hfit hpA hnx;generalize hQ : min (Tm.dp h' kids') (m - 1) = Q at *;have hQ2 : Q <= 201 := by omega
 clear hQ;generalize hPA : p.A = PA at *;obtain rfl : PA = some ⟨bb, oo, none⟩ := HPA.out;clear hPA HPA
 go_wp2_with fail
 refine HCK.out.mono ?_;rintro e w2 ⟨rfl, hb⟩;have hbb := k0_ (HS2.out w2 hb HL.out);clear hb
 go_wp2_with fail
 go_roundw
 case rel => exact ⟨i + 1, r, max d Q, by go_num, by go_num, hbb.out, by omega, HNX.out⟩
 case measure => simp [intOf]; omega) : P := h
theorem zGK {P : Prop} (h : P := by
 go_wp2_with fail
 refine (HT.out _ hB4).mono ?_;rintro e w5 ⟨A5, n5, c5, rfl, hL5, hn5, hc5, hm5, hb⟩;have HL5 := k0_ hL5;have HN5 := k0_ hn5;clear hL5 hn5;have hB5 := hB4.trans (hb.mono hB4.size);have RB5 := kp_ hb RB4;have RS5 := kp_ hb RS4;clear q0 q1 q2 q3 q4 q5 q6 q7 q8 q9 q10 ql s0 s1 s2 s3 s4 s5 s6 sl;obtain ⟨q0, q1, q2, q3, q4, q5, q6, q7, q8, q9, q10, ql⟩ := zJ RB5.out;obtain ⟨s0, s1, s2, s3, s4, s5, s6, sl⟩ := vW RS5.out;clear hb
 go_wp2_with fail
 refine (HU.out _ hB5 _ _ _ HL5.out HN5.out hc5 hm5).mono ?_;rintro e w6 ⟨rfl, hb⟩;have hB6 := hB5.trans (hb.mono hB5.size);have RB6 := kp_ hb RB5;have RS6 := kp_ hb RS5;clear q0 q1 q2 q3 q4 q5 q6 q7 q8 q9 q10 ql s0 s1 s2 s3 s4 s5 s6 sl;obtain ⟨q0, q1, q2, q3, q4, q5, q6, q7, q8, q9, q10, ql⟩ := zJ RB6.out;obtain ⟨s0, s1, s2, s3, s4, s5, s6, sl⟩ := vW RS6.out;clear hb
 go_wp2_with fail
 refine (HK.out _ hB6).mono ?_;rintro e w7 ⟨rfl, hb⟩;have hB7 := hB6.trans (hb.mono hB6.size)
 go_wp2_with fail
 go_ret
 exact ⟨rfl, hB7⟩) : P := h
theorem zGJ {P : Prop} (h : P := by
 go_wp2_with fail
 refine (HT.out _ hB4).mono ?_;rintro e w5 ⟨A5, n5, c5, rfl, hL5, hn5, hc5, hm5, hb⟩;have HL5 := k0_ hL5;have HN5 := k0_ hn5;clear hL5 hn5;have hB5 := hB4.trans (hb.mono hB4.size);have RB5 := kp_ hb RB4;have RS5 := kp_ hb RS4;clear q0 q1 q2 q3 q4 q5 q6 q7 q8 q9 q10 ql s0 s1 s2 s3 s4 s5 s6 sl;obtain ⟨q0, q1, q2, q3, q4, q5, q6, q7, q8, q9, q10, ql⟩ := zJ RB5.out;obtain ⟨s0, s1, s2, s3, s4, s5, s6, sl⟩ := vW RS5.out;clear hb
 go_wp2_with fail
 refine (HU.out _ hB5 _ _ _ HL5.out HN5.out hc5 hm5).mono ?_;rintro e w6 ⟨rfl, hb⟩;have hB6 := hB5.trans (hb.mono hB5.size);have RB6 := kp_ hb RB5;have RS6 := kp_ hb RS5;clear q0 q1 q2 q3 q4 q5 q6 q7 q8 q9 q10 ql s0 s1 s2 s3 s4 s5 s6 sl;obtain ⟨q0, q1, q2, q3, q4, q5, q6, q7, q8, q9, q10, ql⟩ := zJ RB6.out;obtain ⟨s0, s1, s2, s3, s4, s5, s6, sl⟩ := vW RS6.out;clear hb
 go_wp2_with fail
 go_ret
 exact ⟨rfl, hB6⟩) : P := h
theorem zEe {P : Prop} (h : P := by
 have HNX := k0_ hnx;clear hb hR1 hnx
 go_wp2_with fail
 go_roundw
 case rel => exact ⟨i + 1, r, R', by go_num, rfl, hbb.out, hR2, HNX.out⟩
 case measure => simp [intOf]; omega) : P := h
theorem zEd {P : Prop} (h : P := by
 have j2 : (8192 : Int) < (m2 : Int) := by omega
 clear hst hl3 hl4 hO hcs hfit hpA
 go_wp2_with fail
 go_ret
 exact ⟨m2, rfl, hfin, hm2, hbB⟩) : P := h
theorem zEc {P : Prop} (h : P := by
 have HFIN := k0_ hfin;clear hO hfin;subst hi
 go_wp2_with fail
 go_ret
 exact ⟨xC (by have := HFIN.out; omega), hbB⟩) : P := h
theorem zEb {P : Prop} (h : P := by
 obtain rfl : R = Tm.okF kids := by rw [hO] <;> rfl
 clear hO
 go_enter Tryz.func52, Tryz.ntmps52
 go_wp2_with fail
 obtain ⟨q0, q1, q2, q3, q4, q5, q6, q7, q8, q9, q10, ql⟩ := zJ (zD w (.cells (tC_ h p) 28))
 go_quiet ((go_at_call 87; exact Calls.quiet_of_same (hKD _)))
 clear q0 q1 q2 q3 q4 q5 q6 q7 q8 q9 q10 ql;generalize hwq : World.drewN (w.alloc (.cells (tC_ h p) 28)) _ = wq;have hBq : Below w.heap.size w wq := hwq ▸ (HX.out.row _).1;have RQ := k0_ (show wq.heap[w.heap.size]? = some (.cells (tC_ h p) 28 (0, 0)) from hwq ▸ (HX.out.row _).2);clear hwq;obtain ⟨q0, q1, q2, q3, q4, q5, q6, q7, q8, q9, q10, ql⟩ := zJ RQ.out
 go_wp2_with (first | (go_at_call 89; refine (hHN _).mono ?_; rintro e w9 ⟨rfl, rfl⟩) | (go_at_call 91; refine (hHA _).mono ?_; rintro e w9 ⟨rfl, rfl⟩) | (go_at_call 53; refine (hHT _).mono ?_; rintro e w9 ⟨rfl, rfl⟩) | (go_at_call 55; refine (hHU _).mono ?_; rintro e w9 ⟨rfl, rfl⟩) | (go_at_call 88; refine (hOP _).mono ?_; rintro e w9 ⟨rfl, rfl⟩) | (go_at_call 90; (with_reducible refine (hNM _).mono ?_); rintro e w9 ⟨rfl, rfl⟩) | (go_at_call 90; (with_reducible refine (hNA _).mono ?_); rintro e w9 ⟨rfl, rfl⟩))
 have HST := k0_ (OverT.start (HX.out.lies _ hBq) HX.out.n_eq);clear q0 q1 q2 q3 q4 q5 q6 q7 q8 q9 q10;generalize wq = w1 at *
 go_loopw [3] (fun v wr => ∃ (i : Nat) (rest : Tm), v = .int .i64 i /\ OverT w1 wr p.A p.n (Tm.nodes kids) i rest /\ Tm.okF rest = Tm.okF kids) (fun v _ => p.n - (intOf v).toNat)
 case atStart => exact ⟨0, kids, rfl, HST.out, rfl⟩
 case round =>
  obtain ⟨i, rest, rfl, hO, hRR⟩ := hrel;have hbB := hBq.trans (hO.below.mono hBq.size);have HX2 := k0_ (zA hO.below (zC RQ.out) RQ.out)
  exact c1_) : P := h
theorem zGB {P : Prop} (h : P := by
 cases xt
 ·exact c6_
 simp only [Bool.not_true] at ht2;cases xu
 ·exact c9_
 simp only [Bool.not_true] at hu2;obtain rfl : R = Tm.okF kids := by rw [hO] <;> rfl
 clear hO
 go_enter Tryz.func52, Tryz.ntmps52
 go_wp2_with fail
 obtain ⟨q0, q1, q2, q3, q4, q5, q6, q7, q8, q9, q10, ql⟩ := zJ (zD w (.cells (tC_ h p) 28))
 go_quiet ((go_at_call 87; exact Calls.quiet_of_same (hKD _)))
 clear q0 q1 q2 q3 q4 q5 q6 q7 q8 q9 q10 ql;generalize hwq : World.drewN (w.alloc (.cells (tC_ h p) 28)) _ = wq;have hBq : Below w.heap.size w wq := hwq ▸ (HX.out.row _).1;have RQ := k0_ (show wq.heap[w.heap.size]? = some (.cells (tC_ h p) 28 (0, 0)) from hwq ▸ (HX.out.row _).2);clear hwq;obtain ⟨q0, q1, q2, q3, q4, q5, q6, q7, q8, q9, q10, ql⟩ := zJ RQ.out
 go_wp2_with (first | (go_at_call 89; refine (hHN _).mono ?_; rintro e w9 ⟨rfl, rfl⟩) | (go_at_call 91; refine (hHA _).mono ?_; rintro e w9 ⟨rfl, rfl⟩) | (go_at_call 53; refine (hHT _).mono ?_; rintro e w9 ⟨rfl, rfl⟩) | (go_at_call 55; refine (hHU _).mono ?_; rintro e w9 ⟨rfl, rfl⟩) | (go_at_call 88; refine (hOP _).mono ?_; rintro e w9 ⟨rfl, rfl⟩) | (go_at_call 90; (with_reducible refine (hNM _).mono ?_); rintro e w9 ⟨rfl, rfl⟩) | (go_at_call 90; (with_reducible refine (hNA _).mono ?_); rintro e w9 ⟨rfl, rfl⟩))
 refine (HX.out.ty _ hBq).mono ?_;rintro e w3 ⟨rfl, hb⟩;have hB3 := hBq.trans (hb.mono hBq.size);have R3 := kp_ hb RQ;clear q0 q1 q2 q3 q4 q5 q6 q7 q8 q9 q10 ql;obtain ⟨q0, q1, q2, q3, q4, q5, q6, q7, q8, q9, q10, ql⟩ := zJ R3.out;clear hb
 go_wp2_with (first | (go_at_call 89; refine (hHN _).mono ?_; rintro e w9 ⟨rfl, rfl⟩) | (go_at_call 91; refine (hHA _).mono ?_; rintro e w9 ⟨rfl, rfl⟩) | (go_at_call 53; refine (hHT _).mono ?_; rintro e w9 ⟨rfl, rfl⟩) | (go_at_call 55; refine (hHU _).mono ?_; rintro e w9 ⟨rfl, rfl⟩) | (go_at_call 88; refine (hOP _).mono ?_; rintro e w9 ⟨rfl, rfl⟩) | (go_at_call 90; (with_reducible refine (hNM _).mono ?_); rintro e w9 ⟨rfl, rfl⟩) | (go_at_call 90; (with_reducible refine (hNA _).mono ?_); rintro e w9 ⟨rfl, rfl⟩))
 refine (HX.out.to _ hB3).mono ?_;rintro e w4 ⟨rfl, hb⟩;have hB4 := hB3.trans (hb.mono hB3.size);have R4 := kp_ hb R3;clear q0 q1 q2 q3 q4 q5 q6 q7 q8 q9 q10 ql;obtain ⟨q0, q1, q2, q3, q4, q5, q6, q7, q8, q9, q10, ql⟩ := zJ R4.out;clear hb
 go_wp2_with (first | (go_at_call 89; refine (hHN _).mono ?_; rintro e w9 ⟨rfl, rfl⟩) | (go_at_call 91; refine (hHA _).mono ?_; rintro e w9 ⟨rfl, rfl⟩) | (go_at_call 53; refine (hHT _).mono ?_; rintro e w9 ⟨rfl, rfl⟩) | (go_at_call 55; refine (hHU _).mono ?_; rintro e w9 ⟨rfl, rfl⟩) | (go_at_call 88; refine (hOP _).mono ?_; rintro e w9 ⟨rfl, rfl⟩) | (go_at_call 90; (with_reducible refine (hNM _).mono ?_); rintro e w9 ⟨rfl, rfl⟩) | (go_at_call 90; (with_reducible refine (hNA _).mono ?_); rintro e w9 ⟨rfl, rfl⟩))
 have HST := k0_ (OverT.start (HX.out.lies _ hB4) HX.out.n_eq);clear q0 q1 q2 q3 q4 q5 q6 q7 q8 q9 q10;generalize w4 = w1 at *
 go_loopw [3] (fun v wr => ∃ (i : Nat) (rest : Tm), v = .int .i64 i /\ OverT w1 wr p.A p.n (Tm.nodes kids) i rest /\ Tm.okF rest = Tm.okF kids) (fun v _ => p.n - (intOf v).toNat)
 case atStart => exact ⟨0, kids, rfl, HST.out, rfl⟩
 case round =>
  obtain ⟨i, rest, rfl, hO, hRR⟩ := hrel;have hbB := hB4.trans (hO.below.mono hB4.size);have HX2 := k0_ (zA hO.below (zC R4.out) R4.out)
  exact c1_) : P := h
theorem zGA {P : Prop} (h : P := by
 cases xt
 ·exact c6_
 simp only [Bool.not_true] at ht2;obtain rfl : R = Tm.okF kids := by rw [hO] <;> rfl
 clear hO
 go_enter Tryz.func52, Tryz.ntmps52
 go_wp2_with fail
 obtain ⟨q0, q1, q2, q3, q4, q5, q6, q7, q8, q9, q10, ql⟩ := zJ (zD w (.cells (tC_ h p) 28))
 go_quiet ((go_at_call 87; exact Calls.quiet_of_same (hKD _)))
 clear q0 q1 q2 q3 q4 q5 q6 q7 q8 q9 q10 ql;generalize hwq : World.drewN (w.alloc (.cells (tC_ h p) 28)) _ = wq;have hBq : Below w.heap.size w wq := hwq ▸ (HX.out.row _).1;have RQ := k0_ (show wq.heap[w.heap.size]? = some (.cells (tC_ h p) 28 (0, 0)) from hwq ▸ (HX.out.row _).2);clear hwq;obtain ⟨q0, q1, q2, q3, q4, q5, q6, q7, q8, q9, q10, ql⟩ := zJ RQ.out
 go_wp2_with (first | (go_at_call 89; refine (hHN _).mono ?_; rintro e w9 ⟨rfl, rfl⟩) | (go_at_call 91; refine (hHA _).mono ?_; rintro e w9 ⟨rfl, rfl⟩) | (go_at_call 53; refine (hHT _).mono ?_; rintro e w9 ⟨rfl, rfl⟩) | (go_at_call 55; refine (hHU _).mono ?_; rintro e w9 ⟨rfl, rfl⟩) | (go_at_call 88; refine (hOP _).mono ?_; rintro e w9 ⟨rfl, rfl⟩) | (go_at_call 90; (with_reducible refine (hNM _).mono ?_); rintro e w9 ⟨rfl, rfl⟩) | (go_at_call 90; (with_reducible refine (hNA _).mono ?_); rintro e w9 ⟨rfl, rfl⟩))
 refine (HX.out.ty _ hBq).mono ?_;rintro e w3 ⟨rfl, hb⟩;have hB3 := hBq.trans (hb.mono hBq.size);have R3 := kp_ hb RQ;clear q0 q1 q2 q3 q4 q5 q6 q7 q8 q9 q10 ql;obtain ⟨q0, q1, q2, q3, q4, q5, q6, q7, q8, q9, q10, ql⟩ := zJ R3.out;clear hb
 go_wp2_with (first | (go_at_call 89; refine (hHN _).mono ?_; rintro e w9 ⟨rfl, rfl⟩) | (go_at_call 91; refine (hHA _).mono ?_; rintro e w9 ⟨rfl, rfl⟩) | (go_at_call 53; refine (hHT _).mono ?_; rintro e w9 ⟨rfl, rfl⟩) | (go_at_call 55; refine (hHU _).mono ?_; rintro e w9 ⟨rfl, rfl⟩) | (go_at_call 88; refine (hOP _).mono ?_; rintro e w9 ⟨rfl, rfl⟩) | (go_at_call 90; (with_reducible refine (hNM _).mono ?_); rintro e w9 ⟨rfl, rfl⟩) | (go_at_call 90; (with_reducible refine (hNA _).mono ?_); rintro e w9 ⟨rfl, rfl⟩))
 have HST := k0_ (OverT.start (HX.out.lies _ hB3) HX.out.n_eq);clear q0 q1 q2 q3 q4 q5 q6 q7 q8 q9 q10;generalize w3 = w1 at *
 go_loopw [3] (fun v wr => ∃ (i : Nat) (rest : Tm), v = .int .i64 i /\ OverT w1 wr p.A p.n (Tm.nodes kids) i rest /\ Tm.okF rest = Tm.okF kids) (fun v _ => p.n - (intOf v).toNat)
 case atStart => exact ⟨0, kids, rfl, HST.out, rfl⟩
 case round =>
  obtain ⟨i, rest, rfl, hO, hRR⟩ := hrel;have hbB := hB3.trans (hO.below.mono hB3.size);have HX2 := k0_ (zA hO.below (zC R3.out) R3.out)
  exact c1_) : P := h
theorem zEa {P : Prop} (h : P := by
 have := HRR.out;simp only [Tm.nodes] at this;have e : Tm.nd h' kids' = 1 + Tm.tyN h' + Tm.nodes kids' := rfl
 omega) : P := h
theorem zEZ {P : Prop} (h : P := by
 have := HRR.out;simp only [Tm.dep] at this;have e : Tm.dp h' kids' = 1 + max (Tm.tyD h') (Tm.dep kids') := rfl
 omega) : P := h
theorem zG3 {P : Prop} (h : P := by
 have HSH := k0_ hsh;clear hsh
 go_enter Tryz.func73, Tryz.ntmps73
 go_wp2_with fail
 refine HSH.out.mono ?_;rintro e w2 ⟨rfl, hb⟩;have hB2 := hB0.trans (hb.mono hB0.size);have RB2 := k0_ (zA hb (by simp) HN.out);obtain ⟨q0, q1, q2, q3, q4, q5, q6, q7, q8, q9, q10, ql⟩ := zJ RB2.out;clear hb
 go_wp2_with fail
 go_ret
 exact ⟨rfl, hB2.alloc hB2.size _⟩) : P := h
theorem zEY {P : Prop} (h : P := by
 clear hO;subst hi
 go_wp2_with fail
 go_ret
 exact ⟨m2, rfl, hfin, hm2, hbB⟩) : P := h
theorem zBB {P : Prop} (h : P := by
 obtain rfl : R = false := by rw [hO]; rfl
 clear hO
 exact c4_) : P := h
theorem zFp {P : Prop} (h : P := by
 rw [← Tm.vO q kids 0];clear hL hn hf hcf;generalize Tm.firstI q kids 0 = R at *
 go_enter Tryz.func74, Tryz.ntmps74
 go_wp2_with fail
 refine HI.out.mono ?_;rintro e w2 ⟨rfl, hb⟩
 go_wp2_with fail
 go_ret
 exact ⟨rfl, hb⟩) : P := h
theorem zFo {P : Prop} (h : P := by
 have := zD (((w.alloc (.cells (tC_ h p) 28)).alloc (Obj.cells #[Value.int IntKind.i64 0] 3)).alloc (Obj.cells #[Value.int IntKind.i64 0] 3)) (Obj.cells #[Value.int IntKind.i64 0, Value.int IntKind.i64 0] 150)
 simpa [TTape] using this) : P := h
theorem zDt {P : Prop} (h : P := by
 go_wp2_with fail
 go_ret
 exact ⟨rfl, hB0.trans (hb.mono HP)⟩) : P := h
theorem zDs {P : Prop} (h : P := by
 cases hq : hasTo h.kind
 ·rfl
 ·rw [vN hq] at ht; cases ht) : P := h
end Go.Proofs.YtglgjaomneljbaaGreatDoor
