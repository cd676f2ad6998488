import Derived.Deep.RegionHeld3
import Derived.Deep.DrawnRows
import Derived.Deep.RegionWith
import Derived.Test.YtepmjknljbafgaaGreatDoorM5
import Derived.Test.YtepmjknljbafgaaGreatDoorM9
import Derived.Test.YtepmjknljbafgaaGreatDoorM10
namespace Go.Proofs.YtepmjknljbafgaaGreatDoor
open Go.RowKit
theorem c6_ {P : Prop} (h : P := by
  have hst := OverT.start hL hn;have HF := k0_ hf;have HS := k0_ hst;have i5 : (n : Int) <= 9223372036854775807 := by unfold maxLen at hc; omega
  clear hst hn hf hL;obtain ⟨R, hR⟩ : ∃ R, Tm.firstI q kids 0 = R := ⟨_, rfl⟩
  rw [hR];have HR := k0_ hR;clear hR
  go_enter Tryz.func131, Tryz.ntmps131
  go_wp2_with fail
  go_loopw [8] (fun v wr => ∃ (i : Nat) (rest : Tm), v = .int .i64 i /\ OverT w wr A n (Tm.nodes kids) i rest /\ Tm.firstI q rest i = R) (fun v _ => n - (intOf v).toNat)
  case atStart => exact ⟨0, kids, rfl, HS.out, HR.out⟩
  case round =>
    obtain ⟨i, rest, rfl, hO, hR⟩ := hrel
    cases rest with
    | nil =>
      have hi : i = n := by have := hO.i_eq; simpa [Tm.len] using this
      have hB := hO.below;clear hO;simp only [Tm.firstI] at hR;subst hi;subst hR
      go_wp2_with fail
      go_ret
      exact ⟨rfl, hB⟩
    | node h kids' r =>
      have hst := fun w2 hb => OverT.step (w2 := w2) hO hb
      have h1 := hO.i_eq;have h2 := hO.lies;have h3 := hO.sub;have h4 := hO.below;simp only [Tm.len, Tm.nodes, Tm.firstI] at h1 h3 hR;obtain ⟨bb, oo, p, rfl, hcs, hfit, hl3, hl4⟩ := h2;have hcall := HF.out h kids' p wr (by omega) ⟨hfit, hl3⟩ h4;obtain ⟨c0, c1, c2, c3, c4, c5, c6, c7, c8, c9, c10⟩ := Tm.row hcs;have HS := k0_ hst;have HL := k0_ hl4;have HRR := k0_ hR;have j1 : (i : Int) < n := by omega
      clear hst hl3 hl4 hO hR hcs hfit;cases hp : q h kids'
      · have hp0 := HRR.out
        rw [hp, if_neg (by simp)] at hp0;have HP := k0_ hp0;rw [hp] at hcall;have HC := k0_ hcall;clear hp hp0 hcall
        go_wp2_with fail
        refine HC.out.mono ?_;rintro e w2 ⟨rfl, hb⟩;have hbb := k0_ (HS.out w2 hb HL.out);clear hb
        go_wp2_with fail
        go_roundw
        case rel => exact ⟨i + 1, r, by go_num, hbb.out, HP.out⟩
        case measure => simp [intOf]; omega
      · have hp0 : R = i := by rw [← HRR.out, hp]; rfl
        rw [hp] at hcall;have HC := k0_ hcall;clear hp hcall;subst hp0
        go_wp2_with fail
        refine HC.out.mono ?_;rintro e w2 ⟨rfl, hb⟩
        go_wp2_with fail
        go_ret
        exact ⟨rfl, h4.trans (hb.mono h4.size)⟩) : P := h
theorem zIW {P : Prop} (h : P := by
  go_wp2_with fail
  refine (HT.out _ hB4).mono ?_;rintro e w5 ⟨A5, n5, c5, rfl, hL5, hn5, hc5, hm5, hb⟩;have HL5 := k0_ hL5;have HN5 := k0_ hn5;clear hL5 hn5;have hB5 := hB4.trans (hb.mono hB4.size);have RB5 := kp_ hb RB4;have RS5 := kp_ hb RS4;clear q0 q1 q2 q3 q4 q5 q6 q7 q8 q9 q10 ql s0 s1 s2 s3 s4 s5 s6 sl;obtain ⟨q0, q1, q2, q3, q4, q5, q6, q7, q8, q9, q10, ql⟩ := zS RB5.out;obtain ⟨s0, s1, s2, s3, s4, s5, s6, sl⟩ := kC RS5.out;clear hb
  go_wp2_with fail
  refine (HU.out _ hB5 _ _ _ HL5.out HN5.out hc5 hm5).mono ?_;rintro e w6 ⟨rfl, hb⟩;have hB6 := hB5.trans (hb.mono hB5.size);have RB6 := kp_ hb RB5;have RS6 := kp_ hb RS5;clear q0 q1 q2 q3 q4 q5 q6 q7 q8 q9 q10 ql s0 s1 s2 s3 s4 s5 s6 sl;obtain ⟨q0, q1, q2, q3, q4, q5, q6, q7, q8, q9, q10, ql⟩ := zS RB6.out;obtain ⟨s0, s1, s2, s3, s4, s5, s6, sl⟩ := kC RS6.out;clear hb
  go_wp2_with fail
  refine (HK.out _ hB6).mono ?_;rintro e w7 ⟨rfl, hb⟩;have hB7 := hB6.trans (hb.mono hB6.size)
  go_wp2_with fail
  go_ret
  exact ⟨rfl, hB7⟩) : P := h
theorem zIV {P : Prop} (h : P := by
  go_wp2_with fail
  refine (HT.out _ hB4).mono ?_;rintro e w5 ⟨A5, n5, c5, rfl, hL5, hn5, hc5, hm5, hb⟩;have HL5 := k0_ hL5;have HN5 := k0_ hn5;clear hL5 hn5;have hB5 := hB4.trans (hb.mono hB4.size);have RB5 := kp_ hb RB4;have RS5 := kp_ hb RS4;clear q0 q1 q2 q3 q4 q5 q6 q7 q8 q9 q10 ql s0 s1 s2 s3 s4 s5 s6 sl;obtain ⟨q0, q1, q2, q3, q4, q5, q6, q7, q8, q9, q10, ql⟩ := zS RB5.out;obtain ⟨s0, s1, s2, s3, s4, s5, s6, sl⟩ := kC RS5.out;clear hb
  go_wp2_with fail
  refine (HU.out _ hB5 _ _ _ HL5.out HN5.out hc5 hm5).mono ?_;rintro e w6 ⟨rfl, hb⟩;have hB6 := hB5.trans (hb.mono hB5.size);have RB6 := kp_ hb RB5;have RS6 := kp_ hb RS5;clear q0 q1 q2 q3 q4 q5 q6 q7 q8 q9 q10 ql s0 s1 s2 s3 s4 s5 s6 sl;obtain ⟨q0, q1, q2, q3, q4, q5, q6, q7, q8, q9, q10, ql⟩ := zS RB6.out;obtain ⟨s0, s1, s2, s3, s4, s5, s6, sl⟩ := kC RS6.out;clear hb
  go_wp2_with fail
  go_ret
  exact ⟨rfl, hB6⟩) : P := h
theorem zIM {P : Prop} (h : P := by
  have HSH := k0_ hsh;clear hsh
  go_enter Tryz.func70, Tryz.ntmps70
  go_wp2_with fail
  refine HSH.out.mono ?_;rintro e w2 ⟨rfl, hb⟩;have hB2 := hB0.trans (hb.mono hB0.size);have RB2 := k0_ (zB hb (by simp) HN.out);obtain ⟨q0, q1, q2, q3, q4, q5, q6, q7, q8, q9, q10, ql⟩ := zS RB2.out;clear hb
  go_wp2_with fail
  go_ret
  exact ⟨rfl, hB2.alloc hB2.size _⟩) : P := h
theorem zI6 {P : Prop} (h : P := by
  rw [← Tm.vX q kids 0];clear hL hn hf hcf;generalize Tm.firstI q kids 0 = R at *
  go_enter Tryz.func101, Tryz.ntmps101
  go_wp2_with fail
  refine HI.out.mono ?_;rintro e w2 ⟨rfl, hb⟩
  go_wp2_with fail
  go_ret
  exact ⟨rfl, hb⟩) : P := h
theorem zI5 {P : Prop} (h : P := by
  have := zF (((w.alloc (.cells (tC_ h p) 41)).alloc (Obj.cells #[Value.int IntKind.i64 0] 3)).alloc (Obj.cells #[Value.int IntKind.i64 0] 3)) (Obj.cells #[Value.int IntKind.i64 0, Value.int IntKind.i64 0] 176)
  simpa [TTape] using this) : P := h
theorem zFA {P : Prop} (h : P := by
  go_wp2_with fail
  go_ret
  exact ⟨rfl, hB0.trans (hb.mono HP)⟩) : P := h
theorem zF9 {P : Prop} (h : P := by
  cases hq : hasTo h.kind
  · rfl
  · rw [xR hq] at ht; cases ht) : P := h
end Go.Proofs.YtepmjknljbafgaaGreatDoor
namespace Go.Proofs.YtepmjknljbafgaaGreatDoor
set_option maxHeartbeats 1000000
set_option maxRecDepth 100000
open Go.RowKit
def TTape (w : World) (t n m : Nat) : Prop := w.heap[t]? = some (.cells #[.int .i64 n, .int .i64 m] 176 (0, 0))
def TLayOk (w : World) (t N M : Nat) (e : Ending) (w' : World) : Prop := e = .returned (.tuple #[]) /\ TTape w' t N M /\ w.grownBy w' (some t)
def TLayBig (w : World) (t : Nat) (e : Ending) (w' : World) : Prop := e = .panicked [{ v := .iface 177 (.agg #[]), recovered := false }] /\ w.grownBy w' (some t)
theorem TTape.alloc {w : World} {t n m : Nat} (h : TTape w t n m) (o : Obj) : TTape (w.alloc o) t n m := zG h o
theorem TTape.below {w w' : World} {t n m : Nat} (h : TTape w t n m) (hb : Below w.heap.size w w') : TTape w' t n m := zB hb (zD h) h
theorem zCi {w : World} {t n m : Nat} (h : TTape w t n m) (n' m' : Nat) : TTape ((w.setCell ⟨t, 0, none⟩ (.int .i64 n')).setCell ⟨t, 1, none⟩ (.int .i64 m')) t n' m' := by
  unfold TTape at h ⊢
  simp [World.setCell, Array.getElem?_modify, h]
theorem vw {w : World} {t n m : Nat} (h : TTape w t n m) : ∀ o (k : Int), w.cell? ⟨t, o, none⟩ = some (.int .i8 k) -> False := by
  intro o k hv;unfold TTape at h;simp only [World.cell?, h] at hv
  match o with
  | 0 => simp at hv
  | 1 => simp at hv
  | (q + 2) => simp at hv
theorem yV {w : World} {t n m : Nat} (h : TTape w t n m) (hS : TShapes w) : t ≠ 2 := by
  rintro rfl;have := hS.row 0 (by omega) (by omega) 0 _ rfl;unfold TTape at h;simp only [World.cell?] at this;rw [show (0 : Int).toNat * 7 + 0 = 0 from rfl, h] at this
  simp at this
theorem jv {a w w' : World} {g : Nat} (h : a.grownBy w (some g)) (hb : Below w.heap.size w w') : a.grownBy w' (some g) :=
  ⟨hb.os.trans h.os, hb.tape.trans h.tape, hb.output.trans h.output, Nat.le_trans h.size hb.size, fun i hi hne => (hb.block i (Nat.lt_of_lt_of_le hi h.size)).trans (h.block i hi hne)⟩
namespace Tm
def sumN : Fo -> Nat
  | .nil => 0
  | .node _ _ _ kids r => Ty.nod kids + sumN r
def maxD : Fo -> Nat
  | .nil => 0
  | .node _ _ _ kids r => max (Ty.dpt kids) (maxD r)
theorem zE6 (h : Hd) : sumN (tys h) = tyN h := by
  unfold tys tyN;cases ht : hasType h.kind
  · have hu : hasTo h.kind = false := by
      exact zF9
    simp [hu, sumN]
  · cases hu : hasTo h.kind <;> simp [sumN]
theorem zEb (h : Hd) : maxD (tys h) = tyD h := by
  unfold tys tyD;cases ht : hasType h.kind
  · have hu : hasTo h.kind = false := by
      exact zF9
    simp [hu, maxD]
  · cases hu : hasTo h.kind <;> simp [maxD]
theorem zGs (kids : Fo) : Ty.nod kids <= 8193 := by unfold Ty.nod; omega
theorem kg (kids : Fo) : Ty.dpt kids <= 201 := by unfold Ty.dpt; split <;> omega
end Tm
theorem zCY (w : World) (t n m a d : Nat) (hT : TTape w t n m) (h1 : n + a <= 8192) (h2 : d <= 10000) (h3 : m <= 10000) :
    Calls Tryz.prog 126 #[.pointer (some ⟨t, 0, none⟩), .int .i64 a, .int .i64 d] w (TLayOk w t (n + a) (max m d)) := by
  obtain ⟨t0, t1, f0, f1, htl⟩ := zK hT;have i1 : (n : Int) + a <= 8192 := by omega
  have i2 : (d : Int) <= 10000 := by omega
  have i3 : (m : Int) <= 10000 := by omega
  have i4 : decide ((8192 : Int) < (n : Int) + a) = false := by simp; omega
  have hset := k0_ (zCi hT (n + a) (max m d));rw [show ((max m d : Nat) : Int) = max (m : Int) (d : Int) by omega, show ((n + a : Nat) : Int) = (n : Int) + a by omega] at hset;clear hT
  go_enter Tryz.func126, Tryz.ntmps126
  go_wp2_with fail
  go_end0
  exact ⟨rfl, hset.out, wO w t _ _⟩
theorem zAU (w : World) (t n m a : Nat) (d : Int) (hT : TTape w t n m) (h1 : 8192 < n + a) (h2 : n <= 8192) (h3 : a <= 8193) :
    Calls Tryz.prog 126 #[.pointer (some ⟨t, 0, none⟩), .int .i64 a, .int .i64 d] w (TLayBig w t) := by
  obtain ⟨t0, t1, f0, f1, htl⟩ := zK hT;have i1 : (n : Int) + a <= 16385 := by omega
  have i4 : decide ((8192 : Int) < (n : Int) + a) = true := by simp; omega
  clear hT
  go_enter Tryz.func126, Tryz.ntmps126
  go_wp2_with fail
  refine ⟨rfl, rfl, ?_⟩;exact zL (zz _ _) (.inl rfl) _
end Go.Proofs.YtepmjknljbafgaaGreatDoor
namespace Go.Proofs.YtepmjknljbafgaaGreatDoor
open Go.RowKit
structure L1 (w wr : World) (A : Option Addr) (t N M d len i : Nat) (rest : Fo) (n' m' : Nat) : Prop where
  i_eq : i + Ty.len rest = len
  lies : Ty.Lies wr rest A i
  tape : TTape wr t n' m'
  n_le : n' <= 8192
  cnt : n' + Tm.sumN rest = N
  mx : max m' (d + Tm.maxD rest) = M
  dm : d <= m'
  m_le : m' <= 10000
  lo : d <= n'
  only : w.grownBy wr (some t)
theorem L1.step {w wr w2 : World} {A : Option Addr} {t N M d len i n' m' x y : Nat} {k : Int} {kids r : Fo} (h : L1 w wr A t N M d len i (.node x y k kids r) n' m') (hfit : n' + Ty.nod kids <= 8192) (hd : d <= 8193)
    (o : Obj) (hT : TTape w2 t (n' + Ty.nod kids) (max m' (d + Ty.dpt kids))) (hk : (wr.alloc o).grownBy w2 (some t)) :
    L1 w w2 A t N M d len (i + 1) r (n' + Ty.nod kids) (max m' (d + Ty.dpt kids)) := by
  obtain ⟨h1, h2, h3, h4, h5, h6, h7, h8, h10, h9⟩ := h;simp only [Ty.len, Tm.sumN, Tm.maxD] at h1 h5 h6;obtain ⟨_, _, _, _, _, _, _, _, _, _, _, hr⟩ := h2;have := Tm.kg kids;refine ⟨by omega, ?_, hT, hfit, by omega, by omega, by omega, by omega, by omega, zI h9 (zI (zy (zz _ _) o) hk)⟩;exact (hr.alloc o).kept (Tm.Kept.grown hk (vw (h3.alloc o)))
theorem L1.start {w wr : World} {A : Option Addr} {t n' m' d : Nat} {f : Fo} (hL : Ty.Lies wr f A 0) (hT : TTape wr t n' m') (hn : n' <= 8192) (hm : m' <= 10000) (hd : d <= m') (hlo : d <= n') (ho : w.grownBy wr (some t)) :
    L1 w wr A t (n' + Tm.sumN f) (max m' (d + Tm.maxD f)) d (Ty.len f) 0 f n' m' :=
  ⟨by omega, hL, hT, hn, rfl, rfl, hd, hm, hlo, ho⟩
structure L2 (w wr : World) (A : Option Addr) (t N M d len nk i : Nat) (rest : Tm) (n' m' : Nat) : Prop where
  i_eq : i + Tm.len rest = len
  lies : Tm.Lies wr rest A i
  tape : TTape wr t n' m'
  n_le : n' <= 8192
  cnt : n' + Tm.nodes rest = N
  mx : max m' (d + Tm.dep rest) = M
  dm : d <= m'
  m_le : m' <= 10000
  lo : d <= n'
  sub : Tm.nodes rest <= nk
  shapes : TShapes wr
  only : w.grownBy wr (some t)
theorem Tm.xW : ∀ f : Tm, Tm.dep f <= Tm.nodes f + 201
  | .nil => by simp only [Tm.dep, Tm.nodes]; omega
  | .node h kids r => by
    have := Tm.xW kids;have := Tm.xW r
    have h1 : Tm.tyD h <= 201 := by
      unfold Tm.tyD;have := Tm.kg h.tkids;have := Tm.kg h.ukids
      split <;> split <;> omega
    simp only [Tm.dep, Tm.nodes]; omega
theorem L2.step {w wr w2 : World} {A : Option Addr} {t N M d len nk i n' m' : Nat} {h : Hd} {kids r : Tm} (g : L2 w wr A t N M d len nk i (.node h kids r) n' m') (hfit : n' + Tm.nd h kids <= 8192)
    (o : Obj) (hT : TTape w2 t (n' + Tm.nd h kids) (max m' (d + Tm.dp h kids))) (hk : (wr.alloc o).grownBy w2 (some t)) (hs : TShapes (wr.alloc o)) :
    L2 w w2 A t N M d len nk (i + 1) r (n' + Tm.nd h kids) (max m' (d + Tm.dp h kids)) := by
  obtain ⟨h1, h2, h3, h4, h5, h6, h7, h8, h10, h11, h12, h9⟩ := g;simp only [Tm.len, Tm.nodes, Tm.dep] at h1 h5 h6 h11;obtain ⟨_, _, _, _, _, _, _, hr⟩ := h2;have hd1 := Tm.xW kids
  have h1' : Tm.tyD h <= 201 := by
    unfold Tm.tyD;have := Tm.kg h.tkids;have := Tm.kg h.ukids
    split <;> split <;> omega
  have hnd : Tm.nd h kids = 1 + Tm.tyN h + Tm.nodes kids := rfl;have hdp : Tm.dp h kids = 1 + max (Tm.tyD h) (Tm.dep kids) := rfl;refine ⟨by omega, ?_, hT, hfit, by omega, by omega, by omega, by omega, by omega, by omega, ?_, zI h9 (zI (zy (zz _ _) o) hk)⟩
  · exact (hr.alloc o).kept (Tm.Kept.grown hk (vw (h3.alloc o)))
  · exact hs.grown hk (yV (h3.alloc o) hs)
def TLayPost (w : World) (t n m d : Nat) (h : Hd) (kids : Tm) (e : Ending) (w' : World) : Prop :=
  (n + Tm.nd h kids <= 8192 /\ TLayOk w t (n + Tm.nd h kids) (max m (d + max (Tm.tyD h) (Tm.dep kids))) e w') \/ (8192 < n + Tm.nd h kids /\ TLayBig w t e w')
theorem zAb {g : Nat} {v0 v1 : Value} {W w2 : World} (h : W.cell? ⟨g, 0, none⟩ = some v0 /\ W.cell? ⟨g, 1, none⟩ = some v1) (hb : Below W.heap.size W w2) : w2.cell? ⟨g, 0, none⟩ = some v0 /\ w2.cell? ⟨g, 1, none⟩ = some v1 :=
  ⟨by rw [(jR hb).1 _ _ (Ty.zN h.1)]; exact h.1, by rw [(jR hb).1 _ _ (Ty.zN h.2)]; exact h.2⟩
theorem zHa {g t : Nat} {v0 v1 : Value} {W w2 : World} (h : W.cell? ⟨g, 0, none⟩ = some v0 /\ W.cell? ⟨g, 1, none⟩ = some v1) (hg : W.grownBy w2 (some t)) (hne : g ≠ t) : w2.cell? ⟨g, 0, none⟩ = some v0 /\ w2.cell? ⟨g, 1, none⟩ = some v1 := by
  have hb := hg.block g (Ty.zN h.1) (fun e => hne (by injection e));exact ⟨by rw [World.cell?_of_block hb]; exact h.1, by rw [World.cell?_of_block hb]; exact h.2⟩
theorem wL {P : Program} {G : Prop} {w : World} (h : wpAny P .any #[] (fun _ _ _ => G) 0 #[] { tmps := #[], defers := [] } w) : G := h.2
attribute [local go_sem ↓] Go.wp_at_zero Go.wp_at_succ
set_option maxHeartbeats 4000000 in
set_option maxRecDepth 100000 in
theorem zAD (K : Nat) : ∀ (h : Hd) (kids : Tm) (p : Pl) (w : World) (t n m d : Nat), Tm.nodes kids < K -> Tm.Is w h kids p -> TShapes w -> TTape w t n m -> n <= 8192 -> d <= n + 1 -> m <= 10000 ->
    Calls Tryz.prog 94 #[.pointer (some ⟨t, 0, none⟩), .agg (tC_ h p), .int .i64 d] w (TLayPost w t n m d h kids) := by
  try unfold tC_
  induction K with
  | zero => intro _ _ _ _ _ _ _ _ hK; omega
  | succ K ih =>
    intro h kids p w t n m d hK hIs hS hT hn hd hm;have IH := k0_ ih;clear ih;have htl := zD hT;have hne : w.heap.size ≠ t := by omega
    have hB0 : Below w.heap.size w (w.alloc (.cells (tC_ h p) 41)) := (Below.refl _ _).alloc (Nat.le_refl _) _;have HN := k0_ (zF w (.cells (tC_ h p) 41));have HI := k0_ (hIs.below hB0);have HS := k0_ (hS.below hB0);have HT := k0_ (hT.below hB0);have HO := k0_ (zy (zz w t) (.cells (tC_ h p) 41));have hnd : Tm.nd h kids = 1 + Tm.tyN h + Tm.nodes kids := rfl;have HND := k0_ hnd;clear hnd hIs hS hT hB0;have i2 : (d : Int) <= 8193 := by omega
    by_cases hn1 : n + 1 <= 8192
    · have hnote := zCY _ t n m 1 d HT.out hn1 (by omega) hm
      have HC := k0_ hnote;clear hnote
      go_enter Tryz.func94, Tryz.ntmps94
      go_wp2_with fail
      refine HC.out.mono ?_;rintro e w2 ⟨rfl, hT2, hg2⟩;have hk2 := Tm.Kept.grown hg2 (vw HT.out);have HI2 := k0_ (HI.out.kept hk2);have HS2 := k0_ (HS.out.grown hg2 (yV HT.out HS.out));have HN2 := k0_ (zR hg2 hne HN.out);have HO2 := k0_ (zI HO.out hg2);have HT2 := k0_ hT2;obtain ⟨q0, q1, q2, q3, q4, q5, q6, q7, q8, q9, q10, ql⟩ := zS HN2.out;clear hT2 hg2 hk2
      go_wp2_with fail
      refine (yB h _ p _ HI2.out.fit HS2.out).mono ?_;rintro e w3 ⟨A3, n3, c3, rfl, hL3, hn3, hc3, hm3, hb3⟩;have HI3 := k0_ (HI2.out.below hb3);have HS3 := k0_ (HS2.out.below hb3);have HN3 := k0_ (zB hb3 ql HN2.out);have HO3 := k0_ (jv HO2.out hb3);have HT3 := k0_ (HT2.out.below hb3);have HL1 := k0_ (L1.start hL3 HT3.out hn1 (by omega) (show d <= max m d by omega) (by omega) HO3.out);rw [← hn3, Tm.zE6, Tm.zEb] at HL1;have j3 : (n3 : Int) <= 9223372036854775807 := by unfold maxLen at hm3; omega
      clear hL3 hb3 hc3 hm3 q0 q1 q2 q3 q4 q5 q6 q7 q8 q9 q10 ql hn3;have hsz3 := zD HN3.out;generalize hM1 : max (max m d) (d + Tm.tyD h) = M1 at *;generalize hN1 : n + 1 + Tm.tyN h = N1 at *;generalize hm0 : max m d = m0 at *;have HM0 := k0_ hm0;clear hm0;have HM1 := k0_ hM1;have HN1 := k0_ hN1;clear hM1 hN1
      go_wp2_with fail
      go_loopw [16] (fun v wr => ∃ (i : Nat) (rest : Fo) (n' m' : Nat), v = .int .i64 i /\ L1 w wr A3 t N1 M1 d n3 i rest n' m' /\ Tm.Is wr h kids p /\ TShapes wr /\ wr.heap[w.heap.size]? = some (.cells (tC_ h p) 41 (0, 0))) (fun v _ => n3 - (intOf v).toNat)
      case atStart => exact ⟨0, _, _, _, rfl, HL1.out, HI3.out, HS3.out, HN3.out⟩
      case round =>
        obtain ⟨i, rest, n', m', rfl, hR, hIr, hSr, hNr⟩ := hrel;have HIr := k0_ hIr;have HSr := k0_ hSr;have HNr := k0_ hNr;clear hIr hSr hNr
        cases rest with
        | nil =>
          have hi : i = n3 := by have := hR.i_eq; simpa [Ty.len] using this
          subst hi;have e1 := hR.cnt;have e2 := hR.mx;have e3 := hR.dm;have e4 := hR.n_le;have e5 := hR.m_le;have e6 := hR.lo;simp only [Tm.sumN, Tm.maxD] at e1 e2;have hnt : n' + Tm.nodes kids = n + Tm.nd h kids := by have := HND.out; have := HN1.out; omega
          have hmt : max m' (d + Tm.dep kids) = max m (d + max (Tm.tyD h) (Tm.dep kids)) := by have := HM1.out; have := HM0.out; omega
          have HNT := k0_ hnt;have HMT := k0_ hmt
          have hst2 : L2 w wr p.A t (n' + Tm.nodes kids) (max m' (d + Tm.dep kids)) d p.n (Tm.nodes kids) 0 kids n' m' :=
            ⟨by rw [HIr.out.fit.n_eq]; omega, HIr.out.lies, hR.tape, e4, rfl, rfl, e3, e5, e6, Nat.le_refl _, HSr.out, hR.only⟩
          have HST2 := k0_ hst2;have j4 : (p.n : Int) <= 9223372036854775807 := by have h1 := HIr.out.fit.n_le; have h2 := HIr.out.fit.c_le; unfold maxLen at h2; omega
          obtain ⟨q0, q1, q2, q3, q4, q5, q6, q7, q8, q9, q10, ql⟩ := zS HNr.out;clear hR e1 e2 hnt hmt hst2 HIr HSr HNr HL1 HI3 HS3 HN3 HO3 HT3 HI2 HS2 HN2 HO2 HT2
          go_wp2_with fail
          obtain ⟨wo, rfl⟩ : ∃ wo : World, wo = wr := ⟨_, rfl⟩
          go_loopw [32] (fun v wq => ∃ (i : Nat) (rest : Tm) (n2 m2 : Nat), v = .int .i64 i /\ L2 w wq p.A t (n' + Tm.nodes kids) (max m' (d + Tm.dep kids)) d p.n (Tm.nodes kids) i rest n2 m2) (fun v _ => p.n - (intOf v).toNat)
          case atStart => exact ⟨0, kids, n', m', rfl, HST2.out⟩
          case round =>
            obtain ⟨i, rest, n2, m2, rfl, hQ⟩ := hrel;clear q0 q1 q2 q3 q4 q5 q6 q7 q8 q9 q10 ql
            cases rest with
            | nil =>
              have hi : i = p.n := by have := hQ.i_eq; simpa [Tm.len] using this
              have e1 := hQ.cnt;have e2 := hQ.mx;have e7 := hQ.n_le;have e8 := hQ.dm;simp only [Tm.nodes, Tm.dep] at e1 e2
              have hfin : TLayPost w t n m d h kids (.returned (.tuple #[])) wr := by
                refine .inl ⟨by have := HNT.out; omega, rfl, ?_, hQ.only⟩;rw [← HNT.out, ← HMT.out, ← e1, ← e2, show max m2 (d + 0) = m2 by omega]; exact hQ.tape
              have HF := k0_ hfin;clear hQ e1 e2 hfin;subst hi
              go_wp2_with fail
              go_end0
              exact HF.out
            | node h' kids' r =>
              have h1 := hQ.i_eq;have h2 := hQ.lies;have h3 := hQ.tape;have h4 := hQ.n_le;have h6 := hQ.m_le;have h8 := hQ.lo;have h7 := hQ.sub;have h9 := hQ.cnt;simp only [Tm.len, Tm.nodes] at h1 h7 h9;have hgo := hQ.only;have hsh := hQ.shapes;obtain ⟨bb, oo, p', hpA, hcs, hfit', hl4, hl5⟩ := h2;have hst := fun hfit w2 hT hk => L2.step (w2 := w2) hQ hfit (.cells (tC_ h' p') 41) hT hk (hsh.alloc _)
              have hcall := IH.out h' kids' p' (wr.alloc (.cells (tC_ h' p') 41)) t n2 m2 (d + 1) (by omega) (Tm.Is.alloc ⟨hfit', hl4⟩ _) (hsh.alloc _) (h3.alloc _) h4 (by omega) h6;rw [show ((d + 1 : Nat) : Int) = (d : Int) + 1 by omega] at hcall;have c0 := hcs 0 _ rfl;have c1 := hcs 1 _ rfl;have c2 := hcs 2 _ rfl;have c3 := hcs 3 _ rfl;have c4 := hcs 4 _ rfl;have c5 := hcs 5 _ rfl;have c6 := hcs 6 _ rfl;have c7 := hcs 7 _ rfl;have c8 := hcs 8 _ rfl;have c9 := hcs 9 _ rfl;have c10 := hcs 10 _ rfl;rw [Nat.add_zero] at c0;have j5 : (i : Int) < p.n := by omega
              have HST3 := k0_ hst;have HCK := k0_ hcall;have HCN := k0_ h9;have HGO := k0_ (zy hgo (.cells (tC_ h' p') 41));have HPA := k0_ hpA;clear hst hcall hQ hgo hsh hcs hfit' hl4 hl5 h3 h9 h6;generalize hPA : p.A = PA at *;obtain rfl : PA = some ⟨bb, oo, none⟩ := HPA.out;clear hPA HPA
              go_wp2_with fail
              refine HCK.out.mono ?_;rintro e w2 (⟨hfit, rfl, hT2, hg2⟩ | ⟨hbig, rfl, hg2⟩)
              · have hR2 := HST3.out hfit w2 (by
                  have e : max m2 (d + Tm.dp h' kids') = max m2 (d + 1 + max (Tm.tyD h') (Tm.dep kids')) := by unfold Tm.dp; omega
                  rw [e]; exact hT2) hg2
                have HR2 := k0_ hR2;clear hR2 hT2 hg2
                go_wp2_with fail
                go_roundw
                case rel => exact ⟨i + 1, r, _, _, by go_num, HR2.out⟩
                case measure => simp [intOf]; omega
              · exact ⟨rfl, .inr ⟨by have := HNT.out; have := HCN.out; have e : Tm.nd h' kids' = 1 + Tm.tyN h' + Tm.nodes kids' := rfl; omega, rfl, zI HGO.out hg2⟩⟩
        | node x y k' kids' r =>
          have h1 := hR.i_eq;have h2 := hR.lies;have h3 := hR.tape;have h4 := hR.n_le;have h5 := hR.dm;have h6 := hR.m_le;have h7 := hR.cnt;simp only [Ty.len, Tm.sumN] at h1 h7;obtain ⟨bb, oo, B, c', rfl, ⟨hk1, hk2⟩, c1, c2, hl1, hl2, hl3, hl4⟩ := h2;have j1 : (i : Int) < n3 := by omega
          have hIk : Ty.Is wr k' kids' B (Ty.len kids') c' := ⟨hl3, rfl, hl1, hl2, hk1, hk2⟩;have HR := k0_ hR;have HL4 := k0_ hl4;have hIt : wr.heap.size ≠ t := by have := zD h3; omega
          have hTa := h3.alloc (.cells #[.int .i8 k', .slice B (Ty.len kids') c'] 30);have hIa := hIk.alloc (.cells #[.int .i8 k', .slice B (Ty.len kids') c'] 30);clear hR hl3 hl4 hl1 hl2 h3 h5 h6 hIk
          go_wp2_with fail
          obtain ⟨b0, b1, _, _, hIl⟩ := zK (zF wr (.cells #[.int .i8 k', .slice B (Ty.len kids') c'] 30));have hOnly := k0_ (zz (wr.alloc (.cells #[.int .i8 k', .slice B (Ty.len kids') c'] 30)) t);have hST := k0_ (fun hfit hd w2 hT hk => HR.out.step hfit hd (.cells #[.int .i8 k', .slice B (Ty.len kids') c'] 30) (w2 := w2) hT hk);have HIa := k0_ (HIr.out.alloc (.cells #[.int .i8 k', .slice B (Ty.len kids') c'] 30));have HSa := k0_ (HSr.out.alloc (.cells #[.int .i8 k', .slice B (Ty.len kids') c'] 30));have HNa := k0_ (zG HNr.out (.cells #[.int .i8 k', .slice B (Ty.len kids') c'] 30));have HOa := k0_ (zy HR.out.only (.cells #[.int .i8 k', .slice B (Ty.len kids') c'] 30));generalize wr.alloc (.cells #[.int .i8 k', .slice B (Ty.len kids') c'] 30) = wa at *;generalize wr.heap.size = I at *;have hnl := Tm.zGs kids';have hdl := Tm.kg kids';have CN := k0_ (fun (W : World) (hb : Below wa.heap.size wa W) => zD6 k' kids' B (Ty.len kids') c' W (hIa.below hb));have CD := k0_ (fun (W : World) (hb : Below wa.heap.size wa W) => zDR k' kids' B (Ty.len kids') c' W (hIa.below hb));have D0 : Below wa.heap.size wa wa.drew := (Below.refl _ _).drew;have g1 : (0 : Int) <= (Ty.dpt kids' : Nat) /\ ((Ty.dpt kids' : Nat) : Int) <= 201 := by omega
          have HTa := k0_ hTa;clear hIa hTa
          by_cases hfit : n' + Ty.nod kids' <= 8192
          · have hC : ∀ (W : World) (hb : Below wa.heap.size wa W), Calls Tryz.prog 126 #[.pointer (some ⟨t, 0, none⟩), .int .i64 (Ty.nod kids' : Nat), .int .i64 ((d : Int) + (Ty.dpt kids' : Nat))] W (TLayOk W t (n' + Ty.nod kids') (max m' (d + Ty.dpt kids'))) := fun W hb => by
              have := zCY W t n' m' (Ty.nod kids') (d + Ty.dpt kids') (HTa.out.below hb) hfit (by omega) (by have := HR.out.m_le; omega)
              rwa [show ((d + Ty.dpt kids' : Nat) : Int) = (d : Int) + (Ty.dpt kids' : Nat) by omega] at this
            have HC := k0_ hC;have hST2 := k0_ (hST.out hfit (by omega));clear hC hST hfit;generalize Ty.nod kids' = N at *;generalize Ty.dpt kids' = D at *;have e1 : IntKind.i64.wrap ((d : Int) + (D : Int)) = (d : Int) + D := IntWalk.i64_in _ (by omega)
            go_region_held3 (fun w' => w'.cell? ⟨I, 0, none⟩ = some (.int .i8 k') /\ w'.cell? ⟨I, 1, none⟩ = some (.slice B (Ty.len kids') c'))
              (first | exact zAb ⟨b0, b1⟩ D2 | exact zAb ⟨b0, b1⟩ D1 | exact zAb ⟨b0, b1⟩ D0 | exact zHa (zAb ⟨b0, b1⟩ D2) hg3 hIt | go_keep)
              (first
                | (go_at_call 127; (with_reducible refine (CN.out _ D0).mono ?_); rintro e u1 ⟨rfl, hb⟩; have D1 := D0.trans (hb.mono D0.size); clear hb)
                | (go_at_call 128; (with_reducible refine (CD.out _ D1).mono ?_); rintro e u2 ⟨rfl, hb⟩; have D2 := D1.trans (hb.mono D1.size); clear hb)
                | (go_at_call 126; (with_reducible refine (HC.out _ D2).mono ?_); rintro e u3 ⟨rfl, hT3, hg3⟩))
            have hT2 := HTa.out.below D2;have hkept := Tm.Kept.grown hg3 (vw hT2);have hk3 := zI (jv hOnly.out D2) hg3;have HR3 := k0_ (hST2.out u3 hT3 hk3);have HI3' := k0_ ((HIa.out.below D2).kept hkept);have HS3' := k0_ ((HSa.out.below D2).grown hg3 (yV hT2 (HSa.out.below D2)));have HN3' := k0_ (zR hg3 hne (zB D2 (zD HNa.out) HNa.out));clear hT2 hkept hk3 hT3 hg3 D0 D1 D2 b0 b1
            go_wp2_with fail
            go_roundw
            case rel => exact ⟨i + 1, r, _, _, by go_num, HR3.out, HI3'.out, HS3'.out, HN3'.out⟩
            case measure => simp [intOf]; omega
          · have hC : ∀ (W : World) (hb : Below wa.heap.size wa W), Calls Tryz.prog 126 #[.pointer (some ⟨t, 0, none⟩), .int .i64 (Ty.nod kids' : Nat), .int .i64 ((d : Int) + (Ty.dpt kids' : Nat))] W (TLayBig W t) := fun W hb =>
              zAU W t n' m' (Ty.nod kids') _ (HTa.out.below hb) (by omega) h4 hnl
            have HC := k0_ hC;have hbig : 8192 < n + Tm.nd h kids := by have := HND.out; have := HN1.out; omega
            clear hC hST hfit;generalize Ty.nod kids' = N at *;generalize Ty.dpt kids' = D at *;have e1 : IntKind.i64.wrap ((d : Int) + (D : Int)) = (d : Int) + D := IntWalk.i64_in _ (by omega)
            go_region_with (first
                | (go_at_call 127; (with_reducible refine (CN.out _ D0).mono ?_); rintro e u1 ⟨rfl, hb⟩; have D1 := D0.trans (hb.mono D0.size); obtain ⟨b2, b3⟩ := zAb ⟨b0, b1⟩ D1; clear hb)
                | (go_at_call 128; (with_reducible refine (CD.out _ D1).mono ?_); rintro e u2 ⟨rfl, hb⟩; have D2 := D1.trans (hb.mono D1.size); clear hb)
                | (go_at_call 126; (with_reducible refine (HC.out _ D2).mono ?_); rintro e u3 ⟨rfl, hg3⟩; refine wL (P := Tryz.prog) (w := u3) ?_))
            all_goals exact ⟨rfl, .inr ⟨hbig, rfl, zI (jv HOa.out D2) hg3⟩⟩
    · have hnote := zAU _ t n m 1 d HT.out (by omega) hn (by omega)
      have HC := k0_ hnote;have hbig : 8192 < n + Tm.nd h kids := by have := HND.out; omega
      clear hnote
      go_enter Tryz.func94, Tryz.ntmps94
      go_wp2_with fail
      refine HC.out.mono ?_;rintro e w2 ⟨rfl, hg2⟩;exact ⟨rfl, .inr ⟨hbig, rfl, zI HO.out hg2⟩⟩
end Go.Proofs.YtepmjknljbafgaaGreatDoor
namespace Go.Proofs.YtepmjknljbafgaaGreatDoor
set_option maxRecDepth 100000
open Go.RowKit
theorem zCk (w : World) : (binOp .eql 20 (.iface 177 (.agg #[])) (.iface 177 (.agg #[]))).run Tryz.prog w = .ok (.bool true) w := by kernel_rfl
theorem zE3 (w : World) : (binOp .eql 20 .nilIface (.iface 177 (.agg #[]))).run Tryz.prog w = .ok (.bool false) w := by kernel_rfl
theorem zE1 (w : World) : (binOp .neq 20 .nilIface .nilIface).run Tryz.prog w = .ok (.bool false) w := by kernel_rfl
theorem uJ (p q : Addr) (x y : Value) (w : World) (hp : w.cell? p = some x) (hq : w.cell? q = some y) (fp : w.frozen? p = false) (fq : w.frozen? q = false) (hne : p ≠ q) :
    CallsD Tryz.prog 93 #[.pointer (some p), .pointer (some q)] (.panicking [{ v := .iface 177 (.agg #[]), recovered := false }]) w fun e u' w' =>
      e = .returned (.tuple #[]) /\ u' = .panicking [{ v := .iface 177 (.agg #[]), recovered := true }] /\ w' = (w.setCell p (.int .i64 8193)).setCell q (.int .i64 201) := by
  have e1 := zCk;have hq' : (w.setCell p (.int .i64 8193)).cell? q = some y := by rw [World.cell?_setCell_other w p q _ hne]; exact hq
  refine callsD_of_wpS Tryz.func93 rfl fun c₀ cs hu => ?_
  apply wpS_seq
  apply wpS_region
  simp [wpOpsS, go_sem, recoverD, hu, Tryz.ntmps93, Exit.thenS]
  refine wpS_of_wp ?_;change Code.wp _ _ _ { tmps := #[.pointer (some p), .pointer (some q), .iface 177 (.agg #[]), .iface 177 (.agg #[]), undef, undef, undef, undef, undef, undef, undef], defers := [] } w;clear hu
  go_wp2_with fail
  exact ⟨rfl, _, rfl, .tuple #[], by simp [results, Tryz.results93], rfl, rfl, rfl⟩
theorem zAH (p q : Addr) (w : World) :
    CallsD Tryz.prog 93 #[.pointer (some p), .pointer (some q)] .returning w fun e u' w' => e = .returned (.tuple #[]) /\ u' = .returning /\ w' = w := by
  have e1 := zE3;have e2 := zE1;refine callsD_of_wpS Tryz.func93 rfl fun c₀ cs hu => ?_
  apply wpS_seq
  apply wpS_region
  simp [wpOpsS, go_sem, recoverD, hu, Tryz.ntmps93, Exit.thenS]
  refine wpS_of_wp ?_;change Code.wp _ _ _ { tmps := #[.pointer (some p), .pointer (some q), .nilIface, .nilIface, undef, undef, undef, undef, undef, undef, undef], defers := [] } w
  go_wp2_with fail
  exact ⟨rfl, .returning, by cases c₀; simp_all, .tuple #[], by simp [results, Tryz.results93], rfl, rfl, rfl⟩
set_option maxHeartbeats 1000000 in
theorem zAC (h : Hd) (kids : Tm) (p : Pl) (w : World) (hIs : Tm.Is w h kids p) (hS : TShapes w) (hn : Tm.nd h kids <= 8192) :
    Calls Tryz.prog 69 #[.agg (tC_ h p)] w fun e w' => e = .returned (.tuple #[.int .i64 (Tm.nod h kids), .int .i64 (Tm.dpt h kids)]) /\ Below w.heap.size w w' := by
  try unfold tC_
  have hmf : ∀ (fn : Fn) (first cap : Array Value) (w : World), (Instr.makeFunc fn first cap).run Tryz.prog w = .ok (.func fn first cap) w := fun _ _ _ _ => rfl
  have hcall : ∀ (W : World) (_ : Tm.Is W h kids p /\ TShapes W) (t : Nat) (_ : TTape W t 0 0), Calls Tryz.prog 94 #[.pointer (some ⟨t, 0, none⟩), .agg (tC_ h p), .int .i64 1] W (TLayOk W t (Tm.nd h kids) (Tm.dp h kids)) := by
    intro W hh t hT;have := zAD (Tm.nodes kids + 1) h kids p W t 0 0 1 (by omega) hh.1 hh.2 hT (by omega) (by omega) (by omega);refine this.mono fun e w' hp => ?_
    rcases hp with ⟨_, h1⟩ | ⟨h1, _⟩
    · rw [show 0 + Tm.nd h kids = Tm.nd h kids by omega, show max 0 (1 + max (Tm.tyD h) (Tm.dep kids)) = Tm.dp h kids by unfold Tm.dp; omega] at h1
      exact h1
    · omega
  have e1 : Tm.nod h kids = Tm.nd h kids := by unfold Tm.nod; omega
  have e2 : Tm.dpt h kids = min (Tm.dp h kids) 201 := by unfold Tm.dpt; rw [if_neg (by omega)]
  rw [e1, e2];generalize Tm.nd h kids = N at *;generalize Tm.dp h kids = D at *;obtain ⟨M, hM⟩ : ∃ M : Nat, M = min D 201 := ⟨_, rfl⟩
  rw [← hM];have HM := k0_ hM;have HC := k0_ hcall;have HI : Hid (∀ (W : World), Below w.heap.size w W -> Tm.Is W h kids p /\ TShapes W) := k0_ fun W hb => ⟨hIs.below hb, hS.below hb⟩
  have H4 : ∀ o1 o2 o3 o4 : Obj, Below w.heap.size w ((((w.alloc o1).alloc o2).alloc o3).alloc o4) := fun o1 o2 o3 o4 => ((((Below.refl w.heap.size w).alloc (Nat.le_refl _) _).alloc (by simp) _).alloc (by simp <;> omega) _).alloc (by simp <;> omega) _
  clear hcall hIs hS e1 e2 hM
  all_goals
    have hD2 : (M : Int) = min (D : Int) 201 := by rw [HM.out]; omega
    have HD := k0_ hD2;clear hD2
    go_enter_defers Tryz.func69, Tryz.ntmps69
    go_wp2_with fail
    refine (HC.out _ (HI.out _ (H4 _ _ _ _)) _ ?_).mono ?_
    · exact zI5
    rintro e w5 ⟨rfl, hT, hg⟩;have hb5 : Below w.heap.size w w5 := ((((((Below.refl w.heap.size w).alloc (Nat.le_refl _) _).alloc (by simp) _).alloc (by simp <;> omega) _).alloc (by simp <;> omega) _)).grown hg (by simp <;> omega) (fun k hk => by injection hk with hk; omega);have r0 := zR (b := w.heap.size + 1) hg (by omega) (zG (zG (by have := zF (w.alloc (.cells (tC_ h p) 41)) (Obj.cells #[Value.int IntKind.i64 0] 3); simpa using this) _) _);have r1 := zR (b := w.heap.size + 1 + 1) hg (by omega) (zG (by have := zF ((w.alloc (.cells (tC_ h p) 41)).alloc (Obj.cells #[Value.int IntKind.i64 0] 3)) (Obj.cells #[Value.int IntKind.i64 0] 3); simpa using this) _);obtain ⟨t0, t1, f0, f1, htl⟩ := zK hT;obtain ⟨p0, p1, p2⟩ := qX r0;obtain ⟨q0, q1, q2⟩ := qX r1;clear hT hg r0 r1
    go_wp2_with fail
    go_region
    go_wp2_with fail
    have hB6 := ((hb5.setCell (show w.heap.size <= (⟨w.heap.size + 1, 0, none⟩ : Addr).block by simp) (Value.int IntKind.i64 N)).setCell (show w.heap.size <= (⟨w.heap.size + 1 + 1, 0, none⟩ : Addr).block by simp <;> omega) (Value.int IntKind.i64 M)).drew;obtain ⟨z0, z1⟩ := jl w5 (w.heap.size + 1) (w.heap.size + 1 + 1) (.int .i64 N) (.int .i64 M) (by omega) p0 q0;rw [HD.out] at hB6 z0 z1;refine leaves_cons (f := 93) (args := #[.pointer (some ⟨w.heap.size + 1, 0, none⟩), .pointer (some ⟨w.heap.size + 1 + 1, 0, none⟩)]) (by simp) (by simp [go_sem]) ?_;refine (zAH _ _ _).mono ?_;rintro e u' w6 ⟨rfl, rfl, rfl⟩;rw [HD.out];generalize (World.setCell _ _ _).drew = w6 at hB6 z0 z1 ⊢;exact ⟨.tuple #[.int .i64 N, _], by simp [results, Tryz.results69, go_sem, z0, z1], rfl, hB6⟩
set_option maxHeartbeats 1000000 in
theorem uG (h : Hd) (kids : Tm) (p : Pl) (w : World) (hIs : Tm.Is w h kids p) (hS : TShapes w) (hn : 8192 < Tm.nd h kids) :
    Calls Tryz.prog 69 #[.agg (tC_ h p)] w fun e w' => e = .returned (.tuple #[.int .i64 (Tm.nod h kids), .int .i64 (Tm.dpt h kids)]) /\ Below w.heap.size w w' := by
  try unfold tC_
  have hmf : ∀ (fn : Fn) (first cap : Array Value) (w : World), (Instr.makeFunc fn first cap).run Tryz.prog w = .ok (.func fn first cap) w := fun _ _ _ _ => rfl
  have hcall : ∀ (W : World) (_ : Tm.Is W h kids p /\ TShapes W) (t : Nat) (_ : TTape W t 0 0), Calls Tryz.prog 94 #[.pointer (some ⟨t, 0, none⟩), .agg (tC_ h p), .int .i64 1] W (TLayBig W t) := by
    intro W hh t hT;have := zAD (Tm.nodes kids + 1) h kids p W t 0 0 1 (by omega) hh.1 hh.2 hT (by omega) (by omega) (by omega);refine this.mono fun e w' hp => ?_
    rcases hp with ⟨h1, _⟩ | ⟨_, h1⟩
    · omega
    · exact h1
  have e1 : ((Tm.nod h kids : Nat) : Int) = 8193 := by unfold Tm.nod; omega
  have e2 : ((Tm.dpt h kids : Nat) : Int) = 201 := by unfold Tm.dpt; rw [if_pos hn]; rfl
  rw [e1, e2];have HC := k0_ hcall;have HI : Hid (∀ (W : World), Below w.heap.size w W -> Tm.Is W h kids p /\ TShapes W) := k0_ fun W hb => ⟨hIs.below hb, hS.below hb⟩
  have H4 : ∀ o1 o2 o3 o4 : Obj, Below w.heap.size w ((((w.alloc o1).alloc o2).alloc o3).alloc o4) := fun o1 o2 o3 o4 => ((((Below.refl w.heap.size w).alloc (Nat.le_refl _) _).alloc (by simp) _).alloc (by simp <;> omega) _).alloc (by simp <;> omega) _
  clear hcall hIs hS e1 e2
  go_enter_defers Tryz.func69, Tryz.ntmps69
  go_wp2_with fail
  refine (HC.out _ (HI.out _ (H4 _ _ _ _)) _ ?_).mono ?_
  · exact zI5
  rintro e w5 ⟨rfl, hg⟩;have hb5 : Below w.heap.size w w5 := ((((((Below.refl w.heap.size w).alloc (Nat.le_refl _) _).alloc (by simp) _).alloc (by simp <;> omega) _).alloc (by simp <;> omega) _)).grown hg (by simp <;> omega) (fun k hk => by injection hk with hk; omega);have r0 := zR (b := w.heap.size + 1) hg (by omega) (zG (zG (by have := zF (w.alloc (.cells (tC_ h p) 41)) (Obj.cells #[Value.int IntKind.i64 0] 3); simpa using this) _) _);have r1 := zR (b := w.heap.size + 1 + 1) hg (by omega) (zG (by have := zF ((w.alloc (.cells (tC_ h p) 41)).alloc (Obj.cells #[Value.int IntKind.i64 0] 3)) (Obj.cells #[Value.int IntKind.i64 0] 3); simpa using this) _);obtain ⟨p0, p1, p2⟩ := qX r0;obtain ⟨q0, q1, q2⟩ := qX r1;clear hg r0 r1;have hB6 := ((hb5.setCell (show w.heap.size <= (⟨w.heap.size + 1, 0, none⟩ : Addr).block by simp) (Value.int IntKind.i64 8193)).setCell (show w.heap.size <= (⟨w.heap.size + 1 + 1, 0, none⟩ : Addr).block by simp <;> omega) (Value.int IntKind.i64 201));obtain ⟨z0, z1⟩ := kR w5 (w.heap.size + 1) (w.heap.size + 1 + 1) (.int .i64 8193) (.int .i64 201) (by omega) p0 q0;refine leaves_cons (f := 93) (args := #[.pointer (some ⟨w.heap.size + 1, 0, none⟩), .pointer (some ⟨w.heap.size + 1 + 1, 0, none⟩)]) (by simp) (by simp [go_sem]) ?_;refine (uJ _ _ _ _ _ p0 q0 p1 q1 (by simp)).mono ?_;rintro e u' w6 ⟨rfl, rfl, rfl⟩;have z0' := z0;have z1' := z1;generalize (World.setCell _ _ _) = w6 at hB6 z0' z1' ⊢;exact ⟨.tuple #[.int .i64 8193, .int .i64 201], by simp [results, Tryz.results69, go_sem, z0', z1'], rfl, hB6⟩
theorem uH (h : Hd) (kids : Tm) (p : Pl) (w : World) (hIs : Tm.Is w h kids p) (hS : TShapes w) :
    Calls Tryz.prog 69 #[.agg (tC_ h p)] w fun e w' => e = .returned (.tuple #[.int .i64 (Tm.nod h kids), .int .i64 (Tm.dpt h kids)]) /\ Below w.heap.size w w' := by
  try unfold tC_
  rcases Nat.lt_or_ge 8192 (Tm.nd h kids) with hh | hh
  · exact uG h kids p w hIs hS hh
  · exact zAC h kids p w hIs hS hh
set_option maxHeartbeats 1000000
set_option maxRecDepth 100000
open Go.RowKit
structure TGlob (w : World) : Prop where
  terms : TShapes w
  types : Shapes w
  err : ∃ tp p, w.var? Tryz.prog "strconv.ErrRange" = some #[.iface tp p]
theorem TGlob.below {w w' : World} (h : TGlob w) (hb : Below w.heap.size w w') : TGlob w' :=
  ⟨h.terms.below hb, h.types.below hb, by obtain ⟨tp, p, hv⟩ := h.err; exact ⟨tp, p, jY hb hv⟩⟩
theorem TGlob.alloc {w : World} (h : TGlob w) (o : Obj) : TGlob (w.alloc o) := h.below ((Below.refl _ _).alloc (Nat.le_refl _) _)
namespace Ty
def anyF (q : Int -> Fo -> Bool) : Fo -> Bool
  | .nil => false
  | .node _ _ k kids r => q k kids || anyF q r
end Ty
namespace Tm
def anyF (q : Hd -> Tm -> Bool) : Tm -> Bool
  | .nil => false
  | .node h kids r => q h kids || anyF q r
theorem zCf (h : Hd) : Ty.anyF (fun k kids => Ty.chk k kids != 0) (tys h) = !tysOk h := by
  unfold tys tysOk;cases ht : hasType h.kind
  · have hu : hasTo h.kind = false := by
      exact zF9
    simp [hu, Ty.anyF]
  · cases hu : hasTo h.kind
    · simp [Ty.anyF, bne]
    · simp only [Ty.anyF, bne, if_true, Bool.not_true, Bool.false_or, Bool.or_false]
      cases (Ty.chk h.tk h.tkids == 0) <;> cases (Ty.chk h.uk h.ukids == 0) <;> rfl
theorem zCW : ∀ f : Tm, anyF (fun h kids => !okT h kids) f = !okF f
  | .nil => rfl
  | .node h kids r => by
    simp only [anyF, okF];rw [zCW r];have : okT h kids = (headOk h (len kids) && okF kids) := rfl;rw [this];cases headOk h (len kids) <;> cases okF kids <;> cases okF r <;> rfl
end Tm
theorem zA9 (k : Int) (kids : Fo) (A : Option Addr) (n c : Nat) (w : World) (hIs : Ty.Is w k kids A n c) (hS : Shapes w) :
    Calls Tryz.prog 100 #[.agg #[.int .i8 k, .slice A n c]] w fun e w' => e = .returned (.bool (Ty.chk k kids != 0)) /\ Below w.heap.size w w' := by
  have hB0 := (Below.refl w.heap.size w).alloc (Nat.le_refl _) (.cells #[.int .i8 k, .slice A n c] 30);have HC := k0_ (fun (W : World) (hb : Below w.heap.size w W) => qc k kids A n c W (hIs.below hb) (hS.below hb));clear hIs hS
  have e1 : (Ty.chk k kids != 0) = (((Ty.chk k kids : Nat) : Int) != 0) := by
    generalize Ty.chk k kids = N;rw [Bool.eq_iff_iff]; simp
  rw [e1];generalize ((Ty.chk k kids : Nat) : Int) = N at *;clear e1
  go_enter Tryz.func100, Tryz.ntmps100
  go_wp2_with fail
  refine (HC.out _ hB0).mono ?_;exact zF6
def Ty.firstI (q : Int -> Fo -> Bool) : Fo -> Nat -> Int
  | .nil, _ => -1
  | .node _ _ k kids r, i => if q k kids then i else Ty.firstI q r (i + 1)
theorem Ty.jO (q : Int -> Fo -> Bool) : ∀ (f : Fo) (i : Nat), 0 <= Ty.firstI q f i ↔ Ty.anyF q f = true
  | .nil, _ => by simp [Ty.firstI, Ty.anyF]
  | .node _ _ k kids r, i => by
    simp only [Ty.firstI, Ty.anyF, Bool.or_eq_true]
    by_cases hq : q k kids = true
    · rw [if_pos hq]; simp [hq]
    · rw [if_neg hq, Ty.jO q r (i + 1)]; simp [hq]
theorem Ty.vX (q : Int -> Fo -> Bool) (f : Fo) (i : Nat) : decide (0 <= Ty.firstI q f i) = Ty.anyF q f := by
  rw [Bool.eq_iff_iff, decide_eq_true_eq]; exact Ty.jO q f i
def Tm.firstI (q : Hd -> Tm -> Bool) : Tm -> Nat -> Int
  | .nil, _ => -1
  | .node h kids r, i => if q h kids then i else Tm.firstI q r (i + 1)
theorem Tm.jO (q : Hd -> Tm -> Bool) : ∀ (f : Tm) (i : Nat), 0 <= Tm.firstI q f i ↔ Tm.anyF q f = true
  | .nil, _ => by simp [Tm.firstI, Tm.anyF]
  | .node h kids r, i => by
    simp only [Tm.firstI, Tm.anyF, Bool.or_eq_true]
    by_cases hq : q h kids = true
    · rw [if_pos hq]; simp [hq]
    · rw [if_neg hq, Tm.jO q r (i + 1)]; simp [hq]
theorem Tm.vX (q : Hd -> Tm -> Bool) (f : Tm) (i : Nat) : decide (0 <= Tm.firstI q f i) = Tm.anyF q f := by
  rw [Bool.eq_iff_iff, decide_eq_true_eq]; exact Tm.jO q f i
theorem uE (f : FuncId) (q : Int -> Fo -> Bool) (kids : Fo) (A : Option Addr) (n c : Nat) (w : World) (hL : Ty.Lies w kids A 0) (hn : n = Ty.len kids) (hnc : n <= c) (hc : c <= maxLen)
    (hcf : ∀ (args : Array Value) (W : World), (callFunc f args).run Tryz.prog W = .ok (.enter f args) W)
    (hf : ∀ (k' : Int) (kids' : Fo) (A' : Option Addr) (n' c' : Nat) (W : World), Ty.Is W k' kids' A' n' c' -> Below w.heap.size w W -> Calls Tryz.prog f #[.agg #[.int .i8 k', .slice A' n' c']] W fun e w' => e = .returned (.bool (q k' kids')) /\ Below W.heap.size W w') :
    Calls Tryz.prog 130 #[.slice A n c, .func (Fn.func f) #[] #[]] w fun e w' => e = .returned (.int .i64 (Ty.firstI q kids 0)) /\ Below w.heap.size w w' := by
  have hst := Over.start hL hn;have HF := k0_ hf;have HS := k0_ hst;have i5 : (n : Int) <= 9223372036854775807 := by unfold maxLen at hc; omega
  clear hst hn hf hL;obtain ⟨R, hR⟩ : ∃ R, Ty.firstI q kids 0 = R := ⟨_, rfl⟩
  rw [hR];have HR := k0_ hR;clear hR
  go_enter Tryz.func130, Tryz.ntmps130
  go_wp2_with fail
  go_loopw [8] (fun v wr => ∃ (i : Nat) (rest : Fo), v = .int .i64 i /\ Over w wr A n (Ty.nodes kids) i rest /\ Ty.firstI q rest i = R) (fun v _ => n - (intOf v).toNat)
  case atStart => exact ⟨0, kids, rfl, HS.out, HR.out⟩
  case round =>
    obtain ⟨i, rest, rfl, hO, hR⟩ := hrel
    cases rest with
    | nil =>
      have hi : i = n := by have := hO.i_eq; simpa [Ty.len] using this
      have hB := hO.below;clear hO;simp only [Ty.firstI] at hR;subst hi;subst hR
      go_wp2_with fail
      go_ret
      exact ⟨rfl, hB⟩
    | node a b k' kids' r =>
      have hst := fun w2 hb => Over.step (w2 := w2) hO hb
      have h1 := hO.i_eq;have h2 := hO.lies;have h4 := hO.below;simp only [Ty.len, Ty.firstI] at h1 hR;obtain ⟨bb, oo, B, c', rfl, ⟨hk1, hk2⟩, c1, c2, hl1, hl2, hl3, hl4⟩ := h2;have hcall := HF.out k' kids' B (Ty.len kids') c' wr ⟨hl3, rfl, hl1, hl2, hk1, hk2⟩ h4;have HS := k0_ hst;have HL := k0_ hl4;have HRR := k0_ hR;have j1 : (i : Int) < n := by omega
      clear hst hl3 hl4 hO hR;cases hp : q k' kids'
      · have hp0 := HRR.out
        rw [hp, if_neg (by simp)] at hp0;have HP := k0_ hp0;rw [hp] at hcall;have HC := k0_ hcall;clear hp hp0 hcall
        go_wp2_with fail
        refine HC.out.mono ?_;rintro e w2 ⟨rfl, hb⟩;have hbb := k0_ (HS.out w2 hb HL.out);exact zHw
      · have hp0 : R = i := by rw [← HRR.out, hp]; rfl
        rw [hp] at hcall;have HC := k0_ hcall;clear hp hcall;subst hp0
        go_wp2_with fail
        refine HC.out.mono ?_;rintro e w2 ⟨rfl, hb⟩
        go_wp2_with fail
        go_ret
        exact ⟨rfl, h4.trans (hb.mono h4.size)⟩
theorem yJ (f : FuncId) (q : Int -> Fo -> Bool) (kids : Fo) (A : Option Addr) (n c : Nat) (w : World) (hL : Ty.Lies w kids A 0) (hn : n = Ty.len kids) (hnc : n <= c) (hc : c <= maxLen)
    (hcf : ∀ (args : Array Value) (W : World), (callFunc f args).run Tryz.prog W = .ok (.enter f args) W)
    (hf : ∀ (k' : Int) (kids' : Fo) (A' : Option Addr) (n' c' : Nat) (W : World), Ty.Is W k' kids' A' n' c' -> Below w.heap.size w W -> Calls Tryz.prog f #[.agg #[.int .i8 k', .slice A' n' c']] W fun e w' => e = .returned (.bool (q k' kids')) /\ Below W.heap.size W w') :
    Calls Tryz.prog 98 #[.slice A n c, .func (Fn.func f) #[] #[]] w fun e w' => e = .returned (.bool (Ty.anyF q kids)) /\ Below w.heap.size w w' := by
  have HI := k0_ (uE f q kids A n c w hL hn hnc hc hcf hf);rw [← Ty.vX q kids 0];clear hL hn hf hcf;generalize Ty.firstI q kids 0 = R at *
  go_enter Tryz.func98, Tryz.ntmps98
  go_wp2_with fail
  refine HI.out.mono ?_;rintro e w2 ⟨rfl, hb⟩
  go_wp2_with fail
  go_ret
  exact ⟨rfl, hb⟩
set_option maxHeartbeats 2000000
set_option maxRecDepth 100000
open Go.RowKit
structure OverT (w wr : World) (A : Option Addr) (n nk : Nat) (i : Nat) (rest : Tm) : Prop where
  i_eq : i + Tm.len rest = n
  lies : Tm.Lies wr rest A i
  sub : Tm.nodes rest <= nk
  below : Below w.heap.size w wr
theorem OverT.step {w wr w2 : World} {A : Option Addr} {n nk i : Nat} {h : Hd} {kids r : Tm} (g : OverT w wr A n nk i (.node h kids r)) (hb : Below wr.heap.size wr w2) (hA : Tm.Lies wr r A (i + 1)) : OverT w w2 A n nk (i + 1) r := by
  obtain ⟨h1, h2, h3, h4⟩ := g;simp only [Tm.len, Tm.nodes] at h1 h3;exact ⟨by omega, hA.below hb, by omega, h4.trans (hb.mono h4.size)⟩
theorem OverT.start {w : World} {A : Option Addr} {kids : Tm} {n : Nat} (h : Tm.Lies w kids A 0) (hn : n = Tm.len kids) : OverT w w A n (Tm.nodes kids) 0 kids := ⟨by omega, h, Nat.le_refl _, Below.refl _ _⟩
theorem Tm.row {w : World} {b o : Nat} {h : Hd} {p : Pl} (hcs : ∀ j v, (h.cells p)[j]? = some v -> w.cell? ⟨b, o + j, none⟩ = some v) :
    w.cell? ⟨b, o, none⟩ = some (.int .i8 h.kind) /\ w.cell? ⟨b, o + 1, none⟩ = some (.string h.name) /\ w.cell? ⟨b, o + 2, none⟩ = some (.string h.arg) /\ w.cell? ⟨b, o + 3, none⟩ = some (.int .i64 h.num) /\
    w.cell? ⟨b, o + 4, none⟩ = some (.int .i8 h.tk) /\ w.cell? ⟨b, o + 5, none⟩ = some (.slice p.TA p.tn p.tc) /\ w.cell? ⟨b, o + 6, none⟩ = some (.int .i8 h.uk) /\ w.cell? ⟨b, o + 7, none⟩ = some (.slice p.UA p.un p.uc) /\
    w.cell? ⟨b, o + 8, none⟩ = some (.int .i64 h.label) /\ w.cell? ⟨b, o + 9, none⟩ = some (.int .i64 h.pos) /\ w.cell? ⟨b, o + 10, none⟩ = some (.slice p.A p.n p.c) :=
  ⟨hcs 0 _ rfl, hcs 1 _ rfl, hcs 2 _ rfl, hcs 3 _ rfl, hcs 4 _ rfl, hcs 5 _ rfl, hcs 6 _ rfl, hcs 7 _ rfl, hcs 8 _ rfl, hcs 9 _ rfl, hcs 10 _ rfl⟩
theorem uI (f : FuncId) (q : Hd -> Tm -> Bool) (kids : Tm) (A : Option Addr) (n c : Nat) (w : World) (hL : Tm.Lies w kids A 0) (hn : n = Tm.len kids) (hnc : n <= c) (hc : c <= maxLen)
    (hcf : ∀ (args : Array Value) (W : World), (callFunc f args).run Tryz.prog W = .ok (.enter f args) W)
    (hf : ∀ (h : Hd) (kids' : Tm) (p : Pl) (W : World), Tm.nodes kids' < Tm.nodes kids -> Tm.Is W h kids' p -> Below w.heap.size w W -> Calls Tryz.prog f #[.agg (tC_ h p)] W fun e w' => e = .returned (.bool (q h kids')) /\ Below W.heap.size W w') :
    Calls Tryz.prog 131 #[.slice A n c, .func (Fn.func f) #[] #[]] w fun e w' => e = .returned (.int .i64 (Tm.firstI q kids 0)) /\ Below w.heap.size w w' := by
  try unfold tC_
  exact c6_
theorem yK (f : FuncId) (q : Hd -> Tm -> Bool) (kids : Tm) (A : Option Addr) (n c : Nat) (w : World) (hL : Tm.Lies w kids A 0) (hn : n = Tm.len kids) (hnc : n <= c) (hc : c <= maxLen)
    (hcf : ∀ (args : Array Value) (W : World), (callFunc f args).run Tryz.prog W = .ok (.enter f args) W)
    (hf : ∀ (h : Hd) (kids' : Tm) (p : Pl) (W : World), Tm.nodes kids' < Tm.nodes kids -> Tm.Is W h kids' p -> Below w.heap.size w W -> Calls Tryz.prog f #[.agg (tC_ h p)] W fun e w' => e = .returned (.bool (q h kids')) /\ Below W.heap.size W w') :
    Calls Tryz.prog 101 #[.slice A n c, .func (Fn.func f) #[] #[]] w fun e w' => e = .returned (.bool (Tm.anyF q kids)) /\ Below w.heap.size w w' := by
  try unfold tC_
  have HI := k0_ (uI f q kids A n c w hL hn hnc hc hcf hf);exact zI6
theorem uW (h : Hd) (p : Pl) (w : World) (n0 : Nat) (hF : Tm.Fit w h p n0) (hG : TGlob w) (b2 b3 b4 b5 : Bool) (kn : Int) :
    Calls Tryz.prog 96 #[.agg (tC_ h p), .agg #[.bool (Tm.hasName h.kind), .bool (Tm.hasArg h.kind), .bool b2, .bool b3, .bool b4, .bool b5, .int .i64 kn]] w fun e w' => e = .returned (.bool (!Tm.nameOk h)) /\ Below w.heap.size w w' := by
  try unfold tC_
  have hB0 : Below w.heap.size w ((w.alloc (.cells (tC_ h p) 41)).alloc (.cells #[.bool (Tm.hasName h.kind), .bool (Tm.hasArg h.kind), .bool b2, .bool b3, .bool b4, .bool b5, .int .i64 kn] 180)) :=
    ((Below.refl _ _).alloc (Nat.le_refl _) _).alloc (by simp) _
  have HN := k0_ (fun (W : World) (hb : Below w.heap.size w W) => by
    obtain ⟨tp, q, hv⟩ := (hG.below hb).err
    exact jS h.name hF.nm W tp q hv)
  have HA := k0_ (fun (W : World) (hb : Below w.heap.size w W) => by
    obtain ⟨tp, q, hv⟩ := (hG.below hb).err
    exact jS h.arg hF.ar W tp q hv)
  obtain ⟨r0, r1, r2⟩ := qf w (.cells (tC_ h p) 41) (.cells #[.bool (Tm.hasName h.kind), .bool (Tm.hasArg h.kind), .bool b2, .bool b3, .bool b4, .bool b5, .int .i64 kn] 180);have R0 := k0_ r0;have R1 := k0_ r1;clear hF hG r0 r1 r2
  by_cases hk : h.kind = 15
  · have e1 : Tm.nameOk h = Tm.isOp h.name := by unfold Tm.nameOk; rw [if_pos hk]
    have HO := k0_ (uT h.name);have hk2 : (h.kind == 15) = true := by rw [hk]; rfl
    rw [e1];generalize Tm.isOp h.name = R at *;clear hk e1
    go_enter Tryz.func96, Tryz.ntmps96
    go_wp2_with fail
    refine (HO.out _).mono ?_;rintro e w2 ⟨rfl, rfl⟩
    go_wp2_with fail
    go_ret
    exact ⟨rfl, hB0⟩
  · have hk2 : (h.kind == 15) = false := by simpa using hk
    have e1 : Tm.nameOk h = ((!Tm.hasName h.kind || Sc.isName h.name) && (!Tm.hasArg h.kind || Sc.isName h.arg)) := by unfold Tm.nameOk; rw [if_neg hk]
    rw [e1];clear hk e1;generalize Sc.isName h.name = x at *;generalize Sc.isName h.arg = y at *;generalize Tm.hasName h.kind = a at *;generalize Tm.hasArg h.kind = b at *;have HP := hB0.size;cases a
    · cases b
      · go_enter Tryz.func96, Tryz.ntmps96
        go_wp2_with fail
        go_ret
        exact ⟨rfl, hB0⟩
      · go_enter Tryz.func96, Tryz.ntmps96
        go_wp2_with fail
        refine (HA.out _ hB0).mono ?_;rintro e w2 ⟨rfl, hb⟩;exact zFA
    · cases x
      · go_enter Tryz.func96, Tryz.ntmps96
        go_wp2_with fail
        refine (HN.out _ hB0).mono ?_;rintro e w2 ⟨rfl, hb⟩;exact zFA
      · cases b
        · go_enter Tryz.func96, Tryz.ntmps96
          go_wp2_with fail
          refine (HN.out _ hB0).mono ?_;rintro e w2 ⟨rfl, hb⟩;obtain ⟨s0, s1, s2, s3, s4, s5, s6, sl⟩ := kC (zB hb (by simp) R1.out);exact zFA
        · go_enter Tryz.func96, Tryz.ntmps96
          go_wp2_with fail
          refine (HN.out _ hB0).mono ?_;rintro e w2 ⟨rfl, hb⟩;obtain ⟨s0, s1, s2, s3, s4, s5, s6, sl⟩ := kC (zB hb (by simp) R1.out);obtain ⟨q0, q1, q2, q3, q4, q5, q6, q7, q8, q9, q10, ql⟩ := zS (zB hb (by simp; omega) R0.out);have hB2 := hB0.trans (hb.mono HP);clear hb
          go_wp2_with fail
          refine (HA.out _ hB2).mono ?_;rintro e w3 ⟨rfl, hb⟩
          go_wp2_with fail
          go_ret
          exact ⟨rfl, hB2.trans (hb.mono hB2.size)⟩
end Go.Proofs.YtepmjknljbafgaaGreatDoor
namespace Go.Proofs.YtepmjknljbafgaaGreatDoor
open Go.RowKit
theorem zC5 (args : Array Value) (W : World) : (callFunc 100 args).run Tryz.prog W = .ok (.enter 100 args) W := by simp [go_sem]
theorem uz (args : Array Value) (W : World) : (callFunc 70 args).run Tryz.prog W = .ok (.enter 70 args) W := by simp [go_sem]
theorem Tm.zGq (h : Hd) (kids : Tm) : Tm.okT h kids = (Tm.isKind h.kind && (decide (Tm.len kids = Tm.kidsN h.kind) && (Tm.nameOk h && ((!Tm.hasLabel h.kind || Tm.labelOk h.label) && (Tm.tysOk h && Tm.okF kids))))) := by
  unfold Tm.okT Tm.headOk;simp only [Bool.and_assoc]
set_option maxHeartbeats 8000000 in
set_option maxRecDepth 100000 in
theorem xu (K : Nat) : ∀ (h : Hd) (kids : Tm) (p : Pl) (w : World), Tm.nodes kids < K -> Tm.Is w h kids p -> TGlob w ->
    Calls Tryz.prog 70 #[.agg (tC_ h p)] w fun e w' => e = .returned (.bool (!Tm.okT h kids)) /\ Below w.heap.size w w' := by
  try unfold tC_
  induction K with
  | zero => intro _ _ _ _ hK; omega
  | succ K ih =>
    intro h kids p w hK hIs hG;have hB0 : Below w.heap.size w (w.alloc (.cells (tC_ h p) 41)) := (Below.refl _ _).alloc (Nat.le_refl _) _;have hsh := yC h.kind (w.alloc (.cells (tC_ h p) 41)) hIs.fit.klo hIs.fit.khi (hG.terms.below hB0);have HN := k0_ (zF w (.cells (tC_ h p) 41));have HI := k0_ (fun (W : World) (hb : Below w.heap.size w W) => hIs.below hb);have HG := k0_ (fun (W : World) (hb : Below w.heap.size w W) => hG.below hb);have HM := k0_ (fun (W : World) (hb : Below w.heap.size w W) (b2 b3 b4 b5 : Bool) (kn : Int) => uW h p W _ (hIs.below hb).fit (hG.below hb) b2 b3 b4 b5 kn);have HT := k0_ (fun (W : World) (hb : Below w.heap.size w W) => yB h _ p W (hIs.below hb).fit (hG.terms.below hb));have HL := k0_ (fun (W : World) => zD8 h.label W hIs.fit.llo hIs.fit.lhi)
    have HU := k0_ (fun (W : World) (hb : Below w.heap.size w W) (A : Option Addr) (n c : Nat) (hL : Ty.Lies W (Tm.tys h) A 0) (hn : n = Ty.len (Tm.tys h)) (hnc : n <= c) (hc : c <= maxLen) =>
      yJ 100 (fun k kids => Ty.chk k kids != 0) (Tm.tys h) A n c W hL hn hnc hc zC5
        (fun k' kids' A' n' c' W' h1 h2 => zA9 k' kids' A' n' c' W' h1 ((hG.types.below hb).below h2)))
    rw [Tm.zCf] at HU
    have HK := k0_ (fun (W : World) (hb : Below w.heap.size w W) =>
      yK 70 (fun h kids => !Tm.okT h kids) kids p.A p.n p.c W (hIs.below hb).lies hIs.fit.n_eq hIs.fit.n_le hIs.fit.c_le uz
        (fun h' kids' p' W' h0 h1 h2 => ih h' kids' p' W' (by omega) h1 ((hG.below hb).below h2)))
    rw [Tm.zCW] at HK;have i5 : (p.n : Int) <= 9223372036854775807 := by have h1 := hIs.fit.n_le; have h2 := hIs.fit.c_le; unfold maxLen at h2; omega
    have HNE := k0_ hIs.fit.n_eq;clear ih hIs hG hK;have HO := k0_ (Tm.zGq h kids);generalize hR : Tm.okT h kids = R at *;clear hR;generalize Tm.okF kids = okk at *;generalize Tm.tysOk h = okt at *;generalize Tm.labelOk h.label = okl at *;generalize Tm.nameOk h = okn at *;generalize ha0 : Tm.hasName h.kind = a0 at *;generalize ha1 : Tm.hasArg h.kind = a1 at *;generalize Tm.hasNum h.kind = a2 at *;generalize Tm.hasType h.kind = a3 at *;generalize Tm.hasTo h.kind = a4 at *;generalize Tm.hasLabel h.kind = a5 at *;generalize Tm.kidsN h.kind = kn at *;generalize Tm.isKind h.kind = ik at *;clear ha0 ha1;cases ik
    · obtain rfl : R = false := by rw [HO.out]; rfl
      clear HO HNE;exact zIM
    by_cases hl : p.n = kn
    · have hl2 : ((p.n : Int) != (kn : Int)) = false := by simp; omega
      have hO := HO.out;rw [show decide (Tm.len kids = kn) = true by simp; have := HNE.out; omega] at hO;simp only [Bool.true_and] at hO;clear HO HNE;cases okn
      · obtain rfl : R = false := by rw [hO]; rfl
        clear hO hl;have HSH := k0_ hsh;clear hsh
        go_enter Tryz.func70, Tryz.ntmps70
        go_wp2_with fail
        refine HSH.out.mono ?_;rintro e w2 ⟨rfl, hb⟩;have hB2 := hB0.trans (hb.mono hB0.size);have RB2 := k0_ (zB hb (by simp) HN.out);obtain ⟨q0, q1, q2, q3, q4, q5, q6, q7, q8, q9, q10, ql⟩ := zS RB2.out;clear hb
        go_wp2_with fail
        have hB3 := hB2.alloc hB2.size (.cells #[.bool a0, .bool a1, .bool a2, .bool a3, .bool a4, .bool a5, .int .i64 kn] 180);refine (HM.out _ hB3 _ _ _ _ _).mono ?_;rintro e w4 ⟨rfl, hb⟩;have RS := k0_ (zF w2 (.cells #[.bool a0, .bool a1, .bool a2, .bool a3, .bool a4, .bool a5, .int .i64 kn] 180));have hB4 := hB3.trans (hb.mono hB3.size);have RB4 := k0_ (zB hb (by simp; omega) (zG RB2.out (.cells #[.bool a0, .bool a1, .bool a2, .bool a3, .bool a4, .bool a5, .int .i64 kn] 180)));have RS4 := kp_ hb RS;clear q0 q1 q2 q3 q4 q5 q6 q7 q8 q9 q10 ql;obtain ⟨q0, q1, q2, q3, q4, q5, q6, q7, q8, q9, q10, ql⟩ := zS RB4.out;obtain ⟨s0, s1, s2, s3, s4, s5, s6, sl⟩ := kC RS4.out;clear hb
        go_wp2_with fail
        go_ret
        exact ⟨rfl, hB4⟩
      · cases a5
        · simp only [Bool.not_false, Bool.true_or, Bool.true_and] at hO
          cases okt
          · obtain rfl : R = false := by rw [hO]; rfl
            clear hO hl;have HSH := k0_ hsh;clear hsh
            go_enter Tryz.func70, Tryz.ntmps70
            go_wp2_with fail
            refine HSH.out.mono ?_;rintro e w2 ⟨rfl, hb⟩;have hB2 := hB0.trans (hb.mono hB0.size);have RB2 := k0_ (zB hb (by simp) HN.out);obtain ⟨q0, q1, q2, q3, q4, q5, q6, q7, q8, q9, q10, ql⟩ := zS RB2.out;clear hb
            go_wp2_with fail
            have hB3 := hB2.alloc hB2.size (.cells #[.bool a0, .bool a1, .bool a2, .bool a3, .bool a4, .bool false, .int .i64 kn] 180);refine (HM.out _ hB3 _ _ _ _ _).mono ?_;rintro e w4 ⟨rfl, hb⟩;have RS := k0_ (zF w2 (.cells #[.bool a0, .bool a1, .bool a2, .bool a3, .bool a4, .bool false, .int .i64 kn] 180));have hB4 := hB3.trans (hb.mono hB3.size);have RB4 := k0_ (zB hb (by simp; omega) (zG RB2.out (.cells #[.bool a0, .bool a1, .bool a2, .bool a3, .bool a4, .bool false, .int .i64 kn] 180)));have RS4 := kp_ hb RS;clear q0 q1 q2 q3 q4 q5 q6 q7 q8 q9 q10 ql;obtain ⟨q0, q1, q2, q3, q4, q5, q6, q7, q8, q9, q10, ql⟩ := zS RB4.out;obtain ⟨s0, s1, s2, s3, s4, s5, s6, sl⟩ := kC RS4.out;clear hb;exact zIV
          · obtain rfl : R = okk := by rw [hO]; rfl
            clear hO hl;have HSH := k0_ hsh;clear hsh
            go_enter Tryz.func70, Tryz.ntmps70
            go_wp2_with fail
            refine HSH.out.mono ?_;rintro e w2 ⟨rfl, hb⟩;have hB2 := hB0.trans (hb.mono hB0.size);have RB2 := k0_ (zB hb (by simp) HN.out);obtain ⟨q0, q1, q2, q3, q4, q5, q6, q7, q8, q9, q10, ql⟩ := zS RB2.out;clear hb
            go_wp2_with fail
            have hB3 := hB2.alloc hB2.size (.cells #[.bool a0, .bool a1, .bool a2, .bool a3, .bool a4, .bool false, .int .i64 kn] 180);refine (HM.out _ hB3 _ _ _ _ _).mono ?_;rintro e w4 ⟨rfl, hb⟩;have RS := k0_ (zF w2 (.cells #[.bool a0, .bool a1, .bool a2, .bool a3, .bool a4, .bool false, .int .i64 kn] 180));have hB4 := hB3.trans (hb.mono hB3.size);have RB4 := k0_ (zB hb (by simp; omega) (zG RB2.out (.cells #[.bool a0, .bool a1, .bool a2, .bool a3, .bool a4, .bool false, .int .i64 kn] 180)));have RS4 := kp_ hb RS;clear q0 q1 q2 q3 q4 q5 q6 q7 q8 q9 q10 ql;obtain ⟨q0, q1, q2, q3, q4, q5, q6, q7, q8, q9, q10, ql⟩ := zS RB4.out;obtain ⟨s0, s1, s2, s3, s4, s5, s6, sl⟩ := kC RS4.out;clear hb;exact zIW
        · cases okl
          · obtain rfl : R = false := by rw [hO]; rfl
            clear hO hl;have HSH := k0_ hsh;clear hsh
            go_enter Tryz.func70, Tryz.ntmps70
            go_wp2_with fail
            refine HSH.out.mono ?_;rintro e w2 ⟨rfl, hb⟩;have hB2 := hB0.trans (hb.mono hB0.size);have RB2 := k0_ (zB hb (by simp) HN.out);obtain ⟨q0, q1, q2, q3, q4, q5, q6, q7, q8, q9, q10, ql⟩ := zS RB2.out;clear hb
            go_wp2_with fail
            have hB3 := hB2.alloc hB2.size (.cells #[.bool a0, .bool a1, .bool a2, .bool a3, .bool a4, .bool true, .int .i64 kn] 180);refine (HM.out _ hB3 _ _ _ _ _).mono ?_;rintro e w4 ⟨rfl, hb⟩;have RS := k0_ (zF w2 (.cells #[.bool a0, .bool a1, .bool a2, .bool a3, .bool a4, .bool true, .int .i64 kn] 180));have hB4 := hB3.trans (hb.mono hB3.size);have RB4 := k0_ (zB hb (by simp; omega) (zG RB2.out (.cells #[.bool a0, .bool a1, .bool a2, .bool a3, .bool a4, .bool true, .int .i64 kn] 180)));have RS4 := kp_ hb RS;clear q0 q1 q2 q3 q4 q5 q6 q7 q8 q9 q10 ql;obtain ⟨q0, q1, q2, q3, q4, q5, q6, q7, q8, q9, q10, ql⟩ := zS RB4.out;obtain ⟨s0, s1, s2, s3, s4, s5, s6, sl⟩ := kC RS4.out;clear hb
            go_wp2_with fail
            refine (HL.out _).mono ?_;rintro e w5 ⟨rfl, rfl⟩
            go_wp2_with fail
            go_ret
            exact ⟨rfl, hB4⟩
          · simp only [Bool.not_true, Bool.false_or, Bool.true_and] at hO
            cases okt
            · obtain rfl : R = false := by rw [hO]; rfl
              clear hO hl;have HSH := k0_ hsh;clear hsh
              go_enter Tryz.func70, Tryz.ntmps70
              go_wp2_with fail
              refine HSH.out.mono ?_;rintro e w2 ⟨rfl, hb⟩;have hB2 := hB0.trans (hb.mono hB0.size);have RB2 := k0_ (zB hb (by simp) HN.out);obtain ⟨q0, q1, q2, q3, q4, q5, q6, q7, q8, q9, q10, ql⟩ := zS RB2.out;clear hb
              go_wp2_with fail
              have hB3 := hB2.alloc hB2.size (.cells #[.bool a0, .bool a1, .bool a2, .bool a3, .bool a4, .bool true, .int .i64 kn] 180);refine (HM.out _ hB3 _ _ _ _ _).mono ?_;rintro e w4 ⟨rfl, hb⟩;have RS := k0_ (zF w2 (.cells #[.bool a0, .bool a1, .bool a2, .bool a3, .bool a4, .bool true, .int .i64 kn] 180));have hB4 := hB3.trans (hb.mono hB3.size);have RB4 := k0_ (zB hb (by simp; omega) (zG RB2.out (.cells #[.bool a0, .bool a1, .bool a2, .bool a3, .bool a4, .bool true, .int .i64 kn] 180)));have RS4 := kp_ hb RS;clear q0 q1 q2 q3 q4 q5 q6 q7 q8 q9 q10 ql;obtain ⟨q0, q1, q2, q3, q4, q5, q6, q7, q8, q9, q10, ql⟩ := zS RB4.out;obtain ⟨s0, s1, s2, s3, s4, s5, s6, sl⟩ := kC RS4.out;clear hb
              go_wp2_with fail
              refine (HL.out _).mono ?_;rintro e w5 ⟨rfl, rfl⟩;exact zIV
            · obtain rfl : R = okk := by rw [hO]; rfl
              clear hO hl;have HSH := k0_ hsh;clear hsh
              go_enter Tryz.func70, Tryz.ntmps70
              go_wp2_with fail
              refine HSH.out.mono ?_;rintro e w2 ⟨rfl, hb⟩;have hB2 := hB0.trans (hb.mono hB0.size);have RB2 := k0_ (zB hb (by simp) HN.out);obtain ⟨q0, q1, q2, q3, q4, q5, q6, q7, q8, q9, q10, ql⟩ := zS RB2.out;clear hb
              go_wp2_with fail
              have hB3 := hB2.alloc hB2.size (.cells #[.bool a0, .bool a1, .bool a2, .bool a3, .bool a4, .bool true, .int .i64 kn] 180);refine (HM.out _ hB3 _ _ _ _ _).mono ?_;rintro e w4 ⟨rfl, hb⟩;have RS := k0_ (zF w2 (.cells #[.bool a0, .bool a1, .bool a2, .bool a3, .bool a4, .bool true, .int .i64 kn] 180));have hB4 := hB3.trans (hb.mono hB3.size);have RB4 := k0_ (zB hb (by simp; omega) (zG RB2.out (.cells #[.bool a0, .bool a1, .bool a2, .bool a3, .bool a4, .bool true, .int .i64 kn] 180)));have RS4 := kp_ hb RS;clear q0 q1 q2 q3 q4 q5 q6 q7 q8 q9 q10 ql;obtain ⟨q0, q1, q2, q3, q4, q5, q6, q7, q8, q9, q10, ql⟩ := zS RB4.out;obtain ⟨s0, s1, s2, s3, s4, s5, s6, sl⟩ := kC RS4.out;clear hb
              go_wp2_with fail
              refine (HL.out _).mono ?_;rintro e w5 ⟨rfl, rfl⟩;exact zIW
    · have hl2 : ((p.n : Int) != (kn : Int)) = true := by simp; omega
      obtain rfl : R = false := by rw [HO.out, show decide (Tm.len kids = kn) = false by simp; have := HNE.out; omega]; rfl
      clear HO HNE hl;exact zIM
set_option maxHeartbeats 2000000 in
set_option maxRecDepth 100000 in
theorem yX (h : Hd) (kids : Tm) (p : Pl) (w : World) (hIs : Tm.Is w h kids p) (hG : TGlob w) :
    Calls Tryz.prog 34 #[.agg (tC_ h p)] w fun e w' => e = .returned (.int .i64 (Tm.chk h kids)) /\ Below w.heap.size w w' := by
  try unfold tC_
  have hB0 : Below w.heap.size w (w.alloc (.cells (tC_ h p) 41)) := (Below.refl _ _).alloc (Nat.le_refl _) _;have HM := k0_ (uH h kids p _ (hIs.below hB0) (hG.terms.below hB0));have HF := k0_ (fun (W : World) (hb : Below w.heap.size w W) => xu (Tm.nodes kids + 1) h kids p W (by omega) (hIs.below hb) (hG.below hb));have HN := k0_ (zF w (.cells (tC_ h p) 41));clear hIs hG
  by_cases h1 : 8192 < Tm.nd h kids
  · have e1 : Tm.chk h kids = 32 := by unfold Tm.chk; rw [if_pos h1]
    have e2 : ((Tm.nod h kids : Nat) : Int) = 8193 := by unfold Tm.nod; omega
    rw [e1];rw [e2] at HM;clear e2 e1 h1 HF HN
    go_enter Tryz.func34, Tryz.ntmps34
    go_wp2_with fail
    refine HM.out.mono ?_;exact zF6
  · have e2 : ((Tm.nod h kids : Nat) : Int) <= 8192 := by unfold Tm.nod; omega
    have e4 : Tm.dpt h kids = min (Tm.dp h kids) 201 := by unfold Tm.dpt; rw [if_neg h1]
    by_cases h2 : 200 < Tm.dp h kids
    · have e1 : Tm.chk h kids = 31 := by unfold Tm.chk; rw [if_neg h1, if_pos h2]
      have e3 : ((Tm.dpt h kids : Nat) : Int) = 201 := by rw [e4]; omega
      rw [e1];rw [e3] at HM;generalize Tm.nod h kids = N at *;clear e3 e1 h1 h2 e4 HF HN
      go_enter Tryz.func34, Tryz.ntmps34
      go_wp2_with fail
      refine HM.out.mono ?_;exact zF6
    · have e3 : ((Tm.dpt h kids : Nat) : Int) <= 200 := by rw [e4]; omega
      have e1 : Tm.chk h kids = if Tm.okT h kids then 0 else 30 := by unfold Tm.chk; rw [if_neg h1, if_neg h2]
      rw [e1];generalize Tm.nod h kids = N at *;generalize Tm.dpt h kids = D at *;clear e1 h1 h2 e4;cases ho : Tm.okT h kids
      all_goals
        rw [ho] at HF;clear ho
        go_enter Tryz.func34, Tryz.ntmps34
        go_wp2_with fail
        refine HM.out.mono ?_;rintro e w3 ⟨rfl, hb⟩;have hB1 := hB0.trans (hb.mono hB0.size);obtain ⟨q0, q1, q2, q3, q4, q5, q6, q7, q8, q9, q10, ql⟩ := zS (zB hb (by simp) HN.out);exact zI1
namespace Tm
def cnt (h : Hd) : Hd :=
  ⟨h.kind, if hasName h.kind then h.name else ⟨#[]⟩, if hasArg h.kind then h.arg else ⟨#[]⟩, if hasNum h.kind then h.num else 0,
   if hasType h.kind then h.tk else 0, if hasType h.kind then h.tkids else .nil, if hasTo h.kind then h.uk else 0, if hasTo h.kind then h.ukids else .nil, if hasLabel h.kind then h.label else 0, 0⟩
def cntP (h : Hd) (p : Pl) : Pl :=
  ⟨if hasType h.kind then p.TA else none, if hasType h.kind then p.tn else 0, if hasType h.kind then p.tc else 0, if hasTo h.kind then p.UA else none, if hasTo h.kind then p.un else 0, if hasTo h.kind then p.uc else 0, p.A, p.n, p.c⟩
theorem Fit.cnt {w : World} {h : Hd} {p : Pl} {n : Nat} (f : Fit w h p n) : Fit w (cnt h) (cntP h p) n := by
  have hz : ∀ w : World, Ty.Is w 0 .nil none 0 0 := fun w => ⟨trivial, rfl, Nat.le_refl _, Nat.zero_le _, by omega, by omega⟩
  obtain ⟨f1, f2, f3, f4, f5, f6, f7, f8, f9, f10, f11⟩ := f;unfold Tm.cnt cntP;refine ⟨?_, ?_, f3, f4, f5, f6, f7, ?_, ?_, ?_, ?_⟩
  · dsimp only; cases hasType h.kind
    · exact hz w
    · exact f1
  · dsimp only; cases hasTo h.kind
    · exact hz w
    · exact f2
  · dsimp only; split <;> omega
  · dsimp only; split <;> omega
  · dsimp only; split
    · exact f10
    · exact Nat.zero_le _
  · dsimp only; split
    · exact f11
    · exact Nat.zero_le _
theorem Is.cnt {w : World} {h : Hd} {kids : Tm} {p : Pl} (f : Is w h kids p) : Is w (cnt h) kids (cntP h p) := ⟨f.fit.cnt, f.lies⟩
end Tm
end Go.Proofs.YtepmjknljbafgaaGreatDoor
