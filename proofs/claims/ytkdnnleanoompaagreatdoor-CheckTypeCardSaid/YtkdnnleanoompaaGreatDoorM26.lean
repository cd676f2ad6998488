import Derived.Test.YtkdnnleanoompaaGreatDoorM25
namespace Go.Proofs.YtkdnnleanoompaaGreatDoor
set_option maxHeartbeats 2000000
set_option maxRecDepth 100000
open Go.RowKit
theorem zB4 : (Tryz.prog.info? 82).map (fun i => (i.zero, i.size, i.bytes)) = some (some (.agg #[.string ⟨#[]⟩, .int .i8 0, .slice none 0 0]), 3, 48) := by kernel_rfl
theorem Ck.EAt.zHI {ty : TypeId} {Q : Nat -> Prop} {w w1 : World} {l : Ck.Env} {xs : List Value} {base : Nat} {v : Value} {n : Nat} (hn : n = l.length) (hn0 : 0 < n) (hE : Ck.EFlat Q w l xs) (hw : Below w.heap.size w w1) (hown : w1.ownsRow base ty 3 v n xs) :
  ∃ G k, v = .slice G n k /\ Ck.EAt Q w1 l G n k := by
 exact zGc
theorem qa (Q : Nat -> Prop) (l : Ck.Env) (A : Option Addr) (n c : Nat) (nm : ByteArray) (a : Ck.T2) (AG : Option Addr) (am ac : Nat) (w : World) (hE : Ck.EAt Q w l A n c) (hL : Ck.Ly Q w a AG am ac) (hbn : n + 1 <= 20000) :
  Calls Tryz.prog 25 #[.slice A n c, .string nm, .agg #[.int .i8 a.1, .slice AG am ac]] w fun e w' => ∃ G k, e = .returned (.slice G (n + 1) k) /\ Ck.EAt Q w' (l ++ [(nm, a)]) G (n + 1) k /\ Below w.heap.size w w' := by
 have hn := hE.n_eq;have HN := k0_ hn;have HE := k0_ hE;have HL := k0_ hL;have hnc := hE.n_le;have hcm := hE.c_le;have i5 : (n : Int) <= 20000 := by omega
 obtain ⟨i0, hi, hz1, hz2, hz3⟩ := info_parts zB4;have hb1 := zX w (.cells #[.int .i8 a.1, .slice AG am ac] 25);have h0 := zD w (.cells #[.int .i8 a.1, .slice AG am ac] 25);have hz : (w.alloc (.cells #[.int .i8 a.1, .slice AG am ac] 25)).heap.size = w.heap.size + 1 := by simp
 have HB1 := k0_ hb1;have H0 := k0_ h0;have HZ := k0_ hz;clear hn hE hL hb1 h0 hz
 go_enter Tryz.func25, Tryz.ntmps25
 go_upto_region 1 with fail
 generalize w.alloc (.cells #[.int .i8 a.1, .slice AG am ac] 25) = w1 at *
 go_wp2_with (first | (at_make; refine wpList_make_own _ rfl _ _ 60 rfl (w.heap.size + 1) 82 i0 (.agg #[.string ⟨#[]⟩, .int .i8 0, .slice none 0 0]) 3 Tryz.underlying60 hi hz1 hz2 .i64 .i64 ((n : Int) + 1) (n + 1) rfl rfl (by omega) (by rw [hz3]; omega) (by unfold maxLen; omega) (Nat.le_of_eq HZ.out.symm) ?_; intro w2 hown hg))
 have HG := k0_ hg;have HO := k0_ hown;clear hg hown;have HB2 := k0_ (show Below w1.heap.size w1 w2 from (Below.refl _ _).grown HG.out (Nat.le_refl _) (fun k hk => by cases hk));clear HG
 go_loopw [7, 8] (fun v7 v8 wr => ∃ (i : Nat) (ys : List Value), v8 = .int .i64 i /\ i <= n /\ wr.ownsRow (w.heap.size + 1) 82 3 v7 i ys /\ Ck.EFlat Q w (l.take i) ys /\ Below w1.heap.size w1 wr) (fun _ v _ => n - (intOf v).toNat)
 case atStart => exact ⟨0, [], rfl, by omega, HO.out, (by rw [List.take_zero]; exact trivial), HB2.out⟩
 case round =>
  obtain ⟨i, ys, rfl, hi', hown, hfl, hb⟩ := hrel
  by_cases hin : i < n
  ·obtain ⟨x, hx⟩ : ∃ x, l[i]? = some x := ⟨l[i]'(by have := HN.out; omega), List.getElem?_eq_getElem _⟩
   obtain ⟨bb, oo, G, m, k, hA, c0, c1, c2, hLx⟩ := HE.out.at hx;have hbw := HB1.out.trans (hb.mono HB1.out.size);have c0 := zB c0 hbw;have c1 := zB c1 hbw;have c2 := zB c2 hbw;have j1 : (i : Int) < n := by omega
   have j2 : (0 : Int) <= i /\ (i : Int) < n := by omega
   have HX := k0_ hx;have HLX := k0_ hLx;have HB := k0_ hb;have HFL := k0_ hfl;have zb := hb.size;clear hx hLx hb hfl hbw;subst hA
   go_wp2_with (first | (at_builtin; refine wpList_append_own _ rfl _ _ 60 rfl (w.heap.size + 1) 82 i0 (.agg #[.string ⟨#[]⟩, .int .i8 0, .slice none 0 0]) 3 48 Tryz.underlying60 hi hz1 hz2 hz3 rfl (by decide) u7 _ _ rfl (hown.alloc _) ⟨wr.heap.size, 0, none⟩ 1 1 [.string x.1, .int .i8 x.2.1, .slice G m k] rfl rfl ?c1 ?c2 ?c3 ?c4 ?c5 ?_))
   case c1 => exact qE (zD wr _)
   case c2 => intro y hy; simp at hy; rcases hy with rfl | rfl | rfl <;> rfl
   case c3 => unfold maxLen; omega
   case c4 => omega
   case c5 => have := HZ.out; simp; omega
   intro v' w3 hown2 hg2 _
   have hfin : Hid (w3.ownsRow (w.heap.size + 1) 82 3 v' (i + 1) (ys ++ [.string x.1, .int .i8 x.2.1, .slice G m k]) /\ Ck.EFlat Q w (l.take (i + 1)) (ys ++ [.string x.1, .int .i8 x.2.1, .slice G m k]) /\ Below w1.heap.size w1 w3) := by
    refine k0_ ⟨hown2, ?_, ((HB.out.alloc zb _).grown hg2 (by simp; omega) (fun k hk => by have := (hown.lt k hk).1; have := HZ.out; omega))⟩;rw [List.take_add_one, HX.out];exact HFL.out.app ⟨⟨rfl, rfl, G, m, k, rfl, HLX.out⟩, trivial⟩
   clear hown2 hg2 hown
   go_wp2_with fail
   go_roundw
   case rel => exact ⟨i + 1, _, by go_num, by omega, hfin.out.1, hfin.out.2.1, hfin.out.2.2⟩
   case measure => simp [intOf]; omega
  ·obtain rfl : i = n := by omega
   have j1 : ¬ ((i : Int) < i) := by omega
   rw [List.take_of_length_le (by have := HN.out; omega)] at hfl;have HB := k0_ hb;have HFL := k0_ hfl;have zb := HB.out.size;obtain ⟨x0, x1, -, -, xl⟩ := zF (zA hb (zC H0.out) H0.out);clear hb hfl
   go_wp2_with (first | (at_builtin; refine wpList_append_own _ rfl _ _ 60 rfl (w.heap.size + 1) 82 i0 (.agg #[.string ⟨#[]⟩, .int .i8 0, .slice none 0 0]) 3 48 Tryz.underlying60 hi hz1 hz2 hz3 rfl (by decide) u7 _ _ rfl (hown.alloc _) ⟨wr.heap.size, 0, none⟩ 1 1 [.string nm, .int .i8 a.1, .slice AG am ac] rfl rfl ?c1 ?c2 ?c3 ?c4 ?c5 ?_))
   case c2 => exact ⟨rfl, rfl, rfl⟩
   case c3 => unfold maxLen; omega
   case c4 => omega
   case c5 => have := HZ.out; simp; omega
   intro v' w3 hown2 hg2 _
   have hfin : Hid (∃ G k, v' = .slice G (i + 1) k /\ Ck.EAt Q w3 (l ++ [(nm, a)]) G (i + 1) k /\ Below w.heap.size w w3) := by
    have hb2 := HB1.out.trans (((HB.out.alloc zb (.cells #[.string nm, .int .i8 a.1, .slice AG am ac] 82)).grown hg2 (by simp; omega) (fun k hk => by have := (hown.lt k hk).1; have := HZ.out; omega)).mono HB1.out.size);obtain ⟨G, k, h1, h2⟩ := Ck.EAt.zHI (l := l ++ [(nm, a)]) (by have := HN.out; simp; omega) (by omega) (HFL.out.app (xs' := [.string nm, .int .i8 a.1, .slice AG am ac]) ⟨⟨rfl, rfl, AG, am, ac, rfl, HL.out⟩, trivial⟩) hb2 hown2;exact k0_ ⟨G, k, h1, h2, hb2⟩
   clear hown2 hg2 hown x0 x1 xl;obtain ⟨G, k, rfl, hf⟩ := hfin.out;have HF := k0_ hf;clear hfin hf
   go_wp2_with fail
   go_ret
   exact ⟨G, k, rfl, HF.out.1, HF.out.2⟩
theorem zCD (Q : Nat -> Prop) (l : Ck.Env) (A : Option Addr) (n c : Nat) (x : ByteArray) (w : World) (hE : Ck.EAt Q w l A n c) :
  Calls Tryz.prog 23 #[.slice A n c, .string x] w fun e w' => ∃ (a : Ck.T2) (G : Option Addr) (m k : Nat), e = .returned (.tuple #[.agg #[.int .i8 a.1, .slice G m k], .bool (Ck.fnd l x).isSome]) /\ Ck.Ly (Ck.Cut Q w.heap.size w.heap.size) w' a G m k /\ (∀ b, Ck.fnd l x = some b -> b = a) /\ Below w.heap.size w w' := by
 have hn := hE.n_eq;have HN := k0_ hn;have HE := k0_ hE;have hnc := hE.n_le;have hcm := hE.c_le;have i5 : (n : Int) <= 9223372036854775807 := by unfold maxLen at hcm; omega
 have HB1 := k0_ (zX w (.cells #[.int .i8 0, .slice none 0 0] 25));have H0 := k0_ (zD w (.cells #[.int .i8 0, .slice none 0 0] 25));obtain ⟨R, hR⟩ : ∃ R, R = Ck.fnd l x := ⟨_, rfl⟩
 rw [← hR];have HR := k0_ hR;clear hn hE hR
 go_enter Tryz.func23, Tryz.ntmps23
 go_upto_region 1 with fail
 generalize w.alloc (.cells #[.int .i8 0, .slice none 0 0] 25) = w1 at *
 go_wp2_with fail
 go_loopw [6] (fun v6 wr => ∃ i : Nat, v6 = .int .i64 ((i : Int) - 1) /\ i <= n /\ (∀ (j : Nat) (y : ByteArray × Ck.T2), i <= j -> l[j]? = some y -> (y.1.toList == x.toList) = false) /\ Below w1.heap.size w1 wr) (fun v _ => (intOf v + 1).toNat)
 case atStart =>
  exact zFE
 case round =>
  obtain ⟨i, rfl, hin, hno, hb⟩ := hrel
  cases i with
  | zero =>
   have hf : R = none := HR.out.trans (Ck.zA2 fun j z hz => hno j z (Nat.zero_le _) hz);subst hf;have z0 := zA hb (zC H0.out) H0.out;obtain ⟨x0, x1, f0, f1, xl⟩ := zF z0;have z1 := k0_ (zL z0 (.int .i8 0) (.slice none 0 0));have HBF := k0_ (zH (HB1.out.trans (hb.mono HB1.out.size)) (Nat.le_refl _) (.int .i8 0) (.slice none 0 0));clear hno hb z0
   go_wp2_with fail
   generalize (wr.setCell ⟨w.heap.size, 0, none⟩ (.int .i8 0)).setCell ⟨w.heap.size, 1, none⟩ (.slice none 0 0) = w3 at *;obtain ⟨k0, k1, -, -, -⟩ := zF z1.out;refine bodyPost_ret (v := .tuple #[.agg #[.int .i8 0, .slice none 0 0], .bool false]) (by simp [results, Tryz.results23, go_sem, k0, k1]) rfl ⟨(0, .nil), none, 0, 0, rfl, Ck.Ly.zero _ _, (fun b e => by cases e), HBF.out⟩
  | succ j =>
   have hj : j < l.length := by have := HN.out; omega
   obtain ⟨y, hy⟩ : ∃ y, l[j]? = some y := ⟨l[j]'hj, List.getElem?_eq_getElem hj⟩
   obtain ⟨b, o, G, m, k, hA, c0, c1, c2, hL⟩ := HE.out.at hy;have hbw := HB1.out.trans (hb.mono HB1.out.size);have c0 := zB c0 hbw;have c1 := zB c1 hbw;have c2 := zB c2 hbw;have HL := k0_ ((hL.weak (Q' := Ck.Cut Q w.heap.size (w.heap.size + 1)) fun b hb hq => .inl ⟨hq, hb⟩).later hbw);have z0 := kp_ hb H0;have HBW := k0_ hbw;have HB := k0_ hb;have HNO := k0_ hno;have HYY := k0_ hy;have e1 : ((j + 1 : Nat) : Int) - 1 = (j : Int) := by omega
   rw [e1];have j1 : (0 : Int) <= j := by omega
   have j2 : (j : Int) < n := by omega
   have j3 : (0 : Int) <= j /\ (j : Int) < n := by omega
   clear hno hb hL hy e1 hj hbw;subst hA;cases hq : (y.1.toList == x.toList)
   ·exact zGd
   ·have hf : R = some y.2 := HR.out.trans (Ck.zA3 HYY.out hq fun i' z hi' hz' => HNO.out i' z hi' hz')
    subst hf;obtain ⟨x0, x1, f0, f1, xl⟩ := zF z0.out;have z1 := k0_ (zL z0.out (.int .i8 y.2.1) (.slice G m k));have HBF := k0_ (zH HBW.out (Nat.le_refl _) (.int .i8 y.2.1) (.slice G m k));have HLF := k0_ (HL.out.set2 (X := w.heap.size) (fun b hq => hq.ne (by omega) (by omega)) (.int .i8 y.2.1) (.slice G m k))
    go_wp2_with fail
    generalize (wr.setCell ⟨w.heap.size, 0, none⟩ (.int .i8 y.2.1)).setCell ⟨w.heap.size, 1, none⟩ (.slice G m k) = w3 at *;obtain ⟨k0, k1, -, -, -⟩ := zF z1.out;refine bodyPost_ret (v := .tuple #[.agg #[.int .i8 y.2.1, .slice G m k], .bool true]) (by simp [results, Tryz.results23, go_sem, k0, k1]) rfl ⟨y.2, G, m, k, rfl, HLF.out.weak (fun b _ h => h.out (by omega)), (fun b e => by injection e with e; exact e.symm), HBF.out⟩
namespace Qr
structure Qv where
 md : Int
 D : Cg.Ops
 agC : ∀ (k : Int) (kids : Fo) (A : Option Addr) (n c : Nat) (k' : Int) (kids' : Fo) (A' : Option Addr) (n' c' : Nat) (w : World), Ty.Is w k kids A n c -> Ty.Is w k' kids' A' n' c' ->
  Calls Tryz.prog 28 #[.agg #[.int .i8 k, .slice A n c], .agg #[.int .i8 k', .slice A' n' c'], .int .i64 md] w fun e w' => e = .returned (.bool (D.ag (k, kids) (k', kids'))) /\ Below w.heap.size w w'
 asC : ∀ (Q : Nat -> Prop) (kd : Int) (a : Ck.T2) (A : Option Addr) (n c : Nat) (w : World), 3 <= kd /\ kd <= 5 -> Ck.Ly Q w a A n c -> Ty.okT a.1 a.2 = true ->
  Calls Tryz.prog 51 #[.int .i8 kd, .agg #[.int .i8 a.1, .slice A n c], .int .i64 md] w (Cg.AsPost Q w (D.asO kd a) (D.asl kd a) (D.asr kd a))
 mtC : ∀ (Q : Nat -> Prop) (a : Ck.T2) (A : Option Addr) (n c : Nat) (b : Ck.T2) (A' : Option Addr) (n' c' : Nat) (w : World), Ck.Ly Q w a A n c -> Ck.Ly Q w b A' n' c' ->
  Calls Tryz.prog 52 #[.agg #[.int .i8 a.1, .slice A n c], .agg #[.int .i8 b.1, .slice A' n' c'], .int .i64 md] w (MtPost Q w (D.ag a b) (D.mt a b))
 castC : D.ca = true -> (∀ (k : Int) (kids : Fo) (A : Option Addr) (n c : Nat) (k' : Int) (kids' : Fo) (A' : Option Addr) (n' c' : Nat) (w : World), Ty.Is w k kids A n c -> Ty.Is w k' kids' A' n' c' ->
  Calls Tryz.prog 50 #[.agg #[.int .i8 k, .slice A n c], .agg #[.int .i8 k', .slice A' n' c']] w fun e w' => e = .returned (.bool (D.ag (k, kids) (k', kids'))) /\ Below w.heap.size w w') /\ (∀ (k : Int) (kids : Fo) (A : Option Addr) (n c : Nat) (k' : Int) (kids' : Fo) (A' : Option Addr) (n' c' : Nat) (w : World), Ty.Is w k kids A n c -> Ty.Is w k' kids' A' n' c' ->
  Calls Tryz.prog 49 #[.agg #[.int .i8 k, .slice A n c], .agg #[.int .i8 k', .slice A' n' c']] w fun e w' => e = .returned (.bool (D.gs (k, kids) (k', kids'))) /\ Below w.heap.size w w')
def gradQ : Qv where
 md := 0
 D := Cg.grad
 agC := fun k kids A n c k' kids' A' n' c' w h1 h2 => zCE 0 rfl k kids A n c k' kids' A' n' c' w h1 h2
 asC := fun Q kd a A n c w _ hL _ => zAn Q kd a A n c w hL
 mtC := fun Q a A n c b A' n' c' w h1 h2 => zDd Q a A n c b A' n' c' w h1 h2
 castC := fun e => by cases e
end Qr
end Go.Proofs.YtkdnnleanoompaaGreatDoor
namespace Go.Proofs.YtkdnnleanoompaaGreatDoor
open Go.RowKit
namespace Qr
def TellsOf (qv : Qv) (K : Nat) (wb : World) (h : Hd) (kids : Tm) (p : Pl) : Prop :=
 ∀ (Q : Nat -> Prop) (l : Ck.Env) (A : Option Addr) (n c : Nat) (W : World), Below wb.heap.size wb W -> (∀ b, b < wb.heap.size -> Q b) -> Ck.EAt Q W l A n c -> (∀ x ∈ l, Ck.chk x.2 = 0) -> l.length + 2 * (Tm.nodes kids + 1) <= 20000 ->
  Calls Tryz.prog 11 #[.agg (tC_ h p), .slice A n c, .int .i64 qv.md] W (Post Q W (Cg.ty qv.D K h kids l))
theorem three (w : World) (o : Obj) : ∃ b1 w1, w1 = ((w.alloc o).alloc (.cells #[.int .i8 0, .slice none 0 0] 25)).alloc (.cells #[.int .i64 0, .int .i64 0, .string ⟨#[]⟩] 35) /\ Below w.heap.size w b1 /\ b1.heap[w.heap.size]? = some o /\ Below b1.heap.size b1 w1 /\
  w1.heap[w.heap.size + 1]? = some (.cells #[.int .i8 0, .slice none 0 0] 25 (0, 0)) /\ w1.heap[w.heap.size + 1 + 1]? = some (.cells #[.int .i64 0, .int .i64 0, .string ⟨#[]⟩] 35 (0, 0)) /\ b1.heap.size = w.heap.size + 1 /\ w1.heap.size = w.heap.size + 3 := by
 refine ⟨w.alloc o, _, rfl, zX w o, zD w o, zZ _ _ _, ?_, ?_, by simp, by simp⟩
 ·have := (zT (w.alloc o) (.cells #[.int .i8 0, .slice none 0 0] 25) (.cells #[.int .i64 0, .int .i64 0, .string ⟨#[]⟩] 35)).1
  simpa using this
 ·have := (zT (w.alloc o) (.cells #[.int .i8 0, .slice none 0 0] 25) (.cells #[.int .i64 0, .int .i64 0, .string ⟨#[]⟩] 35)).2
  simpa using this
theorem Post.mk {Q : Nat -> Prop} {w w' : World} {r : Ck.R} {a : Ck.T2} {E p : Int} {x : ByteArray} {G : Option Addr} {m c : Nat} (hn : Nz r) (h : tyO r = a /\ eO r = E /\ pO r = p /\ xO r = x) (hl : Ck.Ly (Ck.Cut Q w.heap.size w.heap.size) w' a G m c) (hb : Below w.heap.size w w') :
  Post Q w r (.returned (.tuple #[.agg #[.int .i8 a.1, .slice G m c], .agg #[.int .i64 E, .int .i64 p, .string x]])) w' := by
 obtain ⟨rfl, rfl, rfl, rfl⟩ := h;exact ⟨hn, G, m, c, rfl, hl, hb⟩
theorem zne {Q : Nat -> Prop} {N S Z b : Nat} (hS : S = N + 1) (h : Z = N + 2 \/ N + 3 <= Z) (hl : b < S) (hq : Ck.Cut Q N (N + 3) b) : b ≠ Z := by
 rcases hq with ⟨-, q⟩ | q <;> rcases h with h | h <;> omega
theorem Post.names {Q : Nat -> Prop} {w w' : World} {r : Ck.R} {e : Ending} (hp : Post Q w r e w') : ∃ (a : Ck.T2) (E p : Int) (x : ByteArray) (G : Option Addr) (m c : Nat), e = .returned (.tuple #[.agg #[.int .i8 a.1, .slice G m c], .agg #[.int .i64 E, .int .i64 p, .string x]]) /\ (Nz r /\ tyO r = a /\ eO r = E /\ pO r = p /\ xO r = x) /\ Ck.Ly (Ck.Cut Q w.heap.size w.heap.size) w' a G m c /\ Below w.heap.size w w' := by
 obtain ⟨h0, G, m, c, h1, h2, h3⟩ := hp;exact ⟨_, _, _, _, G, m, c, h1, ⟨h0, rfl, rfl, rfl, rfl⟩, h2, h3⟩
theorem zH8 {k : Int} (hk : 3 <= k /\ k <= 5) : Ty.okK k 2 = true := by unfold Ty.okK; rw [if_neg (by omega), if_pos hk]; rfl
theorem wV {k : Int} (hk : 3 <= k /\ k <= 5) {a b : Ck.T2} (ha : Ty.okT a.1 a.2 = true) (hb : Ty.okT b.1 b.2 = true) : Ty.okT (Ck.mk2 k a b).1 (Ck.mk2 k a b).2 = true := by
 unfold Ty.okT at *;show (Ty.okK k 2 && (Ty.okK a.1 (Ty.len a.2) && Ty.okF a.2 && (Ty.okK b.1 (Ty.len b.2) && Ty.okF b.2 && true))) = true;rw [zH8 hk, ha, hb]; rfl
theorem uP {Q : Nat -> Prop} {N S Z b : Nat} (_ : N + 3 <= S) (h : Z = N + 2 \/ S <= Z) (hl : b < S) (hq : Ck.Cut Q N (N + 3) b) : b ≠ Z := by
 rcases hq with ⟨-, q⟩ | q <;> rcases h with h | h <;> omega
theorem jF {u : World} {N : Nat} {v0 v1 v2 v3 v4 v5 v6 v7 v8 v9 v10 : Value} {t : TypeId} (h : u.heap[N]? = some (.cells #[v0, v1, v2, v3, v4, v5, v6, v7, v8, v9, v10] t (0, 0))) : u.cell? ⟨N, 0, none⟩ = some v0 /\ u.cell? ⟨N, 1, none⟩ = some v1 /\ u.cell? ⟨N, 2, none⟩ = some v2 /\ u.cell? ⟨N, 3, none⟩ = some v3 /\ u.cell? ⟨N, 4, none⟩ = some v4 /\ u.cell? ⟨N, 5, none⟩ = some v5 /\ u.cell? ⟨N, 6, none⟩ = some v6 /\ u.cell? ⟨N, 7, none⟩ = some v7 /\ u.cell? ⟨N, 8, none⟩ = some v8 /\ u.cell? ⟨N, 9, none⟩ = some v9 /\ u.cell? ⟨N, 10, none⟩ = some v10 := by
 obtain ⟨q0, q1, q2, q3, q4, q5, q6, q7, q8, q9, q10, ql⟩ := zJ h;exact ⟨q0, q1, q2, q3, q4, q5, q6, q7, q8, q9, q10⟩
theorem wu {wb b1 W : World} {kb ko : Nat} {h : Hd} {q : Pl} (g : Ck.KidAt wb kb (ko) h q) (h1 : Below wb.heap.size wb b1) (hb : Below b1.heap.size b1 W) : W.cell? ⟨kb, ko, none⟩ = some (.int .i8 h.kind) /\ W.cell? ⟨kb, ko + 1, none⟩ = some (.string h.name) /\ W.cell? ⟨kb, ko + 2, none⟩ = some (.string h.arg) /\ W.cell? ⟨kb, ko + 3, none⟩ = some (.int .i64 h.num) /\ W.cell? ⟨kb, ko + 4, none⟩ = some (.int .i8 h.tk) /\ W.cell? ⟨kb, ko + 5, none⟩ = some (.slice q.TA q.tn q.tc) /\ W.cell? ⟨kb, ko + 6, none⟩ = some (.int .i8 h.uk) /\ W.cell? ⟨kb, ko + 7, none⟩ = some (.slice q.UA q.un q.uc) /\ W.cell? ⟨kb, ko + 8, none⟩ = some (.int .i64 h.label) /\ W.cell? ⟨kb, ko + 9, none⟩ = some (.int .i64 h.pos) /\ W.cell? ⟨kb, ko + 10, none⟩ = some (.slice q.A q.n q.c) :=
 have k (i : Nat) (v : Value) (e) := zB (zB (g i v e) h1) hb
 ⟨k 0 _ rfl, k 1 _ rfl, k 2 _ rfl, k 3 _ rfl, k 4 _ rfl, k 5 _ rfl, k 6 _ rfl, k 7 _ rfl, k 8 _ rfl, k 9 _ rfl, k 10 _ rfl⟩
theorem zDx {wb b1 W : World} {kb ko : Nat} {h : Hd} {q : Pl} (g : Ck.KidAt wb kb (ko + 11) h q) (h1 : Below wb.heap.size wb b1) (hb : Below b1.heap.size b1 W) : W.cell? ⟨kb, ko + 11, none⟩ = some (.int .i8 h.kind) /\ W.cell? ⟨kb, ko + 12, none⟩ = some (.string h.name) /\ W.cell? ⟨kb, ko + 13, none⟩ = some (.string h.arg) /\ W.cell? ⟨kb, ko + 14, none⟩ = some (.int .i64 h.num) /\ W.cell? ⟨kb, ko + 15, none⟩ = some (.int .i8 h.tk) /\ W.cell? ⟨kb, ko + 16, none⟩ = some (.slice q.TA q.tn q.tc) /\ W.cell? ⟨kb, ko + 17, none⟩ = some (.int .i8 h.uk) /\ W.cell? ⟨kb, ko + 18, none⟩ = some (.slice q.UA q.un q.uc) /\ W.cell? ⟨kb, ko + 19, none⟩ = some (.int .i64 h.label) /\ W.cell? ⟨kb, ko + 20, none⟩ = some (.int .i64 h.pos) /\ W.cell? ⟨kb, ko + 21, none⟩ = some (.slice q.A q.n q.c) :=
 have k (i : Nat) (v : Value) (e) := zB (zB (g i v e) h1) hb
 ⟨k 0 _ rfl, k 1 _ rfl, k 2 _ rfl, k 3 _ rfl, k 4 _ rfl, k 5 _ rfl, k 6 _ rfl, k 7 _ rfl, k 8 _ rfl, k 9 _ rfl, k 10 _ rfl⟩
theorem zFV {wb b1 W : World} {kb ko : Nat} {h : Hd} {q : Pl} (g : Ck.KidAt wb kb (ko + 22) h q) (h1 : Below wb.heap.size wb b1) (hb : Below b1.heap.size b1 W) : W.cell? ⟨kb, ko + 22, none⟩ = some (.int .i8 h.kind) /\ W.cell? ⟨kb, ko + 23, none⟩ = some (.string h.name) /\ W.cell? ⟨kb, ko + 24, none⟩ = some (.string h.arg) /\ W.cell? ⟨kb, ko + 25, none⟩ = some (.int .i64 h.num) /\ W.cell? ⟨kb, ko + 26, none⟩ = some (.int .i8 h.tk) /\ W.cell? ⟨kb, ko + 27, none⟩ = some (.slice q.TA q.tn q.tc) /\ W.cell? ⟨kb, ko + 28, none⟩ = some (.int .i8 h.uk) /\ W.cell? ⟨kb, ko + 29, none⟩ = some (.slice q.UA q.un q.uc) /\ W.cell? ⟨kb, ko + 30, none⟩ = some (.int .i64 h.label) /\ W.cell? ⟨kb, ko + 31, none⟩ = some (.int .i64 h.pos) /\ W.cell? ⟨kb, ko + 32, none⟩ = some (.slice q.A q.n q.c) :=
 have k (i : Nat) (v : Value) (e) := zB (zB (g i v e) h1) hb
 ⟨k 0 _ rfl, k 1 _ rfl, k 2 _ rfl, k 3 _ rfl, k 4 _ rfl, k 5 _ rfl, k 6 _ rfl, k 7 _ rfl, k 8 _ rfl, k 9 _ rfl, k 10 _ rfl⟩
theorem zt {Q : Nat -> Prop} {N S b : Nat} (hS : N + 3 <= S) (h : Ck.Cut (Ck.Cut Q N (N + 3)) S S b) : Ck.Cut Q N (N + 3) b := Ck.Cut.in hS h
end Qr
namespace Qr
theorem zH3 {u : World} {X : Nat} {v0 v1 v2 v3 v4 v5 : Value} {t : TypeId} (h : u.heap[X]? = some (.cells #[v0, v1, v2, v3, v4, v5] t (0, 0))) (a b : Value) : ((u.setCell ⟨X, 0, none⟩ a).setCell ⟨X, 1, none⟩ b).heap[X]? = some (.cells #[a, b, v2, v3, v4, v5] t (0, 0)) := by
 simp [World.setCell, Array.getElem?_modify, h]
theorem zH2 {u : World} {X : Nat} {v0 v1 v2 v3 v4 v5 : Value} {t : TypeId} (h : u.heap[X]? = some (.cells #[v0, v1, v2, v3, v4, v5] t (0, 0))) (a b : Value) : ((u.setCell ⟨X, 2, none⟩ a).setCell ⟨X, 3, none⟩ b).heap[X]? = some (.cells #[v0, v1, a, b, v4, v5] t (0, 0)) := by
 simp [World.setCell, Array.getElem?_modify, h]
theorem zH1 {u : World} {X : Nat} {v0 v1 v2 v3 v4 v5 : Value} {t : TypeId} (h : u.heap[X]? = some (.cells #[v0, v1, v2, v3, v4, v5] t (0, 0))) (a b : Value) : ((u.setCell ⟨X, 4, none⟩ a).setCell ⟨X, 5, none⟩ b).heap[X]? = some (.cells #[v0, v1, v2, v3, a, b] t (0, 0)) := by
 simp [World.setCell, Array.getElem?_modify, h]
theorem jY {w : World} {b : Nat} {v0 v1 v2 v3 v4 v5 : Value} {t : TypeId} (h : w.heap[b]? = some (.cells #[v0, v1, v2, v3, v4, v5] t (0, 0))) :
  w.cell? ⟨b, 0, none⟩ = some v0 /\ w.cell? ⟨b, 1, none⟩ = some v1 /\ w.cell? ⟨b, 2, none⟩ = some v2 /\ w.cell? ⟨b, 3, none⟩ = some v3 /\ w.cell? ⟨b, 4, none⟩ = some v4 /\ w.cell? ⟨b, 5, none⟩ = some v5 /\ w.frozen? ⟨b, 0, none⟩ = false /\ w.frozen? ⟨b, 1, none⟩ = false /\ w.frozen? ⟨b, 2, none⟩ = false /\ w.frozen? ⟨b, 3, none⟩ = false /\ w.frozen? ⟨b, 4, none⟩ = false /\ w.frozen? ⟨b, 5, none⟩ = false /\ b < w.heap.size := by
 refine ⟨?_, ?_, ?_, ?_, ?_, ?_, ?_, ?_, ?_, ?_, ?_, ?_, zC h⟩ <;> simp [World.cell?, World.frozen?, h]
theorem jJ {u : World} {X Y : Nat} {o : Obj} (h : u.heap[Y]? = some o) (hne : X ≠ Y) (i j : Nat) (a b : Value) : ((u.setCell ⟨X, i, none⟩ a).setCell ⟨X, j, none⟩ b).heap[Y]? = some o := by
 exact zAH
theorem xD {N X : Nat} {w u : World} (h : Below N w u) (hX : N <= X) (i j : Nat) (a b : Value) : Below N w ((u.setCell ⟨X, i, none⟩ a).setCell ⟨X, j, none⟩ b) := (h.setCell (p := ⟨X, i, none⟩) hX _).setCell (p := ⟨X, j, none⟩) hX _
theorem qf {Q : Nat -> Prop} {w : World} {a : Ck.T2} {G : Option Addr} {m c : Nat} (h : Ck.Ly Q w a G m c) {X : Nat} (hX : ∀ b, Q b -> b ≠ X) (i j : Nat) (v0 v1 : Value) : Ck.Ly Q ((w.setCell ⟨X, i, none⟩ v0).setCell ⟨X, j, none⟩ v1) a G m c := (h.set hX _ _).set hX _ _
theorem jA {Q : Nat -> Prop} {N S b : Nat} (hS : N + 4 <= S) (h : Ck.Cut (Ck.Cut Q N (N + 4)) S S b) : Ck.Cut Q N (N + 4) b := Ck.Cut.in hS h
theorem jk {Q : Nat -> Prop} {N Y b : Nat} (hY : Y = N + 3) (h : Ck.Cut Q N (N + 4) b) : b ≠ Y := by rcases h with ⟨-, h⟩ | h <;> omega
end Qr
theorem Qr.to4 {Q : Nat -> Prop} {N S b : Nat} (hS : S = N + 1) (hl : b < S) (hq : Ck.Cut Q N (N + 3) b) : Ck.Cut Q N (N + 4) b := by
 rcases hq with hq | hq
 ·exact .inl hq
 ·omega
end Go.Proofs.YtkdnnleanoompaaGreatDoor
namespace Go.Proofs.YtkdnnleanoompaaGreatDoor
namespace Qr
open Ck
theorem je (h : Hd) (r : R) (f : T2 -> R) : lift h (bnd r f) = bnd r fun a => lift h (f a) := by cases r <;> rfl
theorem qM (h : Hd) (c : Prop) [Decidable c] (x y : R) : lift h (if c then x else y) = if c then lift h x else lift h y := by split <;> rfl
theorem zo (h : Hd) (E : Int) : lift h (fault h E) = fault h E := rfl
theorem zEZ {h : Hd} {r : R} (e : ∀ a, r = .ok a -> chk a = 0) : lift h r = r := by
 cases r with
 | ok a => exact jV (e a rfl)
 | bad _ _ _ => rfl
theorem xq {r : R} {f g : T2 -> R} (e : ∀ a, r = .ok a -> f a = g a) : bnd r f = bnd r g := by
 cases r with
 | ok a => exact e a rfl
 | bad _ _ _ => rfl
theorem bounds {k : Int} {f : Fo} (h : Ty.chk k f = 0) : Ty.nodes f + 1 <= 8192 /\ Ty.dep f + 1 <= 200 := by
 unfold Ty.chk at h
 split at h
 ·cases h
 ·split at h
  ·cases h
  ·exact ⟨by omega, by omega⟩
theorem zEB {k : Int} {i j : Nat} {k1 : Int} {f1 r : Fo} (h0 : chk (k, .node i j k1 f1 r) = 0) : chk (k1, f1) = 0 := by
 have h1 := Ty.ze (k := k) (kids := .node i j k1 f1 r) h0;have h2 := Ty.um (k := k) (kids := .node i j k1 f1 r) h0;simp only [Ty.okF, Bool.and_eq_true] at h2;have h3 := bounds (k := k) (f := .node i j k1 f1 r) h0;simp only [Ty.nodes, Ty.dep] at h3;exact Ty.zBR (k := k1) (kids := f1) (by unfold Ty.okT; rw [h2.2.1.1, h2.2.1.2]; rfl) (by omega) (by omega)
theorem zBQ {k : Int} {i j i' j' : Nat} {k1 k2 : Int} {f1 f2 r : Fo} (h0 : chk (k, .node i j k1 f1 (.node i' j' k2 f2 r)) = 0) : chk (k2, f2) = 0 := by
 have h2 := Ty.um (k := k) (kids := .node i j k1 f1 (.node i' j' k2 f2 r)) h0;simp only [Ty.okF, Bool.and_eq_true] at h2;have h3 := bounds (k := k) (f := .node i j k1 f1 (.node i' j' k2 f2 r)) h0;simp only [Ty.nodes, Ty.dep] at h3;exact Ty.zBR (k := k2) (kids := f2) (by unfold Ty.okT; rw [h2.2.2.1.1, h2.2.2.1.2]; rfl) (by omega) (by omega)
structure Sd (D : Cg.Ops) : Prop where
 l : ∀ k a, chk a = 0 -> chk (D.asl k a) = 0
 r : ∀ k a, chk a = 0 -> chk (D.asr k a) = 0
 m : ∀ a b, chk a = 0 -> chk b = 0 -> D.ag a b = true -> Ty.okT (D.mt a b).1 (D.mt a b).2 = true
theorem zFO : Sd Cg.grad where
 l := fun k a h0 => by
  obtain ⟨k', f⟩ := a;show chk (Ty.asL k k' f) = 0;unfold Ty.asL
  split
  ·match f, h0 with
   | .nil, _ => rfl
   | .node _ _ _ _ _, h0 => exact zEB h0
  ·rfl
 r := fun k a h0 => by
  obtain ⟨k', f⟩ := a;show chk (Ty.asR k k' f) = 0;unfold Ty.asR
  split
  ·match f, h0 with
   | .nil, _ => rfl
   | .node _ _ _ _ .nil, _ => rfl
   | .node _ _ _ _ (.node _ _ _ _ _), h0 => exact zBQ h0
  ·rfl
 m := fun a b h1 h2 hag => by
  have g : Ty.agreeT a.1 a.2 b.1 b.2 = true := hag;unfold Ty.agreeT at g;simp only [Bool.and_eq_true] at g;exact Ty.zFy (Ty.ze h1).1 (Ty.ze h2).1 g.2
theorem zBl : ∀ {l : Env} {x : ByteArray} {a : T2}, (∀ y ∈ l, chk y.2 = 0) -> fnd l x = some a -> chk a = 0
 | [], _, _, _, e => by cases e
 | b :: l, x, a, hl, e => by
  unfold fnd at e
  cases hf : fnd l x with
  | some c =>
   rw [hf] at e;injection e with e; subst e
   exact zBl (fun y hy => hl y (List.mem_cons_of_mem _ hy)) hf
  | none =>
   rw [hf] at e;simp only at e
   split at e
   ·injection e with e; subst e; exact hl b (List.mem_cons_self ..)
   ·cases e
theorem zFS (s : ByteArray) : chk (opAns s) = 0 := by unfold opAns; split <;> rfl
section
variable (D : Cg.Ops) (K : Nat) (h h1 h2 h3 : Hd) (k1 k2 k3 : Tm) (l : Env)
theorem zHH (hl : ∀ y ∈ l, chk y.2 = 0) (hk : h.kind = 0) (kids : Tm) : Cg.ty D (K + 1) h kids l = (match fnd l h.name with | some a => R.ok a | none => R.bad 41 h.pos h.name) := by
 rw [Cg.qd, Cg.zDc _ _ _ _ _ hk]
 cases hf : fnd l h.name with
 | some a => exact jV (zBl hl hf)
 | none => rfl
theorem zHG (hk : h.kind = 1) (kids : Tm) : Cg.ty D (K + 1) h kids l = R.ok (1, .nil) := by rw [Cg.qd, Cg.zDb _ _ _ _ _ hk]; rfl
theorem zHF (hk : h.kind = 2) (kids : Tm) : Cg.ty D (K + 1) h kids l = R.ok (2, .nil) := by rw [Cg.qd, Cg.zDT _ _ _ _ _ hk]; rfl
theorem zHE (hk : h.kind = 3) (kids : Tm) : Cg.ty D (K + 1) h kids l = R.ok (2, .nil) := by rw [Cg.qd, Cg.zDS _ _ _ _ _ hk]; rfl
theorem zHD (hk : h.kind = 4) : Cg.ty D (K + 1) h (.node h1 k1 .nil) l = bnd (Cg.ty D K h1 k1 (l ++ [(h.name, TT h)])) fun b => lift h (.ok (mk2 3 (TT h) b)) := by
 rw [Cg.qd, Cg.zDR _ _ _ _ _ hk, je]; rfl
theorem zHC (hk : h.kind = 5) : Cg.ty D (K + 1) h (.node h1 k1 .nil) l = bnd (Cg.ty D K h1 k1 ((l ++ [(h.name, mk2 3 (TT h) (UU h))]) ++ [(h.arg, TT h)])) fun b => if D.ag b (UU h) = true then lift h (.ok (mk2 3 (TT h) (UU h))) else fault h 91 := by
 rw [Cg.qd, Cg.zDQ _ _ _ _ _ hk, je, List.append_assoc];simp only [qM, zo]; rfl
theorem zHB (hk : h.kind = 7) : Cg.ty D (K + 1) h (.node h1 k1 (.node h2 k2 .nil)) l = bnd (Cg.ty D K h1 k1 l) fun a => if D.ag a (TT h) = true then Cg.ty D K h2 k2 (l ++ [(h.name, TT h)]) else fault h 91 := by
 rw [Cg.qd, Cg.zDP _ _ _ _ _ hk, je];simp only [qM, zo];refine xq fun a ha => ?_
 show (if _ then lift h (Cg.ty D K h2 k2 (l ++ [(h.name, TT h)])) else _) = _;rw [zEZ fun b hb => Cg.jq hb]
theorem zG6 (hk : h.kind = 14) : Cg.ty D (K + 1) h (.node h1 k1 (.node h2 k2 (.node h3 k3 .nil))) l = bnd (Cg.ty D K h1 k1 l) fun a => if D.asO 5 a = true then bnd (Cg.ty D K h2 k2 (l ++ [(h.name, D.asl 5 a)])) fun b => bnd (Cg.ty D K h3 k3 (l ++ [(h.arg, D.asr 5 a)])) fun c => (if D.ag b c = true then lift h (.ok (D.mt b c)) else fault h 91) else fault h 90 := by
 rw [Cg.qd, Cg.zAd _ _ _ _ _ hk, je];unfold Cg.meet;simp only [qM, zo, je]; rfl
end
theorem zES {h : Hd} {kids : Tm} (hk : h.kind = 5) (ho : Tm.headOk h (Tm.len kids) = true) (hn : Tm.nd h kids <= 8192) (hd : Tm.dp h kids <= 200) : chk (mk2 3 (TT h) (UU h)) = 0 := by
 have h1 := qX ho (by rw [hk]; rfl);have h2 := xz ho (by rw [hk]; rfl);have o1 := (Ty.ze h1).1;have o2 := (Ty.ze h2).1;unfold Tm.nd Tm.tyN at hn;unfold Tm.dp Tm.tyD at hd;rw [hk] at hn hd;rw [show Tm.hasType 5 = true from rfl, show Tm.hasTo 5 = true from rfl, if_pos rfl, if_pos rfl] at hn hd;have b1 := bounds (k := h.tk) (f := h.tkids) h1;have b2 := bounds (k := h.uk) (f := h.ukids) h2;unfold Ty.nod at hn;unfold Ty.dpt at hd;rw [if_neg (by omega), if_neg (by omega)] at hd;refine Ty.zBR ?_ ?_ ?_
 ·unfold Ty.okT at o1 o2 ⊢
  show (Ty.okK 3 2 && (Ty.okK h.tk (Ty.len h.tkids) && Ty.okF h.tkids && (Ty.okK h.uk (Ty.len h.ukids) && Ty.okF h.ukids && true))) = true;unfold TT at o1; unfold UU at o2;rw [o1, o2]; rfl
 ·show (Ty.nodes h.tkids + 1 + (Ty.nodes h.ukids + 1 + 0)) + 1 <= 8192
  omega
 ·show max (Ty.dep h.tkids + 1) (max (Ty.dep h.ukids + 1) 0) + 1 <= 200
  omega
end Qr
end Go.Proofs.YtkdnnleanoompaaGreatDoor
