import Derived.Test.YtglgjaomneljbaaGreatDoorM27
namespace Go.Proofs.YtglgjaomneljbaaGreatDoor
set_option maxHeartbeats 2000000
set_option maxRecDepth 100000
open Go.RowKit
theorem zAl : (Tryz.prog.info? 87).map (fun i => (i.zero, i.size, i.bytes)) = some (some (.agg #[.string ⟨#[]⟩, .int .i8 0, .slice none 0 0]), 3, 48) := by kernel_rfl
theorem Ck.EAt.zGj {ty : TypeId} {Q : Nat -> Prop} {w w1 : World} {l : Ck.Env} {xs : List Value} {base : Nat} {v : Value} {n : Nat} (hn : n = l.length) (hn0 : 0 < n) (hE : Ck.EFlat Q w l xs) (hw : Below w.heap.size w w1) (hown : w1.ownsRow base ty 3 v n xs) :
  ∃ G k, v = .slice G n k /\ Ck.EAt Q w1 l G n k := by
 exact zG5
theorem qZ (Q : Nat -> Prop) (l : Ck.Env) (A : Option Addr) (n c : Nat) (nm : ByteArray) (a : Ck.T2) (AG : Option Addr) (am ac : Nat) (w : World) (hE : Ck.EAt Q w l A n c) (hL : Ck.Ly Q w a AG am ac) (hbn : n + 1 <= 20000) :
  Calls Tryz.prog 30 #[.slice A n c, .string nm, .agg #[.int .i8 a.1, .slice AG am ac]] w fun e w' => ∃ G k, e = .returned (.slice G (n + 1) k) /\ Ck.EAt Q w' (l ++ [(nm, a)]) G (n + 1) k /\ Below w.heap.size w w' := by
 have hn := hE.n_eq;have HN := k0_ hn;have HE := k0_ hE;have HL := k0_ hL;have hnc := hE.n_le;have hcm := hE.c_le;have i5 : (n : Int) <= 20000 := by omega
 obtain ⟨i0, hi, hz1, hz2, hz3⟩ := info_parts zAl;have hb1 := zO w (.cells #[.int .i8 a.1, .slice AG am ac] 25);have h0 := zD w (.cells #[.int .i8 a.1, .slice AG am ac] 25);have hz : (w.alloc (.cells #[.int .i8 a.1, .slice AG am ac] 25)).heap.size = w.heap.size + 1 := by simp
 have HB1 := k0_ hb1;have H0 := k0_ h0;have HZ := k0_ hz;clear hn hE hL hb1 h0 hz
 go_enter Tryz.func30, Tryz.ntmps30
 go_upto_region 1 with fail
 generalize w.alloc (.cells #[.int .i8 a.1, .slice AG am ac] 25) = w1 at *
 go_wp2_with (first | (at_make; refine wpList_make_own _ rfl _ _ 64 rfl (w.heap.size + 1) 87 i0 (.agg #[.string ⟨#[]⟩, .int .i8 0, .slice none 0 0]) 3 Tryz.underlying64 hi hz1 hz2 .i64 .i64 ((n : Int) + 1) (n + 1) rfl rfl (by omega) (by rw [hz3]; omega) (by unfold maxLen; omega) (Nat.le_of_eq HZ.out.symm) ?_; intro w2 hown hg))
 have HG := k0_ hg;have HO := k0_ hown;clear hg hown;have HB2 := k0_ (show Below w1.heap.size w1 w2 from (Below.refl _ _).grown HG.out (Nat.le_refl _) (fun k hk => by cases hk));clear HG
 go_loopw [7, 8] (fun v7 v8 wr => ∃ (i : Nat) (ys : List Value), v8 = .int .i64 i /\ i <= n /\ wr.ownsRow (w.heap.size + 1) 87 3 v7 i ys /\ Ck.EFlat Q w (l.take i) ys /\ Below w1.heap.size w1 wr) (fun _ v _ => n - (intOf v).toNat)
 case atStart => exact ⟨0, [], rfl, by omega, HO.out, (by rw [List.take_zero]; exact trivial), HB2.out⟩
 case round =>
  obtain ⟨i, ys, rfl, hi', hown, hfl, hb⟩ := hrel
  by_cases hin : i < n
  ·obtain ⟨x, hx⟩ : ∃ x, l[i]? = some x := ⟨l[i]'(by have := HN.out; omega), List.getElem?_eq_getElem _⟩
   obtain ⟨bb, oo, G, m, k, hA, c0, c1, c2, hLx⟩ := HE.out.at hx;have hbw := HB1.out.trans (hb.mono HB1.out.size);have c0 := zB c0 hbw;have c1 := zB c1 hbw;have c2 := zB c2 hbw;have j1 : (i : Int) < n := by omega
   have j2 : (0 : Int) <= i /\ (i : Int) < n := by omega
   have HX := k0_ hx;have HLX := k0_ hLx;have HB := k0_ hb;have HFL := k0_ hfl;have zb := hb.size;clear hx hLx hb hfl hbw;subst hA
   go_wp2_with (first | (at_builtin; refine wpList_append_own _ rfl _ _ 64 rfl (w.heap.size + 1) 87 i0 (.agg #[.string ⟨#[]⟩, .int .i8 0, .slice none 0 0]) 3 48 Tryz.underlying64 hi hz1 hz2 hz3 rfl (by decide) u7 _ _ rfl (hown.alloc _) ⟨wr.heap.size, 0, none⟩ 1 1 [.string x.1, .int .i8 x.2.1, .slice G m k] rfl rfl ?c1 ?c2 ?c3 ?c4 ?c5 ?_))
   case c1 => exact qR (zD wr _)
   case c2 => intro y hy; simp at hy; rcases hy with rfl | rfl | rfl <;> rfl
   case c3 => unfold maxLen; omega
   case c4 => omega
   case c5 => have := HZ.out; simp; omega
   intro v' w3 hown2 hg2 _
   have hfin : Hid (w3.ownsRow (w.heap.size + 1) 87 3 v' (i + 1) (ys ++ [.string x.1, .int .i8 x.2.1, .slice G m k]) /\ Ck.EFlat Q w (l.take (i + 1)) (ys ++ [.string x.1, .int .i8 x.2.1, .slice G m k]) /\ Below w1.heap.size w1 w3) := by
    refine k0_ ⟨hown2, ?_, ((HB.out.alloc zb _).grown hg2 (by simp; omega) (fun k hk => by have := (hown.lt k hk).1; have := HZ.out; omega))⟩;rw [List.take_add_one, HX.out];exact HFL.out.app ⟨⟨rfl, rfl, G, m, k, rfl, HLX.out⟩, trivial⟩
   clear hown2 hg2 hown
   go_wp2_with fail
   go_roundw
   case rel => exact ⟨i + 1, _, by go_num, by omega, hfin.out.1, hfin.out.2.1, hfin.out.2.2⟩
   case measure => simp [intOf]; omega
  ·obtain rfl : i = n := by omega
   have j1 : ¬ ((i : Int) < i) := by omega
   rw [List.take_of_length_le (by have := HN.out; omega)] at hfl;have HB := k0_ hb;have HFL := k0_ hfl;have zb := HB.out.size;obtain ⟨x0, x1, -, -, xl⟩ := zF (zA hb (zC H0.out) H0.out);clear hb hfl
   go_wp2_with (first | (at_builtin; refine wpList_append_own _ rfl _ _ 64 rfl (w.heap.size + 1) 87 i0 (.agg #[.string ⟨#[]⟩, .int .i8 0, .slice none 0 0]) 3 48 Tryz.underlying64 hi hz1 hz2 hz3 rfl (by decide) u7 _ _ rfl (hown.alloc _) ⟨wr.heap.size, 0, none⟩ 1 1 [.string nm, .int .i8 a.1, .slice AG am ac] rfl rfl ?c1 ?c2 ?c3 ?c4 ?c5 ?_))
   case c2 => exact ⟨rfl, rfl, rfl⟩
   case c3 => unfold maxLen; omega
   case c4 => omega
   case c5 => have := HZ.out; simp; omega
   intro v' w3 hown2 hg2 _
   have hfin : Hid (∃ G k, v' = .slice G (i + 1) k /\ Ck.EAt Q w3 (l ++ [(nm, a)]) G (i + 1) k /\ Below w.heap.size w w3) := by
    have hb2 := HB1.out.trans (((HB.out.alloc zb (.cells #[.string nm, .int .i8 a.1, .slice AG am ac] 87)).grown hg2 (by simp; omega) (fun k hk => by have := (hown.lt k hk).1; have := HZ.out; omega)).mono HB1.out.size);obtain ⟨G, k, h1, h2⟩ := Ck.EAt.zGj (l := l ++ [(nm, a)]) (by have := HN.out; simp; omega) (by omega) (HFL.out.app (xs' := [.string nm, .int .i8 a.1, .slice AG am ac]) ⟨⟨rfl, rfl, AG, am, ac, rfl, HL.out⟩, trivial⟩) hb2 hown2;exact k0_ ⟨G, k, h1, h2, hb2⟩
   clear hown2 hg2 hown x0 x1 xl;obtain ⟨G, k, rfl, hf⟩ := hfin.out;have HF := k0_ hf;clear hfin hf
   go_wp2_with fail
   go_ret
   exact ⟨G, k, rfl, HF.out.1, HF.out.2⟩
theorem zBu (Q : Nat -> Prop) (l : Ck.Env) (A : Option Addr) (n c : Nat) (x : ByteArray) (w : World) (hE : Ck.EAt Q w l A n c) :
  Calls Tryz.prog 28 #[.slice A n c, .string x] w fun e w' => ∃ (a : Ck.T2) (G : Option Addr) (m k : Nat), e = .returned (.tuple #[.agg #[.int .i8 a.1, .slice G m k], .bool (Ck.fnd l x).isSome]) /\ Ck.Ly (Ck.Cut Q w.heap.size w.heap.size) w' a G m k /\ (∀ b, Ck.fnd l x = some b -> b = a) /\ Below w.heap.size w w' := by
 have hn := hE.n_eq;have HN := k0_ hn;have HE := k0_ hE;have hnc := hE.n_le;have hcm := hE.c_le;have i5 : (n : Int) <= 9223372036854775807 := by unfold maxLen at hcm; omega
 have HB1 := k0_ (zO w (.cells #[.int .i8 0, .slice none 0 0] 25));have H0 := k0_ (zD w (.cells #[.int .i8 0, .slice none 0 0] 25));obtain ⟨R, hR⟩ : ∃ R, R = Ck.fnd l x := ⟨_, rfl⟩
 rw [← hR];have HR := k0_ hR;clear hn hE hR
 go_enter Tryz.func28, Tryz.ntmps28
 go_upto_region 1 with fail
 generalize w.alloc (.cells #[.int .i8 0, .slice none 0 0] 25) = w1 at *
 go_wp2_with fail
 go_loopw [6] (fun v6 wr => ∃ i : Nat, v6 = .int .i64 ((i : Int) - 1) /\ i <= n /\ (∀ (j : Nat) (y : ByteArray × Ck.T2), i <= j -> l[j]? = some y -> (y.1.toList == x.toList) = false) /\ Below w1.heap.size w1 wr) (fun v _ => (intOf v + 1).toNat)
 case atStart =>
  exact zEl
 case round =>
  obtain ⟨i, rfl, hin, hno, hb⟩ := hrel
  cases i with
  | zero =>
   have hf : R = none := HR.out.trans (Ck.uV fun j z hz => hno j z (Nat.zero_le _) hz);subst hf;have z0 := zA hb (zC H0.out) H0.out;obtain ⟨x0, x1, f0, f1, xl⟩ := zF z0;have z1 := k0_ (zL z0 (.int .i8 0) (.slice none 0 0));have HBF := k0_ (zG (HB1.out.trans (hb.mono HB1.out.size)) (Nat.le_refl _) (.int .i8 0) (.slice none 0 0));clear hno hb z0
   go_wp2_with fail
   generalize (wr.setCell ⟨w.heap.size, 0, none⟩ (.int .i8 0)).setCell ⟨w.heap.size, 1, none⟩ (.slice none 0 0) = w3 at *;obtain ⟨k0, k1, -, -, -⟩ := zF z1.out;refine bodyPost_ret (v := .tuple #[.agg #[.int .i8 0, .slice none 0 0], .bool false]) (by simp [results, Tryz.results28, go_sem, k0, k1]) rfl ⟨(0, .nil), none, 0, 0, rfl, Ck.Ly.zero _ _, (fun b e => by cases e), HBF.out⟩
  | succ j =>
   have hj : j < l.length := by have := HN.out; omega
   obtain ⟨y, hy⟩ : ∃ y, l[j]? = some y := ⟨l[j]'hj, List.getElem?_eq_getElem hj⟩
   obtain ⟨b, o, G, m, k, hA, c0, c1, c2, hL⟩ := HE.out.at hy;have hbw := HB1.out.trans (hb.mono HB1.out.size);have c0 := zB c0 hbw;have c1 := zB c1 hbw;have c2 := zB c2 hbw;have HL := k0_ ((hL.weak (Q' := Ck.Cut Q w.heap.size (w.heap.size + 1)) fun b hb hq => .inl ⟨hq, hb⟩).later hbw);have z0 := kp_ hb H0;have HBW := k0_ hbw;have HB := k0_ hb;have HNO := k0_ hno;have HYY := k0_ hy;have e1 : ((j + 1 : Nat) : Int) - 1 = (j : Int) := by omega
   rw [e1];have j1 : (0 : Int) <= j := by omega
   have j2 : (j : Int) < n := by omega
   have j3 : (0 : Int) <= j /\ (j : Int) < n := by omega
   clear hno hb hL hy e1 hj hbw;subst hA;cases hq : (y.1.toList == x.toList)
   ·exact zG6
   ·have hf : R = some y.2 := HR.out.trans (Ck.uW HYY.out hq fun i' z hi' hz' => HNO.out i' z hi' hz')
    subst hf;obtain ⟨x0, x1, f0, f1, xl⟩ := zF z0.out;have z1 := k0_ (zL z0.out (.int .i8 y.2.1) (.slice G m k));have HBF := k0_ (zG HBW.out (Nat.le_refl _) (.int .i8 y.2.1) (.slice G m k));have HLF := k0_ (HL.out.set2 (X := w.heap.size) (fun b hq => hq.ne (by omega) (by omega)) (.int .i8 y.2.1) (.slice G m k))
    go_wp2_with fail
    generalize (wr.setCell ⟨w.heap.size, 0, none⟩ (.int .i8 y.2.1)).setCell ⟨w.heap.size, 1, none⟩ (.slice G m k) = w3 at *;obtain ⟨k0, k1, -, -, -⟩ := zF z1.out;refine bodyPost_ret (v := .tuple #[.agg #[.int .i8 y.2.1, .slice G m k], .bool true]) (by simp [results, Tryz.results28, go_sem, k0, k1]) rfl ⟨y.2, G, m, k, rfl, HLF.out.weak (fun b _ h => h.out (by omega)), (fun b e => by injection e with e; exact e.symm), HBF.out⟩
namespace Qr
structure Qv where
 md : Int
 D : Cg.Ops
 agC : ∀ (k : Int) (kids : Fo) (A : Option Addr) (n c : Nat) (k' : Int) (kids' : Fo) (A' : Option Addr) (n' c' : Nat) (w : World), Ty.Is w k kids A n c -> Ty.Is w k' kids' A' n' c' ->
  Calls Tryz.prog 33 #[.agg #[.int .i8 k, .slice A n c], .agg #[.int .i8 k', .slice A' n' c'], .int .i64 md] w fun e w' => e = .returned (.bool (D.ag (k, kids) (k', kids'))) /\ Below w.heap.size w w'
 asC : ∀ (Q : Nat -> Prop) (kd : Int) (a : Ck.T2) (A : Option Addr) (n c : Nat) (w : World), 3 <= kd /\ kd <= 5 -> Ck.Ly Q w a A n c -> Ty.okT a.1 a.2 = true ->
  Calls Tryz.prog 60 #[.int .i8 kd, .agg #[.int .i8 a.1, .slice A n c], .int .i64 md] w (Cg.AsPost Q w (D.asO kd a) (D.asl kd a) (D.asr kd a))
 mtC : ∀ (Q : Nat -> Prop) (a : Ck.T2) (A : Option Addr) (n c : Nat) (b : Ck.T2) (A' : Option Addr) (n' c' : Nat) (w : World), Ck.Ly Q w a A n c -> Ck.Ly Q w b A' n' c' ->
  Calls Tryz.prog 61 #[.agg #[.int .i8 a.1, .slice A n c], .agg #[.int .i8 b.1, .slice A' n' c'], .int .i64 md] w (MtPost Q w (D.ag a b) (D.mt a b))
 castC : D.ca = true -> (∀ (k : Int) (kids : Fo) (A : Option Addr) (n c : Nat) (k' : Int) (kids' : Fo) (A' : Option Addr) (n' c' : Nat) (w : World), Ty.Is w k kids A n c -> Ty.Is w k' kids' A' n' c' ->
  Calls Tryz.prog 59 #[.agg #[.int .i8 k, .slice A n c], .agg #[.int .i8 k', .slice A' n' c']] w fun e w' => e = .returned (.bool (D.ag (k, kids) (k', kids'))) /\ Below w.heap.size w w') /\ (∀ (k : Int) (kids : Fo) (A : Option Addr) (n c : Nat) (k' : Int) (kids' : Fo) (A' : Option Addr) (n' c' : Nat) (w : World), Ty.Is w k kids A n c -> Ty.Is w k' kids' A' n' c' ->
  Calls Tryz.prog 58 #[.agg #[.int .i8 k, .slice A n c], .agg #[.int .i8 k', .slice A' n' c']] w fun e w' => e = .returned (.bool (D.gs (k, kids) (k', kids'))) /\ Below w.heap.size w w')
def statQ : Qv where
 md := 1
 D := St.ops
 agC := fun k kids A n c k' kids' A' n' c' w h1 h2 => zBv 1 rfl k kids A n c k' kids' A' n' c' w h1 h2
 asC := fun Q kd a A n c w hkd hL hok => zAV 1 rfl Q kd a A n c w hkd hL hok
 mtC := fun Q a A n c b A' n' c' w h1 h2 => zDE 1 rfl Q a A n c b A' n' c' w h1 h2
 castC := fun e => by cases e
end Qr
end Go.Proofs.YtglgjaomneljbaaGreatDoor
namespace Go.Proofs.YtglgjaomneljbaaGreatDoor
open Go.RowKit
namespace Qr
def TellsOf (qv : Qv) (K : Nat) (wb : World) (h : Hd) (kids : Tm) (p : Pl) : Prop :=
 ∀ (Q : Nat -> Prop) (l : Ck.Env) (A : Option Addr) (n c : Nat) (W : World), Below wb.heap.size wb W -> (∀ b, b < wb.heap.size -> Q b) -> Ck.EAt Q W l A n c -> (∀ x ∈ l, Ck.chk x.2 = 0) -> l.length + 2 * (Tm.nodes kids + 1) <= 20000 ->
  Calls Tryz.prog 15 #[.agg (tC_ h p), .slice A n c, .int .i64 qv.md] W (Post Q W (Cg.ty qv.D K h kids l))
theorem three (w : World) (o : Obj) : ∃ b1 w1, w1 = ((w.alloc o).alloc (.cells #[.int .i8 0, .slice none 0 0] 25)).alloc (.cells #[.int .i64 0, .int .i64 0, .string ⟨#[]⟩] 35) /\ Below w.heap.size w b1 /\ b1.heap[w.heap.size]? = some o /\ Below b1.heap.size b1 w1 /\
  w1.heap[w.heap.size + 1]? = some (.cells #[.int .i8 0, .slice none 0 0] 25 (0, 0)) /\ w1.heap[w.heap.size + 1 + 1]? = some (.cells #[.int .i64 0, .int .i64 0, .string ⟨#[]⟩] 35 (0, 0)) /\ b1.heap.size = w.heap.size + 1 /\ w1.heap.size = w.heap.size + 3 := by
 refine ⟨w.alloc o, _, rfl, zO w o, zD w o, zW _ _ _, ?_, ?_, by simp, by simp⟩
 ·have := (zS (w.alloc o) (.cells #[.int .i8 0, .slice none 0 0] 25) (.cells #[.int .i64 0, .int .i64 0, .string ⟨#[]⟩] 35)).1
  simpa using this
 ·have := (zS (w.alloc o) (.cells #[.int .i8 0, .slice none 0 0] 25) (.cells #[.int .i64 0, .int .i64 0, .string ⟨#[]⟩] 35)).2
  simpa using this
theorem Post.mk {Q : Nat -> Prop} {w w' : World} {r : Ck.R} {a : Ck.T2} {E p : Int} {x : ByteArray} {G : Option Addr} {m c : Nat} (hn : Nz r) (h : tyO r = a /\ eO r = E /\ pO r = p /\ xO r = x) (hl : Ck.Ly (Ck.Cut Q w.heap.size w.heap.size) w' a G m c) (hb : Below w.heap.size w w') :
  Post Q w r (.returned (.tuple #[.agg #[.int .i8 a.1, .slice G m c], .agg #[.int .i64 E, .int .i64 p, .string x]])) w' := by
 obtain ⟨rfl, rfl, rfl, rfl⟩ := h;exact ⟨hn, G, m, c, rfl, hl, hb⟩
theorem zne {Q : Nat -> Prop} {N S Z b : Nat} (hS : S = N + 1) (h : Z = N + 2 \/ N + 3 <= Z) (hl : b < S) (hq : Ck.Cut Q N (N + 3) b) : b ≠ Z := by
 rcases hq with ⟨-, q⟩ | q <;> rcases h with h | h <;> omega
theorem Post.names {Q : Nat -> Prop} {w w' : World} {r : Ck.R} {e : Ending} (hp : Post Q w r e w') : ∃ (a : Ck.T2) (E p : Int) (x : ByteArray) (G : Option Addr) (m c : Nat), e = .returned (.tuple #[.agg #[.int .i8 a.1, .slice G m c], .agg #[.int .i64 E, .int .i64 p, .string x]]) /\ (Nz r /\ tyO r = a /\ eO r = E /\ pO r = p /\ xO r = x) /\ Ck.Ly (Ck.Cut Q w.heap.size w.heap.size) w' a G m c /\ Below w.heap.size w w' := by
 obtain ⟨h0, G, m, c, h1, h2, h3⟩ := hp;exact ⟨_, _, _, _, G, m, c, h1, ⟨h0, rfl, rfl, rfl, rfl⟩, h2, h3⟩
theorem zGZ {k : Int} (hk : 3 <= k /\ k <= 5) : Ty.okK k 2 = true := by unfold Ty.okK; rw [if_neg (by omega), if_pos hk]; rfl
theorem wD {k : Int} (hk : 3 <= k /\ k <= 5) {a b : Ck.T2} (ha : Ty.okT a.1 a.2 = true) (hb : Ty.okT b.1 b.2 = true) : Ty.okT (Ck.mk2 k a b).1 (Ck.mk2 k a b).2 = true := by
 unfold Ty.okT at *;show (Ty.okK k 2 && (Ty.okK a.1 (Ty.len a.2) && Ty.okF a.2 && (Ty.okK b.1 (Ty.len b.2) && Ty.okF b.2 && true))) = true;rw [zGZ hk, ha, hb]; rfl
theorem wY {Q : Nat -> Prop} {N S Z b : Nat} (_ : N + 3 <= S) (h : Z = N + 2 \/ S <= Z) (hl : b < S) (hq : Ck.Cut Q N (N + 3) b) : b ≠ Z := by
 rcases hq with ⟨-, q⟩ | q <;> rcases h with h | h <;> omega
theorem jA {u : World} {N : Nat} {v0 v1 v2 v3 v4 v5 v6 v7 v8 v9 v10 : Value} {t : TypeId} (h : u.heap[N]? = some (.cells #[v0, v1, v2, v3, v4, v5, v6, v7, v8, v9, v10] t (0, 0))) : u.cell? ⟨N, 0, none⟩ = some v0 /\ u.cell? ⟨N, 1, none⟩ = some v1 /\ u.cell? ⟨N, 2, none⟩ = some v2 /\ u.cell? ⟨N, 3, none⟩ = some v3 /\ u.cell? ⟨N, 4, none⟩ = some v4 /\ u.cell? ⟨N, 5, none⟩ = some v5 /\ u.cell? ⟨N, 6, none⟩ = some v6 /\ u.cell? ⟨N, 7, none⟩ = some v7 /\ u.cell? ⟨N, 8, none⟩ = some v8 /\ u.cell? ⟨N, 9, none⟩ = some v9 /\ u.cell? ⟨N, 10, none⟩ = some v10 := by
 obtain ⟨q0, q1, q2, q3, q4, q5, q6, q7, q8, q9, q10, ql⟩ := zJ h;exact ⟨q0, q1, q2, q3, q4, q5, q6, q7, q8, q9, q10⟩
theorem wJ {wb b1 W : World} {kb ko : Nat} {h : Hd} {q : Pl} (g : Ck.KidAt wb kb (ko) h q) (h1 : Below wb.heap.size wb b1) (hb : Below b1.heap.size b1 W) : W.cell? ⟨kb, ko, none⟩ = some (.int .i8 h.kind) /\ W.cell? ⟨kb, ko + 1, none⟩ = some (.string h.name) /\ W.cell? ⟨kb, ko + 2, none⟩ = some (.string h.arg) /\ W.cell? ⟨kb, ko + 3, none⟩ = some (.int .i64 h.num) /\ W.cell? ⟨kb, ko + 4, none⟩ = some (.int .i8 h.tk) /\ W.cell? ⟨kb, ko + 5, none⟩ = some (.slice q.TA q.tn q.tc) /\ W.cell? ⟨kb, ko + 6, none⟩ = some (.int .i8 h.uk) /\ W.cell? ⟨kb, ko + 7, none⟩ = some (.slice q.UA q.un q.uc) /\ W.cell? ⟨kb, ko + 8, none⟩ = some (.int .i64 h.label) /\ W.cell? ⟨kb, ko + 9, none⟩ = some (.int .i64 h.pos) /\ W.cell? ⟨kb, ko + 10, none⟩ = some (.slice q.A q.n q.c) :=
 have k (i : Nat) (v : Value) (e) := zB (zB (g i v e) h1) hb
 ⟨k 0 _ rfl, k 1 _ rfl, k 2 _ rfl, k 3 _ rfl, k 4 _ rfl, k 5 _ rfl, k 6 _ rfl, k 7 _ rfl, k 8 _ rfl, k 9 _ rfl, k 10 _ rfl⟩
theorem zDW {wb b1 W : World} {kb ko : Nat} {h : Hd} {q : Pl} (g : Ck.KidAt wb kb (ko + 11) h q) (h1 : Below wb.heap.size wb b1) (hb : Below b1.heap.size b1 W) : W.cell? ⟨kb, ko + 11, none⟩ = some (.int .i8 h.kind) /\ W.cell? ⟨kb, ko + 12, none⟩ = some (.string h.name) /\ W.cell? ⟨kb, ko + 13, none⟩ = some (.string h.arg) /\ W.cell? ⟨kb, ko + 14, none⟩ = some (.int .i64 h.num) /\ W.cell? ⟨kb, ko + 15, none⟩ = some (.int .i8 h.tk) /\ W.cell? ⟨kb, ko + 16, none⟩ = some (.slice q.TA q.tn q.tc) /\ W.cell? ⟨kb, ko + 17, none⟩ = some (.int .i8 h.uk) /\ W.cell? ⟨kb, ko + 18, none⟩ = some (.slice q.UA q.un q.uc) /\ W.cell? ⟨kb, ko + 19, none⟩ = some (.int .i64 h.label) /\ W.cell? ⟨kb, ko + 20, none⟩ = some (.int .i64 h.pos) /\ W.cell? ⟨kb, ko + 21, none⟩ = some (.slice q.A q.n q.c) :=
 have k (i : Nat) (v : Value) (e) := zB (zB (g i v e) h1) hb
 ⟨k 0 _ rfl, k 1 _ rfl, k 2 _ rfl, k 3 _ rfl, k 4 _ rfl, k 5 _ rfl, k 6 _ rfl, k 7 _ rfl, k 8 _ rfl, k 9 _ rfl, k 10 _ rfl⟩
theorem zF0 {wb b1 W : World} {kb ko : Nat} {h : Hd} {q : Pl} (g : Ck.KidAt wb kb (ko + 22) h q) (h1 : Below wb.heap.size wb b1) (hb : Below b1.heap.size b1 W) : W.cell? ⟨kb, ko + 22, none⟩ = some (.int .i8 h.kind) /\ W.cell? ⟨kb, ko + 23, none⟩ = some (.string h.name) /\ W.cell? ⟨kb, ko + 24, none⟩ = some (.string h.arg) /\ W.cell? ⟨kb, ko + 25, none⟩ = some (.int .i64 h.num) /\ W.cell? ⟨kb, ko + 26, none⟩ = some (.int .i8 h.tk) /\ W.cell? ⟨kb, ko + 27, none⟩ = some (.slice q.TA q.tn q.tc) /\ W.cell? ⟨kb, ko + 28, none⟩ = some (.int .i8 h.uk) /\ W.cell? ⟨kb, ko + 29, none⟩ = some (.slice q.UA q.un q.uc) /\ W.cell? ⟨kb, ko + 30, none⟩ = some (.int .i64 h.label) /\ W.cell? ⟨kb, ko + 31, none⟩ = some (.int .i64 h.pos) /\ W.cell? ⟨kb, ko + 32, none⟩ = some (.slice q.A q.n q.c) :=
 have k (i : Nat) (v : Value) (e) := zB (zB (g i v e) h1) hb
 ⟨k 0 _ rfl, k 1 _ rfl, k 2 _ rfl, k 3 _ rfl, k 4 _ rfl, k 5 _ rfl, k 6 _ rfl, k 7 _ rfl, k 8 _ rfl, k 9 _ rfl, k 10 _ rfl⟩
theorem zq {Q : Nat -> Prop} {N S b : Nat} (hS : N + 3 <= S) (h : Ck.Cut (Ck.Cut Q N (N + 3)) S S b) : Ck.Cut Q N (N + 3) b := Ck.Cut.in hS h
end Qr
namespace Qr
theorem zGU {u : World} {X : Nat} {v0 v1 v2 v3 v4 v5 : Value} {t : TypeId} (h : u.heap[X]? = some (.cells #[v0, v1, v2, v3, v4, v5] t (0, 0))) (a b : Value) : ((u.setCell ⟨X, 0, none⟩ a).setCell ⟨X, 1, none⟩ b).heap[X]? = some (.cells #[a, b, v2, v3, v4, v5] t (0, 0)) := by
 simp [World.setCell, Array.getElem?_modify, h]
theorem zGT {u : World} {X : Nat} {v0 v1 v2 v3 v4 v5 : Value} {t : TypeId} (h : u.heap[X]? = some (.cells #[v0, v1, v2, v3, v4, v5] t (0, 0))) (a b : Value) : ((u.setCell ⟨X, 2, none⟩ a).setCell ⟨X, 3, none⟩ b).heap[X]? = some (.cells #[v0, v1, a, b, v4, v5] t (0, 0)) := by
 simp [World.setCell, Array.getElem?_modify, h]
theorem zGS {u : World} {X : Nat} {v0 v1 v2 v3 v4 v5 : Value} {t : TypeId} (h : u.heap[X]? = some (.cells #[v0, v1, v2, v3, v4, v5] t (0, 0))) (a b : Value) : ((u.setCell ⟨X, 4, none⟩ a).setCell ⟨X, 5, none⟩ b).heap[X]? = some (.cells #[v0, v1, v2, v3, a, b] t (0, 0)) := by
 simp [World.setCell, Array.getElem?_modify, h]
theorem jP {w : World} {b : Nat} {v0 v1 v2 v3 v4 v5 : Value} {t : TypeId} (h : w.heap[b]? = some (.cells #[v0, v1, v2, v3, v4, v5] t (0, 0))) :
  w.cell? ⟨b, 0, none⟩ = some v0 /\ w.cell? ⟨b, 1, none⟩ = some v1 /\ w.cell? ⟨b, 2, none⟩ = some v2 /\ w.cell? ⟨b, 3, none⟩ = some v3 /\ w.cell? ⟨b, 4, none⟩ = some v4 /\ w.cell? ⟨b, 5, none⟩ = some v5 /\ w.frozen? ⟨b, 0, none⟩ = false /\ w.frozen? ⟨b, 1, none⟩ = false /\ w.frozen? ⟨b, 2, none⟩ = false /\ w.frozen? ⟨b, 3, none⟩ = false /\ w.frozen? ⟨b, 4, none⟩ = false /\ w.frozen? ⟨b, 5, none⟩ = false /\ b < w.heap.size := by
 refine ⟨?_, ?_, ?_, ?_, ?_, ?_, ?_, ?_, ?_, ?_, ?_, ?_, zC h⟩ <;> simp [World.cell?, World.frozen?, h]
theorem jC {u : World} {X Y : Nat} {o : Obj} (h : u.heap[Y]? = some o) (hne : X ≠ Y) (i j : Nat) (a b : Value) : ((u.setCell ⟨X, i, none⟩ a).setCell ⟨X, j, none⟩ b).heap[Y]? = some o := by
 simp [World.setCell, Array.getElem?_modify, h, hne]
theorem yc {N X : Nat} {w u : World} (h : Below N w u) (hX : N <= X) (i j : Nat) (a b : Value) : Below N w ((u.setCell ⟨X, i, none⟩ a).setCell ⟨X, j, none⟩ b) := (h.setCell (p := ⟨X, i, none⟩) hX _).setCell (p := ⟨X, j, none⟩) hX _
theorem qf {Q : Nat -> Prop} {w : World} {a : Ck.T2} {G : Option Addr} {m c : Nat} (h : Ck.Ly Q w a G m c) {X : Nat} (hX : ∀ b, Q b -> b ≠ X) (i j : Nat) (v0 v1 : Value) : Ck.Ly Q ((w.setCell ⟨X, i, none⟩ v0).setCell ⟨X, j, none⟩ v1) a G m c := (h.set hX _ _).set hX _ _
theorem j6 {Q : Nat -> Prop} {N S b : Nat} (hS : N + 4 <= S) (h : Ck.Cut (Ck.Cut Q N (N + 4)) S S b) : Ck.Cut Q N (N + 4) b := Ck.Cut.in hS h
theorem ja {Q : Nat -> Prop} {N Y b : Nat} (hY : Y = N + 3) (h : Ck.Cut Q N (N + 4) b) : b ≠ Y := by rcases h with ⟨-, h⟩ | h <;> omega
end Qr
theorem Qr.to4 {Q : Nat -> Prop} {N S b : Nat} (hS : S = N + 1) (hl : b < S) (hq : Ck.Cut Q N (N + 3) b) : Ck.Cut Q N (N + 4) b := by
 rcases hq with hq | hq
 ·exact .inl hq
 ·omega
end Go.Proofs.YtglgjaomneljbaaGreatDoor
namespace Go.Proofs.YtglgjaomneljbaaGreatDoor
namespace Qr
open Ck
theorem jW (h : Hd) (r : R) (f : T2 -> R) : lift h (bnd r f) = bnd r fun a => lift h (f a) := by cases r <;> rfl
theorem qG (h : Hd) (c : Prop) [Decidable c] (x y : R) : lift h (if c then x else y) = if c then lift h x else lift h y := by split <;> rfl
theorem zn (h : Hd) (E : Int) : lift h (fault h E) = fault h E := rfl
theorem zE9 {h : Hd} {r : R} (e : ∀ a, r = .ok a -> chk a = 0) : lift h r = r := by
 cases r with
 | ok a => exact jM (e a rfl)
 | bad _ _ _ => rfl
theorem xP {r : R} {f g : T2 -> R} (e : ∀ a, r = .ok a -> f a = g a) : bnd r f = bnd r g := by
 cases r with
 | ok a => exact e a rfl
 | bad _ _ _ => rfl
theorem bounds {k : Int} {f : Fo} (h : Ty.chk k f = 0) : Ty.nodes f + 1 <= 8192 /\ Ty.dep f + 1 <= 200 := by
 unfold Ty.chk at h
 split at h
 ·cases h
 ·split at h
  ·cases h
  ·exact ⟨by omega, by omega⟩
theorem zDl {k : Int} {i j : Nat} {k1 : Int} {f1 r : Fo} (h0 : chk (k, .node i j k1 f1 r) = 0) : chk (k1, f1) = 0 := by
 have h1 := Ty.zm (k := k) (kids := .node i j k1 f1 r) h0;have h2 := Ty.uL (k := k) (kids := .node i j k1 f1 r) h0;simp only [Ty.okF, Bool.and_eq_true] at h2;have h3 := bounds (k := k) (f := .node i j k1 f1 r) h0;simp only [Ty.nodes, Ty.dep] at h3;exact Ty.zB7 (k := k1) (kids := f1) (by unfold Ty.okT; rw [h2.2.1.1, h2.2.1.2]; rfl) (by omega) (by omega)
theorem zB6 {k : Int} {i j i' j' : Nat} {k1 k2 : Int} {f1 f2 r : Fo} (h0 : chk (k, .node i j k1 f1 (.node i' j' k2 f2 r)) = 0) : chk (k2, f2) = 0 := by
 have h2 := Ty.uL (k := k) (kids := .node i j k1 f1 (.node i' j' k2 f2 r)) h0;simp only [Ty.okF, Bool.and_eq_true] at h2;have h3 := bounds (k := k) (f := .node i j k1 f1 (.node i' j' k2 f2 r)) h0;simp only [Ty.nodes, Ty.dep] at h3;exact Ty.zB7 (k := k2) (kids := f2) (by unfold Ty.okT; rw [h2.2.2.1.1, h2.2.2.1.2]; rfl) (by omega) (by omega)
structure Sd (D : Cg.Ops) : Prop where
 l : ∀ k a, chk a = 0 -> chk (D.asl k a) = 0
 r : ∀ k a, chk a = 0 -> chk (D.asr k a) = 0
 m : ∀ a b, chk a = 0 -> chk b = 0 -> D.ag a b = true -> Ty.okT (D.mt a b).1 (D.mt a b).2 = true
theorem zEt : Sd St.ops where
 l := fun k a h0 => by
  obtain ⟨k', f⟩ := a;show chk (if k' = k then St.p1 f else (0, .nil)) = 0
  split
  ·match f, h0 with
   | .nil, _ => rfl
   | .node _ _ _ _ _, h0 => exact zDl h0
  ·rfl
 r := fun k a h0 => by
  obtain ⟨k', f⟩ := a;show chk (if k' = k then St.p2 f else (0, .nil)) = 0
  split
  ·match f, h0 with
   | .nil, _ => rfl
   | .node _ _ _ _ .nil, _ => rfl
   | .node _ _ _ _ (.node _ _ _ _ _), h0 => exact zB6 h0
  ·rfl
 m := fun a _ h1 _ _ => (Ty.zm h1).1
theorem zBO : ∀ {l : Env} {x : ByteArray} {a : T2}, (∀ y ∈ l, chk y.2 = 0) -> fnd l x = some a -> chk a = 0
 | [], _, _, _, e => by cases e
 | b :: l, x, a, hl, e => by
  unfold fnd at e
  cases hf : fnd l x with
  | some c =>
   rw [hf] at e;injection e with e; subst e
   exact zBO (fun y hy => hl y (List.mem_cons_of_mem _ hy)) hf
  | none =>
   rw [hf] at e;simp only at e
   split at e
   ·injection e with e; subst e; exact hl b (List.mem_cons_self ..)
   ·cases e
theorem zEx (s : ByteArray) : chk (opAns s) = 0 := by unfold opAns; split <;> rfl
section
variable (D : Cg.Ops) (K : Nat) (h h1 h2 h3 : Hd) (k1 k2 k3 : Tm) (l : Env)
theorem zGi (hl : ∀ y ∈ l, chk y.2 = 0) (hk : h.kind = 0) (kids : Tm) : Cg.ty D (K + 1) h kids l = (match fnd l h.name with | some a => R.ok a | none => R.bad 41 h.pos h.name) := by
 rw [Cg.qd, Cg.zDD _ _ _ _ _ hk]
 cases hf : fnd l h.name with
 | some a => exact jM (zBO hl hf)
 | none => rfl
theorem zGh (hk : h.kind = 1) (kids : Tm) : Cg.ty D (K + 1) h kids l = R.ok (1, .nil) := by rw [Cg.qd, Cg.zDC _ _ _ _ _ hk]; rfl
theorem zGg (hk : h.kind = 2) (kids : Tm) : Cg.ty D (K + 1) h kids l = R.ok (2, .nil) := by rw [Cg.qd, Cg.zD4 _ _ _ _ _ hk]; rfl
theorem zGf (hk : h.kind = 3) (kids : Tm) : Cg.ty D (K + 1) h kids l = R.ok (2, .nil) := by rw [Cg.qd, Cg.zD3 _ _ _ _ _ hk]; rfl
theorem zGe (hk : h.kind = 4) : Cg.ty D (K + 1) h (.node h1 k1 .nil) l = bnd (Cg.ty D K h1 k1 (l ++ [(h.name, TT h)])) fun b => lift h (.ok (mk2 3 (TT h) b)) := by
 rw [Cg.qd, Cg.zD2 _ _ _ _ _ hk, jW]; rfl
theorem zGd (hk : h.kind = 5) : Cg.ty D (K + 1) h (.node h1 k1 .nil) l = bnd (Cg.ty D K h1 k1 ((l ++ [(h.name, mk2 3 (TT h) (UU h))]) ++ [(h.arg, TT h)])) fun b => if D.ag b (UU h) = true then lift h (.ok (mk2 3 (TT h) (UU h))) else fault h 91 := by
 rw [Cg.qd, Cg.zD1 _ _ _ _ _ hk, jW, List.append_assoc];simp only [qG, zn]; rfl
theorem zGc (hk : h.kind = 7) : Cg.ty D (K + 1) h (.node h1 k1 (.node h2 k2 .nil)) l = bnd (Cg.ty D K h1 k1 l) fun a => if D.ag a (TT h) = true then Cg.ty D K h2 k2 (l ++ [(h.name, TT h)]) else fault h 91 := by
 rw [Cg.qd, Cg.zD0 _ _ _ _ _ hk, jW];simp only [qG, zn];refine xP fun a ha => ?_
 show (if _ then lift h (Cg.ty D K h2 k2 (l ++ [(h.name, TT h)])) else _) = _;rw [zE9 fun b hb => Cg.jd hb]
theorem zFa (hk : h.kind = 14) : Cg.ty D (K + 1) h (.node h1 k1 (.node h2 k2 (.node h3 k3 .nil))) l = bnd (Cg.ty D K h1 k1 l) fun a => if D.asO 5 a = true then bnd (Cg.ty D K h2 k2 (l ++ [(h.name, D.asl 5 a)])) fun b => bnd (Cg.ty D K h3 k3 (l ++ [(h.arg, D.asr 5 a)])) fun c => (if D.ag b c = true then lift h (.ok (D.mt b c)) else fault h 91) else fault h 90 := by
 rw [Cg.qd, Cg.zAN _ _ _ _ _ hk, jW];unfold Cg.meet;simp only [qG, zn, jW]; rfl
end
theorem zE2 {h : Hd} {kids : Tm} (hk : h.kind = 5) (ho : Tm.headOk h (Tm.len kids) = true) (hn : Tm.nd h kids <= 8192) (hd : Tm.dp h kids <= 200) : chk (mk2 3 (TT h) (UU h)) = 0 := by
 have h1 := qW ho (by rw [hk]; rfl);have h2 := xR ho (by rw [hk]; rfl);have o1 := (Ty.zm h1).1;have o2 := (Ty.zm h2).1;unfold Tm.nd Tm.tyN at hn;unfold Tm.dp Tm.tyD at hd;rw [hk] at hn hd;rw [show Tm.hasType 5 = true from rfl, show Tm.hasTo 5 = true from rfl, if_pos rfl, if_pos rfl] at hn hd;have b1 := bounds (k := h.tk) (f := h.tkids) h1;have b2 := bounds (k := h.uk) (f := h.ukids) h2;unfold Ty.nod at hn;unfold Ty.dpt at hd;rw [if_neg (by omega), if_neg (by omega)] at hd;refine Ty.zB7 ?_ ?_ ?_
 ·unfold Ty.okT at o1 o2 ⊢
  show (Ty.okK 3 2 && (Ty.okK h.tk (Ty.len h.tkids) && Ty.okF h.tkids && (Ty.okK h.uk (Ty.len h.ukids) && Ty.okF h.ukids && true))) = true;unfold TT at o1; unfold UU at o2;rw [o1, o2]; rfl
 ·show (Ty.nodes h.tkids + 1 + (Ty.nodes h.ukids + 1 + 0)) + 1 <= 8192
  omega
 ·show max (Ty.dep h.tkids + 1) (max (Ty.dep h.ukids + 1) 0) + 1 <= 200
  omega
end Qr
end Go.Proofs.YtglgjaomneljbaaGreatDoor
namespace Go.Proofs.YtglgjaomneljbaaGreatDoor
open Go.RowKit
set_option maxHeartbeats 8000000 in
set_option maxRecDepth 100000 in
theorem zAU (qv : Qr.Qv) (K : Nat) (Q : Nat -> Prop) (h h1 : Hd) (k1 : Tm) (q1 : Pl) (TA UA : Option Addr) (tn tc un uc kb ko kc : Nat) (l : Ck.Env) (A : Option Addr) (n c : Nat) (wb w : World)
  (hT : Ty.Is wb h.tk h.tkids TA tn tc) (hU : Ty.Is wb h.uk h.ukids UA un uc) (g1 : Ck.KidAt wb kb (ko) h1 q1) (hwb : Below wb.heap.size wb w) (hQ : ∀ b, b < wb.heap.size -> Q b) (hE : Ck.EAt Q w l A n c) (hl : l.length < 20000)
  (hk : h.kind = 4) (hokT : Ty.okT (Ck.TT h).1 (Ck.TT h).2 = true)  (hch : ∀ x ∈ l, Ck.chk x.2 = 0) (hcT : Ck.chk (Ck.TT h) = 0) (hb1 : l.length + 1 + 2 * (Tm.nodes k1 + 1) <= 20000) (T1 : Qr.TellsOf qv K wb h1 k1 q1) :
  Calls Tryz.prog 15 #[.agg (tD_ h TA tn tc UA un uc (some ⟨kb, ko, none⟩) 1 kc), .slice A n c, .int .i64 qv.md] w (Qr.Post Q w (Ck.bnd (Cg.ty qv.D K h1 k1 (l ++ [(h.name, Ck.TT h)])) fun b => Ck.lift h (.ok (Ck.mk2 3 (Ck.TT h) b)))) := by
 try unfold tD_
 obtain ⟨R, hR⟩ : ∃ R, R = (Ck.bnd (Cg.ty qv.D K h1 k1 (l ++ [(h.name, Ck.TT h)])) fun b => Ck.lift h (.ok (Ck.mk2 3 (Ck.TT h) b))) := ⟨_, rfl⟩
 rw [← hR];have HR := k0_ hR;obtain ⟨b1, w1, hw1, hb0, g0, hb1, h6, h7, hzb, hz⟩ := Qr.three w (.cells (tD_ h TA tn tc UA un uc (some ⟨kb, ko, none⟩) 1 kc) 28);have HW1 := k0_ hw1;have HB0 := k0_ hb0;have H0 := k0_ g0;have HBW := k0_ hb1;have H6 := k0_ h6;have H7 := k0_ h7;have HZB := k0_ hzb;have HZ := k0_ hz;have LZ := k0_ (Nat.le_of_eq hz.symm);have HWB := k0_ (hwb.trans (hb0.mono hwb.size));have hfrom := k0_ (fun (W : World) (hb : Below b1.heap.size b1 W) => hb0.trans (hb.mono hb0.size));have HQM : Hid (∀ b, b < wb.heap.size -> Ck.Cut Q w.heap.size (w.heap.size + 3) b) := k0_ (fun b hb => .inl ⟨hQ b hb, Nat.lt_of_lt_of_le hb hwb.size⟩);have HE : Hid (Ck.EAt (Ck.Cut Q w.heap.size (w.heap.size + 3)) b1 l A n c) := k0_ ((hE.weak (fun b hb hq => .inl ⟨hq, hb⟩)).below hb0);have HT : Hid (Ck.Ly (Ck.Cut Q w.heap.size (w.heap.size + 3)) b1 (Ck.TT h) TA tn tc) := k0_ (((Ck.Ly.of (a := Ck.TT h) hT).weak (fun b hb _ => HQM.out b hb)).later HWB.out);have HU : Hid (Ck.Ly (Ck.Cut Q w.heap.size (w.heap.size + 3)) b1 (Ck.UU h) UA un uc) := k0_ (((Ck.Ly.of (a := Ck.UU h) hU).weak (fun b hb _ => HQM.out b hb)).later HWB.out);have HN := k0_ hE.n_eq;have HLL := k0_ hl;have HK := k0_ (fun (W : World) (hb : Below b1.heap.size b1 W) => Qr.jA (zA hb (zC H0.out) H0.out));have HK1 := k0_ (fun (W : World) (hb : Below b1.heap.size b1 W) => Qr.wJ g1 HWB.out hb);clear hR hb0 g0 hb1 h6 h7 hzb hz hwb hE hT hU hl g1;have HKK := k0_ hk;clear hk;have hn20 : n + 1 <= 20000 := by have := HN.out; have := HLL.out; omega
 have hch2 : ∀ x ∈ l ++ [(h.name, Ck.TT h)], Ck.chk x.2 = 0 := fun x hx => by rcases List.mem_append.1 hx with q | q; exact hch x q; rw [List.mem_singleton.1 q]; exact hcT
 have HCT := k0_ hokT;clear hch hcT hokT
 go_enter Tryz.func15, Tryz.ntmps15
 go_upto_region 1 with fail
 rw [← HW1.out];clear hw1 HW1;obtain ⟨q0', q1', q2', q3', q4', q5', q6', q7', q8', q9', q10'⟩ := HK.out w1 HBW.out;rw [HKK.out] at q0'
 go_upto_region 13 with fail
 clear q0' q1' q2' q3' q4' q5' q6' q7' q8' q9' q10';refine zI 178 rfl [50, 51, 52, 53, 54, 55, 56, 57, 58, 59, 60, 61, 49, 62, 63, 10, 11] (by kernel_rfl) (by kernel_rfl) (by kernel_rfl) (fun listed a' w' => a'.defers = [] /\ a'.tmps.size = 178 /\ (a'.eval (.tmp 1) = .slice A n c /\ a'.eval (.tmp 2) = .int .i64 qv.md /\ a'.eval (.tmp 3) = .pointer (some ⟨w.heap.size, 0, none⟩) /\ a'.eval (.tmp 6) = .pointer (some ⟨w.heap.size + 1, 0, none⟩) /\ a'.eval (.tmp 7) = .pointer (some ⟨w.heap.size + 1 + 1, 0, none⟩)) /\ ∃ Z1 Z2 Gw kw t1 E1 pp1 xx1 G1 m1 cc1, (listed[0]? = some true -> (a'.eval (.tmp 50) = .pointer (some ⟨w.heap.size, 10, none⟩))) /\ (listed[1]? = some true -> (a'.eval (.tmp 51) = .slice (some ⟨kb, ko, none⟩) 1 kc)) /\ (listed[2]? = some true -> (a'.eval (.tmp 52) = .pointer (some ⟨kb, ko, none⟩))) /\ (listed[3]? = some true -> (a'.eval (.tmp 53) = .agg (tC_ h1 q1))) /\ (listed[4]? = some true -> (a'.eval (.tmp 54) = .slice A n c)) /\ (listed[5]? = some true -> (a'.eval (.tmp 55) = .pointer (some ⟨w.heap.size, 1, none⟩))) /\ (listed[6]? = some true -> (a'.eval (.tmp 56) = .string h.name)) /\ (listed[7]? = some true -> (a'.eval (.tmp 57) = .pointer (some ⟨w.heap.size, 4, none⟩))) /\ (listed[8]? = some true -> (a'.eval (.tmp 58) = .agg #[.int .i8 h.tk, .slice TA tn tc])) /\ (listed[9]? = some true -> (a'.eval (.tmp 59) = .slice Gw (n + 1) kw) /\ ((listed[11]? = some false -> Ck.EAt (fun b => Ck.Cut Q w.heap.size (w.heap.size + 3) b /\ b ≠ Z1 /\ b ≠ Z2) w' (l ++ [(h.name, Ck.TT h)]) Gw (n + 1) kw))) /\ (listed[10]? = some true -> (a'.eval (.tmp 60) = .int .i64 qv.md)) /\ (listed[11]? = some true -> (a'.eval (.tmp 61) = .tuple #[.agg #[.int .i8 t1.1, .slice G1 m1 cc1], .agg #[.int .i64 E1, .int .i64 pp1, .string xx1]]) /\ (Qr.Nz (Cg.ty qv.D K h1 k1 (l ++ [(h.name, Ck.TT h)])) /\ Qr.tyO (Cg.ty qv.D K h1 k1 (l ++ [(h.name, Ck.TT h)])) = t1 /\ Qr.eO (Cg.ty qv.D K h1 k1 (l ++ [(h.name, Ck.TT h)])) = E1 /\ Qr.pO (Cg.ty qv.D K h1 k1 (l ++ [(h.name, Ck.TT h)])) = pp1 /\ Qr.xO (Cg.ty qv.D K h1 k1 (l ++ [(h.name, Ck.TT h)])) = xx1) /\ (Ck.Ly (fun b => Ck.Cut Q w.heap.size (w.heap.size + 3) b /\ b ≠ Z1 /\ b ≠ Z2) w' t1 G1 m1 cc1)) /\ (listed[12]? = some true -> (a'.eval (.tmp 49) = .tuple #[.agg #[.int .i8 t1.1, .slice G1 m1 cc1], .agg #[.int .i64 E1, .int .i64 pp1, .string xx1]]) /\ (listed[11]? = some true)) /\ (listed[13]? = some true -> (a'.eval (.tmp 62) = .agg #[.int .i8 t1.1, .slice G1 m1 cc1]) /\ (listed[11]? = some true)) /\ (listed[14]? = some true -> (a'.eval (.tmp 63) = .agg #[.int .i64 E1, .int .i64 pp1, .string xx1]) /\ (listed[11]? = some true)) /\ (listed[15]? = some true -> (a'.eval (.tmp 10) = .pointer (some ⟨Z1, 0, none⟩)) /\ (w.heap.size + 3 <= Z1) /\ (Z1 ≠ Z2) /\ (∃ u0 u1, w'.heap[Z1]? = some (.cells #[u0, u1] 25 (0, 0)))) /\ (listed[16]? = some true -> (a'.eval (.tmp 11) = .pointer (some ⟨Z2, 0, none⟩)) /\ (w.heap.size + 3 <= Z2) /\ (Z1 ≠ Z2) /\ (∃ u0 u1 u2, w'.heap[Z2]? = some (.cells #[u0, u1, u2] 35 (0, 0)))) /\ (listed[17]? = some true -> (listed[11]? = some true) /\ (listed[15]? = some true) /\ (w'.heap[Z1]? = some (.cells #[.int .i8 t1.1, .slice G1 m1 cc1] 25 (0, 0)))) /\ (listed[18]? = some true -> (listed[11]? = some true) /\ (listed[16]? = some true) /\ (w'.heap[Z2]? = some (.cells #[.int .i64 E1, .int .i64 pp1, .string xx1] 35 (0, 0)))) /\ (w'.heap[w.heap.size + 1]? = some (.cells #[.int .i8 0, .slice none 0 0] 25 (0, 0))) /\ (w'.heap[w.heap.size + 1 + 1]? = some (.cells #[.int .i64 0, .int .i64 0, .string ⟨#[]⟩] 35 (0, 0))) /\ (Z1 < w'.heap.size /\ (Z1 = w.heap.size + 2 \/ w.heap.size + 3 <= Z1)) /\ (Z2 < w'.heap.size /\ (Z2 = w.heap.size + 2 \/ w.heap.size + 3 <= Z2)) /\ Below b1.heap.size b1 w') (fun _ _ _ h => h.1) ?_ ?_ ?_
 ·have hz0 := HZ.out
  refine ⟨rfl, rfl, ⟨rfl, rfl, rfl, rfl, rfl⟩, (w.heap.size + 2), (w.heap.size + 2), none, 0, (0, .nil), 0, 0, ⟨#[]⟩, none, 0, 0, FH, FH, FH, FH, FH, FH, FH, FH, FH, FH, FH, FH, FH, FH, FH, FH, FH, FH, FH, H6.out, H7.out, ⟨(show w.heap.size + 2 < w1.heap.size from by have := LZ.out; omega), .inl rfl⟩, ⟨(show w.heap.size + 2 < w1.heap.size from by have := LZ.out; omega), .inl rfl⟩, HBW.out.drew⟩
 ·rintro listed a' w' i o ⟨hdf, hsz, hx, Z1, Z2, Gw, kw, t1, E1, pp1, xx1, G1, m1, cc1, y0, y1, y2, y3, y4, y5, y6, y7, y8, y9, y10, y11, y12, y13, y14, y15, y16, y17, y18, hH0, hH1, ⟨sZ1, hZZ1⟩, ⟨sZ2, hZZ2⟩, hbw⟩ hz hsz0 ho hi hp
  have hi13 : i < 19 := by
   rcases Nat.lt_or_ge i 19 with q | q
   ·exact q
   ·exact jY
  rcases (by omega : i = 0 \/ i = 1 \/ i = 2 \/ i = 3 \/ i = 4 \/ i = 5 \/ i = 6 \/ i = 7 \/ i = 8 \/ i = 9 \/ i = 10 \/ i = 11 \/ i = 12 \/ i = 13 \/ i = 14 \/ i = 15 \/ i = 16 \/ i = 17 \/ i = 18) with rfl | rfl | rfl | rfl | rfl | rfl | rfl | rfl | rfl | rfl | rfl | rfl | rfl | rfl | rfl | rfl | rfl | rfl | rfl
  ·obtain rfl := SI ho
   exact V_ ho 50 ⟨pd hdf, ps hsz, KX hx, Z1, Z2, Gw, kw, t1, E1, pp1, xx1, G1, m1, cc1, (fun _ => pS hsz), K2 y1, K2 y2, K2 y3, K2 y4, K2 y5, K2 y6, K2 y7, K2 y8, (kF y9 (fun q => ⟨pn q.1, (kU q.2 (fun q => q))⟩)), K2 y10, K2 y11, K2 y12, K2 y13, K2 y14, K2 y15, K2 y16, K2 y17, K2 y18, hH0, hH1, ⟨sZ1, hZZ1⟩, ⟨sZ2, hZZ2⟩, hbw⟩
  ·obtain rfl := SI ho
   have v0 := hpv hp 0 (by simp);have ww0 := (y0 v0);obtain ⟨q0', q1', q2', q3', q4', q5', q6', q7', q8', q9', q10'⟩ := HK.out w' hbw;exact V_ ho 51 ⟨pd hdf, ps hsz, KX hx, Z1, Z2, Gw, kw, t1, E1, pp1, xx1, G1, m1, cc1, K2 y0, (fun _ => pS hsz), K2 y2, K2 y3, K2 y4, K2 y5, K2 y6, K2 y7, K2 y8, (kF y9 (fun q => ⟨pn q.1, (kU q.2 (fun q => q))⟩)), K2 y10, K2 y11, K2 y12, K2 y13, K2 y14, K2 y15, K2 y16, K2 y17, K2 y18, hH0, hH1, ⟨sZ1, hZZ1⟩, ⟨sZ2, hZZ2⟩, hbw⟩
  ·obtain rfl := SI ho
   have v1 := hpv hp 1 (by simp);have ww1 := (y1 v1);exact V_ ho 52 ⟨pd hdf, ps hsz, KX hx, Z1, Z2, Gw, kw, t1, E1, pp1, xx1, G1, m1, cc1, K2 y0, K2 y1, (fun _ => pS hsz), K2 y3, K2 y4, K2 y5, K2 y6, K2 y7, K2 y8, (kF y9 (fun q => ⟨pn q.1, (kU q.2 (fun q => q))⟩)), K2 y10, K2 y11, K2 y12, K2 y13, K2 y14, K2 y15, K2 y16, K2 y17, K2 y18, hH0, hH1, ⟨sZ1, hZZ1⟩, ⟨sZ2, hZZ2⟩, hbw⟩
  ·obtain rfl := SI ho
   have v2 := hpv hp 2 (by simp);have ww2 := (y2 v2);obtain ⟨d1_0, d1_1, d1_2, d1_3, d1_4, d1_5, d1_6, d1_7, d1_8, d1_9, d1_10⟩ := HK1.out w' hbw;exact V_ ho 53 ⟨pd hdf, ps hsz, KX hx, Z1, Z2, Gw, kw, t1, E1, pp1, xx1, G1, m1, cc1, K2 y0, K2 y1, K2 y2, (fun _ => pS hsz), K2 y4, K2 y5, K2 y6, K2 y7, K2 y8, (kF y9 (fun q => ⟨pn q.1, (kU q.2 (fun q => q))⟩)), K2 y10, K2 y11, K2 y12, K2 y13, K2 y14, K2 y15, K2 y16, K2 y17, K2 y18, hH0, hH1, ⟨sZ1, hZZ1⟩, ⟨sZ2, hZZ2⟩, hbw⟩
  ·obtain rfl := SI ho
   exact V_ ho 54 ⟨pd hdf, ps hsz, KX hx, Z1, Z2, Gw, kw, t1, E1, pp1, xx1, G1, m1, cc1, K2 y0, K2 y1, K2 y2, K2 y3, (fun _ => pS hsz), K2 y5, K2 y6, K2 y7, K2 y8, (kF y9 (fun q => ⟨pn q.1, (kU q.2 (fun q => q))⟩)), K2 y10, K2 y11, K2 y12, K2 y13, K2 y14, K2 y15, K2 y16, K2 y17, K2 y18, hH0, hH1, ⟨sZ1, hZZ1⟩, ⟨sZ2, hZZ2⟩, hbw⟩
  ·obtain rfl := SI ho
   exact V_ ho 55 ⟨pd hdf, ps hsz, KX hx, Z1, Z2, Gw, kw, t1, E1, pp1, xx1, G1, m1, cc1, K2 y0, K2 y1, K2 y2, K2 y3, K2 y4, (fun _ => pS hsz), K2 y6, K2 y7, K2 y8, (kF y9 (fun q => ⟨pn q.1, (kU q.2 (fun q => q))⟩)), K2 y10, K2 y11, K2 y12, K2 y13, K2 y14, K2 y15, K2 y16, K2 y17, K2 y18, hH0, hH1, ⟨sZ1, hZZ1⟩, ⟨sZ2, hZZ2⟩, hbw⟩
  ·obtain rfl := SI ho
   have v5 := hpv hp 5 (by simp);have ww5 := (y5 v5);obtain ⟨q0', q1', q2', q3', q4', q5', q6', q7', q8', q9', q10'⟩ := HK.out w' hbw;exact V_ ho 56 ⟨pd hdf, ps hsz, KX hx, Z1, Z2, Gw, kw, t1, E1, pp1, xx1, G1, m1, cc1, K2 y0, K2 y1, K2 y2, K2 y3, K2 y4, K2 y5, (fun _ => pS hsz), K2 y7, K2 y8, (kF y9 (fun q => ⟨pn q.1, (kU q.2 (fun q => q))⟩)), K2 y10, K2 y11, K2 y12, K2 y13, K2 y14, K2 y15, K2 y16, K2 y17, K2 y18, hH0, hH1, ⟨sZ1, hZZ1⟩, ⟨sZ2, hZZ2⟩, hbw⟩
  ·obtain rfl := SI ho
   exact V_ ho 57 ⟨pd hdf, ps hsz, KX hx, Z1, Z2, Gw, kw, t1, E1, pp1, xx1, G1, m1, cc1, K2 y0, K2 y1, K2 y2, K2 y3, K2 y4, K2 y5, K2 y6, (fun _ => pS hsz), K2 y8, (kF y9 (fun q => ⟨pn q.1, (kU q.2 (fun q => q))⟩)), K2 y10, K2 y11, K2 y12, K2 y13, K2 y14, K2 y15, K2 y16, K2 y17, K2 y18, hH0, hH1, ⟨sZ1, hZZ1⟩, ⟨sZ2, hZZ2⟩, hbw⟩
  ·obtain rfl := SI ho
   have v7 := hpv hp 7 (by simp);have ww7 := (y7 v7);obtain ⟨q0', q1', q2', q3', q4', q5', q6', q7', q8', q9', q10'⟩ := HK.out w' hbw;exact V_ ho 58 ⟨pd hdf, ps hsz, KX hx, Z1, Z2, Gw, kw, t1, E1, pp1, xx1, G1, m1, cc1, K2 y0, K2 y1, K2 y2, K2 y3, K2 y4, K2 y5, K2 y6, K2 y7, (fun _ => pS hsz), (kF y9 (fun q => ⟨pn q.1, (kU q.2 (fun q => q))⟩)), K2 y10, K2 y11, K2 y12, K2 y13, K2 y14, K2 y15, K2 y16, K2 y17, K2 y18, hH0, hH1, ⟨sZ1, hZZ1⟩, ⟨sZ2, hZZ2⟩, hbw⟩
  ·obtain rfl := SI ho
   have v4 := hpv hp 4 (by simp);have ww4 := (y4 v4);have v6 := hpv hp 6 (by simp);have ww6 := (y6 v6);have v8 := hpv hp 8 (by simp);have ww8 := (y8 v8);refine C_ ho 59 (qZ (fun b => Ck.Cut Q w.heap.size (w.heap.size + 3) b /\ b ≠ Z1 /\ b ≠ Z2) l A n c h.name (Ck.TT h) TA tn tc w' (Ck.EAt.below (Ck.EAt.weak HE.out (fun b hl hq => ⟨hq, Qr.zne HZB.out hZZ1 hl hq, Qr.zne HZB.out hZZ2 hl hq⟩)) hbw) (Ck.Ly.later (Ck.Ly.weak HT.out (fun b hl hq => ⟨hq, Qr.zne HZB.out hZZ1 hl hq, Qr.zne HZB.out hZZ2 hl hq⟩)) hbw) hn20) fun e u hg => ?_
   ·obtain ⟨Gw', kw', rfl, he, hb⟩ := hg
    refine ⟨.slice Gw' (n + 1) kw', rfl, ?_⟩;have hbs := hbw.size;have hz1 := HZ.out;have hzb := HZB.out;have hzz : w.heap.size + 3 <= w'.heap.size := by have := zC hH1; omega
    have hbs2 := hb.size;exact ⟨pd hdf, ps hsz, KX hx, Z1, Z2, Gw', kw', t1, E1, pp1, xx1, G1, m1, cc1, K2 y0, K2 y1, K2 y2, K2 y3, K2 y4, K2 y5, K2 y6, K2 y7, K2 y8, (fun _ => ⟨pS hsz, (fun _ => he)⟩), K2 y10, K2 y11, K2 y12, K2 y13, K2 y14, K2 y15, K2 y16, K2 y17, K2 y18, (zA hb (zC hH0) hH0), (zA hb (zC hH1) hH1), ⟨(by omega), hZZ1⟩, ⟨(by omega), hZZ2⟩, hbw.trans (hb.mono hbw.size)⟩
  ·obtain rfl := SI ho
   exact V_ ho 60 ⟨pd hdf, ps hsz, KX hx, Z1, Z2, Gw, kw, t1, E1, pp1, xx1, G1, m1, cc1, K2 y0, K2 y1, K2 y2, K2 y3, K2 y4, K2 y5, K2 y6, K2 y7, K2 y8, (kF y9 (fun q => ⟨pn q.1, (kU q.2 (fun q => q))⟩)), (fun _ => pS hsz), K2 y11, K2 y12, K2 y13, K2 y14, K2 y15, K2 y16, K2 y17, K2 y18, hH0, hH1, ⟨sZ1, hZZ1⟩, ⟨sZ2, hZZ2⟩, hbw⟩
  ·obtain rfl := SI ho
   have v3 := hpv hp 3 (by simp);have ww3 := (y3 v3);have v9 := hpv hp 9 (by simp);have ww9 := (y9 v9).1;have v10 := hpv hp 10 (by simp);have ww10 := (y10 v10);refine C_ ho 61 ((T1 (fun b => Ck.Cut Q w.heap.size (w.heap.size + 3) b /\ b ≠ Z1 /\ b ≠ Z2) (l ++ [(h.name, Ck.TT h)]) Gw (n + 1) kw w' (HWB.out.trans (hbw.mono HWB.out.size)) (fun b hb => ⟨HQM.out b hb, Qr.zne HZB.out hZZ1 (Nat.lt_of_lt_of_le hb HWB.out.size) (HQM.out b hb), Qr.zne HZB.out hZZ2 (Nat.lt_of_lt_of_le hb HWB.out.size) (HQM.out b hb)⟩) (((y9 v9).2) hi) hch2 (by rw [List.length_append]; exact hb1)).mono (fun _ _ hp => hp.names)) fun e u hg => ?_
   ·obtain ⟨t1', E1', pp1', xx1', G1', m1', cc1', rfl, hgn, hl, hb⟩ := hg
    refine ⟨.tuple #[.agg #[.int .i8 t1'.1, .slice G1' m1' cc1'], .agg #[.int .i64 E1', .int .i64 pp1', .string xx1']], rfl, ?_⟩;have hbs := hbw.size;have hz1 := HZ.out;have hzb := HZB.out;have hzz : w.heap.size + 3 <= w'.heap.size := by have := zC hH1; omega
    have hbs2 := hb.size;exact ⟨pd hdf, ps hsz, KX hx, Z1, Z2, Gw, kw, t1', E1', pp1', xx1', G1', m1', cc1', K2 y0, K2 y1, K2 y2, K2 y3, K2 y4, K2 y5, K2 y6, K2 y7, K2 y8, (kF y9 (fun q => ⟨pn q.1, (fun qu => (zK qu).elim)⟩)), K2 y10, (fun _ => ⟨pS hsz, hgn, Ck.Ly.weak hl (fun b _ hq => qm (by omega) (by omega) (by omega) hq)⟩), KN y12, KN y13, KN y14, K2 y15, K2 y16, KN y17, KN y18, (zA hb (zC hH0) hH0), (zA hb (zC hH1) hH1), ⟨(by omega), hZZ1⟩, ⟨(by omega), hZZ2⟩, hbw.trans (hb.mono hbw.size)⟩
  ·obtain rfl := SI ho
   have v11 := hpv hp 11 (by simp);have ww11 := (y11 v11).1;exact V_ ho 49 ⟨pd hdf, ps hsz, KX hx, Z1, Z2, Gw, kw, t1, E1, pp1, xx1, G1, m1, cc1, K2 y0, K2 y1, K2 y2, K2 y3, K2 y4, K2 y5, K2 y6, K2 y7, K2 y8, (kF y9 (fun q => ⟨pn q.1, (kU q.2 (fun q => q))⟩)), K2 y10, K2 y11, (fun _ => ⟨pS hsz, (z8 v11)⟩), K2 y13, K2 y14, K2 y15, K2 y16, K2 y17, K2 y18, hH0, hH1, ⟨sZ1, hZZ1⟩, ⟨sZ2, hZZ2⟩, hbw⟩
  ·obtain rfl := SI ho
   have v12 := hpv hp 12 (by simp);have ww12 := (y12 v12).1;exact V_ ho 62 ⟨pd hdf, ps hsz, KX hx, Z1, Z2, Gw, kw, t1, E1, pp1, xx1, G1, m1, cc1, K2 y0, K2 y1, K2 y2, K2 y3, K2 y4, K2 y5, K2 y6, K2 y7, K2 y8, (kF y9 (fun q => ⟨pn q.1, (kU q.2 (fun q => q))⟩)), K2 y10, K2 y11, K2 y12, (fun _ => ⟨pS hsz, (z8 ((y12 v12).2))⟩), K2 y14, K2 y15, K2 y16, K2 y17, K2 y18, hH0, hH1, ⟨sZ1, hZZ1⟩, ⟨sZ2, hZZ2⟩, hbw⟩
  ·obtain rfl := SI ho
   have v12 := hpv hp 12 (by simp);have ww12 := (y12 v12).1;exact V_ ho 63 ⟨pd hdf, ps hsz, KX hx, Z1, Z2, Gw, kw, t1, E1, pp1, xx1, G1, m1, cc1, K2 y0, K2 y1, K2 y2, K2 y3, K2 y4, K2 y5, K2 y6, K2 y7, K2 y8, (kF y9 (fun q => ⟨pn q.1, (kU q.2 (fun q => q))⟩)), K2 y10, K2 y11, K2 y12, K2 y13, (fun _ => ⟨pS hsz, (z8 ((y12 v12).2))⟩), K2 y15, K2 y16, K2 y17, K2 y18, hH0, hH1, ⟨sZ1, hZZ1⟩, ⟨sZ2, hZZ2⟩, hbw⟩
  ·obtain rfl := SI ho
   refine zN ho rfl (zU 10 rfl (v := .pointer (some ⟨w'.heap.size, 0, none⟩)) (w2 := w'.alloc (.cells #[.int .i8 0, .slice none 0 0] 25)) ?_ ?_)
   ·exact EV
   ·have hbs := hbw.size
    have hz1 := HZ.out;have hzb := HZB.out;have hzz : w.heap.size + 3 <= w'.heap.size := by have := zC hH1; omega
    have hsa : (w'.alloc (.cells #[.int .i8 0, .slice none 0 0] 25)).heap.size = w'.heap.size + 1 := by simp
    have hba : Below w'.heap.size w' (w'.alloc (.cells #[.int .i8 0, .slice none 0 0] 25)) := (Below.refl _ _).alloc (Nat.le_refl _) _;have hnew := zD w' (.cells #[.int .i8 0, .slice none 0 0] 25);exact ⟨pd hdf, ps hsz, KX hx, w'.heap.size, Z2, Gw, kw, t1, E1, pp1, xx1, G1, m1, cc1, K2 y0, K2 y1, K2 y2, K2 y3, K2 y4, K2 y5, K2 y6, K2 y7, K2 y8, (kF y9 (fun q => ⟨pn q.1, (kU q.2 (fun q => (Ck.EAt.below (Ck.EAt.weak q (fun b hl hq => ⟨hq.1, Nat.ne_of_lt hl, hq.2.2⟩)) hba)))⟩)), K2 y10, (kF y11 (fun q => ⟨pn q.1, q.2.1, (Ck.Ly.later (Ck.Ly.weak q.2.2 (fun b hl hq => ⟨hq.1, Nat.ne_of_lt hl, hq.2.2⟩)) hba)⟩)), K2 y12, K2 y13, K2 y14, (fun _ => ⟨pS hsz, hzz, (by omega), ⟨_, _, hnew⟩⟩), (kF y16 (fun q => ⟨pn q.1, q.2.1, (by omega), (vY q.2.2.2)⟩)), KN y17, K2 y18, (zH hH0 _), (zH hH1 _), ⟨(by omega), .inr (by omega)⟩, ⟨(by omega), hZZ2⟩, hbw.alloc hbw.size _⟩
  ·obtain rfl := SI ho
   refine zN ho rfl (zU 11 rfl (v := .pointer (some ⟨w'.heap.size, 0, none⟩)) (w2 := w'.alloc (.cells #[.int .i64 0, .int .i64 0, .string ⟨#[]⟩] 35)) ?_ ?_)
   ·exact EV
   ·have hbs := hbw.size
    have hz1 := HZ.out;have hzb := HZB.out;have hzz : w.heap.size + 3 <= w'.heap.size := by have := zC hH1; omega
    have hsa : (w'.alloc (.cells #[.int .i64 0, .int .i64 0, .string ⟨#[]⟩] 35)).heap.size = w'.heap.size + 1 := by simp
    have hba : Below w'.heap.size w' (w'.alloc (.cells #[.int .i64 0, .int .i64 0, .string ⟨#[]⟩] 35)) := (Below.refl _ _).alloc (Nat.le_refl _) _;have hnew := zD w' (.cells #[.int .i64 0, .int .i64 0, .string ⟨#[]⟩] 35);exact ⟨pd hdf, ps hsz, KX hx, Z1, w'.heap.size, Gw, kw, t1, E1, pp1, xx1, G1, m1, cc1, K2 y0, K2 y1, K2 y2, K2 y3, K2 y4, K2 y5, K2 y6, K2 y7, K2 y8, (kF y9 (fun q => ⟨pn q.1, (kU q.2 (fun q => (Ck.EAt.below (Ck.EAt.weak q (fun b hl hq => ⟨hq.1, hq.2.1, Nat.ne_of_lt hl⟩)) hba)))⟩)), K2 y10, (kF y11 (fun q => ⟨pn q.1, q.2.1, (Ck.Ly.later (Ck.Ly.weak q.2.2 (fun b hl hq => ⟨hq.1, hq.2.1, Nat.ne_of_lt hl⟩)) hba)⟩)), K2 y12, K2 y13, K2 y14, (kF y15 (fun q => ⟨pn q.1, q.2.1, (by omega), (wO q.2.2.2)⟩)), (fun _ => ⟨pS hsz, hzz, (by omega), ⟨_, _, _, hnew⟩⟩), K2 y17, KN y18, (zH hH0 _), (zH hH1 _), ⟨(by omega), hZZ1⟩, ⟨(by omega), .inr (by omega)⟩, hbw.alloc hbw.size _⟩
  ·obtain rfl := SI ho
   have v15 := hpv hp 15 (by simp);have ww15 := (y15 v15).1;have v13 := hpv hp 13 (by simp);have ww13 := (y13 v13).1;have hne := ((y15 v15).2.2.1);have hlo := ((y15 v15).2.1);obtain ⟨u0, u1, hbox⟩ := ((y15 v15).2.2.2);obtain ⟨bc0, bc1, bf0, bf1, -⟩ := zF hbox;refine zN ho rfl (zT rfl (w2 := ((w'.setCell ⟨Z1, 0, none⟩ (.int .i8 t1.1)).setCell ⟨Z1, 1, none⟩ (.slice G1 m1 cc1))) ?_ ?_)
   ·exact EV
   ·have hsa : (((w'.setCell ⟨Z1, 0, none⟩ (.int .i8 t1.1)).setCell ⟨Z1, 1, none⟩ (.slice G1 m1 cc1))).heap.size = w'.heap.size := by simp
    have hbs := hbw.size;have hz1 := HZ.out;have hzb := HZB.out;have hzz : w.heap.size + 3 <= w'.heap.size := by have := zC hH1; omega
    exact ⟨hdf, hsz, hx, Z1, Z2, Gw, kw, t1, E1, pp1, xx1, G1, m1, cc1, K2 y0, K2 y1, K2 y2, K2 y3, K2 y4, K2 y5, K2 y6, K2 y7, K2 y8, (kF y9 (fun q => ⟨q.1, (kT ((y13 v13).2))⟩)), K2 y10, (kF y11 (fun q => ⟨q.1, q.2.1, (Ck.Ly.set2 q.2.2 (fun b hq => hq.2.1) _ _)⟩)), K2 y12, K2 y13, K2 y14, (kF y15 (fun q => ⟨q.1, q.2.1, q.2.2.1, (kZ q.2.2.2)⟩)), (kF y16 (fun q => ⟨q.1, q.2.1, q.2.2.1, (qA q.2.2.2 (by omega))⟩)), (fun _ => ⟨(z8 ((y13 v13).2)), (z8 v15), zL hbox _ _⟩), K2 y18, (zM hH0 (by omega) _ _), (zM hH1 (by omega) _ _), ⟨(by omega), hZZ1⟩, ⟨(by omega), hZZ2⟩, zG hbw (by omega) _ _⟩
  ·obtain rfl := SI ho
   have v16 := hpv hp 16 (by simp);have ww16 := (y16 v16).1;have v14 := hpv hp 14 (by simp);have ww14 := (y14 v14).1;have hne := ((y16 v16).2.2.1);have hlo := ((y16 v16).2.1);obtain ⟨u0, u1, u2, hbox⟩ := ((y16 v16).2.2.2);obtain ⟨bc0, bc1, bc2, bf0, bf1, bf2, -⟩ := cells3 hbox;refine zN ho rfl (zT rfl (w2 := (((w'.setCell ⟨Z2, 0, none⟩ (.int .i64 E1)).setCell ⟨Z2, 1, none⟩ (.int .i64 pp1)).setCell ⟨Z2, 2, none⟩ (.string xx1))) ?_ ?_)
   ·exact EV
   ·have hsa : ((((w'.setCell ⟨Z2, 0, none⟩ (.int .i64 E1)).setCell ⟨Z2, 1, none⟩ (.int .i64 pp1)).setCell ⟨Z2, 2, none⟩ (.string xx1))).heap.size = w'.heap.size := by simp
    have hbs := hbw.size;have hz1 := HZ.out;have hzb := HZB.out;have hzz : w.heap.size + 3 <= w'.heap.size := by have := zC hH1; omega
    exact ⟨hdf, hsz, hx, Z1, Z2, Gw, kw, t1, E1, pp1, xx1, G1, m1, cc1, K2 y0, K2 y1, K2 y2, K2 y3, K2 y4, K2 y5, K2 y6, K2 y7, K2 y8, (kF y9 (fun q => ⟨q.1, (kT ((y14 v14).2))⟩)), K2 y10, (kF y11 (fun q => ⟨q.1, q.2.1, (Ck.Ly.zh q.2.2 (fun b hq => hq.2.2) _ _ _)⟩)), K2 y12, K2 y13, K2 y14, (kF y15 (fun q => ⟨q.1, q.2.1, q.2.2.1, (qB q.2.2.2 (by omega))⟩)), (kF y16 (fun q => ⟨q.1, q.2.1, q.2.2.1, (zBQ q.2.2.2)⟩)), K2 y17, (fun _ => ⟨(z8 ((y14 v14).2)), (z8 v16), zf hbox _ _ _⟩), (zR hH0 (by omega) _ _ _), (zR hH1 (by omega) _ _ _), ⟨(by omega), hZZ1⟩, ⟨(by omega), hZZ2⟩, qD hbw (by omega) _ _ _⟩
 ·rintro listed u w' t ht hu ⟨-, -, -, Z1, Z2, Gw, kw, t1, E1, pp1, xx1, G1, m1, cc1, y0, y1, y2, y3, y4, y5, y6, y7, y8, y9, y10, y11, y12, y13, y14, y15, y16, y17, y18, hH0, hH1, ⟨sZ1, hZZ1⟩, ⟨sZ2, hZZ2⟩, hbw⟩ hall
  have v11 := hall 11 (by decide);have v15 := hall 15 (by decide);have v16 := hall 16 (by decide);have v17 := hall 17 (by decide);have v18 := hall 18 (by decide);have HBW := k0_ (hbw);have H6 := k0_ hH0;have H7 := k0_ hH1;have LZ := k0_ (show w.heap.size + 3 <= w'.heap.size from by have := zC hH1; have := HZ.out; omega);have HP := k0_ ((y11 v11).2.1);have HL1 := k0_ (Ck.Ly.weak ((y11 v11).2.2) (Q' := Ck.Cut Q w.heap.size (w.heap.size + 3)) (fun b _ hq => hq.1));have eb10 := ((y15 v15).1);have HX1 := k0_ ((y17 v17).2.2);have LHX1 := k0_ ((y15 v15).2.1);have eb11 := ((y16 v16).1);have HX2 := k0_ ((y18 v18).2.2);have LHX2 := k0_ ((y16 v16).2.1);rw [hu 10 (by decide) (by decide)] at eb10;rw [hu 11 (by decide) (by decide)] at eb11;clear y0 y1 y2 y3 y4 y5 y6 y7 y8 y9 y10 y11 y12 y13 y14 y15 y16 y17 y18 v11 v15 v16 v17 v18 hall hu;clear hbw hH0 hH1;simp only [over, List.setIfInBounds_toArray, List.set_cons_succ, List.set_cons_zero, eb10, eb11] at ht;subst ht;clear eb10 eb11;generalize hw : w' = w2 at *;clear hw;obtain ⟨e0, e1, e2, -, -, -, -⟩ := cells3 HX2.out
  by_cases hE1 : E1 = 0
  ·have hgen := (Qr.R.qh HP.out.1 HP.out.2).1 hE1
   have HOK := k0_ hgen;subst hE1;clear hgen;have hok1 := (Ty.zm (Cg.jd HOK.out.1)).1;have HRR := k0_ (HR.out.trans (show _ = Ck.lift h (.ok (Ck.mk2 3 (Ck.TT h) t1)) from by rw [HOK.out.1]; rfl));have CM := k0_ (fun (W : World) (hb : Below b1.heap.size b1 W) (hl1 : Ck.Ly (Ck.Cut Q w.heap.size (w.heap.size + 3)) W t1 G1 m1 cc1) => jw (Ck.Cut Q w.heap.size (w.heap.size + 3)) 3 (by decide) (Ck.TT h) TA tn tc t1 G1 m1 cc1 W (HT.out.later hb) hl1);have CFI := k0_ (fun (G : Option Addr) (m cc : Nat) (W : World) (hl1 : Ck.Ly (Ck.Cut Q w.heap.size (w.heap.size + 3)) W (Ck.mk2 3 (Ck.TT h) t1) G m cc) => jD (Ck.Cut Q w.heap.size (w.heap.size + 3)) h (⟨TA, tn, tc, UA, un, uc, some ⟨kb, ko, none⟩, 1, kc⟩ : Pl) (Ck.mk2 3 (Ck.TT h) t1) G m cc W hl1 (Qr.wD (by decide) HCT.out hok1))
   go_upto_region 16 with fail
   clear e0 e1 e2;refine zI 178 rfl [69, 70, 71, 72, 73, 74, 75, 76] (by kernel_rfl) (by kernel_rfl) (by kernel_rfl) (fun listed a' w' => a'.defers = [] /\ a'.tmps.size = 178 /\ (a'.eval (.tmp 1) = .slice A n c /\ a'.eval (.tmp 2) = .int .i64 qv.md /\ a'.eval (.tmp 3) = .pointer (some ⟨w.heap.size, 0, none⟩) /\ a'.eval (.tmp 6) = .pointer (some ⟨w.heap.size + 1, 0, none⟩) /\ a'.eval (.tmp 7) = .pointer (some ⟨w.heap.size + 1 + 1, 0, none⟩) /\ a'.eval (.tmp 10) = .pointer (some ⟨Z1, 0, none⟩) /\ a'.eval (.tmp 11) = .pointer (some ⟨Z2, 0, none⟩)) /\ ∃ Gm mm cm t2 E2 pp2 xx2 G2 m2 cc2, (listed[0]? = some true -> (a'.eval (.tmp 69) = .pointer (some ⟨w.heap.size, 4, none⟩))) /\ (listed[1]? = some true -> (a'.eval (.tmp 70) = .agg #[.int .i8 h.tk, .slice TA tn tc])) /\ (listed[2]? = some true -> (a'.eval (.tmp 71) = .agg #[.int .i8 t1.1, .slice G1 m1 cc1])) /\ (listed[3]? = some true -> (a'.eval (.tmp 72) = .agg #[.int .i8 3, .slice Gm mm cm]) /\ (Ck.Ly (Ck.Cut Q w.heap.size (w.heap.size + 3)) w' (Ck.mk2 3 (Ck.TT h) t1) Gm mm cm)) /\ (listed[4]? = some true -> (a'.eval (.tmp 73) = .agg (tD_ h TA tn tc UA un uc (some ⟨kb, ko, none⟩) 1 kc))) /\ (listed[5]? = some true -> (a'.eval (.tmp 74) = .tuple #[.agg #[.int .i8 t2.1, .slice G2 m2 cc2], .agg #[.int .i64 E2, .int .i64 pp2, .string xx2]]) /\ (Qr.Nz (Ck.lift h (.ok (Ck.mk2 3 (Ck.TT h) t1))) /\ Qr.tyO (Ck.lift h (.ok (Ck.mk2 3 (Ck.TT h) t1))) = t2 /\ Qr.eO (Ck.lift h (.ok (Ck.mk2 3 (Ck.TT h) t1))) = E2 /\ Qr.pO (Ck.lift h (.ok (Ck.mk2 3 (Ck.TT h) t1))) = pp2 /\ Qr.xO (Ck.lift h (.ok (Ck.mk2 3 (Ck.TT h) t1))) = xx2) /\ (Ck.Ly (Ck.Cut Q w.heap.size (w.heap.size + 3)) w' t2 G2 m2 cc2)) /\ (listed[6]? = some true -> (a'.eval (.tmp 75) = .agg #[.int .i8 t2.1, .slice G2 m2 cc2]) /\ (listed[5]? = some true)) /\ (listed[7]? = some true -> (a'.eval (.tmp 76) = .agg #[.int .i64 E2, .int .i64 pp2, .string xx2]) /\ (listed[5]? = some true)) /\ (listed[8]? = some true -> (listed[5]? = some true) /\ (w'.heap[w.heap.size + 1]? = some (.cells #[.int .i8 t2.1, .slice G2 m2 cc2] 25 (0, 0)))) /\ (listed[9]? = some true -> (listed[5]? = some true) /\ (w'.heap[w.heap.size + 1 + 1]? = some (.cells #[.int .i64 E2, .int .i64 pp2, .string xx2] 35 (0, 0)))) /\ (∃ u0 u1, w'.heap[w.heap.size + 1]? = some (.cells #[u0, u1] 25 (0, 0))) /\ (∃ u0 u1 u2, w'.heap[w.heap.size + 1 + 1]? = some (.cells #[u0, u1, u2] 35 (0, 0))) /\ (w'.heap[Z1]? = some (.cells #[.int .i8 t1.1, .slice G1 m1 cc1] 25 (0, 0))) /\ (Ck.Ly (Ck.Cut Q w.heap.size (w.heap.size + 3)) w' t1 G1 m1 cc1) /\ Below b1.heap.size b1 w') (fun _ _ _ h => h.1) ?_ ?_ ?_
   ·have hz0 := HZ.out
    refine ⟨rfl, rfl, ⟨rfl, rfl, rfl, rfl, rfl, rfl, rfl⟩, none, 0, 0, (0, .nil), 0, 0, ⟨#[]⟩, none, 0, 0, FH, FH, FH, FH, FH, FH, FH, FH, FH, FH, ⟨_, _, H6.out⟩, ⟨_, _, _, H7.out⟩, HX1.out, HL1.out.later (Below.refl _ _).drew, HBW.out.drew⟩
   ·rintro listed a' w' i o ⟨hdf, hsz, hx, Gm, mm, cm, t2, E2, pp2, xx2, G2, m2, cc2, y0, y1, y2, y3, y4, y5, y6, y7, y8, y9, hB0, hB1, hH0, hH1, hbw⟩ hz hsz0 ho hi hp
    have hi13 : i < 10 := by
     rcases Nat.lt_or_ge i 10 with q | q
     ·exact q
     ·exact jY
    rcases (by omega : i = 0 \/ i = 1 \/ i = 2 \/ i = 3 \/ i = 4 \/ i = 5 \/ i = 6 \/ i = 7 \/ i = 8 \/ i = 9) with rfl | rfl | rfl | rfl | rfl | rfl | rfl | rfl | rfl | rfl
    ·obtain rfl := SI ho
     exact V_ ho 69 ⟨pd hdf, ps hsz, KX hx, Gm, mm, cm, t2, E2, pp2, xx2, G2, m2, cc2, (fun _ => pS hsz), K2 y1, K2 y2, K2 y3, K2 y4, K2 y5, K2 y6, K2 y7, K2 y8, K2 y9, hB0, hB1, hH0, hH1, hbw⟩
    ·obtain rfl := SI ho
     have v0 := hpv hp 0 (by simp);have ww0 := (y0 v0);obtain ⟨q0', q1', q2', q3', q4', q5', q6', q7', q8', q9', q10'⟩ := HK.out w' hbw;exact V_ ho 70 ⟨pd hdf, ps hsz, KX hx, Gm, mm, cm, t2, E2, pp2, xx2, G2, m2, cc2, K2 y0, (fun _ => pS hsz), K2 y2, K2 y3, K2 y4, K2 y5, K2 y6, K2 y7, K2 y8, K2 y9, hB0, hB1, hH0, hH1, hbw⟩
    ·obtain rfl := SI ho
     obtain ⟨e0, e1, -, -, -⟩ := zF hH0;exact V_ ho 71 ⟨pd hdf, ps hsz, KX hx, Gm, mm, cm, t2, E2, pp2, xx2, G2, m2, cc2, K2 y0, K2 y1, (fun _ => pS hsz), K2 y3, K2 y4, K2 y5, K2 y6, K2 y7, K2 y8, K2 y9, hB0, hB1, hH0, hH1, hbw⟩
    ·obtain rfl := SI ho
     have v1 := hpv hp 1 (by simp);have ww1 := (y1 v1);have v2 := hpv hp 2 (by simp);have ww2 := (y2 v2);refine C_ ho 72 (CM.out w' hbw hH1) fun e u hg => ?_
     ·obtain ⟨Gm', mm', cm', rfl, hl, hb⟩ := hg
      refine ⟨.agg #[.int .i8 3, .slice Gm' mm' cm'], rfl, ?_⟩;have hbs := hbw.size;have hz1 := HZ.out;have hzb := HZB.out;have hzz : w.heap.size + 3 <= w'.heap.size := by obtain ⟨_, _, _, q⟩ := hB1; have := zC q; omega
      have hlx := LHX1.out;have hbs2 := hb.size;exact ⟨pd hdf, ps hsz, KX hx, Gm', mm', cm', t2, E2, pp2, xx2, G2, m2, cc2, K2 y0, K2 y1, K2 y2, (fun _ => ⟨pS hsz, Ck.Ly.weak hl (fun b _ hq => Qr.zq hzz hq)⟩), K2 y4, K2 y5, K2 y6, K2 y7, K2 y8, K2 y9, (qJ hb hB0), (zw hb hB1), (zA hb (zC hH0) hH0), (Ck.Ly.later hH1 hb), hbw.trans (hb.mono hbw.size)⟩
    ·obtain rfl := SI ho
     obtain ⟨q0', q1', q2', q3', q4', q5', q6', q7', q8', q9', q10'⟩ := HK.out w' hbw;exact V_ ho 73 ⟨pd hdf, ps hsz, KX hx, Gm, mm, cm, t2, E2, pp2, xx2, G2, m2, cc2, K2 y0, K2 y1, K2 y2, K2 y3, (fun _ => pS hsz), K2 y5, K2 y6, K2 y7, K2 y8, K2 y9, hB0, hB1, hH0, hH1, hbw⟩
    ·obtain rfl := SI ho
     have v3 := hpv hp 3 (by simp);have ww3 := (y3 v3).1;have v4 := hpv hp 4 (by simp);have ww4 := (y4 v4);refine C_ ho 74 ((CFI.out Gm mm cm w' ((y3 v3).2)).mono (fun _ _ hp => hp.names)) fun e u hg => ?_
     ·obtain ⟨t2', E2', pp2', xx2', G2', m2', cc2', rfl, hgn, hl, hb⟩ := hg
      refine ⟨.tuple #[.agg #[.int .i8 t2'.1, .slice G2' m2' cc2'], .agg #[.int .i64 E2', .int .i64 pp2', .string xx2']], rfl, ?_⟩;have hbs := hbw.size;have hz1 := HZ.out;have hzb := HZB.out;have hzz : w.heap.size + 3 <= w'.heap.size := by obtain ⟨_, _, _, q⟩ := hB1; have := zC q; omega
      have hlx := LHX1.out;have hbs2 := hb.size;exact ⟨pd hdf, ps hsz, KX hx, Gm, mm, cm, t2', E2', pp2', xx2', G2', m2', cc2', K2 y0, K2 y1, K2 y2, K2 y3, K2 y4, (fun _ => ⟨pS hsz, hgn, Ck.Ly.weak hl (fun b _ hq => Qr.zq hzz hq)⟩), KN y6, KN y7, KN y8, KN y9, (qJ hb hB0), (zw hb hB1), (zA hb (zC hH0) hH0), (Ck.Ly.later hH1 hb), hbw.trans (hb.mono hbw.size)⟩
    ·obtain rfl := SI ho
     have v5 := hpv hp 5 (by simp);have ww5 := (y5 v5).1;exact V_ ho 75 ⟨pd hdf, ps hsz, KX hx, Gm, mm, cm, t2, E2, pp2, xx2, G2, m2, cc2, K2 y0, K2 y1, K2 y2, K2 y3, K2 y4, K2 y5, (fun _ => ⟨pS hsz, (z8 v5)⟩), K2 y7, K2 y8, K2 y9, hB0, hB1, hH0, hH1, hbw⟩
    ·obtain rfl := SI ho
     have v5 := hpv hp 5 (by simp);have ww5 := (y5 v5).1;exact V_ ho 76 ⟨pd hdf, ps hsz, KX hx, Gm, mm, cm, t2, E2, pp2, xx2, G2, m2, cc2, K2 y0, K2 y1, K2 y2, K2 y3, K2 y4, K2 y5, K2 y6, (fun _ => ⟨pS hsz, (z8 v5)⟩), K2 y8, K2 y9, hB0, hB1, hH0, hH1, hbw⟩
    ·obtain rfl := SI ho
     have v6 := hpv hp 6 (by simp);have ww6 := (y6 v6).1;obtain ⟨u0, u1, hbox⟩ := id hB0;obtain ⟨bc0, bc1, bf0, bf1, -⟩ := zF hbox;refine zN ho rfl (zT rfl (w2 := ((w'.setCell ⟨w.heap.size + 1, 0, none⟩ (.int .i8 t2.1)).setCell ⟨w.heap.size + 1, 1, none⟩ (.slice G2 m2 cc2))) ?_ ?_)
     ·exact EV
     ·have hsa : (((w'.setCell ⟨w.heap.size + 1, 0, none⟩ (.int .i8 t2.1)).setCell ⟨w.heap.size + 1, 1, none⟩ (.slice G2 m2 cc2))).heap.size = w'.heap.size := by simp
      have hbs := hbw.size;have hz1 := HZ.out;have hzb := HZB.out;have hzz : w.heap.size + 3 <= w'.heap.size := by obtain ⟨_, _, _, q⟩ := hB1; have := zC q; omega
      have hlx := LHX1.out;exact ⟨hdf, hsz, hx, Gm, mm, cm, t2, E2, pp2, xx2, G2, m2, cc2, K2 y0, K2 y1, K2 y2, K2 y3, K2 y4, K2 y5, K2 y6, K2 y7, (fun _ => ⟨(z8 ((y6 v6).2)), zL hbox _ _⟩), K2 y9, ⟨_, _, zL hbox _ _⟩, (qA hB1 (by omega)), (zM hH0 (by omega) _ _), (Ck.Ly.set2 hH1 (fun b hq => hq.ne (by omega) (by omega)) _ _), zG hbw (by omega) _ _⟩
    ·obtain rfl := SI ho
     have v7 := hpv hp 7 (by simp);have ww7 := (y7 v7).1;obtain ⟨u0, u1, u2, hbox⟩ := id hB1;obtain ⟨bc0, bc1, bc2, bf0, bf1, bf2, -⟩ := cells3 hbox;refine zN ho rfl (zT rfl (w2 := (((w'.setCell ⟨w.heap.size + 1 + 1, 0, none⟩ (.int .i64 E2)).setCell ⟨w.heap.size + 1 + 1, 1, none⟩ (.int .i64 pp2)).setCell ⟨w.heap.size + 1 + 1, 2, none⟩ (.string xx2))) ?_ ?_)
     ·exact EV
     ·have hsa : ((((w'.setCell ⟨w.heap.size + 1 + 1, 0, none⟩ (.int .i64 E2)).setCell ⟨w.heap.size + 1 + 1, 1, none⟩ (.int .i64 pp2)).setCell ⟨w.heap.size + 1 + 1, 2, none⟩ (.string xx2))).heap.size = w'.heap.size := by simp
      have hbs := hbw.size;have hz1 := HZ.out;have hzb := HZB.out;have hzz : w.heap.size + 3 <= w'.heap.size := by obtain ⟨_, _, _, q⟩ := hB1; have := zC q; omega
      have hlx := LHX1.out;exact ⟨hdf, hsz, hx, Gm, mm, cm, t2, E2, pp2, xx2, G2, m2, cc2, K2 y0, K2 y1, K2 y2, K2 y3, K2 y4, K2 y5, K2 y6, K2 y7, K2 y8, (fun _ => ⟨(z8 ((y7 v7).2)), zf hbox _ _ _⟩), (qB hB0 (by omega)), ⟨_, _, _, zf hbox _ _ _⟩, (zR hH0 (by omega) _ _ _), (Ck.Ly.zh hH1 (fun b hq => hq.ne (by omega) (by omega)) _ _ _), qD hbw (by omega) _ _ _⟩
   ·rintro listed u w' t ht hu ⟨-, -, -, Gm, mm, cm, t2, E2, pp2, xx2, G2, m2, cc2, y0, y1, y2, y3, y4, y5, y6, y7, y8, y9, hB0, hB1, hH0, hH1, hbw⟩ hall
    have v5 := hall 5 (by decide);have v8 := hall 8 (by decide);have v9 := hall 9 (by decide);have HBX := k0_ (hfrom.out w' hbw);have hx := ((y8 v8).2);have hy := ((y9 v9).2);have hgn := ((y5 v5).2.1);have hl := ((y5 v5).2.2);clear y0 y1 y2 y3 y4 y5 y6 y7 y8 y9 v5 v8 v9 hall hu;exact zGD
  ·have hgen := (Qr.R.qh HP.out.1 HP.out.2).2 hE1
   have HBD := k0_ hgen;have hne : (E1 != 0) = true := by simpa using hE1
   have HNE := k0_ hE1;clear hgen hE1;have HRR := k0_ (HR.out.trans (show _ = Ck.R.bad E1 pp1 xx1 from by rw [HBD.out.1]; rfl))
   go_upto_region 15 with fail
   have HZL := k0_ (Ck.Ly.zero (Ck.Cut Q w.heap.size (w.heap.size + 3)) w2);have HRS := k0_ (zQ H6.out H7.out (show w.heap.size + 1 ≠ w.heap.size + 1 + 1 by omega) (hfrom.out _ HBW.out) (by omega) (by omega) (.int .i8 0) (.slice none 0 0) (.int .i64 E1) (.int .i64 pp1) (.string xx1));have HLF := k0_ ((HZL.out.set2 (X := w.heap.size + 1) (fun b hq => hq.ne (by omega) (by omega)) (.int .i8 0) (.slice none 0 0)).zh (X := w.heap.size + 1 + 1) (fun b hq => hq.ne (by omega) (by omega)) (.int .i64 E1) (.int .i64 pp1) (.string xx1));obtain ⟨z0, z1, z2, z3, zl⟩ := zF H6.out;obtain ⟨y0, y1, y2, y3, y4, y5, yl⟩ := cells3 H7.out
   go_wp2_with fail
   go_region
   have HRS := k0_ (show (((((w2.setCell ⟨w.heap.size + 1, 0, none⟩ (.int .i8 0)).setCell ⟨w.heap.size + 1, 1, none⟩ (.slice none 0 0)).setCell ⟨w.heap.size + 1 + 1, 0, none⟩ (.int .i64 E1)).setCell ⟨w.heap.size + 1 + 1, 1, none⟩ (.int .i64 pp1)).setCell ⟨w.heap.size + 1 + 1, 2, none⟩ (.string xx1)).drew.heap[w.heap.size + 1]? = _ /\ (((((w2.setCell ⟨w.heap.size + 1, 0, none⟩ (.int .i8 0)).setCell ⟨w.heap.size + 1, 1, none⟩ (.slice none 0 0)).setCell ⟨w.heap.size + 1 + 1, 0, none⟩ (.int .i64 E1)).setCell ⟨w.heap.size + 1 + 1, 1, none⟩ (.int .i64 pp1)).setCell ⟨w.heap.size + 1 + 1, 2, none⟩ (.string xx1)).drew.heap[w.heap.size + 1 + 1]? = _ /\ Below w.heap.size w (((((w2.setCell ⟨w.heap.size + 1, 0, none⟩ (.int .i8 0)).setCell ⟨w.heap.size + 1, 1, none⟩ (.slice none 0 0)).setCell ⟨w.heap.size + 1 + 1, 0, none⟩ (.int .i64 E1)).setCell ⟨w.heap.size + 1 + 1, 1, none⟩ (.int .i64 pp1)).setCell ⟨w.heap.size + 1 + 1, 2, none⟩ (.string xx1)).drew from ⟨HRS.out.1, HRS.out.2.1, HRS.out.2.2.drew⟩);have HLF := k0_ (HLF.out.later (Below.refl _ _).drew);clear z0 z1 z2 z3 zl y0 y1 y2 y3 y4 y5 yl;generalize (((((w2.setCell ⟨w.heap.size + 1, 0, none⟩ (.int .i8 0)).setCell ⟨w.heap.size + 1, 1, none⟩ (.slice none 0 0)).setCell ⟨w.heap.size + 1 + 1, 0, none⟩ (.int .i64 E1)).setCell ⟨w.heap.size + 1 + 1, 1, none⟩ (.int .i64 pp1)).setCell ⟨w.heap.size + 1 + 1, 2, none⟩ (.string xx1)).drew = wz at *;exact zFD
end Go.Proofs.YtglgjaomneljbaaGreatDoor
