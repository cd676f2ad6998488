import Derived.Test.YtepmjknljbafgaaGreatDoorM13
namespace Go.Proofs.YtepmjknljbafgaaGreatDoor
open Go.RowKit Rd
def Far (n0 : Nat) (w : World) (k : Int) (kids : Fo) (G : Option Addr) (m c : Nat) : Prop := ∀ u : World, (∀ b o v, n0 <= b -> w.cell? ⟨b, o, none⟩ = some v -> u.cell? ⟨b, o, none⟩ = some v) -> Ty.Is u k kids G m c
theorem Far.is {n0 : Nat} {w : World} {k : Int} {kids : Fo} {G : Option Addr} {m c : Nat} (h : Far n0 w k kids G m c) : Ty.Is w k kids G m c := h w fun _ _ _ _ h => h
theorem Far.keep {n0 : Nat} {w w' : World} {k : Int} {kids : Fo} {G : Option Addr} {m c : Nat} (h : Far n0 w k kids G m c) (hk : ∀ b o v, n0 <= b -> w.cell? ⟨b, o, none⟩ = some v -> w'.cell? ⟨b, o, none⟩ = some v) : Far n0 w' k kids G m c :=
  fun u hu => h u fun b o v hb hc => hu b o v hb (hk b o v hb hc)
theorem Far.below {n0 : Nat} {w w' : World} {k : Int} {kids : Fo} {G : Option Addr} {m c : Nat} (h : Far n0 w k kids G m c) (hb : Below w.heap.size w w') : Far n0 w' k kids G m c :=
  h.keep fun b o v _ hc => by rw [hb.cell (p := ⟨b, o, none⟩) (Ty.zN hc)]; exact hc
theorem Far.low {n0 n1 : Nat} {w : World} {k : Int} {kids : Fo} {G : Option Addr} {m c : Nat} (h : Far n1 w k kids G m c) (hn : n0 <= n1) : Far n0 w k kids G m c := fun u hu => h u fun b o v hb hc => hu b o v (by omega) hc
theorem ui (n0 : Nat) (w : World) (k : Int) (h1 : -128 <= k) (h2 : k <= 127) : Far n0 w k .nil none 0 0 := fun _ _ => ⟨trivial, rfl, Nat.le_refl _, Nat.zero_le _, h1, h2⟩
structure RdS (l : List W4) (A : Option Addr) (c rb : Nat) (w : World) (i : Nat) : Prop where
  rdr : Rdr w rb A l.length c i
  row : WRow w A l
  ne : ∀ g o, A = some ⟨g, o, none⟩ -> l ≠ [] -> g ≠ rb
  le : i <= l.length
  sh : Shapes w
  len : l.length < maxLen
  small : ∀ x ∈ l, x.text.size <= 281474976710656
theorem zCp {w : World} {rb n c i : Nat} {A : Option Addr} (hS : Shapes w) (hR : Rdr w rb A n c i) : 1 ≠ rb := fun e => by
  subst e;have h0 := hS.2 0 _ rfl;have h1 := (zK hR).1;rw [h0] at h1;cases h1
theorem RdS.step {l : List W4} {A : Option Addr} {c rb i j : Nat} {w w' : World} (h : RdS l A c rb w i) (hg : w.grownBy w' (some rb)) (hR : Rdr w' rb A l.length c j) (hj : j <= l.length) : RdS l A c rb w' j := by
  refine ⟨hR, h.row.grown h.ne hg, h.ne, hj, ⟨Nat.lt_of_lt_of_le h.sh.1 hg.size, fun q v hv => ?_⟩, h.len, h.small⟩;have h0 := h.sh.2 q v hv;rw [World.cell?_of_block (hg.block _ (Ty.zN h0) (fun e => zCp h.sh h.rdr (by injection e)))];exact h0
theorem RdS.below {l : List W4} {A : Option Addr} {c rb i : Nat} {w w' : World} (h : RdS l A c rb w i) (hb : Below w.heap.size w w') : RdS l A c rb w' i :=
  ⟨zB hb (zD h.rdr) h.rdr, h.row.below hb, h.ne, h.le, h.sh.below hb, h.len, h.small⟩
theorem zJ {w u : World} {rb : Nat} (hb : Below w.heap.size w u) : w.grownBy u (some rb) := ⟨hb.os, hb.tape, hb.output, hb.size, fun k hk _ => hb.block k hk⟩
def ROk (l : List W4) (A : Option Addr) (c rb : Nat) (w : World) (k : Int) (kids : Fo) (j : Nat) (e : Ending) (w' : World) : Prop :=
  ∃ G m cg, e = .returned (.agg #[.int .i8 k, .slice G m cg]) /\ Far w.heap.size w' k kids G m cg /\ Rdr w' rb A l.length c j /\ w.grownBy w' (some rb)
def RBad (l : List W4) (rb : Nat) (w : World) (i : Nat) (e : Ending) (w' : World) : Prop :=
  ∃ g, e = .panicked [{ v := .iface 44 (.pointer (some ⟨g, 0, none⟩)), recovered := false }] /\ w'.heap[g]? = some (.cells #[.int .i64 40, .int .i64 (Rd.fAt l i), .string (Rd.fWord l i)] 95 (0, 0)) /\ w.heap.size <= g /\ w.grownBy w' (some rb)
def RPost (l : List W4) (A : Option Addr) (c rb : Nat) (w : World) (t : Tg) (e : Ending) (w' : World) : Prop :=
  (∃ k kids j, R l t (.ok k kids j) /\ ROk l A c rb w k kids j e w') \/ (∃ i, R l t (.bad i) /\ RBad l rb w i e w')
theorem GaveUp.bad {l : List W4} {i rb : Nat} {w u : World} {e : Ending} {w' : World} (h : GaveUp l i u e w') (hg : w.grownBy u (some rb)) : RBad l rb w i e w' := by
  obtain ⟨g, he, hh, hl, hb⟩ := h;exact ⟨g, he, hh, Nat.le_trans hg.size hl, zI hg (zJ hb)⟩
theorem RBad.from {l : List W4} {i rb : Nat} {w u : World} {e : Ending} {w' : World} (h : RBad l rb u i e w') (hg : w.grownBy u (some rb)) : RBad l rb w i e w' := by
  obtain ⟨g, he, hh, hl, hb⟩ := h;exact ⟨g, he, hh, Nat.le_trans hg.size hl, zI hg hb⟩
set_option maxHeartbeats 4000000 in
set_option maxRecDepth 100000 in
theorem zDq (l : List W4) (A : Option Addr) (c rb i : Nat) (w : World) (h : RdS l A c rb w i) (hno : Rd.sees l i 4 [40] = false) :
    Calls Tryz.prog 155 #[.pointer (some ⟨rb, 0, none⟩)] w (RPost l A c rb w (.one i)) := by
  have hb0 : Below w.heap.size w (w.alloc (.cells #[.int .i8 0, .slice none 0 0] 30)) := (Below.refl _ _).alloc (Nat.le_refl _) _;have hX := zF w (.cells #[.int .i8 0, .slice none 0 0] 30);have hlit : (⟨#[40]⟩ : ByteArray).toList = [40] := (Lib.toList_data _).trans rfl;have hl : l.length <= maxLen := Nat.le_of_lt h.len
  have CS := k0_ (fun (W : World) (hb : Below w.heap.size w W) => (show Calls Tryz.prog 158 #[.pointer (some ⟨rb, 0, none⟩), .int .i8 4, .string ⟨#[40]⟩] W (fun e w' => e = .returned (.bool false) /\ ∃ m, w' = W.drewN m) from by
    have q := jo l A c rb i 4 ⟨#[40]⟩ W hl h.le (h.below hb).rdr (h.below hb).row
    rw [hlit, hno] at q; exact q))
  have CK := k0_ (fun (W : World) (hb : Below w.heap.size w W) => zDA l A c rb i W hl h.le (h.below hb).sh (h.below hb).rdr (h.below hb).row);have H := k0_ h;have HX := k0_ hX;have HB0 := k0_ hb0;have HNO := k0_ hno;clear hlit hl hX hb0 hno h
  cases hk : Rd.atK l i with
  | none =>
    have hv : kind0V l i = .tuple #[.int .i8 0, .bool false] := by unfold kind0V; rw [hk]
    rw [hv] at CK;have HK := k0_ hk;clear hv hk
    go_enter Tryz.func155, Tryz.ntmps155
    go_wp2_with fail
    refine (CS.out _ HB0.out).mono ?_;rintro e w2 ⟨rfl, m, rfl⟩;have HB1 := k0_ (below_drewN HB0.out m)
    go_wp2_with fail
    refine (CK.out _ HB1.out).mono ?_;rintro e w3 ⟨rfl, hb⟩;have HB2 := kt_ HB1 hb;clear hb
    go_wp2_with fail
    have hs := H.out.below HB2.out;refine (zCD l A c rb i w3 (Nat.le_of_lt hs.len) hs.le hs.small hs.rdr hs.row).mono ?_;intro e w4 hg;have HP := k0_ (show RPost l A c rb w (.one i) e w4 from .inr ⟨i, .no HK.out HNO.out, hg.bad (zJ HB2.out)⟩);obtain ⟨g, rfl, -⟩ := hg;exact ⟨rfl, HP.out⟩
  | some k =>
    have hv : kind0V l i = .tuple #[.int .i8 k, .bool true] := by unfold kind0V; rw [hk]
    have hkr : k = 0 \/ k = 1 \/ k = 2 := by
      unfold Rd.atK at hk
      split at hk
      · injection hk with e; exact .inl e.symm
      · split at hk
        · injection hk with e; exact .inr (.inl e.symm)
        · split at hk
          · injection hk with e; exact .inr (.inr e.symm)
          · cases hk
    have hil := Rd.zC9 hk;rw [hv] at CK;have HK := k0_ hk;clear hv hk
    go_enter Tryz.func155, Tryz.ntmps155
    go_wp2_with fail
    refine (CS.out _ HB0.out).mono ?_;rintro e w2 ⟨rfl, m, rfl⟩;have HB1 := k0_ (below_drewN HB0.out m);have HX1 : Hid (((w.alloc (.cells #[.int .i8 0, .slice none 0 0] 30)).drewN m).heap[w.heap.size]? = _) := k0_ HX.out
    go_wp2_with fail
    refine (CK.out _ HB1.out).mono ?_;rintro e w3 ⟨rfl, hb⟩;have HB2 := kt_ HB1 hb;have HX2 := kp_ hb HX1;clear hb
    go_wp2_with fail
    have hs := H.out.below HB2.out;refine (zA8 A l.length c rb i w3 (by have := hs.len; omega) hs.rdr).mono ?_;rintro e w4 ⟨rfl, hR, hg⟩;have hne : w.heap.size ≠ rb := by have := zD H.out.rdr; omega
    have hx4 := zR hg hne HX2.out;obtain ⟨x0, x1, f0, f1, xl⟩ := zK hx4;have HR := k0_ hR;have HG := k0_ (zI (zJ HB2.out) hg);have hkb : -128 <= k /\ k <= 127 := by omega
    clear hR hg hs hx4
    go_wp2_with fail
    refine bodyPost_ret (v := .agg #[.int .i8 k, .slice none 0 0]) (by simp [results, Tryz.results155, go_sem, *]) rfl (.inl ⟨k, .nil, i + 1, .word HK.out HNO.out, none, 0, 0, rfl, ui _ _ k hkb.1 hkb.2, ?_, zL (zL HG.out (.inr (Nat.le_refl _)) _) (.inr (Nat.le_refl _)) _⟩);exact zHh
end Go.Proofs.YtepmjknljbafgaaGreatDoor
namespace Go.Proofs.YtepmjknljbafgaaGreatDoor
open Rd
namespace Rd
def Out (l : List W4) (i : Nat) (k : Int) (kids : Fo) (N : Nat) (E a : Int) (t : ByteArray) : Prop :=
  (R l (.wh 1 i) (.ok k kids N) /\ Ty.chk k kids = 0 /\ E = 0 /\ a = 0 /\ t = ⟨#[]⟩) \/
  (∃ k' kids' j, R l (.wh 1 i) (.ok k' kids' j) /\ Ty.chk k' kids' ≠ 0 /\ k = 0 /\ kids = .nil /\ N = 0 /\ E = Ty.chk k' kids' /\ a = fAt l i /\ t = ⟨#[]⟩) \/
  (∃ q, R l (.wh 1 i) (.bad q) /\ k = 0 /\ kids = .nil /\ N = 0 /\ E = 40 /\ a = fAt l q /\ t = fWord l q)
theorem Out.det {l : List W4} {i : Nat} {k k' : Int} {kids kids' : Fo} {N N' : Nat} {E E' a a' : Int} {t t' : ByteArray} (h : Out l i k kids N E a t) (h' : Out l i k' kids' N' E' a' t') : k' = k /\ kids' = kids /\ N' = N /\ E' = E /\ a' = a /\ t' = t := by
  rcases h with ⟨h1, h2, rfl, rfl, rfl⟩ | ⟨k1, f1, j1, h1, h2, rfl, rfl, rfl, rfl, rfl, rfl⟩ | ⟨q, h1, rfl, rfl, rfl, rfl, rfl, rfl⟩ <;>
    rcases h' with ⟨g1, g2, rfl, rfl, rfl⟩ | ⟨k2, f2, j2, g1, g2, rfl, rfl, rfl, rfl, rfl, rfl⟩ | ⟨p, g1, rfl, rfl, rfl, rfl, rfl, rfl⟩
  · injection g1.det h1 with e1 e2 e3; exact ⟨e1, e2, e3, rfl, rfl, rfl⟩
  · injection g1.det h1 with e1 e2 e3; subst e1; subst e2; exact absurd h2 g2
  · cases g1.det h1
  · injection g1.det h1 with e1 e2 e3; subst e1; subst e2; exact absurd g2 h2
  · injection g1.det h1 with e1 e2 e3; subst e1; subst e2; exact ⟨rfl, rfl, rfl, rfl, rfl, rfl⟩
  · cases g1.det h1
  · cases g1.det h1
  · cases g1.det h1
  · injection g1.det h1 with e1; subst e1; exact ⟨rfl, rfl, rfl, rfl, rfl, rfl⟩
end Rd
end Go.Proofs.YtepmjknljbafgaaGreatDoor
namespace Go.Proofs.YtepmjknljbafgaaGreatDoor
open Go.RowKit Rd
set_option maxHeartbeats 8000000 in
set_option maxRecDepth 100000 in
theorem zGA (l : List W4) (A : Option Addr) (c rb i : Nat) (w : World) (h : RdS l A c rb w i) (hyes : Rd.sees l i 4 [40] = true)
    (hw : ∀ W : World, RdS l A c rb W (i + 1) -> Calls Tryz.prog 153 #[.pointer (some ⟨rb, 0, none⟩), .int .i64 1] W (RPost l A c rb W (.wh 1 (i + 1)))) :
    Calls Tryz.prog 155 #[.pointer (some ⟨rb, 0, none⟩)] w (RPost l A c rb w (.one i)) := by
  have hb0 : Below w.heap.size w (w.alloc (.cells #[.int .i8 0, .slice none 0 0] 30)) := (Below.refl _ _).alloc (Nat.le_refl _) _;have hX := zF w (.cells #[.int .i8 0, .slice none 0 0] 30);have hlit : (⟨#[40]⟩ : ByteArray).toList = [40] := (Lib.toList_data _).trans rfl;have hlit2 : (⟨#[41]⟩ : ByteArray).toList = [41] := (Lib.toList_data _).trans rfl;have hl : l.length <= maxLen := Nat.le_of_lt h.len;have hil := Rd.zQ hyes
  have CS := k0_ (fun (W : World) (hb : Below w.heap.size w W) => (show Calls Tryz.prog 158 #[.pointer (some ⟨rb, 0, none⟩), .int .i8 4, .string ⟨#[40]⟩] W (fun e w' => e = .returned (.bool true) /\ ∃ m, w' = W.drewN m) from by
    have q := jo l A c rb i 4 ⟨#[40]⟩ W hl h.le (h.below hb).rdr (h.below hb).row
    rw [hlit, hyes] at q; exact q))
  have CS2 := k0_ (fun (j : Nat) (b : Bool) (hj : Rd.sees l j 4 [41] = b) (W : World) (hr : RdS l A c rb W j) => (show Calls Tryz.prog 158 #[.pointer (some ⟨rb, 0, none⟩), .int .i8 4, .string ⟨#[41]⟩] W (fun e w' => e = .returned (.bool b) /\ ∃ m, w' = W.drewN m) from by
    have q := jo l A c rb j 4 ⟨#[41]⟩ W hl hr.le hr.rdr hr.row
    rw [hlit2, hj] at q; exact q))
  have H := k0_ h;have HX := k0_ hX;have HB0 := k0_ hb0;have HY := k0_ hyes;have HWH := k0_ hw;have hne : w.heap.size ≠ rb := by have := zD h.rdr; omega
  have hii : (i : Int) + 1 <= 9223372036854775807 := by have := h.len; unfold maxLen at this; omega
  have HIL := k0_ hil;clear hlit hlit2 hl hX hb0 hyes h hw hil
  go_enter Tryz.func155, Tryz.ntmps155
  go_wp2_with fail
  refine (CS.out _ HB0.out).mono ?_;rintro e w2 ⟨rfl, m, rfl⟩;have HB1 := k0_ (below_drewN HB0.out m);have hs1 := H.out.below HB1.out;have HX1 : Hid (((w.alloc (.cells #[.int .i8 0, .slice none 0 0] 30)).drewN m).heap[w.heap.size]? = _) := k0_ HX.out;generalize (w.alloc (.cells #[.int .i8 0, .slice none 0 0] 30)).drewN m = u1 at *;obtain ⟨r0, r1, f0, f1, rl⟩ := zK hs1.rdr;have hg2 : u1.grownBy (u1.setCell ⟨rb, 1, none⟩ (.int .i64 ((i : Int) + 1))) (some rb) := zL (zz u1 rb) (.inl rfl) _;have hr2 := uP hs1.rdr (i + 1);rw [show ((i + 1 : Nat) : Int) = (i : Int) + 1 by omega] at hr2;have HS2 := k0_ (hs1.step hg2 hr2 (by have := HIL.out; omega));have HG2 := k0_ (zI (zJ HB1.out) hg2);have HX2 := k0_ (zR hg2 hne HX1.out);clear hs1 hg2 hr2 HX1 HX HB0 HB1
  go_wp2_with fail
  refine (HWH.out _ HS2.out).mono ?_;rintro e w3 (⟨k, kids, j, hRk, G, mg, cg, rfl, hF, hRd, hg⟩ | ⟨q, hRq, hB⟩)
  · have hjl := hRk.goes (by show i + 1 <= l.length; have := HIL.out; omega)
    have hjj : j <= l.length := hjl.2;have hx3 := zR hg hne HX2.out;have hs3 := HS2.out.step hg hRd hjj;have hb4 : Below w3.heap.size w3 (w3.alloc (.cells #[.int .i8 k, .slice G mg cg] 30)) := (Below.refl _ _).alloc (Nat.le_refl _) _;have HS4 := k0_ (hs3.below hb4);have HX4 := k0_ (zG hx3 (.cells #[.int .i8 k, .slice G mg cg] 30));have HY4 := k0_ (zF w3 (.cells #[.int .i8 k, .slice G mg cg] 30));have HG4 := k0_ (zI HG2.out (zy hg (.cells #[.int .i8 k, .slice G mg cg] 30)));have HF4 := k0_ ((hF.below hb4).low (show w.heap.size + 1 <= _ from zD HX2.out));have hn4 : w3.heap.size ≠ rb := by have := zD hRd; omega
    have hn5 : w.heap.size ≠ w3.heap.size := by have := zD hx3; omega
    have HRk := k0_ hRk;clear hjl hx3 hs3 hb4 hF hRd hg hRk
    go_upto_region 4 with fail
    generalize w3.alloc (.cells #[.int .i8 k, .slice G mg cg] 30) = w4 at *;generalize w3.heap.size = Y at *;cases hse : Rd.sees l j 4 [41]
    · have CC := k0_ (CS2.out j false hse w4 HS4.out)
      have HSE := k0_ hse;clear hse
      go_wp2_with fail
      refine CC.out.mono ?_;rintro e w5 ⟨rfl, m2, rfl⟩;have hb5 := below_drewN (Below.refl w4.heap.size w4) m2;have hs5 := HS4.out.below hb5;have HG5 := k0_ (zI HG4.out (zJ (rb := rb) hb5));have HW5 := k0_ (zCD l A c rb j _ (Nat.le_of_lt hs5.len) hs5.le hs5.small hs5.rdr hs5.row);clear hb5 hs5
      go_wp2_with fail
      refine HW5.out.mono ?_;intro e w6 hg;have HP := k0_ (show RPost l A c rb w (.one i) e w6 from .inr ⟨j, .brNo HY.out HRk.out HSE.out, hg.bad HG5.out⟩);obtain ⟨g, rfl, -⟩ := hg;exact ⟨rfl, HP.out⟩
    · have CC := k0_ (CS2.out j true hse w4 HS4.out)
      have HSE := k0_ hse;clear hse
      go_wp2_with fail
      refine CC.out.mono ?_;rintro e w5 ⟨rfl, m2, rfl⟩;have hb5 := below_drewN (Below.refl w4.heap.size w4) m2;have hs5 := HS4.out.below hb5;have HG5 := k0_ (zI HG4.out (zJ (rb := rb) hb5));have HF5 := k0_ (HF4.out.below hb5);have HX5 : Hid ((w4.drewN m2).heap[w.heap.size]? = _) := k0_ HX4.out;have HY5 : Hid ((w4.drewN m2).heap[Y]? = _) := k0_ HY4.out;have HW5 := k0_ (zA8 A l.length c rb j _ (by have := Rd.zQ HSE.out; have := hs5.len; omega) hs5.rdr);clear hb5 hs5;generalize w4.drewN m2 = w5 at *
      go_wp2_with fail
      refine HW5.out.mono ?_;rintro e w6 ⟨rfl, hR, hg⟩;obtain ⟨x0, x1, g0, g1, xl⟩ := zK (zR hg hne HX5.out);obtain ⟨y0, y1, -, -, yl⟩ := zK (zR hg hn4 HY5.out);have HR := k0_ hR;have HG6 := k0_ (zI HG5.out hg)
      have HF6 := k0_ (HF5.out.keep (w' := w6) fun b o v hb hc => by
        rw [World.cell?_of_block (hg.block b (Ty.zN hc) (fun e => by injection e with e; have := zD H.out.rdr; omega))]; exact hc)
      clear hR hg
      go_wp2_with fail
      refine bodyPost_ret (v := .agg #[.int .i8 k, .slice G mg cg]) (by simp [results, Tryz.results155, go_sem, *]) rfl (.inl ⟨k, kids, j + 1, .br HY.out HRk.out HSE.out, G, mg, cg, rfl, ?_, ?_, zL (zL HG6.out (.inr (Nat.le_refl _)) _) (.inr (Nat.le_refl _)) _⟩)
      · refine (HF6.out.keep fun b o v hb hc => ?_).low (Nat.le_succ _)
        exact zH7
      · exact zHh
  · have HP := k0_ (show RPost l A c rb w (.one i) e w3 from .inr ⟨q, .brBad HY.out hRq, hB.from HG2.out⟩)
    obtain ⟨g, rfl, -⟩ := hB;exact ⟨rfl, HP.out⟩
set_option maxHeartbeats 1000000 in
theorem vV (k : Int) (hk : k = 3 \/ k = 4 \/ k = 5) (w : World) (hS : Shapes w) :
    ∃ lf : Int, Calls Tryz.prog 26 #[.int .i8 k] w fun e w' => e = .returned (.tuple #[.int .i64 lf, .int .i64 (Rd.rgt k)]) /\ w' = w := by
  obtain ⟨hs1, hs2⟩ := hS;have s15 := hs2 15 _ rfl;have s19 := hs2 19 _ rfl;have s23 := hs2 23 _ rfl;clear hs2;rcases hk with rfl | rfl | rfl
  · refine ⟨2, ?_⟩
    go_enter Tryz.func26, Tryz.ntmps26
    go_wp2_with fail
    go_ret2
    exact ⟨rfl, rfl⟩
  · refine ⟨3, ?_⟩
    go_enter Tryz.func26, Tryz.ntmps26
    go_wp2_with fail
    go_ret2
    exact ⟨rfl, rfl⟩
  · refine ⟨2, ?_⟩
    go_enter Tryz.func26, Tryz.ntmps26
    go_wp2_with fail
    go_ret2
    exact ⟨rfl, rfl⟩
theorem zFB (l : List W4) (A : Option Addr) (c rb i : Nat) (w : World) (h : RdS l A c rb w i)
    (hw : Rd.sees l i 4 [40] = true -> ∀ W : World, RdS l A c rb W (i + 1) -> Calls Tryz.prog 153 #[.pointer (some ⟨rb, 0, none⟩), .int .i64 1] W (RPost l A c rb W (.wh 1 (i + 1)))) :
    Calls Tryz.prog 155 #[.pointer (some ⟨rb, 0, none⟩)] w (RPost l A c rb w (.one i)) := by
  cases hb : Rd.sees l i 4 [40] with
  | true => exact zGA l A c rb i w h hb (hw hb)
  | false => exact zDq l A c rb i w h hb
def FarP (P : Nat -> Prop) (w : World) (k : Int) (kids : Fo) (G : Option Addr) (m c : Nat) : Prop := ∀ u : World, (∀ b o v, P b -> w.cell? ⟨b, o, none⟩ = some v -> u.cell? ⟨b, o, none⟩ = some v) -> Ty.Is u k kids G m c
theorem FarP.is {P : Nat -> Prop} {w : World} {k : Int} {kids : Fo} {G : Option Addr} {m c : Nat} (h : FarP P w k kids G m c) : Ty.Is w k kids G m c := h w fun _ _ _ _ h => h
theorem FarP.keep {P : Nat -> Prop} {w w' : World} {k : Int} {kids : Fo} {G : Option Addr} {m c : Nat} (h : FarP P w k kids G m c) (hk : ∀ b o v, P b -> w.cell? ⟨b, o, none⟩ = some v -> w'.cell? ⟨b, o, none⟩ = some v) : FarP P w' k kids G m c :=
  fun u hu => h u fun b o v hb hc => hu b o v hb (hk b o v hb hc)
theorem FarP.mono {P Q : Nat -> Prop} {w : World} {k : Int} {kids : Fo} {G : Option Addr} {m c : Nat} (h : FarP P w k kids G m c) (hq : ∀ b o v, w.cell? ⟨b, o, none⟩ = some v -> P b -> Q b) : FarP Q w k kids G m c :=
  fun u hu => h u fun b o v hb hc => hu b o v (hq b o v hc hb) hc
theorem Far.toP {n0 : Nat} {w : World} {k : Int} {kids : Fo} {G : Option Addr} {m c : Nat} (h : Far n0 w k kids G m c) : FarP (fun b => n0 <= b) w k kids G m c := h
theorem FarP.below {P : Nat -> Prop} {w w' : World} {k : Int} {kids : Fo} {G : Option Addr} {m c : Nat} (h : FarP P w k kids G m c) (hb : Below w.heap.size w w') : FarP P w' k kids G m c :=
  h.keep fun b o v _ hc => by rw [hb.cell (p := ⟨b, o, none⟩) (Ty.zN hc)]; exact hc
theorem zFu {P : Nat -> Prop} {w : World} {k k1 k2 : Int} {zT zO : Fo} {G1 G2 : Option Addr} {m1 m2 c1 c2 Y : Nat} (h1 : FarP P w k1 zT G1 m1 c1) (h2 : FarP P w k2 zO G2 m2 c2) (hY : P Y)
    (y0 : w.cell? ⟨Y, 0, none⟩ = some (.int .i8 k1)) (y1 : w.cell? ⟨Y, 1, none⟩ = some (.slice G1 m1 c1)) (y2 : w.cell? ⟨Y, 2, none⟩ = some (.int .i8 k2)) (y3 : w.cell? ⟨Y, 3, none⟩ = some (.slice G2 m2 c2)) (hk : -128 <= k /\ k <= 127) :
    FarP P w k (two k1 zT k2 zO) (some ⟨Y, 0, none⟩) 2 2 := by
  intro u hu;have i1 := h1 u hu;have i2 := h2 u hu;have e1 := i1.n_eq;have e2 := i2.n_eq;subst e1; subst e2;refine ⟨⟨Y, 0, G1, c1, rfl, ⟨i1.lo, i1.hi⟩, ?_, ?_, i1.n_le, i1.c_le, i1.lies, Y, 0, G2, c2, rfl, ⟨i2.lo, i2.hi⟩, ?_, ?_, i2.n_le, i2.c_le, i2.lies, trivial⟩, rfl, by omega, by decide, hk.1, hk.2⟩
  · exact hu Y _ _ hY y0
  · exact hu Y _ _ hY y1
  · exact hu Y _ _ hY y2
  · exact hu Y _ _ hY y3
structure WSt (l : List W4) (A : Option Addr) (c rb least i : Nat) (w : World) (X : Nat) (k : Int) (kids : Fo) (j : Nat) (G : Option Addr) (mg cg : Nat) (wr : World) : Prop where
  gt : i + 1 <= j
  rd : RdS l A c rb wr j
  box : wr.heap[X]? = some (.cells #[.int .i8 k, .slice G mg cg] 30)
  res : wr.heap[w.heap.size]? = some (.cells #[.int .i8 0, .slice none 0 0] 30)
  far : FarP (fun b => w.heap.size < b /\ b ≠ X) wr k kids G mg cg
  only : w.grownBy wr (some rb)
  on : ∀ r, R l (.lp least k kids j) r -> R l (.wh least i) r
theorem zBV {P : Program} {G : Prop} {w : World} (h : wpAny P .any #[] (fun _ _ _ => G) 0 #[] { tmps := #[], defers := [] } w) : G := h.2
theorem vU {w : World} {X : Nat} {a b u v : Value} {t : TypeId} (h : w.heap[X]? = some (.cells #[a, b] t (0, 0))) : ((w.setCell ⟨X, 0, none⟩ u).setCell ⟨X, 1, none⟩ v).heap[X]? = some (.cells #[u, v] t (0, 0)) := by
  simp [World.setCell, Array.getElem?_modify, h]
theorem vI {w : World} {rb n c i X : Nat} {A : Option Addr} (h : Rdr w rb A n c i) (hX : X ≠ rb) (o : Nat) (v : Value) : Rdr (w.setCell ⟨X, o, none⟩ v) rb A n c i := by
  unfold Rdr at h ⊢;rw [Below.heap_setCell _ _ _ _ (fun e => hX e.symm)];exact h
theorem WSt.done {l : List W4} {A : Option Addr} {c rb least i j X mg cg : Nat} {w wr w5 : World} {k : Int} {kids : Fo} {G : Option Addr} (h : WSt l A c rb least i w X k kids j G mg cg wr) (hb : Below wr.heap.size wr w5) (hwr : w.heap.size ≠ rb) (hs : opK l j = 0 \/ binds (opK l j) < least) :
    RPost l A c rb w (.wh least i) (.returned (.agg #[.int .i8 k, .slice G mg cg])) ((w5.setCell ⟨w.heap.size, 0, none⟩ (.int .i8 k)).setCell ⟨w.heap.size, 1, none⟩ (.slice G mg cg)) := by
  refine .inl ⟨k, kids, j, h.on _ (.stop hs), G, mg, cg, rfl, ?_, vI (vI (h.rd.below hb).rdr hwr _ _) hwr _ _, zL (zL (zI h.only (zJ hb)) (.inr (Nat.le_refl _)) _) (.inr (Nat.le_refl _)) _⟩
  have h1 := (h.far.below hb).keep (w' := (w5.setCell ⟨w.heap.size, 0, none⟩ (.int .i8 k)).setCell ⟨w.heap.size, 1, none⟩ (.slice G mg cg)) fun b o v hP hc => by
    exact zH7
  exact h1.mono fun b o v _ hP => Nat.le_of_lt hP.1
theorem WSt.next {l : List W4} {A : Option Addr} {c rb least i j j2 X mg cg m2 c2 : Nat} {w wr w7 u : World} {k k2 : Int} {kids zO : Fo} {G G2 : Option Addr} (h : WSt l A c rb least i w X k kids j G mg cg wr) (g7 : wr.grownBy w7 (some rb))
    (hH : RdS l A c rb w i) (hX : w.heap.size < X) (hle : least <= binds (opK l j)) (h0 : opK l j ≠ 0) (hok : R l (.wh (rgt (opK l j)) (j + 1)) (.ok k2 zO j2)) (hF : Far w7.heap.size u k2 zO G2 m2 c2) (hR : Rdr u rb A l.length c j2) (hg : w7.grownBy u (some rb)) (o : Int) (ho : opK l j = o) (t : TypeId) :
    WSt l A c rb least i w X o (two k kids k2 zO) j2 (some ⟨u.heap.size, 0, none⟩) 2 2 (((u.setCell ⟨X, 0, none⟩ (.int .i8 o)).setCell ⟨X, 1, none⟩ (.slice (some ⟨u.heap.size, 0, none⟩) 2 2)).alloc (.cells #[.int .i8 k, .slice G mg cg, .int .i8 k2, .slice G2 m2 c2] t)) := by
  have hX9 := zD (zR (zI g7 hg) (show X ≠ rb by have := zD hH.rdr; omega) h.box);rw [← World.setCell_alloc_past _ X 1 _ (by simpa using hX9), ← World.setCell_alloc_past _ X 0 _ hX9];have hrb := zD hH.rdr;have hXr : X ≠ rb := by omega
  have hg2 := zI g7 hg;have hj := hok.goes (show j + 1 <= l.length from xE h0);simp only [Tg.start] at hj;have hbox := zG (zR hg2 hXr h.box) (.cells #[.int .i8 k, .slice G mg cg, .int .i8 k2, .slice G2 m2 c2] t);have hres := zG (zR hg2 (show w.heap.size ≠ rb by omega) h.res) (.cells #[.int .i8 k, .slice G mg cg, .int .i8 k2, .slice G2 m2 c2] t);have hXl := zD h.box;have hgt := h.gt;have h7 := g7.size;have hu := hg.size;have hb : Below u.heap.size u (u.alloc (.cells #[.int .i8 k, .slice G mg cg, .int .i8 k2, .slice G2 m2 c2] t)) := (Below.refl _ _).alloc (Nat.le_refl _) _;obtain ⟨y0, y1, y2, y3, -⟩ := zV (zF u (.cells #[.int .i8 k, .slice G mg cg, .int .i8 k2, .slice G2 m2 c2] t));have hon := zL (zL (zI (zI h.only hg2) (zJ (rb := rb) hb)) (.inr (Nat.le_of_lt hX)) (.int .i8 o) (p := ⟨X, 0, none⟩)) (.inr (Nat.le_of_lt hX)) (.slice (some ⟨u.heap.size, 0, none⟩) 2 2) (p := ⟨X, 1, none⟩);have hRd := vI (vI (zB hb (zD hR) hR : Rdr _ rb A l.length c j2) hXr 0 (.int .i8 o)) hXr 1 (.slice (some ⟨u.heap.size, 0, none⟩) 2 2)
  have F1 := ((h.far.keep (w' := u) fun b q v hP hc => by
    rw [World.cell?_of_block (hg2.block b (Ty.zN hc) (fun e => by injection e with e; omega))]; exact hc).below hb)
  have F2 := (hF.toP.mono (Q := fun b => w.heap.size < b /\ b ≠ X) (fun b q v _ (hP : w7.heap.size <= b) => ⟨by omega, by omega⟩)).below hb;refine ⟨by omega, hH.step hon hRd (by omega), vU hbox, ?_, ?_, hon, fun r hr => h.on r (.op h0 hle hok (by rw [ho]; exact hr))⟩
  · rw [Below.heap_setCell _ _ _ _ (show w.heap.size ≠ X by omega), Below.heap_setCell _ _ _ _ (show w.heap.size ≠ X by omega)]
    exact hres
  · have F := zFu (k := o) F1 F2 (show w.heap.size < u.heap.size /\ u.heap.size ≠ X by omega) y0 y1 y2 y3 (by rcases wN l j with e | e | e | e <;> rw [ho] at e <;> omega)
    exact F.keep fun b q v hP hc => by
      exact zH7
set_option maxHeartbeats 8000000 in
set_option maxRecDepth 100000 in
theorem zB8 (l : List W4) (A : Option Addr) (c rb i least : Nat) (w : World) (h : RdS l A c rb w i) (h4 : least <= 4)
    (hw : ∀ (W : World) (j q : Nat), i < j -> q <= 4 -> RdS l A c rb W j -> Calls Tryz.prog 153 #[.pointer (some ⟨rb, 0, none⟩), .int .i64 q] W (RPost l A c rb W (.wh q j))) :
    Calls Tryz.prog 153 #[.pointer (some ⟨rb, 0, none⟩), .int .i64 least] w (RPost l A c rb w (.wh least i)) := by
  have CA := k0_ (fun (W : World) (hs : RdS l A c rb W i) => zFB l A c rb i W hs (fun _ U hu => hw U (i + 1) 1 (by omega) (by omega) hu));have H := k0_ h;have HWH := k0_ hw;have HX0 := k0_ (zF w (.cells #[.int .i8 0, .slice none 0 0] 30));have HB0 := k0_ (show Below w.heap.size w (w.alloc (.cells #[.int .i8 0, .slice none 0 0] 30)) from (Below.refl _ _).alloc (Nat.le_refl _) _);clear h hw
  go_enter Tryz.func153, Tryz.ntmps153
  go_wp2_with fail
  have HS0 := k0_ (H.out.below HB0.out);have HG0 := k0_ (zJ (rb := rb) HB0.out);generalize w.alloc (.cells #[.int .i8 0, .slice none 0 0] 30) = w1 at *;refine (CA.out _ HS0.out).mono ?_;rintro e w2 (⟨k, kids, j, hRk, G, mg, cg, rfl, hF, hRd, hg⟩ | ⟨q, hRq, hB⟩)
  · have hjl := hRk.goes (show i <= l.length from H.out.le)
    have hij : i + 1 <= j := hjl.1;have hjj : j <= l.length := hjl.2;have hx2 := zR hg (show w.heap.size ≠ rb by have := zD H.out.rdr; omega) HX0.out;have HS2 := k0_ (HS0.out.step hg hRd hjj);have HX2 := k0_ hx2;have HG2 := k0_ (zI HG0.out hg);have HF2 := k0_ hF;have HR2 := k0_ hRk;clear hjl hx2 hF hRd hg hRk
    go_wp2_with fail
    have HW3 := k0_ (show WSt l A c rb least i w w2.heap.size k kids j G mg cg (w2.alloc (.cells #[.int .i8 k, .slice G mg cg] 30)) from by
      have hb3 : Below w2.heap.size w2 (w2.alloc (.cells #[.int .i8 k, .slice G mg cg] 30)) := (Below.refl _ _).alloc (Nat.le_refl _) _;refine ⟨hij, HS2.out.below hb3, zF w2 _, zG HX2.out _, ?_, zy HG2.out _, fun r hr => .whGo HR2.out hr⟩;have h1 := zD HX0.out
      exact (HF2.out.toP.mono (fun b o v hc (hb : w1.heap.size <= b) => (⟨by omega, by have := Ty.zN hc; omega⟩ : w.heap.size < b /\ b ≠ w2.heap.size))).below hb3)
    have hXn : w2.heap.size ≠ w.heap.size := by have := zD HX2.out; omega
    have hXr : w2.heap.size ≠ rb := by have := zD HS2.out.rdr; omega
    have hwr : w.heap.size ≠ rb := by have := zD H.out.rdr; omega
    have hXg : w.heap.size < w2.heap.size := zD HX2.out;generalize w2.alloc (.cells #[.int .i8 k, .slice G mg cg] 30) = w3 at *;clear HS2 HX2 HG2 HF2 HR2 hij hjj HX0 HB0 HS0 HG0 CA;generalize hXX : w2.heap.size = X at *;clear hXX
    go_loopg [9] (l.length - j) (fun g v wr => ∃ k kids j G mg cg, g = l.length - j /\ Hid (WSt l A c rb least i w X k kids j G mg cg wr))
    case atStart => exact ⟨k, kids, j, G, mg, cg, rfl, HW3⟩
    case round =>
      obtain ⟨k, kids, j, G, mg, cg, hgk, HW⟩ := hrel;have hs := HW.out.rd;have hjl : j <= l.length := hs.le;have CK := k0_ (zD9 l A c rb j wr (Nat.le_of_lt hs.len) hs.le hs.sh hs.rdr hs.row);clear hs
      by_cases h0 : Rd.opK l j = 0
      · have hv : kind2V l j = .tuple #[.int .i8 0, .bool false] := by unfold kind2V; rw [if_pos h0]
        rw [hv] at CK;have H0 := k0_ h0;clear hv h0
        go_wp2_with fail
        refine CK.out.mono ?_;rintro e w5 ⟨rfl, hb⟩;have x5 := zB hb (zD HW.out.box) HW.out.box;have y5 := zB hb (zD HW.out.res) HW.out.res;obtain ⟨b0, b1, bf0, bf1, bl⟩ := zK x5;obtain ⟨d0, d1, df0, df1, dl⟩ := zK y5;have HB := k0_ hb;clear x5 y5 hb
        go_wp2_with fail
        refine bodyPost_ret (v := .agg #[.int .i8 k, .slice G mg cg]) (by simp [results, Tryz.results153, go_sem, *]) rfl (HW.out.done HB.out hwr (.inl H0.out))
      · have hv : kind2V l j = .tuple #[.int .i8 (Rd.opK l j), .bool true] := by unfold kind2V; rw [if_neg h0]
        rw [hv] at CK;obtain ⟨o, ho⟩ : ∃ o, o = Rd.opK l j := ⟨_, rfl⟩
        rw [← ho] at CK
        have ho3 : o = 3 \/ o = 4 \/ o = 5 := by
          rcases wN l j with e | e | e | e
          · exact absurd e h0
          · left; omega
          · right; left; omega
          · right; right; omega
        have H0 := k0_ h0;have HO := k0_ ho;have hjlt := xE h0;clear hv h0 ho
        go_wp2_with fail
        refine CK.out.mono ?_;rintro e w5 ⟨rfl, hb⟩;have HS5 := k0_ (HW.out.rd.below hb);have x5 := zB hb (zD HW.out.box) HW.out.box;have y5 := zB hb (zD HW.out.res) HW.out.res;have hsh := HS5.out.sh;obtain ⟨b0, b1, bf0, bf1, bl⟩ := zK x5;obtain ⟨d0, d1, df0, df1, dl⟩ := zK y5;have HX5 := k0_ x5;have HB := k0_ hb;obtain ⟨sl, sc⟩ := hsh;have s15 := sc 15 _ rfl;have s19 := sc 19 _ rfl;have s23 := sc 23 _ rfl;clear x5 y5 hb sc;have HO3 := k0_ ho3
        have hbk : Hid (w5.cell? ⟨1, o.toNat * 4 + 3, none⟩ = some (.int .i64 (binds o))) := k0_ (by
          rcases HO3.out with rfl | rfl | rfl
          · exact s15
          · exact s19
          · exact s23)
        by_cases hlt : binds o < least
        · have HL := k0_ (show opK l j = 0 \/ binds (opK l j) < least from .inr (by rw [← HO.out]; exact hlt))
          rcases ho3 with rfl | rfl | rfl
          · have hlt2 : (1 : Int) < least := by
              have e : binds 3 = 1 := by decide
              omega
            exact zH9
          · have hlt2 : (3 : Int) < least := by
              have e : binds 4 = 3 := by decide
              omega
            exact zH9
          · have hlt2 : (2 : Int) < least := by
              have e : binds 5 = 2 := by decide
              omega
            exact zH9
        · have HL := k0_ (show least <= binds (opK l j) from by rw [← HO.out]; omega)
          have hg6 : w5.grownBy (w5.setCell ⟨rb, 1, none⟩ (.int .i64 ((j : Int) + 1))) (some rb) := zL (zz w5 rb) (.inl rfl) _;have hr6 := uP HS5.out.rdr (j + 1);rw [show ((j + 1 : Nat) : Int) = (j : Int) + 1 by omega] at hr6;have HS6 := k0_ (HS5.out.step hg6 hr6 (by omega));have HG6 := k0_ (zI (zJ HB.out) hg6);have HX6 := k0_ (zR hg6 hXr HX5.out);clear hg6 hr6;obtain ⟨r, hr⟩ := R.zA7 l (rgt (opK l j)) (j + 1);have HJ := k0_ (show i < j + 1 from by have := HW.out.gt; omega);have HRR := k0_ hr;clear hr;rcases ho3 with rfl | rfl | rfl
          · have hlt2 : (least : Int) <= 1 := by
              have e : binds 3 = 1 := by decide
              omega
            clear hlt hbk;have hbX := k0_ s15;obtain ⟨lf, cn⟩ := vV 3 HO3.out _ HS6.out.sh;have CN := k0_ (show Calls Tryz.prog 26 #[.int .i8 3] (w5.setCell ⟨rb, 1, none⟩ (.int .i64 ((j : Int) + 1))) (fun e w' => e = .returned (.tuple #[.int .i64 lf, .int .i64 1]) /\ w' = w5.setCell ⟨rb, 1, none⟩ (.int .i64 ((j : Int) + 1))) from cn);clear cn;clear s15 s19 s23 d0 d1 df0 df1;have sX := hbX.out;clear hbX
            go_upto_region 5 with fail
            have HGK := k0_ (And.intro hgk hjlt);clear sX hlt2 b0 b1 bf0 bf1 bl dl sl hgk hjl hjlt h4;obtain ⟨r0, r1, rf0, rf1, rl⟩ := zK HS5.out.rdr;have hjj : (j : Int) + 1 <= 9223372036854775807 := by have := HS5.out.len; have := HS5.out.le; unfold maxLen at *; omega
            go_upto_region 6 with fail
            clear r0 r1 rf0 rf1 rl
            go_wp2_with fail
            refine CN.out.mono ?_;rintro e w6 ⟨rfl, hw6⟩;subst hw6
            go_upto_region 7 with fail
            generalize w5.setCell ⟨rb, 1, none⟩ (.int .i64 ((j : Int) + 1)) = w6 at *;obtain ⟨z0, z1, zf0, zf1, zl⟩ := zK HX6.out;have HD := k0_ (Below.refl w6.heap.size w6).drew;have hr := HRR.out;rw [← HO.out] at hr;clear HRR
            cases r with
            | bad q =>
              have CB := k0_ (fun (U : World) (hb : Below w6.heap.size w6 U) => (show Calls Tryz.prog 153 #[.pointer (some ⟨rb, 0, none⟩), .int .i64 1] U (fun e u => RBad l rb U q e u) from
                (HWH.out U (j + 1) (rgt 3) HJ.out (by decide) (HS6.out.below hb)).mono fun e u hp => by
                  rcases hp with ⟨k2, zO, j2, hR2, -⟩ | ⟨q2, hR2, hB⟩
                  · cases hr.det hR2
                  · injection hr.det hR2 with e; subst e; exact hB))
              exact zHD
            | ok k2 zO j2 =>
              have CB := k0_ (fun (U : World) (hb : Below w6.heap.size w6 U) => (show Calls Tryz.prog 153 #[.pointer (some ⟨rb, 0, none⟩), .int .i64 1] U (fun e u => ROk l A c rb U k2 zO j2 e u) from
                (HWH.out U (j + 1) (rgt 3) HJ.out (by decide) (HS6.out.below hb)).mono fun e u hp => by
                  rcases hp with ⟨k3, zAa, j3, hR2, hO⟩ | ⟨q2, hR2, hB⟩
                  · injection hr.det hR2 with e1 e2 e3; subst e1; subst e2; subst e3; exact hO
                  · cases hr.det hR2))
              have HNX := k0_ (fun (u : World) (G2 : Option Addr) (m2 c2 : Nat) (hF : Far w6.drew.heap.size u k2 zO G2 m2 c2) (hR : Rdr u rb A l.length c j2) (hg : w6.drew.grownBy u (some rb)) (t : TypeId) =>
                HW.out.next (zI HG6.out (zJ HD.out)) H.out hXg HL.out H0.out (by rw [← HO.out]; exact hr) hF hR hg 3 HO.out.symm t)
              exact zHF
          · have hlt2 : (least : Int) <= 3 := by
              have e : binds 4 = 3 := by decide
              omega
            clear hlt hbk;have hbX := k0_ s19;obtain ⟨lf, cn⟩ := vV 4 HO3.out _ HS6.out.sh;have CN := k0_ (show Calls Tryz.prog 26 #[.int .i8 4] (w5.setCell ⟨rb, 1, none⟩ (.int .i64 ((j : Int) + 1))) (fun e w' => e = .returned (.tuple #[.int .i64 lf, .int .i64 4]) /\ w' = w5.setCell ⟨rb, 1, none⟩ (.int .i64 ((j : Int) + 1))) from cn);clear cn;clear s15 s19 s23 d0 d1 df0 df1;have sX := hbX.out;clear hbX
            go_upto_region 5 with fail
            have HGK := k0_ (And.intro hgk hjlt);clear sX hlt2 b0 b1 bf0 bf1 bl dl sl hgk hjl hjlt h4;obtain ⟨r0, r1, rf0, rf1, rl⟩ := zK HS5.out.rdr;have hjj : (j : Int) + 1 <= 9223372036854775807 := by have := HS5.out.len; have := HS5.out.le; unfold maxLen at *; omega
            go_upto_region 6 with fail
            clear r0 r1 rf0 rf1 rl
            go_wp2_with fail
            refine CN.out.mono ?_;rintro e w6 ⟨rfl, hw6⟩;subst hw6
            go_upto_region 7 with fail
            generalize w5.setCell ⟨rb, 1, none⟩ (.int .i64 ((j : Int) + 1)) = w6 at *;obtain ⟨z0, z1, zf0, zf1, zl⟩ := zK HX6.out;have HD := k0_ (Below.refl w6.heap.size w6).drew;have hr := HRR.out;rw [← HO.out] at hr;clear HRR
            cases r with
            | bad q =>
              have CB := k0_ (fun (U : World) (hb : Below w6.heap.size w6 U) => (show Calls Tryz.prog 153 #[.pointer (some ⟨rb, 0, none⟩), .int .i64 4] U (fun e u => RBad l rb U q e u) from
                (HWH.out U (j + 1) (rgt 4) HJ.out (by decide) (HS6.out.below hb)).mono fun e u hp => by
                  rcases hp with ⟨k2, zO, j2, hR2, -⟩ | ⟨q2, hR2, hB⟩
                  · cases hr.det hR2
                  · injection hr.det hR2 with e; subst e; exact hB))
              exact zHD
            | ok k2 zO j2 =>
              have CB := k0_ (fun (U : World) (hb : Below w6.heap.size w6 U) => (show Calls Tryz.prog 153 #[.pointer (some ⟨rb, 0, none⟩), .int .i64 4] U (fun e u => ROk l A c rb U k2 zO j2 e u) from
                (HWH.out U (j + 1) (rgt 4) HJ.out (by decide) (HS6.out.below hb)).mono fun e u hp => by
                  rcases hp with ⟨k3, zAa, j3, hR2, hO⟩ | ⟨q2, hR2, hB⟩
                  · injection hr.det hR2 with e1 e2 e3; subst e1; subst e2; subst e3; exact hO
                  · cases hr.det hR2))
              have HNX := k0_ (fun (u : World) (G2 : Option Addr) (m2 c2 : Nat) (hF : Far w6.drew.heap.size u k2 zO G2 m2 c2) (hR : Rdr u rb A l.length c j2) (hg : w6.drew.grownBy u (some rb)) (t : TypeId) =>
                HW.out.next (zI HG6.out (zJ HD.out)) H.out hXg HL.out H0.out (by rw [← HO.out]; exact hr) hF hR hg 4 HO.out.symm t)
              exact zHF
          · have hlt2 : (least : Int) <= 2 := by
              have e : binds 5 = 2 := by decide
              omega
            clear hlt hbk;have hbX := k0_ s23;obtain ⟨lf, cn⟩ := vV 5 HO3.out _ HS6.out.sh;have CN := k0_ (show Calls Tryz.prog 26 #[.int .i8 5] (w5.setCell ⟨rb, 1, none⟩ (.int .i64 ((j : Int) + 1))) (fun e w' => e = .returned (.tuple #[.int .i64 lf, .int .i64 3]) /\ w' = w5.setCell ⟨rb, 1, none⟩ (.int .i64 ((j : Int) + 1))) from cn);clear cn;clear s15 s19 s23 d0 d1 df0 df1;have sX := hbX.out;clear hbX
            go_upto_region 5 with fail
            have HGK := k0_ (And.intro hgk hjlt);clear sX hlt2 b0 b1 bf0 bf1 bl dl sl hgk hjl hjlt h4;obtain ⟨r0, r1, rf0, rf1, rl⟩ := zK HS5.out.rdr;have hjj : (j : Int) + 1 <= 9223372036854775807 := by have := HS5.out.len; have := HS5.out.le; unfold maxLen at *; omega
            go_upto_region 6 with fail
            clear r0 r1 rf0 rf1 rl
            go_wp2_with fail
            refine CN.out.mono ?_;rintro e w6 ⟨rfl, hw6⟩;subst hw6
            go_upto_region 7 with fail
            generalize w5.setCell ⟨rb, 1, none⟩ (.int .i64 ((j : Int) + 1)) = w6 at *;obtain ⟨z0, z1, zf0, zf1, zl⟩ := zK HX6.out;have HD := k0_ (Below.refl w6.heap.size w6).drew;have hr := HRR.out;rw [← HO.out] at hr;clear HRR
            cases r with
            | bad q =>
              have CB := k0_ (fun (U : World) (hb : Below w6.heap.size w6 U) => (show Calls Tryz.prog 153 #[.pointer (some ⟨rb, 0, none⟩), .int .i64 3] U (fun e u => RBad l rb U q e u) from
                (HWH.out U (j + 1) (rgt 5) HJ.out (by decide) (HS6.out.below hb)).mono fun e u hp => by
                  rcases hp with ⟨k2, zO, j2, hR2, -⟩ | ⟨q2, hR2, hB⟩
                  · cases hr.det hR2
                  · injection hr.det hR2 with e; subst e; exact hB))
              exact zHD
            | ok k2 zO j2 =>
              have CB := k0_ (fun (U : World) (hb : Below w6.heap.size w6 U) => (show Calls Tryz.prog 153 #[.pointer (some ⟨rb, 0, none⟩), .int .i64 3] U (fun e u => ROk l A c rb U k2 zO j2 e u) from
                (HWH.out U (j + 1) (rgt 5) HJ.out (by decide) (HS6.out.below hb)).mono fun e u hp => by
                  rcases hp with ⟨k3, zAa, j3, hR2, hO⟩ | ⟨q2, hR2, hB⟩
                  · injection hr.det hR2 with e1 e2 e3; subst e1; subst e2; subst e3; exact hO
                  · cases hr.det hR2))
              have HNX := k0_ (fun (u : World) (G2 : Option Addr) (m2 c2 : Nat) (hF : Far w6.drew.heap.size u k2 zO G2 m2 c2) (hR : Rdr u rb A l.length c j2) (hg : w6.drew.grownBy u (some rb)) (t : TypeId) =>
                HW.out.next (zI HG6.out (zJ HD.out)) H.out hXg HL.out H0.out (by rw [← HO.out]; exact hr) hF hR hg 5 HO.out.symm t)
              exact zHF
  · have HP := k0_ (show RPost l A c rb w (.wh least i) e w2 from .inr ⟨q, .whBad hRq, hB.from HG0.out⟩)
    obtain ⟨g, rfl, -⟩ := hB;exact ⟨rfl, HP.out⟩
theorem zA6 (l : List W4) (A : Option Addr) (c rb : Nat) : ∀ (n least i : Nat) (w : World), l.length - i < n -> least <= 4 -> RdS l A c rb w i ->
    Calls Tryz.prog 153 #[.pointer (some ⟨rb, 0, none⟩), .int .i64 least] w (RPost l A c rb w (.wh least i))
  | 0, _, _, _, h, _, _ => absurd h (by omega)
  | n + 1, least, i, w, hn, h4, h => zB8 l A c rb i least w h h4 fun W j q hj hq hs => zA6 l A c rb n q j W (by have := hs.le; omega) hq hs
theorem zCe (l : List W4) (A : Option Addr) (c rb least i : Nat) (w : World) (h4 : least <= 4) (h : RdS l A c rb w i) :
    Calls Tryz.prog 153 #[.pointer (some ⟨rb, 0, none⟩), .int .i64 least] w (RPost l A c rb w (.wh least i)) :=
  zA6 l A c rb _ least i w (Nat.lt_succ_self _) h4 h
end Go.Proofs.YtepmjknljbafgaaGreatDoor
namespace Go.Proofs.YtepmjknljbafgaaGreatDoor
set_option maxHeartbeats 4000000
set_option maxRecDepth 100000
open Go.RowKit Rd
theorem zGH (p : Option Addr) (w : World) : (Instr.typeAssert (.iface 44 (.pointer p)) 20 44 true).run Tryz.prog w = .ok (.tuple #[.pointer p, .bool true]) w := by kernel_rfl
theorem zHJ (w : World) : (Instr.typeAssert .nilIface 20 44 true).run Tryz.prog w = .ok (.tuple #[.pointer none, .bool false]) w := by kernel_rfl
theorem zAw (P Q R : Nat) (g : Addr) (x0 x1 y z : Value) (w : World) (h0 : w.cell? ⟨P, 0, none⟩ = some x0) (h1 : w.cell? ⟨P, 1, none⟩ = some x1) (hq : w.cell? ⟨Q, 0, none⟩ = some y) (hr : w.cell? ⟨R, 0, none⟩ = some z)
    (hPQ : P ≠ Q) (hPR : P ≠ R) (hQR : Q ≠ R) (f0 : w.frozen? ⟨P, 0, none⟩ = false) (f1 : w.frozen? ⟨P, 1, none⟩ = false) (fq : w.frozen? ⟨Q, 0, none⟩ = false) (fr : w.frozen? ⟨R, 0, none⟩ = false) :
    CallsD Tryz.prog 152 #[.pointer (some ⟨P, 0, none⟩), .pointer (some ⟨Q, 0, none⟩), .pointer (some ⟨R, 0, none⟩)] (.panicking [{ v := .iface 44 (.pointer (some g)), recovered := false }]) w fun e u' w' =>
      e = .returned (.tuple #[]) /\ u' = .panicking [{ v := .iface 44 (.pointer (some g)), recovered := true }] /\ w' = (((w.setCell ⟨P, 0, none⟩ (.int .i8 0)).setCell ⟨P, 1, none⟩ (.slice none 0 0)).setCell ⟨Q, 0, none⟩ (.int .i64 0)).setCell ⟨R, 0, none⟩ (.iface 44 (.pointer (some g))) := by
  have e1 := zGH
  have k1 : (w.setCell ⟨P, 0, none⟩ (.int .i8 0)).cell? ⟨P, 1, none⟩ = some x1 := by
    rw [World.cell?_setCell_other _ _ _ _ (fun e => by injection e with e1 e2; omega)]; exact h1
  have kq : ((w.setCell ⟨P, 0, none⟩ (.int .i8 0)).setCell ⟨P, 1, none⟩ (.slice none 0 0)).cell? ⟨Q, 0, none⟩ = some y := by
    rw [World.cell?_setCell_other _ _ _ _ (fun e => by injection e with e1 e2; omega), World.cell?_setCell_other _ _ _ _ (fun e => by injection e with e1 e2; omega)]; exact hq
  have kr : (((w.setCell ⟨P, 0, none⟩ (.int .i8 0)).setCell ⟨P, 1, none⟩ (.slice none 0 0)).setCell ⟨Q, 0, none⟩ (.int .i64 0)).cell? ⟨R, 0, none⟩ = some z := by
    rw [World.cell?_setCell_other _ _ _ _ (fun e => by injection e with e1 e2; omega), World.cell?_setCell_other _ _ _ _ (fun e => by injection e with e1 e2; omega), World.cell?_setCell_other _ _ _ _ (fun e => by injection e with e1 e2; omega)]; exact hr
  refine callsD_of_wpS Tryz.func152 rfl fun c₀ cs hu => ?_
  apply wpS_seq
  apply wpS_region
  simp [wpOpsS, go_sem, recoverD, hu, Tryz.ntmps152, Exit.thenS]
  refine wpS_of_wp ?_;change Code.wp _ _ _ { tmps := #[.pointer (some ⟨P, 0, none⟩), .pointer (some ⟨Q, 0, none⟩), .pointer (some ⟨R, 0, none⟩), .iface 44 (.pointer (some g)), undef, undef, .iface 44 (.pointer (some g)), undef, undef, undef, undef, undef, undef, undef, undef, undef, undef, undef, undef], defers := [] } w;clear hu
  go_wp2_with fail
  exact ⟨rfl, _, rfl, .tuple #[], by simp [results, Tryz.results152], rfl, rfl, rfl⟩
theorem xe (p q r : Addr) (w : World) :
    CallsD Tryz.prog 152 #[.pointer (some p), .pointer (some q), .pointer (some r)] .returning w fun e u' w' => e = .returned (.tuple #[]) /\ u' = .returning /\ w' = w := by
  have e1 := zHJ;have e2 := yP;refine callsD_of_wpS Tryz.func152 rfl fun c₀ cs hu => ?_
  apply wpS_seq
  apply wpS_region
  simp [wpOpsS, go_sem, recoverD, hu, Tryz.ntmps152, Exit.thenS]
  refine wpS_of_wp ?_;change Code.wp _ _ _ { tmps := #[.pointer (some p), .pointer (some q), .pointer (some r), .nilIface, undef, undef, .nilIface, undef, undef, undef, undef, undef, undef, undef, undef, undef, undef, undef, undef], defers := [] } w
  go_wp2_with fail
  exact ⟨rfl, .returning, by cases c₀; simp_all, .tuple #[], by simp [results, Tryz.results152], rfl, rfl, rfl⟩
end Go.Proofs.YtepmjknljbafgaaGreatDoor
