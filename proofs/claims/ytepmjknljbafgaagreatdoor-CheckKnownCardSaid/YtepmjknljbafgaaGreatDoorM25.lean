import Derived.Test.YtepmjknljbafgaaGreatDoorM26
import Derived.Test.YtepmjknljbafgaaGreatDoorM9
namespace Go.Proofs.YtepmjknljbafgaaGreatDoor
open Go.RowKit
theorem zHE {P : Prop} (h : P := by
  rintro e W6 ⟨rfl, hbl6, hw6⟩;rw [HT2.out] at hbl6;have HBl6 := k0_ hbl6;have HW6 := k0_ hw6;clear hbl6 hw6 b0 b1 d0 d1 d2 d3 g0 g1 g2 g3;have hB6 := hB5.trans HW6.out.below;have hz6 : w0.heap.size <= W6.heap.size := by have := HW6.out.below.size; omega
  have R06 := k0_ (HW6.out.box R05.out (by omega) (by decide));have R16 := k0_ (HW6.out.box R15.out (by omega) (by decide));obtain ⟨b0, b1, _, _, _⟩ := zK R06.out;obtain ⟨d0, d1, d2, d3, _, _, _, _, _⟩ := zV R16.out;obtain ⟨g0, g1, g2, g3⟩ := HK.out _ hB6
  go_wp2_with fail
  have hw := HW.out.trans (HW4.out.trans (HW5.out.trans (HW6.out)));refine ⟨_, results_none rfl _ _ _, rfl, ?_, hw⟩;have hbl7 := HBl6.out
  simpa using hbl7) : P := h
theorem zH8 {P : Prop} (h : P := by
  rintro e u' W7 ⟨rfl, rfl, hbl7, hw7⟩;have hw := HW.out.trans (HW3.out.trans (HW4.out.trans (HW5.out.trans (HW6.out.trans hw7))));refine ⟨_, results_none rfl _ _ _, rfl, ?_, hw⟩
  simpa using hbl7) : P := h
set_option maxHeartbeats 1000000 in
theorem jI (k : Int) (hk : k = 3 \/ k = 4 \/ k = 5) (w : World) (hS : Shapes w) :
    Calls Tryz.prog 26 #[.int .i8 k] w fun e w' => e = .returned (.tuple #[.int .i64 (Ty.need k true), .int .i64 (Ty.need k false)]) /\ w' = w := by
  obtain ⟨hs1, hs2⟩ := hS;have s15 := hs2 15 _ rfl;have s19 := hs2 19 _ rfl;have s23 := hs2 23 _ rfl;clear hs2;rcases hk with rfl | rfl | rfl
  all_goals
    go_enter Tryz.func26, Tryz.ntmps26
    go_wp2_with fail
    go_ret2
    exact ⟨rfl, rfl⟩
def WroteTxt (B b : Nat) (l l' : List UInt8) (w : World) (e : Ending) (w' : World) : Prop :=
  e = .returned (.tuple #[]) /\ Bld B b (l ++ l') w' /\ Wrote B b w w'
theorem zEX {k : Int} {kids : Fo} (h : Ty.okT k kids = true) (hk : k = 0 \/ k = 1 \/ k = 2) : kids = .nil := by
  unfold Ty.okT Ty.okK at h;rw [if_pos (by omega), Bool.and_eq_true] at h
  cases kids with
  | nil => rfl
  | node _ _ _ _ _ => simp [Ty.len] at h
theorem zEW {k : Int} {kids : Fo} (h : Ty.okT k kids = true) (hk : k = 3 \/ k = 4 \/ k = 5) : ∃ a b k1 zT a' b' k2 zO, kids = .node a b k1 zT (.node a' b' k2 zO .nil) /\ Ty.okT k1 zT = true /\ Ty.okT k2 zO = true := by
  unfold Ty.okT Ty.okK at h;rw [if_neg (by omega), if_pos (by omega), Bool.and_eq_true] at h
  cases kids with
  | nil => simp [Ty.len] at h
  | node a b k1 zT r =>
    cases r with
    | nil => simp [Ty.len] at h
    | node a' b' k2 zO r =>
      cases r with
      | nil =>
        refine ⟨_, _, _, _, _, _, _, _, rfl, ?_, ?_⟩ <;> simp only [Ty.okF, Bool.and_eq_true] at h <;> unfold Ty.okT <;> simp only [Bool.and_eq_true]
        · exact h.2.1
        · exact h.2.2.1
      | node _ _ _ _ _ => simp [Ty.len] at h
theorem zDB {w0 W : World} {bb oo : Nat} {k1 k2 : Int} {v1 v2 : Value} (hb : Below w0.heap.size w0 W) (h1 : w0.cell? ⟨bb, oo + 0 * 2, none⟩ = some (.int .i8 k1)) (h2 : w0.cell? ⟨bb, oo + 0 * 2 + 1, none⟩ = some v1)
    (h3 : w0.cell? ⟨bb, oo + (0 + 1) * 2, none⟩ = some (.int .i8 k2)) (h4 : w0.cell? ⟨bb, oo + (0 + 1) * 2 + 1, none⟩ = some v2) :
    W.cell? ⟨bb, oo, none⟩ = some (.int .i8 k1) /\ W.cell? ⟨bb, oo + 1, none⟩ = some v1 /\ W.cell? ⟨bb, oo + 2, none⟩ = some (.int .i8 k2) /\ W.cell? ⟨bb, oo + 2 + 1, none⟩ = some v2 := by
  have hlt := Ty.zN h1;simp only [Nat.zero_mul, Nat.add_zero, Nat.zero_add, Nat.one_mul] at h1 h2 h3 h4;exact ⟨by rw [(jR hb).1 _ _ hlt]; exact h1, by rw [(jR hb).1 _ _ hlt]; exact h2, by rw [(jR hb).1 _ _ hlt]; exact h3, by rw [(jR hb).1 _ _ hlt]; exact h4⟩
def KidW (w0 : World) (b : Nat) (k : Int) (kids : Fo) (A : Option Addr) (c : Nat) (least : Int) : Prop :=
  ∀ (W : World) (l : List UInt8), Below w0.heap.size w0 W -> Bld w0.heap.size b l W -> l.length + (Ty.txt k kids least).length <= 1000000000 ->
    Calls Tryz.prog 11 #[.pointer (some ⟨b, 0, none⟩), .agg #[.int .i8 k, .slice A (Ty.len kids) c], .int .i64 least] W (WroteTxt w0.heap.size b l (Ty.txt k kids least) W)
theorem wM {w : World} {B B' : Nat} {e : TypeId} {v : Value} {n : Nat} {xs : List Value} (h : w.ownsRowF B e 1 v n xs) (hB : B' <= B) : w.ownsRowF B' e 1 v n xs := by
  refine ⟨h.1, ?_⟩;rcases h.2 with h | ⟨g, cap, cur, fz, h1, h2, h3⟩
  · exact .inl h
  · exact .inr ⟨g, cap, cur, fz, h1, by omega, h3⟩
theorem zG9 {B B' b : Nat} {w : World} (h : Lib.IsBuilderF 52 5 B b [] w) (hB : B' <= B) : Bld B' b [] w := by
  rcases h with ⟨h1, v, h2, h3, h4⟩ | ⟨h1, v, h2, h3, h4⟩
  · exact .inl ⟨by omega, v, h2, wM h3 hB, h4⟩
  · exact .inr ⟨by omega, v, h2, wM h3 hB, h4⟩
end Go.Proofs.YtepmjknljbafgaaGreatDoor
namespace Go.Proofs.YtepmjknljbafgaaGreatDoor
set_option maxHeartbeats 2000000
set_option maxRecDepth 100000
open Go.RowKit
theorem zB6 (w0 : World) (b : Nat) (hb : w0.heap.size <= b) (hS : Shapes w0) (k1 : Int) (zT : Fo) (A1 : Option Addr) (c1 : Nat) (k2 : Int) (zO : Fo) (A2 : Option Addr) (c2 : Nat) (bb oo c : Nat) (least : Int) (l : List UInt8) (w : World)
    (H1 : KidW w0 b k1 zT A1 c1 (Ty.need 3 true)) (H2 : KidW w0 b k2 zO A2 c2 (Ty.need 3 false))
    (hkid : ∀ W, Below w0.heap.size w0 W -> W.cell? ⟨bb, oo, none⟩ = some (.int .i8 k1) /\ W.cell? ⟨bb, oo + 1, none⟩ = some (.slice A1 (Ty.len zT) c1) /\ W.cell? ⟨bb, oo + 2, none⟩ = some (.int .i8 k2) /\ W.cell? ⟨bb, oo + 2 + 1, none⟩ = some (.slice A2 (Ty.len zO) c2))
    (hB : Below w0.heap.size w0 w) (hBl : Bld w0.heap.size b l w) (hbr : least <= 1) (hln : l.length + (Ty.txt k1 zT (Ty.need 3 true) ++ (32 :: (Ty.word 3 ++ (32 :: Ty.txt k2 zO (Ty.need 3 false))))).length <= 1000000000) :
    Calls Tryz.prog 11 #[.pointer (some ⟨b, 0, none⟩), .agg #[.int .i8 3, .slice (some ⟨bb, oo, none⟩) 2 c], .int .i64 least] w (WroteTxt w0.heap.size b l (Ty.txt k1 zT (Ty.need 3 true) ++ (32 :: (Ty.word 3 ++ (32 :: Ty.txt k2 zO (Ty.need 3 false))))) w) := by
  have hsz := hB.size;have hbl := hBl.lt;obtain ⟨hs1, hs2⟩ := hS.below hB;have s0 := hs2 12 _ rfl;have s1 := hs2 13 _ rfl;have s2 := hs2 14 _ rfl;have s3 := hs2 15 _ rfl;have HS := k0_ (fun W (hb : Below w0.heap.size w0 W) => hS.below hb);have HK := k0_ hkid;have K1 : Hid (KidW w0 b k1 zT A1 c1 2) := k0_ H1;have K2 : Hid (KidW w0 b k2 zO A2 c2 1) := k0_ H2;rw [show Ty.need 3 true = 2 from rfl, show Ty.need 3 false = 1 from rfl, show Ty.word 3 = [45, 62] from rfl] at *;generalize hT1 : Ty.txt k1 zT 2 = T1 at *;generalize hT2 : Ty.txt k2 zO 1 = T2 at *;have HLN := k0_ hln;have e1 : (ByteArray.size ⟨#[32, 45, 62, 32]⟩) = 4 := rfl;have e2 : (ByteArray.size ⟨#[40]⟩) = 1 := rfl;have e3 : (ByteArray.size ⟨#[41]⟩) = 1 := rfl;have HE1 := k0_ e1;have HE2 := k0_ e2;have HE3 := k0_ e3;have HB0 := k0_ hBl;have Hne := k0_ (jI 3 (by omega));have HT1 := k0_ hT1;have HT2 := k0_ hT2;clear hln hs2 hkid H1 H2 e1 e2 e3 hBl hT1 hT2 hS;obtain ⟨n0, n1, n2⟩ := qf w (.cells #[.int .i8 3, .slice (some ⟨bb, oo, none⟩) 2 c] 30) (.cells #[.int .i8 4, .string ⟨#[45, 62]⟩, .int .i64 2, .int .i64 1] 88);have hWr := ((Wrote.refl w0.heap.size b w).alloc hsz (.cells #[.int .i8 3, .slice (some ⟨bb, oo, none⟩) 2 c] 30)).alloc (by simp; omega) (.cells #[.int .i8 4, .string ⟨#[45, 62]⟩, .int .i64 2, .int .i64 1] 88);have HBl := k0_ ((HB0.out.alloc (.cells #[.int .i8 3, .slice (some ⟨bb, oo, none⟩) 2 c] 30)).alloc (.cells #[.int .i8 4, .string ⟨#[45, 62]⟩, .int .i64 2, .int .i64 1] 88))
  go_enter_defers Tryz.func11, Tryz.ntmps11
  go_wp2_with fail
  generalize (w.alloc (.cells #[.int .i8 3, .slice (some ⟨bb, oo, none⟩) 2 c] 30)).alloc (.cells #[.int .i8 4, .string ⟨#[45, 62]⟩, .int .i64 2, .int .i64 1] 88) = W2 at *;have hz2 : w0.heap.size <= W2.heap.size := by omega
  have hB2 := hB.trans hWr.below;have R0 := k0_ n0;have R1 := k0_ n1;have HW := k0_ hWr;obtain ⟨b0, b1, _, _, _⟩ := zK R0.out;obtain ⟨d0, d1, d2, d3, _, _, _, _, _⟩ := zV R1.out;obtain ⟨g0, g1, g2, g3⟩ := HK.out _ hB2;clear n0 n1 n2 hWr;refine (Hne.out _ (HS.out _ hB2)).mono ?_;rintro e w' ⟨rfl, rfl⟩;rw [show Ty.need 3 true = 2 from rfl, show Ty.need 3 false = 1 from rfl]
  go_wp2_with fail
  refine (K1.out _ (l) hB2 HBl.out (by rw [HT1.out]; have := HLN.out; simp at this ⊢; omega)).mono ?_;rintro e W4 ⟨rfl, hbl4, hw4⟩;rw [HT1.out] at hbl4;have HBl4 := k0_ hbl4;have HW4 := k0_ hw4;clear hbl4 hw4 b0 b1 d0 d1 d2 d3 g0 g1 g2 g3;have hB4 := hB2.trans HW4.out.below;have hz4 : w0.heap.size <= W4.heap.size := by have := HW4.out.below.size; omega
  have R04 := k0_ (HW4.out.box R0.out (by omega) (by decide));have R14 := k0_ (HW4.out.box R1.out (by omega) (by decide));obtain ⟨b0, b1, _, _, _⟩ := zK R04.out;obtain ⟨d0, d1, d2, d3, _, _, _, _, _⟩ := zV R14.out;obtain ⟨g0, g1, g2, g3⟩ := HK.out _ hB4
  go_wp2_with fail
  refine (qM w0.heap.size b (l ++ T1) ⟨#[32, 45, 62, 32]⟩ _ HBl4.out (by rw [HE1.out]; have := HLN.out; simp at this ⊢; omega) hz4).mono ?_;rintro e W5 ⟨rfl, hbl5, hw5⟩;have HBl5 := k0_ hbl5;have HW5 := k0_ hw5;clear hbl5 hw5 b0 b1 d0 d1 d2 d3 g0 g1 g2 g3;have hB5 := hB4.trans HW5.out.below;have hz5 : w0.heap.size <= W5.heap.size := by have := HW5.out.below.size; omega
  have R05 := k0_ (HW5.out.box R04.out (by omega) (by decide));have R15 := k0_ (HW5.out.box R14.out (by omega) (by decide));obtain ⟨b0, b1, _, _, _⟩ := zK R05.out;obtain ⟨d0, d1, d2, d3, _, _, _, _, _⟩ := zV R15.out;obtain ⟨g0, g1, g2, g3⟩ := HK.out _ hB5
  go_wp2_with fail
  refine (K2.out _ (l ++ T1 ++ [32, 45, 62, 32]) hB5 HBl5.out (by rw [HT2.out]; have := HLN.out; simp at this ⊢; omega)).mono ?_;exact zHE
theorem zB7 (w0 : World) (b : Nat) (hb : w0.heap.size <= b) (hS : Shapes w0) (k1 : Int) (zT : Fo) (A1 : Option Addr) (c1 : Nat) (k2 : Int) (zO : Fo) (A2 : Option Addr) (c2 : Nat) (bb oo c : Nat) (least : Int) (l : List UInt8) (w : World)
    (H1 : KidW w0 b k1 zT A1 c1 (Ty.need 3 true)) (H2 : KidW w0 b k2 zO A2 c2 (Ty.need 3 false))
    (hkid : ∀ W, Below w0.heap.size w0 W -> W.cell? ⟨bb, oo, none⟩ = some (.int .i8 k1) /\ W.cell? ⟨bb, oo + 1, none⟩ = some (.slice A1 (Ty.len zT) c1) /\ W.cell? ⟨bb, oo + 2, none⟩ = some (.int .i8 k2) /\ W.cell? ⟨bb, oo + 2 + 1, none⟩ = some (.slice A2 (Ty.len zO) c2))
    (hB : Below w0.heap.size w0 w) (hBl : Bld w0.heap.size b l w) (hbr : 1 < least) (hln : l.length + (40 :: ((Ty.txt k1 zT (Ty.need 3 true) ++ (32 :: (Ty.word 3 ++ (32 :: Ty.txt k2 zO (Ty.need 3 false))))) ++ [41])).length <= 1000000000) :
    Calls Tryz.prog 11 #[.pointer (some ⟨b, 0, none⟩), .agg #[.int .i8 3, .slice (some ⟨bb, oo, none⟩) 2 c], .int .i64 least] w (WroteTxt w0.heap.size b l (40 :: ((Ty.txt k1 zT (Ty.need 3 true) ++ (32 :: (Ty.word 3 ++ (32 :: Ty.txt k2 zO (Ty.need 3 false))))) ++ [41])) w) := by
  have hsz := hB.size;have hbl := hBl.lt;obtain ⟨hs1, hs2⟩ := hS.below hB;have s0 := hs2 12 _ rfl;have s1 := hs2 13 _ rfl;have s2 := hs2 14 _ rfl;have s3 := hs2 15 _ rfl;have HS := k0_ (fun W (hb : Below w0.heap.size w0 W) => hS.below hb);have HK := k0_ hkid;have K1 : Hid (KidW w0 b k1 zT A1 c1 2) := k0_ H1;have K2 : Hid (KidW w0 b k2 zO A2 c2 1) := k0_ H2;rw [show Ty.need 3 true = 2 from rfl, show Ty.need 3 false = 1 from rfl, show Ty.word 3 = [45, 62] from rfl] at *;generalize hT1 : Ty.txt k1 zT 2 = T1 at *;generalize hT2 : Ty.txt k2 zO 1 = T2 at *;have HLN := k0_ hln;have e1 : (ByteArray.size ⟨#[32, 45, 62, 32]⟩) = 4 := rfl;have e2 : (ByteArray.size ⟨#[40]⟩) = 1 := rfl;have e3 : (ByteArray.size ⟨#[41]⟩) = 1 := rfl;have HE1 := k0_ e1;have HE2 := k0_ e2;have HE3 := k0_ e3;have HB0 := k0_ hBl;have Hne := k0_ (jI 3 (by omega));have HT1 := k0_ hT1;have HT2 := k0_ hT2;clear hln hs2 hkid H1 H2 e1 e2 e3 hBl hT1 hT2 hS;obtain ⟨n0, n1, n2⟩ := qf w (.cells #[.int .i8 3, .slice (some ⟨bb, oo, none⟩) 2 c] 30) (.cells #[.int .i8 4, .string ⟨#[45, 62]⟩, .int .i64 2, .int .i64 1] 88);have hWr := ((Wrote.refl w0.heap.size b w).alloc hsz (.cells #[.int .i8 3, .slice (some ⟨bb, oo, none⟩) 2 c] 30)).alloc (by simp; omega) (.cells #[.int .i8 4, .string ⟨#[45, 62]⟩, .int .i64 2, .int .i64 1] 88);have HBl := k0_ ((HB0.out.alloc (.cells #[.int .i8 3, .slice (some ⟨bb, oo, none⟩) 2 c] 30)).alloc (.cells #[.int .i8 4, .string ⟨#[45, 62]⟩, .int .i64 2, .int .i64 1] 88))
  go_enter_defers Tryz.func11, Tryz.ntmps11
  go_wp2_with fail
  generalize (w.alloc (.cells #[.int .i8 3, .slice (some ⟨bb, oo, none⟩) 2 c] 30)).alloc (.cells #[.int .i8 4, .string ⟨#[45, 62]⟩, .int .i64 2, .int .i64 1] 88) = W2 at *;have hz2 : w0.heap.size <= W2.heap.size := by omega
  have hB2 := hB.trans hWr.below;have R0 := k0_ n0;have R1 := k0_ n1;have HW := k0_ hWr;obtain ⟨b0, b1, _, _, _⟩ := zK R0.out;obtain ⟨d0, d1, d2, d3, _, _, _, _, _⟩ := zV R1.out;obtain ⟨g0, g1, g2, g3⟩ := HK.out _ hB2;clear n0 n1 n2 hWr;refine (qM w0.heap.size b (l) ⟨#[40]⟩ _ HBl.out (by rw [HE2.out]; have := HLN.out; simp at this ⊢; omega) hz2).mono ?_;rintro e W3 ⟨rfl, hbl3, hw3⟩;have HBl3 := k0_ hbl3;have HW3 := k0_ hw3;clear hbl3 hw3 b0 b1 d0 d1 d2 d3 g0 g1 g2 g3;have hB3 := hB2.trans HW3.out.below;have hz3 : w0.heap.size <= W3.heap.size := by have := HW3.out.below.size; omega
  have R03 := k0_ (HW3.out.box R0.out (by omega) (by decide));have R13 := k0_ (HW3.out.box R1.out (by omega) (by decide));obtain ⟨b0, b1, _, _, _⟩ := zK R03.out;obtain ⟨d0, d1, d2, d3, _, _, _, _, _⟩ := zV R13.out;obtain ⟨g0, g1, g2, g3⟩ := HK.out _ hB3
  go_wp2_with fail
  refine (Hne.out _ (HS.out _ hB3)).mono ?_;rintro e w' ⟨rfl, rfl⟩;rw [show Ty.need 3 true = 2 from rfl, show Ty.need 3 false = 1 from rfl]
  go_wp2_with fail
  refine (K1.out _ (l ++ [40]) hB3 HBl3.out (by rw [HT1.out]; have := HLN.out; simp at this ⊢; omega)).mono ?_;rintro e W4 ⟨rfl, hbl4, hw4⟩;rw [HT1.out] at hbl4;have HBl4 := k0_ hbl4;have HW4 := k0_ hw4;clear hbl4 hw4 b0 b1 d0 d1 d2 d3 g0 g1 g2 g3;have hB4 := hB3.trans HW4.out.below;have hz4 : w0.heap.size <= W4.heap.size := by have := HW4.out.below.size; omega
  have R04 := k0_ (HW4.out.box R03.out (by omega) (by decide));have R14 := k0_ (HW4.out.box R13.out (by omega) (by decide));obtain ⟨b0, b1, _, _, _⟩ := zK R04.out;obtain ⟨d0, d1, d2, d3, _, _, _, _, _⟩ := zV R14.out;obtain ⟨g0, g1, g2, g3⟩ := HK.out _ hB4
  go_wp2_with fail
  refine (qM w0.heap.size b (l ++ [40] ++ T1) ⟨#[32, 45, 62, 32]⟩ _ HBl4.out (by rw [HE1.out]; have := HLN.out; simp at this ⊢; omega) hz4).mono ?_;rintro e W5 ⟨rfl, hbl5, hw5⟩;have HBl5 := k0_ hbl5;have HW5 := k0_ hw5;clear hbl5 hw5 b0 b1 d0 d1 d2 d3 g0 g1 g2 g3;have hB5 := hB4.trans HW5.out.below;have hz5 : w0.heap.size <= W5.heap.size := by have := HW5.out.below.size; omega
  have R05 := k0_ (HW5.out.box R04.out (by omega) (by decide));have R15 := k0_ (HW5.out.box R14.out (by omega) (by decide));obtain ⟨b0, b1, _, _, _⟩ := zK R05.out;obtain ⟨d0, d1, d2, d3, _, _, _, _, _⟩ := zV R15.out;obtain ⟨g0, g1, g2, g3⟩ := HK.out _ hB5
  go_wp2_with fail
  refine (K2.out _ (l ++ [40] ++ T1 ++ [32, 45, 62, 32]) hB5 HBl5.out (by rw [HT2.out]; have := HLN.out; simp at this ⊢; omega)).mono ?_;rintro e W6 ⟨rfl, hbl6, hw6⟩;rw [HT2.out] at hbl6;have HBl6 := k0_ hbl6;have HW6 := k0_ hw6;clear hbl6 hw6 b0 b1 d0 d1 d2 d3 g0 g1 g2 g3;have hB6 := hB5.trans HW6.out.below;have hz6 : w0.heap.size <= W6.heap.size := by have := HW6.out.below.size; omega
  have R06 := k0_ (HW6.out.box R05.out (by omega) (by decide));have R16 := k0_ (HW6.out.box R15.out (by omega) (by decide));obtain ⟨b0, b1, _, _, _⟩ := zK R06.out;obtain ⟨d0, d1, d2, d3, _, _, _, _, _⟩ := zV R16.out;obtain ⟨g0, g1, g2, g3⟩ := HK.out _ hB6
  go_wp2_with fail
  refine leaves_cons (f := 25) (args := #[.pointer (some ⟨b, 0, none⟩), .string ⟨#[41]⟩]) (by simp) (by simp [go_sem]) ?_;refine (jg w0.heap.size b (l ++ [40] ++ T1 ++ [32, 45, 62, 32] ++ T2) ⟨#[41]⟩ _ HBl6.out (by rw [HE3.out]; have := HLN.out; simp at this ⊢; omega) hz6 _).mono ?_;exact zH8
theorem zB4 (w0 : World) (b : Nat) (hb : w0.heap.size <= b) (hS : Shapes w0) (k1 : Int) (zT : Fo) (A1 : Option Addr) (c1 : Nat) (k2 : Int) (zO : Fo) (A2 : Option Addr) (c2 : Nat) (bb oo c : Nat) (least : Int) (l : List UInt8) (w : World)
    (H1 : KidW w0 b k1 zT A1 c1 (Ty.need 4 true)) (H2 : KidW w0 b k2 zO A2 c2 (Ty.need 4 false))
    (hkid : ∀ W, Below w0.heap.size w0 W -> W.cell? ⟨bb, oo, none⟩ = some (.int .i8 k1) /\ W.cell? ⟨bb, oo + 1, none⟩ = some (.slice A1 (Ty.len zT) c1) /\ W.cell? ⟨bb, oo + 2, none⟩ = some (.int .i8 k2) /\ W.cell? ⟨bb, oo + 2 + 1, none⟩ = some (.slice A2 (Ty.len zO) c2))
    (hB : Below w0.heap.size w0 w) (hBl : Bld w0.heap.size b l w) (hbr : least <= 3) (hln : l.length + (Ty.txt k1 zT (Ty.need 4 true) ++ (32 :: (Ty.word 4 ++ (32 :: Ty.txt k2 zO (Ty.need 4 false))))).length <= 1000000000) :
    Calls Tryz.prog 11 #[.pointer (some ⟨b, 0, none⟩), .agg #[.int .i8 4, .slice (some ⟨bb, oo, none⟩) 2 c], .int .i64 least] w (WroteTxt w0.heap.size b l (Ty.txt k1 zT (Ty.need 4 true) ++ (32 :: (Ty.word 4 ++ (32 :: Ty.txt k2 zO (Ty.need 4 false))))) w) := by
  have hsz := hB.size;have hbl := hBl.lt;obtain ⟨hs1, hs2⟩ := hS.below hB;have s0 := hs2 16 _ rfl;have s1 := hs2 17 _ rfl;have s2 := hs2 18 _ rfl;have s3 := hs2 19 _ rfl;have HS := k0_ (fun W (hb : Below w0.heap.size w0 W) => hS.below hb);have HK := k0_ hkid;have K1 : Hid (KidW w0 b k1 zT A1 c1 3) := k0_ H1;have K2 : Hid (KidW w0 b k2 zO A2 c2 4) := k0_ H2;rw [show Ty.need 4 true = 3 from rfl, show Ty.need 4 false = 4 from rfl, show Ty.word 4 = [42] from rfl] at *;generalize hT1 : Ty.txt k1 zT 3 = T1 at *;generalize hT2 : Ty.txt k2 zO 4 = T2 at *;have HLN := k0_ hln;have e1 : (ByteArray.size ⟨#[32, 42, 32]⟩) = 3 := rfl;have e2 : (ByteArray.size ⟨#[40]⟩) = 1 := rfl;have e3 : (ByteArray.size ⟨#[41]⟩) = 1 := rfl;have HE1 := k0_ e1;have HE2 := k0_ e2;have HE3 := k0_ e3;have HB0 := k0_ hBl;have Hne := k0_ (jI 4 (by omega));have HT1 := k0_ hT1;have HT2 := k0_ hT2;clear hln hs2 hkid H1 H2 e1 e2 e3 hBl hT1 hT2 hS;obtain ⟨n0, n1, n2⟩ := qf w (.cells #[.int .i8 4, .slice (some ⟨bb, oo, none⟩) 2 c] 30) (.cells #[.int .i8 4, .string ⟨#[42]⟩, .int .i64 2, .int .i64 3] 88);have hWr := ((Wrote.refl w0.heap.size b w).alloc hsz (.cells #[.int .i8 4, .slice (some ⟨bb, oo, none⟩) 2 c] 30)).alloc (by simp; omega) (.cells #[.int .i8 4, .string ⟨#[42]⟩, .int .i64 2, .int .i64 3] 88);have HBl := k0_ ((HB0.out.alloc (.cells #[.int .i8 4, .slice (some ⟨bb, oo, none⟩) 2 c] 30)).alloc (.cells #[.int .i8 4, .string ⟨#[42]⟩, .int .i64 2, .int .i64 3] 88))
  go_enter_defers Tryz.func11, Tryz.ntmps11
  go_wp2_with fail
  generalize (w.alloc (.cells #[.int .i8 4, .slice (some ⟨bb, oo, none⟩) 2 c] 30)).alloc (.cells #[.int .i8 4, .string ⟨#[42]⟩, .int .i64 2, .int .i64 3] 88) = W2 at *;have hz2 : w0.heap.size <= W2.heap.size := by omega
  have hB2 := hB.trans hWr.below;have R0 := k0_ n0;have R1 := k0_ n1;have HW := k0_ hWr;obtain ⟨b0, b1, _, _, _⟩ := zK R0.out;obtain ⟨d0, d1, d2, d3, _, _, _, _, _⟩ := zV R1.out;obtain ⟨g0, g1, g2, g3⟩ := HK.out _ hB2;clear n0 n1 n2 hWr;refine (Hne.out _ (HS.out _ hB2)).mono ?_;rintro e w' ⟨rfl, rfl⟩;rw [show Ty.need 4 true = 3 from rfl, show Ty.need 4 false = 4 from rfl]
  go_wp2_with fail
  refine (K1.out _ (l) hB2 HBl.out (by rw [HT1.out]; have := HLN.out; simp at this ⊢; omega)).mono ?_;rintro e W4 ⟨rfl, hbl4, hw4⟩;rw [HT1.out] at hbl4;have HBl4 := k0_ hbl4;have HW4 := k0_ hw4;clear hbl4 hw4 b0 b1 d0 d1 d2 d3 g0 g1 g2 g3;have hB4 := hB2.trans HW4.out.below;have hz4 : w0.heap.size <= W4.heap.size := by have := HW4.out.below.size; omega
  have R04 := k0_ (HW4.out.box R0.out (by omega) (by decide));have R14 := k0_ (HW4.out.box R1.out (by omega) (by decide));obtain ⟨b0, b1, _, _, _⟩ := zK R04.out;obtain ⟨d0, d1, d2, d3, _, _, _, _, _⟩ := zV R14.out;obtain ⟨g0, g1, g2, g3⟩ := HK.out _ hB4
  go_wp2_with fail
  refine (qM w0.heap.size b (l ++ T1) ⟨#[32, 42, 32]⟩ _ HBl4.out (by rw [HE1.out]; have := HLN.out; simp at this ⊢; omega) hz4).mono ?_;rintro e W5 ⟨rfl, hbl5, hw5⟩;have HBl5 := k0_ hbl5;have HW5 := k0_ hw5;clear hbl5 hw5 b0 b1 d0 d1 d2 d3 g0 g1 g2 g3;have hB5 := hB4.trans HW5.out.below;have hz5 : w0.heap.size <= W5.heap.size := by have := HW5.out.below.size; omega
  have R05 := k0_ (HW5.out.box R04.out (by omega) (by decide));have R15 := k0_ (HW5.out.box R14.out (by omega) (by decide));obtain ⟨b0, b1, _, _, _⟩ := zK R05.out;obtain ⟨d0, d1, d2, d3, _, _, _, _, _⟩ := zV R15.out;obtain ⟨g0, g1, g2, g3⟩ := HK.out _ hB5
  go_wp2_with fail
  refine (K2.out _ (l ++ T1 ++ [32, 42, 32]) hB5 HBl5.out (by rw [HT2.out]; have := HLN.out; simp at this ⊢; omega)).mono ?_;exact zHE
theorem zB5 (w0 : World) (b : Nat) (hb : w0.heap.size <= b) (hS : Shapes w0) (k1 : Int) (zT : Fo) (A1 : Option Addr) (c1 : Nat) (k2 : Int) (zO : Fo) (A2 : Option Addr) (c2 : Nat) (bb oo c : Nat) (least : Int) (l : List UInt8) (w : World)
    (H1 : KidW w0 b k1 zT A1 c1 (Ty.need 4 true)) (H2 : KidW w0 b k2 zO A2 c2 (Ty.need 4 false))
    (hkid : ∀ W, Below w0.heap.size w0 W -> W.cell? ⟨bb, oo, none⟩ = some (.int .i8 k1) /\ W.cell? ⟨bb, oo + 1, none⟩ = some (.slice A1 (Ty.len zT) c1) /\ W.cell? ⟨bb, oo + 2, none⟩ = some (.int .i8 k2) /\ W.cell? ⟨bb, oo + 2 + 1, none⟩ = some (.slice A2 (Ty.len zO) c2))
    (hB : Below w0.heap.size w0 w) (hBl : Bld w0.heap.size b l w) (hbr : 3 < least) (hln : l.length + (40 :: ((Ty.txt k1 zT (Ty.need 4 true) ++ (32 :: (Ty.word 4 ++ (32 :: Ty.txt k2 zO (Ty.need 4 false))))) ++ [41])).length <= 1000000000) :
    Calls Tryz.prog 11 #[.pointer (some ⟨b, 0, none⟩), .agg #[.int .i8 4, .slice (some ⟨bb, oo, none⟩) 2 c], .int .i64 least] w (WroteTxt w0.heap.size b l (40 :: ((Ty.txt k1 zT (Ty.need 4 true) ++ (32 :: (Ty.word 4 ++ (32 :: Ty.txt k2 zO (Ty.need 4 false))))) ++ [41])) w) := by
  have hsz := hB.size;have hbl := hBl.lt;obtain ⟨hs1, hs2⟩ := hS.below hB;have s0 := hs2 16 _ rfl;have s1 := hs2 17 _ rfl;have s2 := hs2 18 _ rfl;have s3 := hs2 19 _ rfl;have HS := k0_ (fun W (hb : Below w0.heap.size w0 W) => hS.below hb);have HK := k0_ hkid;have K1 : Hid (KidW w0 b k1 zT A1 c1 3) := k0_ H1;have K2 : Hid (KidW w0 b k2 zO A2 c2 4) := k0_ H2;rw [show Ty.need 4 true = 3 from rfl, show Ty.need 4 false = 4 from rfl, show Ty.word 4 = [42] from rfl] at *;generalize hT1 : Ty.txt k1 zT 3 = T1 at *;generalize hT2 : Ty.txt k2 zO 4 = T2 at *;have HLN := k0_ hln;have e1 : (ByteArray.size ⟨#[32, 42, 32]⟩) = 3 := rfl;have e2 : (ByteArray.size ⟨#[40]⟩) = 1 := rfl;have e3 : (ByteArray.size ⟨#[41]⟩) = 1 := rfl;have HE1 := k0_ e1;have HE2 := k0_ e2;have HE3 := k0_ e3;have HB0 := k0_ hBl;have Hne := k0_ (jI 4 (by omega));have HT1 := k0_ hT1;have HT2 := k0_ hT2;clear hln hs2 hkid H1 H2 e1 e2 e3 hBl hT1 hT2 hS;obtain ⟨n0, n1, n2⟩ := qf w (.cells #[.int .i8 4, .slice (some ⟨bb, oo, none⟩) 2 c] 30) (.cells #[.int .i8 4, .string ⟨#[42]⟩, .int .i64 2, .int .i64 3] 88);have hWr := ((Wrote.refl w0.heap.size b w).alloc hsz (.cells #[.int .i8 4, .slice (some ⟨bb, oo, none⟩) 2 c] 30)).alloc (by simp; omega) (.cells #[.int .i8 4, .string ⟨#[42]⟩, .int .i64 2, .int .i64 3] 88);have HBl := k0_ ((HB0.out.alloc (.cells #[.int .i8 4, .slice (some ⟨bb, oo, none⟩) 2 c] 30)).alloc (.cells #[.int .i8 4, .string ⟨#[42]⟩, .int .i64 2, .int .i64 3] 88))
  go_enter_defers Tryz.func11, Tryz.ntmps11
  go_wp2_with fail
  generalize (w.alloc (.cells #[.int .i8 4, .slice (some ⟨bb, oo, none⟩) 2 c] 30)).alloc (.cells #[.int .i8 4, .string ⟨#[42]⟩, .int .i64 2, .int .i64 3] 88) = W2 at *;have hz2 : w0.heap.size <= W2.heap.size := by omega
  have hB2 := hB.trans hWr.below;have R0 := k0_ n0;have R1 := k0_ n1;have HW := k0_ hWr;obtain ⟨b0, b1, _, _, _⟩ := zK R0.out;obtain ⟨d0, d1, d2, d3, _, _, _, _, _⟩ := zV R1.out;obtain ⟨g0, g1, g2, g3⟩ := HK.out _ hB2;clear n0 n1 n2 hWr;refine (qM w0.heap.size b (l) ⟨#[40]⟩ _ HBl.out (by rw [HE2.out]; have := HLN.out; simp at this ⊢; omega) hz2).mono ?_;rintro e W3 ⟨rfl, hbl3, hw3⟩;have HBl3 := k0_ hbl3;have HW3 := k0_ hw3;clear hbl3 hw3 b0 b1 d0 d1 d2 d3 g0 g1 g2 g3;have hB3 := hB2.trans HW3.out.below;have hz3 : w0.heap.size <= W3.heap.size := by have := HW3.out.below.size; omega
  have R03 := k0_ (HW3.out.box R0.out (by omega) (by decide));have R13 := k0_ (HW3.out.box R1.out (by omega) (by decide));obtain ⟨b0, b1, _, _, _⟩ := zK R03.out;obtain ⟨d0, d1, d2, d3, _, _, _, _, _⟩ := zV R13.out;obtain ⟨g0, g1, g2, g3⟩ := HK.out _ hB3
  go_wp2_with fail
  refine (Hne.out _ (HS.out _ hB3)).mono ?_;rintro e w' ⟨rfl, rfl⟩;rw [show Ty.need 4 true = 3 from rfl, show Ty.need 4 false = 4 from rfl]
  go_wp2_with fail
  refine (K1.out _ (l ++ [40]) hB3 HBl3.out (by rw [HT1.out]; have := HLN.out; simp at this ⊢; omega)).mono ?_;rintro e W4 ⟨rfl, hbl4, hw4⟩;rw [HT1.out] at hbl4;have HBl4 := k0_ hbl4;have HW4 := k0_ hw4;clear hbl4 hw4 b0 b1 d0 d1 d2 d3 g0 g1 g2 g3;have hB4 := hB3.trans HW4.out.below;have hz4 : w0.heap.size <= W4.heap.size := by have := HW4.out.below.size; omega
  have R04 := k0_ (HW4.out.box R03.out (by omega) (by decide));have R14 := k0_ (HW4.out.box R13.out (by omega) (by decide));obtain ⟨b0, b1, _, _, _⟩ := zK R04.out;obtain ⟨d0, d1, d2, d3, _, _, _, _, _⟩ := zV R14.out;obtain ⟨g0, g1, g2, g3⟩ := HK.out _ hB4
  go_wp2_with fail
  refine (qM w0.heap.size b (l ++ [40] ++ T1) ⟨#[32, 42, 32]⟩ _ HBl4.out (by rw [HE1.out]; have := HLN.out; simp at this ⊢; omega) hz4).mono ?_;rintro e W5 ⟨rfl, hbl5, hw5⟩;have HBl5 := k0_ hbl5;have HW5 := k0_ hw5;clear hbl5 hw5 b0 b1 d0 d1 d2 d3 g0 g1 g2 g3;have hB5 := hB4.trans HW5.out.below;have hz5 : w0.heap.size <= W5.heap.size := by have := HW5.out.below.size; omega
  have R05 := k0_ (HW5.out.box R04.out (by omega) (by decide));have R15 := k0_ (HW5.out.box R14.out (by omega) (by decide));obtain ⟨b0, b1, _, _, _⟩ := zK R05.out;obtain ⟨d0, d1, d2, d3, _, _, _, _, _⟩ := zV R15.out;obtain ⟨g0, g1, g2, g3⟩ := HK.out _ hB5
  go_wp2_with fail
  refine (K2.out _ (l ++ [40] ++ T1 ++ [32, 42, 32]) hB5 HBl5.out (by rw [HT2.out]; have := HLN.out; simp at this ⊢; omega)).mono ?_;rintro e W6 ⟨rfl, hbl6, hw6⟩;rw [HT2.out] at hbl6;have HBl6 := k0_ hbl6;have HW6 := k0_ hw6;clear hbl6 hw6 b0 b1 d0 d1 d2 d3 g0 g1 g2 g3;have hB6 := hB5.trans HW6.out.below;have hz6 : w0.heap.size <= W6.heap.size := by have := HW6.out.below.size; omega
  have R06 := k0_ (HW6.out.box R05.out (by omega) (by decide));have R16 := k0_ (HW6.out.box R15.out (by omega) (by decide));obtain ⟨b0, b1, _, _, _⟩ := zK R06.out;obtain ⟨d0, d1, d2, d3, _, _, _, _, _⟩ := zV R16.out;obtain ⟨g0, g1, g2, g3⟩ := HK.out _ hB6
  go_wp2_with fail
  refine leaves_cons (f := 25) (args := #[.pointer (some ⟨b, 0, none⟩), .string ⟨#[41]⟩]) (by simp) (by simp [go_sem]) ?_;refine (jg w0.heap.size b (l ++ [40] ++ T1 ++ [32, 42, 32] ++ T2) ⟨#[41]⟩ _ HBl6.out (by rw [HE3.out]; have := HLN.out; simp at this ⊢; omega) hz6 _).mono ?_;exact zH8
theorem zB2 (w0 : World) (b : Nat) (hb : w0.heap.size <= b) (hS : Shapes w0) (k1 : Int) (zT : Fo) (A1 : Option Addr) (c1 : Nat) (k2 : Int) (zO : Fo) (A2 : Option Addr) (c2 : Nat) (bb oo c : Nat) (least : Int) (l : List UInt8) (w : World)
    (H1 : KidW w0 b k1 zT A1 c1 (Ty.need 5 true)) (H2 : KidW w0 b k2 zO A2 c2 (Ty.need 5 false))
    (hkid : ∀ W, Below w0.heap.size w0 W -> W.cell? ⟨bb, oo, none⟩ = some (.int .i8 k1) /\ W.cell? ⟨bb, oo + 1, none⟩ = some (.slice A1 (Ty.len zT) c1) /\ W.cell? ⟨bb, oo + 2, none⟩ = some (.int .i8 k2) /\ W.cell? ⟨bb, oo + 2 + 1, none⟩ = some (.slice A2 (Ty.len zO) c2))
    (hB : Below w0.heap.size w0 w) (hBl : Bld w0.heap.size b l w) (hbr : least <= 2) (hln : l.length + (Ty.txt k1 zT (Ty.need 5 true) ++ (32 :: (Ty.word 5 ++ (32 :: Ty.txt k2 zO (Ty.need 5 false))))).length <= 1000000000) :
    Calls Tryz.prog 11 #[.pointer (some ⟨b, 0, none⟩), .agg #[.int .i8 5, .slice (some ⟨bb, oo, none⟩) 2 c], .int .i64 least] w (WroteTxt w0.heap.size b l (Ty.txt k1 zT (Ty.need 5 true) ++ (32 :: (Ty.word 5 ++ (32 :: Ty.txt k2 zO (Ty.need 5 false))))) w) := by
  have hsz := hB.size;have hbl := hBl.lt;obtain ⟨hs1, hs2⟩ := hS.below hB;have s0 := hs2 20 _ rfl;have s1 := hs2 21 _ rfl;have s2 := hs2 22 _ rfl;have s3 := hs2 23 _ rfl;have HS := k0_ (fun W (hb : Below w0.heap.size w0 W) => hS.below hb);have HK := k0_ hkid;have K1 : Hid (KidW w0 b k1 zT A1 c1 2) := k0_ H1;have K2 : Hid (KidW w0 b k2 zO A2 c2 3) := k0_ H2;rw [show Ty.need 5 true = 2 from rfl, show Ty.need 5 false = 3 from rfl, show Ty.word 5 = [43] from rfl] at *;generalize hT1 : Ty.txt k1 zT 2 = T1 at *;generalize hT2 : Ty.txt k2 zO 3 = T2 at *;have HLN := k0_ hln;have e1 : (ByteArray.size ⟨#[32, 43, 32]⟩) = 3 := rfl;have e2 : (ByteArray.size ⟨#[40]⟩) = 1 := rfl;have e3 : (ByteArray.size ⟨#[41]⟩) = 1 := rfl;have HE1 := k0_ e1;have HE2 := k0_ e2;have HE3 := k0_ e3;have HB0 := k0_ hBl;have Hne := k0_ (jI 5 (by omega));have HT1 := k0_ hT1;have HT2 := k0_ hT2;clear hln hs2 hkid H1 H2 e1 e2 e3 hBl hT1 hT2 hS;obtain ⟨n0, n1, n2⟩ := qf w (.cells #[.int .i8 5, .slice (some ⟨bb, oo, none⟩) 2 c] 30) (.cells #[.int .i8 4, .string ⟨#[43]⟩, .int .i64 2, .int .i64 2] 88);have hWr := ((Wrote.refl w0.heap.size b w).alloc hsz (.cells #[.int .i8 5, .slice (some ⟨bb, oo, none⟩) 2 c] 30)).alloc (by simp; omega) (.cells #[.int .i8 4, .string ⟨#[43]⟩, .int .i64 2, .int .i64 2] 88);have HBl := k0_ ((HB0.out.alloc (.cells #[.int .i8 5, .slice (some ⟨bb, oo, none⟩) 2 c] 30)).alloc (.cells #[.int .i8 4, .string ⟨#[43]⟩, .int .i64 2, .int .i64 2] 88))
  go_enter_defers Tryz.func11, Tryz.ntmps11
  go_wp2_with fail
  generalize (w.alloc (.cells #[.int .i8 5, .slice (some ⟨bb, oo, none⟩) 2 c] 30)).alloc (.cells #[.int .i8 4, .string ⟨#[43]⟩, .int .i64 2, .int .i64 2] 88) = W2 at *;have hz2 : w0.heap.size <= W2.heap.size := by omega
  have hB2 := hB.trans hWr.below;have R0 := k0_ n0;have R1 := k0_ n1;have HW := k0_ hWr;obtain ⟨b0, b1, _, _, _⟩ := zK R0.out;obtain ⟨d0, d1, d2, d3, _, _, _, _, _⟩ := zV R1.out;obtain ⟨g0, g1, g2, g3⟩ := HK.out _ hB2;clear n0 n1 n2 hWr;refine (Hne.out _ (HS.out _ hB2)).mono ?_;rintro e w' ⟨rfl, rfl⟩;rw [show Ty.need 5 true = 2 from rfl, show Ty.need 5 false = 3 from rfl]
  go_wp2_with fail
  refine (K1.out _ (l) hB2 HBl.out (by rw [HT1.out]; have := HLN.out; simp at this ⊢; omega)).mono ?_;rintro e W4 ⟨rfl, hbl4, hw4⟩;rw [HT1.out] at hbl4;have HBl4 := k0_ hbl4;have HW4 := k0_ hw4;clear hbl4 hw4 b0 b1 d0 d1 d2 d3 g0 g1 g2 g3;have hB4 := hB2.trans HW4.out.below;have hz4 : w0.heap.size <= W4.heap.size := by have := HW4.out.below.size; omega
  have R04 := k0_ (HW4.out.box R0.out (by omega) (by decide));have R14 := k0_ (HW4.out.box R1.out (by omega) (by decide));obtain ⟨b0, b1, _, _, _⟩ := zK R04.out;obtain ⟨d0, d1, d2, d3, _, _, _, _, _⟩ := zV R14.out;obtain ⟨g0, g1, g2, g3⟩ := HK.out _ hB4
  go_wp2_with fail
  refine (qM w0.heap.size b (l ++ T1) ⟨#[32, 43, 32]⟩ _ HBl4.out (by rw [HE1.out]; have := HLN.out; simp at this ⊢; omega) hz4).mono ?_;rintro e W5 ⟨rfl, hbl5, hw5⟩;have HBl5 := k0_ hbl5;have HW5 := k0_ hw5;clear hbl5 hw5 b0 b1 d0 d1 d2 d3 g0 g1 g2 g3;have hB5 := hB4.trans HW5.out.below;have hz5 : w0.heap.size <= W5.heap.size := by have := HW5.out.below.size; omega
  have R05 := k0_ (HW5.out.box R04.out (by omega) (by decide));have R15 := k0_ (HW5.out.box R14.out (by omega) (by decide));obtain ⟨b0, b1, _, _, _⟩ := zK R05.out;obtain ⟨d0, d1, d2, d3, _, _, _, _, _⟩ := zV R15.out;obtain ⟨g0, g1, g2, g3⟩ := HK.out _ hB5
  go_wp2_with fail
  refine (K2.out _ (l ++ T1 ++ [32, 43, 32]) hB5 HBl5.out (by rw [HT2.out]; have := HLN.out; simp at this ⊢; omega)).mono ?_;exact zHE
theorem zB3 (w0 : World) (b : Nat) (hb : w0.heap.size <= b) (hS : Shapes w0) (k1 : Int) (zT : Fo) (A1 : Option Addr) (c1 : Nat) (k2 : Int) (zO : Fo) (A2 : Option Addr) (c2 : Nat) (bb oo c : Nat) (least : Int) (l : List UInt8) (w : World)
    (H1 : KidW w0 b k1 zT A1 c1 (Ty.need 5 true)) (H2 : KidW w0 b k2 zO A2 c2 (Ty.need 5 false))
    (hkid : ∀ W, Below w0.heap.size w0 W -> W.cell? ⟨bb, oo, none⟩ = some (.int .i8 k1) /\ W.cell? ⟨bb, oo + 1, none⟩ = some (.slice A1 (Ty.len zT) c1) /\ W.cell? ⟨bb, oo + 2, none⟩ = some (.int .i8 k2) /\ W.cell? ⟨bb, oo + 2 + 1, none⟩ = some (.slice A2 (Ty.len zO) c2))
    (hB : Below w0.heap.size w0 w) (hBl : Bld w0.heap.size b l w) (hbr : 2 < least) (hln : l.length + (40 :: ((Ty.txt k1 zT (Ty.need 5 true) ++ (32 :: (Ty.word 5 ++ (32 :: Ty.txt k2 zO (Ty.need 5 false))))) ++ [41])).length <= 1000000000) :
    Calls Tryz.prog 11 #[.pointer (some ⟨b, 0, none⟩), .agg #[.int .i8 5, .slice (some ⟨bb, oo, none⟩) 2 c], .int .i64 least] w (WroteTxt w0.heap.size b l (40 :: ((Ty.txt k1 zT (Ty.need 5 true) ++ (32 :: (Ty.word 5 ++ (32 :: Ty.txt k2 zO (Ty.need 5 false))))) ++ [41])) w) := by
  have hsz := hB.size;have hbl := hBl.lt;obtain ⟨hs1, hs2⟩ := hS.below hB;have s0 := hs2 20 _ rfl;have s1 := hs2 21 _ rfl;have s2 := hs2 22 _ rfl;have s3 := hs2 23 _ rfl;have HS := k0_ (fun W (hb : Below w0.heap.size w0 W) => hS.below hb);have HK := k0_ hkid;have K1 : Hid (KidW w0 b k1 zT A1 c1 2) := k0_ H1;have K2 : Hid (KidW w0 b k2 zO A2 c2 3) := k0_ H2;rw [show Ty.need 5 true = 2 from rfl, show Ty.need 5 false = 3 from rfl, show Ty.word 5 = [43] from rfl] at *;generalize hT1 : Ty.txt k1 zT 2 = T1 at *;generalize hT2 : Ty.txt k2 zO 3 = T2 at *;have HLN := k0_ hln;have e1 : (ByteArray.size ⟨#[32, 43, 32]⟩) = 3 := rfl;have e2 : (ByteArray.size ⟨#[40]⟩) = 1 := rfl;have e3 : (ByteArray.size ⟨#[41]⟩) = 1 := rfl;have HE1 := k0_ e1;have HE2 := k0_ e2;have HE3 := k0_ e3;have HB0 := k0_ hBl;have Hne := k0_ (jI 5 (by omega));have HT1 := k0_ hT1;have HT2 := k0_ hT2;clear hln hs2 hkid H1 H2 e1 e2 e3 hBl hT1 hT2 hS;obtain ⟨n0, n1, n2⟩ := qf w (.cells #[.int .i8 5, .slice (some ⟨bb, oo, none⟩) 2 c] 30) (.cells #[.int .i8 4, .string ⟨#[43]⟩, .int .i64 2, .int .i64 2] 88);have hWr := ((Wrote.refl w0.heap.size b w).alloc hsz (.cells #[.int .i8 5, .slice (some ⟨bb, oo, none⟩) 2 c] 30)).alloc (by simp; omega) (.cells #[.int .i8 4, .string ⟨#[43]⟩, .int .i64 2, .int .i64 2] 88);have HBl := k0_ ((HB0.out.alloc (.cells #[.int .i8 5, .slice (some ⟨bb, oo, none⟩) 2 c] 30)).alloc (.cells #[.int .i8 4, .string ⟨#[43]⟩, .int .i64 2, .int .i64 2] 88))
  go_enter_defers Tryz.func11, Tryz.ntmps11
  go_wp2_with fail
  generalize (w.alloc (.cells #[.int .i8 5, .slice (some ⟨bb, oo, none⟩) 2 c] 30)).alloc (.cells #[.int .i8 4, .string ⟨#[43]⟩, .int .i64 2, .int .i64 2] 88) = W2 at *;have hz2 : w0.heap.size <= W2.heap.size := by omega
  have hB2 := hB.trans hWr.below;have R0 := k0_ n0;have R1 := k0_ n1;have HW := k0_ hWr;obtain ⟨b0, b1, _, _, _⟩ := zK R0.out;obtain ⟨d0, d1, d2, d3, _, _, _, _, _⟩ := zV R1.out;obtain ⟨g0, g1, g2, g3⟩ := HK.out _ hB2;clear n0 n1 n2 hWr;refine (qM w0.heap.size b (l) ⟨#[40]⟩ _ HBl.out (by rw [HE2.out]; have := HLN.out; simp at this ⊢; omega) hz2).mono ?_;rintro e W3 ⟨rfl, hbl3, hw3⟩;have HBl3 := k0_ hbl3;have HW3 := k0_ hw3;clear hbl3 hw3 b0 b1 d0 d1 d2 d3 g0 g1 g2 g3;have hB3 := hB2.trans HW3.out.below;have hz3 : w0.heap.size <= W3.heap.size := by have := HW3.out.below.size; omega
  have R03 := k0_ (HW3.out.box R0.out (by omega) (by decide));have R13 := k0_ (HW3.out.box R1.out (by omega) (by decide));obtain ⟨b0, b1, _, _, _⟩ := zK R03.out;obtain ⟨d0, d1, d2, d3, _, _, _, _, _⟩ := zV R13.out;obtain ⟨g0, g1, g2, g3⟩ := HK.out _ hB3
  go_wp2_with fail
  refine (Hne.out _ (HS.out _ hB3)).mono ?_;rintro e w' ⟨rfl, rfl⟩;rw [show Ty.need 5 true = 2 from rfl, show Ty.need 5 false = 3 from rfl]
  go_wp2_with fail
  refine (K1.out _ (l ++ [40]) hB3 HBl3.out (by rw [HT1.out]; have := HLN.out; simp at this ⊢; omega)).mono ?_;rintro e W4 ⟨rfl, hbl4, hw4⟩;rw [HT1.out] at hbl4;have HBl4 := k0_ hbl4;have HW4 := k0_ hw4;clear hbl4 hw4 b0 b1 d0 d1 d2 d3 g0 g1 g2 g3;have hB4 := hB3.trans HW4.out.below;have hz4 : w0.heap.size <= W4.heap.size := by have := HW4.out.below.size; omega
  have R04 := k0_ (HW4.out.box R03.out (by omega) (by decide));have R14 := k0_ (HW4.out.box R13.out (by omega) (by decide));obtain ⟨b0, b1, _, _, _⟩ := zK R04.out;obtain ⟨d0, d1, d2, d3, _, _, _, _, _⟩ := zV R14.out;obtain ⟨g0, g1, g2, g3⟩ := HK.out _ hB4
  go_wp2_with fail
  refine (qM w0.heap.size b (l ++ [40] ++ T1) ⟨#[32, 43, 32]⟩ _ HBl4.out (by rw [HE1.out]; have := HLN.out; simp at this ⊢; omega) hz4).mono ?_;rintro e W5 ⟨rfl, hbl5, hw5⟩;have HBl5 := k0_ hbl5;have HW5 := k0_ hw5;clear hbl5 hw5 b0 b1 d0 d1 d2 d3 g0 g1 g2 g3;have hB5 := hB4.trans HW5.out.below;have hz5 : w0.heap.size <= W5.heap.size := by have := HW5.out.below.size; omega
  have R05 := k0_ (HW5.out.box R04.out (by omega) (by decide));have R15 := k0_ (HW5.out.box R14.out (by omega) (by decide));obtain ⟨b0, b1, _, _, _⟩ := zK R05.out;obtain ⟨d0, d1, d2, d3, _, _, _, _, _⟩ := zV R15.out;obtain ⟨g0, g1, g2, g3⟩ := HK.out _ hB5
  go_wp2_with fail
  refine (K2.out _ (l ++ [40] ++ T1 ++ [32, 43, 32]) hB5 HBl5.out (by rw [HT2.out]; have := HLN.out; simp at this ⊢; omega)).mono ?_;rintro e W6 ⟨rfl, hbl6, hw6⟩;rw [HT2.out] at hbl6;have HBl6 := k0_ hbl6;have HW6 := k0_ hw6;clear hbl6 hw6 b0 b1 d0 d1 d2 d3 g0 g1 g2 g3;have hB6 := hB5.trans HW6.out.below;have hz6 : w0.heap.size <= W6.heap.size := by have := HW6.out.below.size; omega
  have R06 := k0_ (HW6.out.box R05.out (by omega) (by decide));have R16 := k0_ (HW6.out.box R15.out (by omega) (by decide));obtain ⟨b0, b1, _, _, _⟩ := zK R06.out;obtain ⟨d0, d1, d2, d3, _, _, _, _, _⟩ := zV R16.out;obtain ⟨g0, g1, g2, g3⟩ := HK.out _ hB6
  go_wp2_with fail
  refine leaves_cons (f := 25) (args := #[.pointer (some ⟨b, 0, none⟩), .string ⟨#[41]⟩]) (by simp) (by simp [go_sem]) ?_;refine (jg w0.heap.size b (l ++ [40] ++ T1 ++ [32, 43, 32] ++ T2) ⟨#[41]⟩ _ HBl6.out (by rw [HE3.out]; have := HLN.out; simp at this ⊢; omega) hz6 _).mono ?_;exact zH8
end Go.Proofs.YtepmjknljbafgaaGreatDoor
namespace Go.Proofs.YtepmjknljbafgaaGreatDoor
open Go.RowKit
set_option maxHeartbeats 2000000 in
set_option maxRecDepth 100000 in
theorem zCb (w0 : World) (b : Nat) (hb : w0.heap.size <= b) (hS : Shapes w0) (K : Nat) : ∀ (k : Int) (kids : Fo) (A : Option Addr) (n c : Nat) (least : Int) (l : List UInt8) (w : World), Ty.nodes kids < K -> Ty.Is w0 k kids A n c -> Ty.okT k kids = true -> Below w0.heap.size w0 w -> Bld w0.heap.size b l w -> l.length + (Ty.txt k kids least).length <= 1000000000 ->
    Calls Tryz.prog 11 #[.pointer (some ⟨b, 0, none⟩), .agg #[.int .i8 k, .slice A n c], .int .i64 least] w (WroteTxt w0.heap.size b l (Ty.txt k kids least) w) := by
  induction K with
  | zero => intro _ _ _ _ _ _ _ _ h; omega
  | succ K ih =>
    intro k kids A n c least l w hK hIs hok hB hBl hlen;have hsz := hB.size;have hR0 := zF w (.cells #[.int .i8 k, .slice A n c] 30);have HIH := k0_ ih;have HIs := k0_ hIs;clear ih hIs;obtain ⟨hs1, hs2⟩ := hS.below hB
    by_cases hleaf : k = 0 \/ k = 1 \/ k = 2
    · obtain rfl := zEX hok hleaf
      have s1 := hs2 1 _ rfl;have s5 := hs2 5 _ rfl;have s9 := hs2 9 _ rfl;have s2 := hs2 2 _ rfl;have s6 := hs2 6 _ rfl;have s10 := hs2 10 _ rfl;have s0 := hs2 0 _ rfl;have s4 := hs2 4 _ rfl;have s8 := hs2 8 _ rfl;have s3 := hs2 3 _ rfl;have s7 := hs2 7 _ rfl;have s11 := hs2 11 _ rfl;clear hs2;rcases hleaf with rfl | rfl | rfl
      all_goals
        have HB2 := k0_ hBl;have HLen := k0_ hlen;clear hBl hlen
        go_enter_defers Tryz.func11, Tryz.ntmps11
        go_wp2_with fail
        refine (qM _ _ _ _ _ ((HB2.out.alloc _).alloc _) ?_ (by simp; omega)).mono ?_
        · have h1 := HLen.out
          simp [Ty.txt, Ty.txtOne, Ty.word] at h1
          have e1 : (ByteArray.size ⟨#[63]⟩) = 1 := rfl;have e2 : (ByteArray.size ⟨#[105, 110, 116]⟩) = 3 := rfl;have e3 : (ByteArray.size ⟨#[98, 111, 111, 108]⟩) = 4 := rfl
          first | rw [e1] | rw [e2] | rw [e3]
          omega
        rintro e w3 ⟨rfl, h2, h3⟩;have HH := k0_ (And.intro h2 h3);clear h2 h3
        go_wp2_with fail
        refine ⟨_, results_none rfl _ _ _, rfl, HH.out.1, ?_⟩;exact (((Wrote.refl _ _ _).alloc (by omega) _).alloc (by simp; omega) _).trans HH.out.2
    · have hpair : k = 3 \/ k = 4 \/ k = 5 := by have := Ty.jV hok; omega
      obtain ⟨a1, b1, k1, zT, a2, b2, k2, zO, rfl, ho1, ho2⟩ := zEW hok hpair;have HS := k0_ (fun W (hb : Below w0.heap.size w0 W) => hS.below hb);have hL := HIs.out.lies;have hneq := HIs.out.n_eq;simp only [Ty.len] at hneq;obtain ⟨bb, oo, A1, c1, rfl, ⟨p1, p2⟩, q1, q2, q3, q4, q5, q6⟩ := hL;obtain ⟨bb', oo', A2, c2, hAA, ⟨r1, r2⟩, t1, t2, t3, t4, t5, -⟩ := q6;injection hAA with hAA
      injection hAA with e1 e2
      subst e1 e2;have I1 := k0_ (show Ty.Is w0 k1 zT A1 (Ty.len zT) c1 from ⟨q5, rfl, q3, q4, p1, p2⟩);have I2 := k0_ (show Ty.Is w0 k2 zO A2 (Ty.len zO) c2 from ⟨t5, rfl, t3, t4, r1, r2⟩);have hbb := Ty.zN q1;have hkid := k0_ (fun W (hb : Below w0.heap.size w0 W) => zDB hb q1 q2 t1 t2);simp only [Ty.nodes] at hK;have HB2 := k0_ hBl;have HLen := k0_ hlen;clear hBl hlen q1 q2 q3 q4 q5 t1 t2 t3 t4 t5 hleaf;obtain rfl : n = 2 := by omega
      by_cases hbr : Ty.binds k < least
      · have htx : Ty.txt k (.node a1 b1 k1 zT (.node a2 b2 k2 zO .nil)) least = 40 :: ((Ty.txt k1 zT (Ty.need k true) ++ (32 :: (Ty.word k ++ (32 :: Ty.txt k2 zO (Ty.need k false))))) ++ [41]) := by
          unfold Ty.txt Ty.txtOne;rw [if_neg (by omega), if_pos hbr];rw [Ty.zCH k a1 b1 a2 b2 k1 zT k2 zO]
          rfl
        have hln := HLen.out;rw [htx] at hln ⊢;have H1 : KidW w0 b k1 zT A1 c1 (Ty.need k true) := fun W l hW hBl hl => HIH.out k1 zT A1 _ c1 _ l W (by omega) I1.out ho1 hW hBl hl
        have H2 : KidW w0 b k2 zO A2 c2 (Ty.need k false) := fun W l hW hBl hl => HIH.out k2 zO A2 _ c2 _ l W (by omega) I2.out ho2 hW hBl hl
        rcases hpair with rfl | rfl | rfl
        · exact zB7 w0 b hb hS k1 zT A1 c1 k2 zO A2 c2 bb oo c least l w H1 H2 (fun W hW => hkid.out W hW) hB HB2.out (by simpa [Ty.binds] using hbr) hln
        · exact zB5 w0 b hb hS k1 zT A1 c1 k2 zO A2 c2 bb oo c least l w H1 H2 (fun W hW => hkid.out W hW) hB HB2.out (by simpa [Ty.binds] using hbr) hln
        · exact zB3 w0 b hb hS k1 zT A1 c1 k2 zO A2 c2 bb oo c least l w H1 H2 (fun W hW => hkid.out W hW) hB HB2.out (by simpa [Ty.binds] using hbr) hln
      · have htx : Ty.txt k (.node a1 b1 k1 zT (.node a2 b2 k2 zO .nil)) least = Ty.txt k1 zT (Ty.need k true) ++ (32 :: (Ty.word k ++ (32 :: Ty.txt k2 zO (Ty.need k false)))) := by
          unfold Ty.txt Ty.txtOne;rw [if_neg (by omega), if_neg hbr];exact Ty.zCH k a1 b1 a2 b2 k1 zT k2 zO
        have hln := HLen.out;rw [htx] at hln ⊢;have H1 : KidW w0 b k1 zT A1 c1 (Ty.need k true) := fun W l hW hBl hl => HIH.out k1 zT A1 _ c1 _ l W (by omega) I1.out ho1 hW hBl hl
        have H2 : KidW w0 b k2 zO A2 c2 (Ty.need k false) := fun W l hW hBl hl => HIH.out k2 zO A2 _ c2 _ l W (by omega) I2.out ho2 hW hBl hl
        rcases hpair with rfl | rfl | rfl
        · exact zB6 w0 b hb hS k1 zT A1 c1 k2 zO A2 c2 bb oo c least l w H1 H2 (fun W hW => hkid.out W hW) hB HB2.out (by simpa [Ty.binds] using hbr) hln
        · exact zB4 w0 b hb hS k1 zT A1 c1 k2 zO A2 c2 bb oo c least l w H1 H2 (fun W hW => hkid.out W hW) hB HB2.out (by simpa [Ty.binds] using hbr) hln
        · exact zB2 w0 b hb hS k1 zT A1 c1 k2 zO A2 c2 bb oo c least l w H1 H2 (fun W hW => hkid.out W hW) hB HB2.out (by simpa [Ty.binds] using hbr) hln
namespace Ty
def textT (k : Int) (kids : Fo) : ByteArray := if chk k kids = 0 then ⟨(txt k kids 1).toArray⟩ else ⟨#[]⟩
end Ty
set_option maxHeartbeats 1000000 in
set_option maxRecDepth 100000 in
theorem zAG (k : Int) (kids : Fo) (A : Option Addr) (n c : Nat) (w : World) (hIs : Ty.Is w k kids A n c) (hS : Shapes w) :
    Calls Tryz.prog 5 #[.agg #[.int .i8 k, .slice A n c]] w fun e w' => e = .returned (.tuple #[.string (Ty.textT k kids), .int .i64 (Ty.chk k kids)]) /\ Below w.heap.size w w' := by
  have hB0 := (Below.refl w.heap.size w).alloc (Nat.le_refl _) (.cells #[.int .i8 k, .slice A n c] 30);have HM := k0_ (fun (W : World) (hb : Below w.heap.size w W) => qc k kids A n c W (hIs.below hb) (hS.below hb));have hR0 := zF w (.cells #[.int .i8 k, .slice A n c] 30)
  by_cases h0 : Ty.chk k kids = 0
  · have hok := Ty.qp h0
    have htl := Ty.zFH k kids 1;have hwr := fun (b : Nat) (hb : w.heap.size <= b) (W : World) (hW : Below w.heap.size w W) (hBl : Bld w.heap.size b [] W) => zCb w b hb hS (Ty.nodes kids + 1) k kids A n c 1 [] W (by omega) hIs hok.1 hW hBl (by simp; omega)
    have HW := k0_ hwr;have e1 : Ty.textT k kids = ⟨(Ty.txt k kids 1).toArray⟩ := by unfold Ty.textT; rw [if_pos h0]
    rw [h0] at HM;rw [h0, e1];generalize Ty.txt k kids 1 = T at *;have R0 := k0_ hR0;clear hIs hS hok htl hwr e1 h0 hR0
    go_enter Tryz.func5, Tryz.ntmps5
    go_wp2_with fail
    refine (HM.out _ hB0).mono ?_;rintro e w3 ⟨rfl, hb⟩;have hB1 := hB0.trans (hb.mono hB0.size);have R1 := kp_ hb R0;obtain ⟨b0, b1, _, _, hlt⟩ := zK R1.out;clear hb
    go_wp2_with fail
    refine (HW.out _ hB1.size _ (hB1.alloc hB1.size _) ?_).mono ?_
    · have := Lib.IsBuilderF.of (Lib.fresh_isBuilder 52 5 w3)
      exact zG9 this hB1.size
    rintro e w4 ⟨rfl, hbl, hw⟩;have hB4 := (hB1.alloc hB1.size _).trans hw.below;have HBl := k0_ hbl;clear hbl hw
    go_wp2_with fail
    refine (Tryz.Builder_String_any_k w.heap.size _ T _ HBl.out hB4.size).mono ?_;rintro e w5 ⟨rfl, -, hb5, -⟩
    go_wp2_with fail
    go_ret2
    exact ⟨rfl, hB4.trans hb5⟩
  · have e1 : Ty.textT k kids = ⟨#[]⟩ := by unfold Ty.textT; rw [if_neg h0]
    have hc : (((Ty.chk k kids : Nat) : Int) != 0) = true := by simp; omega
    rw [e1];generalize Ty.chk k kids = C at *;clear hIs hS e1 h0 hR0
    go_enter Tryz.func5, Tryz.ntmps5
    go_wp2_with fail
    refine (HM.out _ hB0).mono ?_;rintro e w3 ⟨rfl, hb⟩
    go_wp2_with fail
    go_ret2
    exact ⟨rfl, hB0.trans (hb.mono hB0.size)⟩
end Go.Proofs.YtepmjknljbafgaaGreatDoor
