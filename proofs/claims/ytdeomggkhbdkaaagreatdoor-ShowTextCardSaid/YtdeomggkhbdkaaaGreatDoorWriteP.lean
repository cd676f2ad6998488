/-
  types.write of a type with two parts: by kind, with and without brackets.
-/
import Derived.Test.YtdeomggkhbdkaaaGreatDoorWriteA
namespace Go.Proofs.YtdeomggkhbdkaaaGreatDoor
open Go.RowKit

set_option maxHeartbeats 2000000 in
set_option maxRecDepth 100000 in
theorem write_3_no (w0 : World) (b : Nat) (hb : w0.heap.size ≤ b) (hS : Shapes w0) (k1 : Int) (kids1 : Fo) (A1 : Option Addr) (c1 : Nat) (k2 : Int) (kids2 : Fo) (A2 : Option Addr) (c2 : Nat) (bb oo c : Nat) (least : Int) (l : List UInt8) (w : World)
    (H1 : KidW w0 b k1 kids1 A1 c1 (Ty.need 3 true)) (H2 : KidW w0 b k2 kids2 A2 c2 (Ty.need 3 false))
    (hkid : ∀ W, Below w0.heap.size w0 W → W.cell? ⟨bb, oo, none⟩ = some (.int .i8 k1) ∧ W.cell? ⟨bb, oo + 1, none⟩ = some (.slice A1 (Ty.len kids1) c1) ∧ W.cell? ⟨bb, oo + 2, none⟩ = some (.int .i8 k2) ∧ W.cell? ⟨bb, oo + 2 + 1, none⟩ = some (.slice A2 (Ty.len kids2) c2))
    (hB : Below w0.heap.size w0 w) (hBl : Bld w0.heap.size b l w) (hbr : least ≤ 1) (hln : l.length + (Ty.txt k1 kids1 (Ty.need 3 true) ++ (32 :: (Ty.word 3 ++ (32 :: Ty.txt k2 kids2 (Ty.need 3 false))))).length ≤ 1000000000) :
    Calls Tryz.prog 77 #[.pointer (some ⟨b, 0, none⟩), .agg #[.int .i8 3, .slice (some ⟨bb, oo, none⟩) 2 c], .int .i64 least] w (WroteTxt w0.heap.size b l (Ty.txt k1 kids1 (Ty.need 3 true) ++ (32 :: (Ty.word 3 ++ (32 :: Ty.txt k2 kids2 (Ty.need 3 false))))) w) := by
  have hsz := hB.size
  have hbl := hBl.lt
  obtain ⟨hs1, hs2⟩ := hS.below hB
  have s0 := hs2 12 _ rfl
  have s1 := hs2 13 _ rfl
  have s2 := hs2 14 _ rfl
  have s3 := hs2 15 _ rfl
  have HS := Lib.hid (fun W (hb : Below w0.heap.size w0 W) => hS.below hb)
  have HK := Lib.hid hkid
  have K1 : Hid (KidW w0 b k1 kids1 A1 c1 2) := Lib.hid H1
  have K2 : Hid (KidW w0 b k2 kids2 A2 c2 1) := Lib.hid H2
  rw [show Ty.need 3 true = 2 from rfl, show Ty.need 3 false = 1 from rfl, show Ty.word 3 = [45, 62] from rfl] at *
  generalize hT1 : Ty.txt k1 kids1 2 = T1 at *
  generalize hT2 : Ty.txt k2 kids2 1 = T2 at *
  have HLN := Lib.hid hln
  have e1 : (ByteArray.size ⟨#[32, 45, 62, 32]⟩) = 4 := rfl
  have e2 : (ByteArray.size ⟨#[40]⟩) = 1 := rfl
  have e3 : (ByteArray.size ⟨#[41]⟩) = 1 := rfl
  have HE1 := Lib.hid e1
  have HE2 := Lib.hid e2
  have HE3 := Lib.hid e3
  have HB0 := Lib.hid hBl
  have Hne := Lib.hid (needs_any 3 (by omega))
  have HT1 := Lib.hid hT1
  have HT2 := Lib.hid hT2
  clear hln hs2 hkid H1 H2 e1 e2 e3 hBl hT1 hT2 hS
  obtain ⟨n0, n1, n2⟩ := two_new w (.cells #[.int .i8 3, .slice (some ⟨bb, oo, none⟩) 2 c] 25) (.cells #[.int .i8 4, .string ⟨#[45, 62]⟩, .int .i64 2, .int .i64 1] 111)
  have hWr := ((Wrote.refl w0.heap.size b w).alloc hsz (.cells #[.int .i8 3, .slice (some ⟨bb, oo, none⟩) 2 c] 25)).alloc (by simp; omega) (.cells #[.int .i8 4, .string ⟨#[45, 62]⟩, .int .i64 2, .int .i64 1] 111)
  have HBl := Lib.hid ((HB0.out.alloc (.cells #[.int .i8 3, .slice (some ⟨bb, oo, none⟩) 2 c] 25)).alloc (.cells #[.int .i8 4, .string ⟨#[45, 62]⟩, .int .i64 2, .int .i64 1] 111))
  go_enter_defers Tryz.func77, Tryz.ntmps77
  go_wp2_with fail
  generalize (w.alloc (.cells #[.int .i8 3, .slice (some ⟨bb, oo, none⟩) 2 c] 25)).alloc (.cells #[.int .i8 4, .string ⟨#[45, 62]⟩, .int .i64 2, .int .i64 1] 111) = W2 at *
  have hz2 : w0.heap.size ≤ W2.heap.size := by omega
  have hB2 := hB.trans hWr.below
  have R0 := Lib.hid n0
  have R1 := Lib.hid n1
  have HW := Lib.hid hWr
  obtain ⟨b0, b1, _, _, _⟩ := own2 R0.out
  obtain ⟨d0, d1, d2, d3, _, _, _, _, _⟩ := own4 R1.out
  obtain ⟨g0, g1, g2, g3⟩ := HK.out _ hB2
  clear n0 n1 n2 hWr
  refine (Hne.out _ (HS.out _ hB2)).mono ?_
  rintro e w' ⟨rfl, rfl⟩
  rw [show Ty.need 3 true = 2 from rfl, show Ty.need 3 false = 1 from rfl]
  go_wp2_with fail
  refine (K1.out _ (l) hB2 HBl.out (by rw [HT1.out]; have := HLN.out; simp at this ⊢; omega)).mono ?_
  rintro e W4 ⟨rfl, hbl4, hw4⟩
  rw [HT1.out] at hbl4
  have HBl4 := Lib.hid hbl4
  have HW4 := Lib.hid hw4
  clear hbl4 hw4 b0 b1 d0 d1 d2 d3 g0 g1 g2 g3
  have hB4 := hB2.trans HW4.out.below
  have hz4 : w0.heap.size ≤ W4.heap.size := by have := HW4.out.below.size; omega
  have R04 := Lib.hid (HW4.out.box R0.out (by omega) (by decide))
  have R14 := Lib.hid (HW4.out.box R1.out (by omega) (by decide))
  obtain ⟨b0, b1, _, _, _⟩ := own2 R04.out
  obtain ⟨d0, d1, d2, d3, _, _, _, _, _⟩ := own4 R14.out
  obtain ⟨g0, g1, g2, g3⟩ := HK.out _ hB4
  go_wp2_with fail
  refine (write_str w0.heap.size b (l ++ T1) ⟨#[32, 45, 62, 32]⟩ _ HBl4.out (by rw [HE1.out]; have := HLN.out; simp at this ⊢; omega) hz4).mono ?_
  rintro e W5 ⟨rfl, hbl5, hw5⟩
  have HBl5 := Lib.hid hbl5
  have HW5 := Lib.hid hw5
  clear hbl5 hw5 b0 b1 d0 d1 d2 d3 g0 g1 g2 g3
  have hB5 := hB4.trans HW5.out.below
  have hz5 : w0.heap.size ≤ W5.heap.size := by have := HW5.out.below.size; omega
  have R05 := Lib.hid (HW5.out.box R04.out (by omega) (by decide))
  have R15 := Lib.hid (HW5.out.box R14.out (by omega) (by decide))
  obtain ⟨b0, b1, _, _, _⟩ := own2 R05.out
  obtain ⟨d0, d1, d2, d3, _, _, _, _, _⟩ := own4 R15.out
  obtain ⟨g0, g1, g2, g3⟩ := HK.out _ hB5
  go_wp2_with fail
  refine (K2.out _ (l ++ T1 ++ [32, 45, 62, 32]) hB5 HBl5.out (by rw [HT2.out]; have := HLN.out; simp at this ⊢; omega)).mono ?_
  rintro e W6 ⟨rfl, hbl6, hw6⟩
  rw [HT2.out] at hbl6
  have HBl6 := Lib.hid hbl6
  have HW6 := Lib.hid hw6
  clear hbl6 hw6 b0 b1 d0 d1 d2 d3 g0 g1 g2 g3
  have hB6 := hB5.trans HW6.out.below
  have hz6 : w0.heap.size ≤ W6.heap.size := by have := HW6.out.below.size; omega
  have R06 := Lib.hid (HW6.out.box R05.out (by omega) (by decide))
  have R16 := Lib.hid (HW6.out.box R15.out (by omega) (by decide))
  obtain ⟨b0, b1, _, _, _⟩ := own2 R06.out
  obtain ⟨d0, d1, d2, d3, _, _, _, _, _⟩ := own4 R16.out
  obtain ⟨g0, g1, g2, g3⟩ := HK.out _ hB6
  go_wp2_with fail
  have hw := HW.out.trans (HW4.out.trans (HW5.out.trans (HW6.out)))
  refine ⟨_, results_none rfl _ _ _, rfl, ?_, hw⟩
  have hbl7 := HBl6.out
  simpa using hbl7

set_option maxHeartbeats 2000000 in
set_option maxRecDepth 100000 in
theorem write_3_br (w0 : World) (b : Nat) (hb : w0.heap.size ≤ b) (hS : Shapes w0) (k1 : Int) (kids1 : Fo) (A1 : Option Addr) (c1 : Nat) (k2 : Int) (kids2 : Fo) (A2 : Option Addr) (c2 : Nat) (bb oo c : Nat) (least : Int) (l : List UInt8) (w : World)
    (H1 : KidW w0 b k1 kids1 A1 c1 (Ty.need 3 true)) (H2 : KidW w0 b k2 kids2 A2 c2 (Ty.need 3 false))
    (hkid : ∀ W, Below w0.heap.size w0 W → W.cell? ⟨bb, oo, none⟩ = some (.int .i8 k1) ∧ W.cell? ⟨bb, oo + 1, none⟩ = some (.slice A1 (Ty.len kids1) c1) ∧ W.cell? ⟨bb, oo + 2, none⟩ = some (.int .i8 k2) ∧ W.cell? ⟨bb, oo + 2 + 1, none⟩ = some (.slice A2 (Ty.len kids2) c2))
    (hB : Below w0.heap.size w0 w) (hBl : Bld w0.heap.size b l w) (hbr : 1 < least) (hln : l.length + (40 :: ((Ty.txt k1 kids1 (Ty.need 3 true) ++ (32 :: (Ty.word 3 ++ (32 :: Ty.txt k2 kids2 (Ty.need 3 false))))) ++ [41])).length ≤ 1000000000) :
    Calls Tryz.prog 77 #[.pointer (some ⟨b, 0, none⟩), .agg #[.int .i8 3, .slice (some ⟨bb, oo, none⟩) 2 c], .int .i64 least] w (WroteTxt w0.heap.size b l (40 :: ((Ty.txt k1 kids1 (Ty.need 3 true) ++ (32 :: (Ty.word 3 ++ (32 :: Ty.txt k2 kids2 (Ty.need 3 false))))) ++ [41])) w) := by
  have hsz := hB.size
  have hbl := hBl.lt
  obtain ⟨hs1, hs2⟩ := hS.below hB
  have s0 := hs2 12 _ rfl
  have s1 := hs2 13 _ rfl
  have s2 := hs2 14 _ rfl
  have s3 := hs2 15 _ rfl
  have HS := Lib.hid (fun W (hb : Below w0.heap.size w0 W) => hS.below hb)
  have HK := Lib.hid hkid
  have K1 : Hid (KidW w0 b k1 kids1 A1 c1 2) := Lib.hid H1
  have K2 : Hid (KidW w0 b k2 kids2 A2 c2 1) := Lib.hid H2
  rw [show Ty.need 3 true = 2 from rfl, show Ty.need 3 false = 1 from rfl, show Ty.word 3 = [45, 62] from rfl] at *
  generalize hT1 : Ty.txt k1 kids1 2 = T1 at *
  generalize hT2 : Ty.txt k2 kids2 1 = T2 at *
  have HLN := Lib.hid hln
  have e1 : (ByteArray.size ⟨#[32, 45, 62, 32]⟩) = 4 := rfl
  have e2 : (ByteArray.size ⟨#[40]⟩) = 1 := rfl
  have e3 : (ByteArray.size ⟨#[41]⟩) = 1 := rfl
  have HE1 := Lib.hid e1
  have HE2 := Lib.hid e2
  have HE3 := Lib.hid e3
  have HB0 := Lib.hid hBl
  have Hne := Lib.hid (needs_any 3 (by omega))
  have HT1 := Lib.hid hT1
  have HT2 := Lib.hid hT2
  clear hln hs2 hkid H1 H2 e1 e2 e3 hBl hT1 hT2 hS
  obtain ⟨n0, n1, n2⟩ := two_new w (.cells #[.int .i8 3, .slice (some ⟨bb, oo, none⟩) 2 c] 25) (.cells #[.int .i8 4, .string ⟨#[45, 62]⟩, .int .i64 2, .int .i64 1] 111)
  have hWr := ((Wrote.refl w0.heap.size b w).alloc hsz (.cells #[.int .i8 3, .slice (some ⟨bb, oo, none⟩) 2 c] 25)).alloc (by simp; omega) (.cells #[.int .i8 4, .string ⟨#[45, 62]⟩, .int .i64 2, .int .i64 1] 111)
  have HBl := Lib.hid ((HB0.out.alloc (.cells #[.int .i8 3, .slice (some ⟨bb, oo, none⟩) 2 c] 25)).alloc (.cells #[.int .i8 4, .string ⟨#[45, 62]⟩, .int .i64 2, .int .i64 1] 111))
  go_enter_defers Tryz.func77, Tryz.ntmps77
  go_wp2_with fail
  generalize (w.alloc (.cells #[.int .i8 3, .slice (some ⟨bb, oo, none⟩) 2 c] 25)).alloc (.cells #[.int .i8 4, .string ⟨#[45, 62]⟩, .int .i64 2, .int .i64 1] 111) = W2 at *
  have hz2 : w0.heap.size ≤ W2.heap.size := by omega
  have hB2 := hB.trans hWr.below
  have R0 := Lib.hid n0
  have R1 := Lib.hid n1
  have HW := Lib.hid hWr
  obtain ⟨b0, b1, _, _, _⟩ := own2 R0.out
  obtain ⟨d0, d1, d2, d3, _, _, _, _, _⟩ := own4 R1.out
  obtain ⟨g0, g1, g2, g3⟩ := HK.out _ hB2
  clear n0 n1 n2 hWr
  refine (write_str w0.heap.size b (l) ⟨#[40]⟩ _ HBl.out (by rw [HE2.out]; have := HLN.out; simp at this ⊢; omega) hz2).mono ?_
  rintro e W3 ⟨rfl, hbl3, hw3⟩
  have HBl3 := Lib.hid hbl3
  have HW3 := Lib.hid hw3
  clear hbl3 hw3 b0 b1 d0 d1 d2 d3 g0 g1 g2 g3
  have hB3 := hB2.trans HW3.out.below
  have hz3 : w0.heap.size ≤ W3.heap.size := by have := HW3.out.below.size; omega
  have R03 := Lib.hid (HW3.out.box R0.out (by omega) (by decide))
  have R13 := Lib.hid (HW3.out.box R1.out (by omega) (by decide))
  obtain ⟨b0, b1, _, _, _⟩ := own2 R03.out
  obtain ⟨d0, d1, d2, d3, _, _, _, _, _⟩ := own4 R13.out
  obtain ⟨g0, g1, g2, g3⟩ := HK.out _ hB3
  go_wp2_with fail
  refine (Hne.out _ (HS.out _ hB3)).mono ?_
  rintro e w' ⟨rfl, rfl⟩
  rw [show Ty.need 3 true = 2 from rfl, show Ty.need 3 false = 1 from rfl]
  go_wp2_with fail
  refine (K1.out _ (l ++ [40]) hB3 HBl3.out (by rw [HT1.out]; have := HLN.out; simp at this ⊢; omega)).mono ?_
  rintro e W4 ⟨rfl, hbl4, hw4⟩
  rw [HT1.out] at hbl4
  have HBl4 := Lib.hid hbl4
  have HW4 := Lib.hid hw4
  clear hbl4 hw4 b0 b1 d0 d1 d2 d3 g0 g1 g2 g3
  have hB4 := hB3.trans HW4.out.below
  have hz4 : w0.heap.size ≤ W4.heap.size := by have := HW4.out.below.size; omega
  have R04 := Lib.hid (HW4.out.box R03.out (by omega) (by decide))
  have R14 := Lib.hid (HW4.out.box R13.out (by omega) (by decide))
  obtain ⟨b0, b1, _, _, _⟩ := own2 R04.out
  obtain ⟨d0, d1, d2, d3, _, _, _, _, _⟩ := own4 R14.out
  obtain ⟨g0, g1, g2, g3⟩ := HK.out _ hB4
  go_wp2_with fail
  refine (write_str w0.heap.size b (l ++ [40] ++ T1) ⟨#[32, 45, 62, 32]⟩ _ HBl4.out (by rw [HE1.out]; have := HLN.out; simp at this ⊢; omega) hz4).mono ?_
  rintro e W5 ⟨rfl, hbl5, hw5⟩
  have HBl5 := Lib.hid hbl5
  have HW5 := Lib.hid hw5
  clear hbl5 hw5 b0 b1 d0 d1 d2 d3 g0 g1 g2 g3
  have hB5 := hB4.trans HW5.out.below
  have hz5 : w0.heap.size ≤ W5.heap.size := by have := HW5.out.below.size; omega
  have R05 := Lib.hid (HW5.out.box R04.out (by omega) (by decide))
  have R15 := Lib.hid (HW5.out.box R14.out (by omega) (by decide))
  obtain ⟨b0, b1, _, _, _⟩ := own2 R05.out
  obtain ⟨d0, d1, d2, d3, _, _, _, _, _⟩ := own4 R15.out
  obtain ⟨g0, g1, g2, g3⟩ := HK.out _ hB5
  go_wp2_with fail
  refine (K2.out _ (l ++ [40] ++ T1 ++ [32, 45, 62, 32]) hB5 HBl5.out (by rw [HT2.out]; have := HLN.out; simp at this ⊢; omega)).mono ?_
  rintro e W6 ⟨rfl, hbl6, hw6⟩
  rw [HT2.out] at hbl6
  have HBl6 := Lib.hid hbl6
  have HW6 := Lib.hid hw6
  clear hbl6 hw6 b0 b1 d0 d1 d2 d3 g0 g1 g2 g3
  have hB6 := hB5.trans HW6.out.below
  have hz6 : w0.heap.size ≤ W6.heap.size := by have := HW6.out.below.size; omega
  have R06 := Lib.hid (HW6.out.box R05.out (by omega) (by decide))
  have R16 := Lib.hid (HW6.out.box R15.out (by omega) (by decide))
  obtain ⟨b0, b1, _, _, _⟩ := own2 R06.out
  obtain ⟨d0, d1, d2, d3, _, _, _, _, _⟩ := own4 R16.out
  obtain ⟨g0, g1, g2, g3⟩ := HK.out _ hB6
  go_wp2_with fail
  refine leaves_cons (f := 10) (args := #[.pointer (some ⟨b, 0, none⟩), .string ⟨#[41]⟩]) (by simp) (by simp [go_sem]) ?_
  refine (write_str_d w0.heap.size b (l ++ [40] ++ T1 ++ [32, 45, 62, 32] ++ T2) ⟨#[41]⟩ _ HBl6.out (by rw [HE3.out]; have := HLN.out; simp at this ⊢; omega) hz6 _).mono ?_
  rintro e u' W7 ⟨rfl, rfl, hbl7, hw7⟩
  have hw := HW.out.trans (HW3.out.trans (HW4.out.trans (HW5.out.trans (HW6.out.trans hw7))))
  refine ⟨_, results_none rfl _ _ _, rfl, ?_, hw⟩
  simpa using hbl7

set_option maxHeartbeats 2000000 in
set_option maxRecDepth 100000 in
theorem write_4_no (w0 : World) (b : Nat) (hb : w0.heap.size ≤ b) (hS : Shapes w0) (k1 : Int) (kids1 : Fo) (A1 : Option Addr) (c1 : Nat) (k2 : Int) (kids2 : Fo) (A2 : Option Addr) (c2 : Nat) (bb oo c : Nat) (least : Int) (l : List UInt8) (w : World)
    (H1 : KidW w0 b k1 kids1 A1 c1 (Ty.need 4 true)) (H2 : KidW w0 b k2 kids2 A2 c2 (Ty.need 4 false))
    (hkid : ∀ W, Below w0.heap.size w0 W → W.cell? ⟨bb, oo, none⟩ = some (.int .i8 k1) ∧ W.cell? ⟨bb, oo + 1, none⟩ = some (.slice A1 (Ty.len kids1) c1) ∧ W.cell? ⟨bb, oo + 2, none⟩ = some (.int .i8 k2) ∧ W.cell? ⟨bb, oo + 2 + 1, none⟩ = some (.slice A2 (Ty.len kids2) c2))
    (hB : Below w0.heap.size w0 w) (hBl : Bld w0.heap.size b l w) (hbr : least ≤ 3) (hln : l.length + (Ty.txt k1 kids1 (Ty.need 4 true) ++ (32 :: (Ty.word 4 ++ (32 :: Ty.txt k2 kids2 (Ty.need 4 false))))).length ≤ 1000000000) :
    Calls Tryz.prog 77 #[.pointer (some ⟨b, 0, none⟩), .agg #[.int .i8 4, .slice (some ⟨bb, oo, none⟩) 2 c], .int .i64 least] w (WroteTxt w0.heap.size b l (Ty.txt k1 kids1 (Ty.need 4 true) ++ (32 :: (Ty.word 4 ++ (32 :: Ty.txt k2 kids2 (Ty.need 4 false))))) w) := by
  have hsz := hB.size
  have hbl := hBl.lt
  obtain ⟨hs1, hs2⟩ := hS.below hB
  have s0 := hs2 16 _ rfl
  have s1 := hs2 17 _ rfl
  have s2 := hs2 18 _ rfl
  have s3 := hs2 19 _ rfl
  have HS := Lib.hid (fun W (hb : Below w0.heap.size w0 W) => hS.below hb)
  have HK := Lib.hid hkid
  have K1 : Hid (KidW w0 b k1 kids1 A1 c1 3) := Lib.hid H1
  have K2 : Hid (KidW w0 b k2 kids2 A2 c2 4) := Lib.hid H2
  rw [show Ty.need 4 true = 3 from rfl, show Ty.need 4 false = 4 from rfl, show Ty.word 4 = [42] from rfl] at *
  generalize hT1 : Ty.txt k1 kids1 3 = T1 at *
  generalize hT2 : Ty.txt k2 kids2 4 = T2 at *
  have HLN := Lib.hid hln
  have e1 : (ByteArray.size ⟨#[32, 42, 32]⟩) = 3 := rfl
  have e2 : (ByteArray.size ⟨#[40]⟩) = 1 := rfl
  have e3 : (ByteArray.size ⟨#[41]⟩) = 1 := rfl
  have HE1 := Lib.hid e1
  have HE2 := Lib.hid e2
  have HE3 := Lib.hid e3
  have HB0 := Lib.hid hBl
  have Hne := Lib.hid (needs_any 4 (by omega))
  have HT1 := Lib.hid hT1
  have HT2 := Lib.hid hT2
  clear hln hs2 hkid H1 H2 e1 e2 e3 hBl hT1 hT2 hS
  obtain ⟨n0, n1, n2⟩ := two_new w (.cells #[.int .i8 4, .slice (some ⟨bb, oo, none⟩) 2 c] 25) (.cells #[.int .i8 4, .string ⟨#[42]⟩, .int .i64 2, .int .i64 3] 111)
  have hWr := ((Wrote.refl w0.heap.size b w).alloc hsz (.cells #[.int .i8 4, .slice (some ⟨bb, oo, none⟩) 2 c] 25)).alloc (by simp; omega) (.cells #[.int .i8 4, .string ⟨#[42]⟩, .int .i64 2, .int .i64 3] 111)
  have HBl := Lib.hid ((HB0.out.alloc (.cells #[.int .i8 4, .slice (some ⟨bb, oo, none⟩) 2 c] 25)).alloc (.cells #[.int .i8 4, .string ⟨#[42]⟩, .int .i64 2, .int .i64 3] 111))
  go_enter_defers Tryz.func77, Tryz.ntmps77
  go_wp2_with fail
  generalize (w.alloc (.cells #[.int .i8 4, .slice (some ⟨bb, oo, none⟩) 2 c] 25)).alloc (.cells #[.int .i8 4, .string ⟨#[42]⟩, .int .i64 2, .int .i64 3] 111) = W2 at *
  have hz2 : w0.heap.size ≤ W2.heap.size := by omega
  have hB2 := hB.trans hWr.below
  have R0 := Lib.hid n0
  have R1 := Lib.hid n1
  have HW := Lib.hid hWr
  obtain ⟨b0, b1, _, _, _⟩ := own2 R0.out
  obtain ⟨d0, d1, d2, d3, _, _, _, _, _⟩ := own4 R1.out
  obtain ⟨g0, g1, g2, g3⟩ := HK.out _ hB2
  clear n0 n1 n2 hWr
  refine (Hne.out _ (HS.out _ hB2)).mono ?_
  rintro e w' ⟨rfl, rfl⟩
  rw [show Ty.need 4 true = 3 from rfl, show Ty.need 4 false = 4 from rfl]
  go_wp2_with fail
  refine (K1.out _ (l) hB2 HBl.out (by rw [HT1.out]; have := HLN.out; simp at this ⊢; omega)).mono ?_
  rintro e W4 ⟨rfl, hbl4, hw4⟩
  rw [HT1.out] at hbl4
  have HBl4 := Lib.hid hbl4
  have HW4 := Lib.hid hw4
  clear hbl4 hw4 b0 b1 d0 d1 d2 d3 g0 g1 g2 g3
  have hB4 := hB2.trans HW4.out.below
  have hz4 : w0.heap.size ≤ W4.heap.size := by have := HW4.out.below.size; omega
  have R04 := Lib.hid (HW4.out.box R0.out (by omega) (by decide))
  have R14 := Lib.hid (HW4.out.box R1.out (by omega) (by decide))
  obtain ⟨b0, b1, _, _, _⟩ := own2 R04.out
  obtain ⟨d0, d1, d2, d3, _, _, _, _, _⟩ := own4 R14.out
  obtain ⟨g0, g1, g2, g3⟩ := HK.out _ hB4
  go_wp2_with fail
  refine (write_str w0.heap.size b (l ++ T1) ⟨#[32, 42, 32]⟩ _ HBl4.out (by rw [HE1.out]; have := HLN.out; simp at this ⊢; omega) hz4).mono ?_
  rintro e W5 ⟨rfl, hbl5, hw5⟩
  have HBl5 := Lib.hid hbl5
  have HW5 := Lib.hid hw5
  clear hbl5 hw5 b0 b1 d0 d1 d2 d3 g0 g1 g2 g3
  have hB5 := hB4.trans HW5.out.below
  have hz5 : w0.heap.size ≤ W5.heap.size := by have := HW5.out.below.size; omega
  have R05 := Lib.hid (HW5.out.box R04.out (by omega) (by decide))
  have R15 := Lib.hid (HW5.out.box R14.out (by omega) (by decide))
  obtain ⟨b0, b1, _, _, _⟩ := own2 R05.out
  obtain ⟨d0, d1, d2, d3, _, _, _, _, _⟩ := own4 R15.out
  obtain ⟨g0, g1, g2, g3⟩ := HK.out _ hB5
  go_wp2_with fail
  refine (K2.out _ (l ++ T1 ++ [32, 42, 32]) hB5 HBl5.out (by rw [HT2.out]; have := HLN.out; simp at this ⊢; omega)).mono ?_
  rintro e W6 ⟨rfl, hbl6, hw6⟩
  rw [HT2.out] at hbl6
  have HBl6 := Lib.hid hbl6
  have HW6 := Lib.hid hw6
  clear hbl6 hw6 b0 b1 d0 d1 d2 d3 g0 g1 g2 g3
  have hB6 := hB5.trans HW6.out.below
  have hz6 : w0.heap.size ≤ W6.heap.size := by have := HW6.out.below.size; omega
  have R06 := Lib.hid (HW6.out.box R05.out (by omega) (by decide))
  have R16 := Lib.hid (HW6.out.box R15.out (by omega) (by decide))
  obtain ⟨b0, b1, _, _, _⟩ := own2 R06.out
  obtain ⟨d0, d1, d2, d3, _, _, _, _, _⟩ := own4 R16.out
  obtain ⟨g0, g1, g2, g3⟩ := HK.out _ hB6
  go_wp2_with fail
  have hw := HW.out.trans (HW4.out.trans (HW5.out.trans (HW6.out)))
  refine ⟨_, results_none rfl _ _ _, rfl, ?_, hw⟩
  have hbl7 := HBl6.out
  simpa using hbl7

set_option maxHeartbeats 2000000 in
set_option maxRecDepth 100000 in
theorem write_4_br (w0 : World) (b : Nat) (hb : w0.heap.size ≤ b) (hS : Shapes w0) (k1 : Int) (kids1 : Fo) (A1 : Option Addr) (c1 : Nat) (k2 : Int) (kids2 : Fo) (A2 : Option Addr) (c2 : Nat) (bb oo c : Nat) (least : Int) (l : List UInt8) (w : World)
    (H1 : KidW w0 b k1 kids1 A1 c1 (Ty.need 4 true)) (H2 : KidW w0 b k2 kids2 A2 c2 (Ty.need 4 false))
    (hkid : ∀ W, Below w0.heap.size w0 W → W.cell? ⟨bb, oo, none⟩ = some (.int .i8 k1) ∧ W.cell? ⟨bb, oo + 1, none⟩ = some (.slice A1 (Ty.len kids1) c1) ∧ W.cell? ⟨bb, oo + 2, none⟩ = some (.int .i8 k2) ∧ W.cell? ⟨bb, oo + 2 + 1, none⟩ = some (.slice A2 (Ty.len kids2) c2))
    (hB : Below w0.heap.size w0 w) (hBl : Bld w0.heap.size b l w) (hbr : 3 < least) (hln : l.length + (40 :: ((Ty.txt k1 kids1 (Ty.need 4 true) ++ (32 :: (Ty.word 4 ++ (32 :: Ty.txt k2 kids2 (Ty.need 4 false))))) ++ [41])).length ≤ 1000000000) :
    Calls Tryz.prog 77 #[.pointer (some ⟨b, 0, none⟩), .agg #[.int .i8 4, .slice (some ⟨bb, oo, none⟩) 2 c], .int .i64 least] w (WroteTxt w0.heap.size b l (40 :: ((Ty.txt k1 kids1 (Ty.need 4 true) ++ (32 :: (Ty.word 4 ++ (32 :: Ty.txt k2 kids2 (Ty.need 4 false))))) ++ [41])) w) := by
  have hsz := hB.size
  have hbl := hBl.lt
  obtain ⟨hs1, hs2⟩ := hS.below hB
  have s0 := hs2 16 _ rfl
  have s1 := hs2 17 _ rfl
  have s2 := hs2 18 _ rfl
  have s3 := hs2 19 _ rfl
  have HS := Lib.hid (fun W (hb : Below w0.heap.size w0 W) => hS.below hb)
  have HK := Lib.hid hkid
  have K1 : Hid (KidW w0 b k1 kids1 A1 c1 3) := Lib.hid H1
  have K2 : Hid (KidW w0 b k2 kids2 A2 c2 4) := Lib.hid H2
  rw [show Ty.need 4 true = 3 from rfl, show Ty.need 4 false = 4 from rfl, show Ty.word 4 = [42] from rfl] at *
  generalize hT1 : Ty.txt k1 kids1 3 = T1 at *
  generalize hT2 : Ty.txt k2 kids2 4 = T2 at *
  have HLN := Lib.hid hln
  have e1 : (ByteArray.size ⟨#[32, 42, 32]⟩) = 3 := rfl
  have e2 : (ByteArray.size ⟨#[40]⟩) = 1 := rfl
  have e3 : (ByteArray.size ⟨#[41]⟩) = 1 := rfl
  have HE1 := Lib.hid e1
  have HE2 := Lib.hid e2
  have HE3 := Lib.hid e3
  have HB0 := Lib.hid hBl
  have Hne := Lib.hid (needs_any 4 (by omega))
  have HT1 := Lib.hid hT1
  have HT2 := Lib.hid hT2
  clear hln hs2 hkid H1 H2 e1 e2 e3 hBl hT1 hT2 hS
  obtain ⟨n0, n1, n2⟩ := two_new w (.cells #[.int .i8 4, .slice (some ⟨bb, oo, none⟩) 2 c] 25) (.cells #[.int .i8 4, .string ⟨#[42]⟩, .int .i64 2, .int .i64 3] 111)
  have hWr := ((Wrote.refl w0.heap.size b w).alloc hsz (.cells #[.int .i8 4, .slice (some ⟨bb, oo, none⟩) 2 c] 25)).alloc (by simp; omega) (.cells #[.int .i8 4, .string ⟨#[42]⟩, .int .i64 2, .int .i64 3] 111)
  have HBl := Lib.hid ((HB0.out.alloc (.cells #[.int .i8 4, .slice (some ⟨bb, oo, none⟩) 2 c] 25)).alloc (.cells #[.int .i8 4, .string ⟨#[42]⟩, .int .i64 2, .int .i64 3] 111))
  go_enter_defers Tryz.func77, Tryz.ntmps77
  go_wp2_with fail
  generalize (w.alloc (.cells #[.int .i8 4, .slice (some ⟨bb, oo, none⟩) 2 c] 25)).alloc (.cells #[.int .i8 4, .string ⟨#[42]⟩, .int .i64 2, .int .i64 3] 111) = W2 at *
  have hz2 : w0.heap.size ≤ W2.heap.size := by omega
  have hB2 := hB.trans hWr.below
  have R0 := Lib.hid n0
  have R1 := Lib.hid n1
  have HW := Lib.hid hWr
  obtain ⟨b0, b1, _, _, _⟩ := own2 R0.out
  obtain ⟨d0, d1, d2, d3, _, _, _, _, _⟩ := own4 R1.out
  obtain ⟨g0, g1, g2, g3⟩ := HK.out _ hB2
  clear n0 n1 n2 hWr
  refine (write_str w0.heap.size b (l) ⟨#[40]⟩ _ HBl.out (by rw [HE2.out]; have := HLN.out; simp at this ⊢; omega) hz2).mono ?_
  rintro e W3 ⟨rfl, hbl3, hw3⟩
  have HBl3 := Lib.hid hbl3
  have HW3 := Lib.hid hw3
  clear hbl3 hw3 b0 b1 d0 d1 d2 d3 g0 g1 g2 g3
  have hB3 := hB2.trans HW3.out.below
  have hz3 : w0.heap.size ≤ W3.heap.size := by have := HW3.out.below.size; omega
  have R03 := Lib.hid (HW3.out.box R0.out (by omega) (by decide))
  have R13 := Lib.hid (HW3.out.box R1.out (by omega) (by decide))
  obtain ⟨b0, b1, _, _, _⟩ := own2 R03.out
  obtain ⟨d0, d1, d2, d3, _, _, _, _, _⟩ := own4 R13.out
  obtain ⟨g0, g1, g2, g3⟩ := HK.out _ hB3
  go_wp2_with fail
  refine (Hne.out _ (HS.out _ hB3)).mono ?_
  rintro e w' ⟨rfl, rfl⟩
  rw [show Ty.need 4 true = 3 from rfl, show Ty.need 4 false = 4 from rfl]
  go_wp2_with fail
  refine (K1.out _ (l ++ [40]) hB3 HBl3.out (by rw [HT1.out]; have := HLN.out; simp at this ⊢; omega)).mono ?_
  rintro e W4 ⟨rfl, hbl4, hw4⟩
  rw [HT1.out] at hbl4
  have HBl4 := Lib.hid hbl4
  have HW4 := Lib.hid hw4
  clear hbl4 hw4 b0 b1 d0 d1 d2 d3 g0 g1 g2 g3
  have hB4 := hB3.trans HW4.out.below
  have hz4 : w0.heap.size ≤ W4.heap.size := by have := HW4.out.below.size; omega
  have R04 := Lib.hid (HW4.out.box R03.out (by omega) (by decide))
  have R14 := Lib.hid (HW4.out.box R13.out (by omega) (by decide))
  obtain ⟨b0, b1, _, _, _⟩ := own2 R04.out
  obtain ⟨d0, d1, d2, d3, _, _, _, _, _⟩ := own4 R14.out
  obtain ⟨g0, g1, g2, g3⟩ := HK.out _ hB4
  go_wp2_with fail
  refine (write_str w0.heap.size b (l ++ [40] ++ T1) ⟨#[32, 42, 32]⟩ _ HBl4.out (by rw [HE1.out]; have := HLN.out; simp at this ⊢; omega) hz4).mono ?_
  rintro e W5 ⟨rfl, hbl5, hw5⟩
  have HBl5 := Lib.hid hbl5
  have HW5 := Lib.hid hw5
  clear hbl5 hw5 b0 b1 d0 d1 d2 d3 g0 g1 g2 g3
  have hB5 := hB4.trans HW5.out.below
  have hz5 : w0.heap.size ≤ W5.heap.size := by have := HW5.out.below.size; omega
  have R05 := Lib.hid (HW5.out.box R04.out (by omega) (by decide))
  have R15 := Lib.hid (HW5.out.box R14.out (by omega) (by decide))
  obtain ⟨b0, b1, _, _, _⟩ := own2 R05.out
  obtain ⟨d0, d1, d2, d3, _, _, _, _, _⟩ := own4 R15.out
  obtain ⟨g0, g1, g2, g3⟩ := HK.out _ hB5
  go_wp2_with fail
  refine (K2.out _ (l ++ [40] ++ T1 ++ [32, 42, 32]) hB5 HBl5.out (by rw [HT2.out]; have := HLN.out; simp at this ⊢; omega)).mono ?_
  rintro e W6 ⟨rfl, hbl6, hw6⟩
  rw [HT2.out] at hbl6
  have HBl6 := Lib.hid hbl6
  have HW6 := Lib.hid hw6
  clear hbl6 hw6 b0 b1 d0 d1 d2 d3 g0 g1 g2 g3
  have hB6 := hB5.trans HW6.out.below
  have hz6 : w0.heap.size ≤ W6.heap.size := by have := HW6.out.below.size; omega
  have R06 := Lib.hid (HW6.out.box R05.out (by omega) (by decide))
  have R16 := Lib.hid (HW6.out.box R15.out (by omega) (by decide))
  obtain ⟨b0, b1, _, _, _⟩ := own2 R06.out
  obtain ⟨d0, d1, d2, d3, _, _, _, _, _⟩ := own4 R16.out
  obtain ⟨g0, g1, g2, g3⟩ := HK.out _ hB6
  go_wp2_with fail
  refine leaves_cons (f := 10) (args := #[.pointer (some ⟨b, 0, none⟩), .string ⟨#[41]⟩]) (by simp) (by simp [go_sem]) ?_
  refine (write_str_d w0.heap.size b (l ++ [40] ++ T1 ++ [32, 42, 32] ++ T2) ⟨#[41]⟩ _ HBl6.out (by rw [HE3.out]; have := HLN.out; simp at this ⊢; omega) hz6 _).mono ?_
  rintro e u' W7 ⟨rfl, rfl, hbl7, hw7⟩
  have hw := HW.out.trans (HW3.out.trans (HW4.out.trans (HW5.out.trans (HW6.out.trans hw7))))
  refine ⟨_, results_none rfl _ _ _, rfl, ?_, hw⟩
  simpa using hbl7

set_option maxHeartbeats 2000000 in
set_option maxRecDepth 100000 in
theorem write_5_no (w0 : World) (b : Nat) (hb : w0.heap.size ≤ b) (hS : Shapes w0) (k1 : Int) (kids1 : Fo) (A1 : Option Addr) (c1 : Nat) (k2 : Int) (kids2 : Fo) (A2 : Option Addr) (c2 : Nat) (bb oo c : Nat) (least : Int) (l : List UInt8) (w : World)
    (H1 : KidW w0 b k1 kids1 A1 c1 (Ty.need 5 true)) (H2 : KidW w0 b k2 kids2 A2 c2 (Ty.need 5 false))
    (hkid : ∀ W, Below w0.heap.size w0 W → W.cell? ⟨bb, oo, none⟩ = some (.int .i8 k1) ∧ W.cell? ⟨bb, oo + 1, none⟩ = some (.slice A1 (Ty.len kids1) c1) ∧ W.cell? ⟨bb, oo + 2, none⟩ = some (.int .i8 k2) ∧ W.cell? ⟨bb, oo + 2 + 1, none⟩ = some (.slice A2 (Ty.len kids2) c2))
    (hB : Below w0.heap.size w0 w) (hBl : Bld w0.heap.size b l w) (hbr : least ≤ 2) (hln : l.length + (Ty.txt k1 kids1 (Ty.need 5 true) ++ (32 :: (Ty.word 5 ++ (32 :: Ty.txt k2 kids2 (Ty.need 5 false))))).length ≤ 1000000000) :
    Calls Tryz.prog 77 #[.pointer (some ⟨b, 0, none⟩), .agg #[.int .i8 5, .slice (some ⟨bb, oo, none⟩) 2 c], .int .i64 least] w (WroteTxt w0.heap.size b l (Ty.txt k1 kids1 (Ty.need 5 true) ++ (32 :: (Ty.word 5 ++ (32 :: Ty.txt k2 kids2 (Ty.need 5 false))))) w) := by
  have hsz := hB.size
  have hbl := hBl.lt
  obtain ⟨hs1, hs2⟩ := hS.below hB
  have s0 := hs2 20 _ rfl
  have s1 := hs2 21 _ rfl
  have s2 := hs2 22 _ rfl
  have s3 := hs2 23 _ rfl
  have HS := Lib.hid (fun W (hb : Below w0.heap.size w0 W) => hS.below hb)
  have HK := Lib.hid hkid
  have K1 : Hid (KidW w0 b k1 kids1 A1 c1 2) := Lib.hid H1
  have K2 : Hid (KidW w0 b k2 kids2 A2 c2 3) := Lib.hid H2
  rw [show Ty.need 5 true = 2 from rfl, show Ty.need 5 false = 3 from rfl, show Ty.word 5 = [43] from rfl] at *
  generalize hT1 : Ty.txt k1 kids1 2 = T1 at *
  generalize hT2 : Ty.txt k2 kids2 3 = T2 at *
  have HLN := Lib.hid hln
  have e1 : (ByteArray.size ⟨#[32, 43, 32]⟩) = 3 := rfl
  have e2 : (ByteArray.size ⟨#[40]⟩) = 1 := rfl
  have e3 : (ByteArray.size ⟨#[41]⟩) = 1 := rfl
  have HE1 := Lib.hid e1
  have HE2 := Lib.hid e2
  have HE3 := Lib.hid e3
  have HB0 := Lib.hid hBl
  have Hne := Lib.hid (needs_any 5 (by omega))
  have HT1 := Lib.hid hT1
  have HT2 := Lib.hid hT2
  clear hln hs2 hkid H1 H2 e1 e2 e3 hBl hT1 hT2 hS
  obtain ⟨n0, n1, n2⟩ := two_new w (.cells #[.int .i8 5, .slice (some ⟨bb, oo, none⟩) 2 c] 25) (.cells #[.int .i8 4, .string ⟨#[43]⟩, .int .i64 2, .int .i64 2] 111)
  have hWr := ((Wrote.refl w0.heap.size b w).alloc hsz (.cells #[.int .i8 5, .slice (some ⟨bb, oo, none⟩) 2 c] 25)).alloc (by simp; omega) (.cells #[.int .i8 4, .string ⟨#[43]⟩, .int .i64 2, .int .i64 2] 111)
  have HBl := Lib.hid ((HB0.out.alloc (.cells #[.int .i8 5, .slice (some ⟨bb, oo, none⟩) 2 c] 25)).alloc (.cells #[.int .i8 4, .string ⟨#[43]⟩, .int .i64 2, .int .i64 2] 111))
  go_enter_defers Tryz.func77, Tryz.ntmps77
  go_wp2_with fail
  generalize (w.alloc (.cells #[.int .i8 5, .slice (some ⟨bb, oo, none⟩) 2 c] 25)).alloc (.cells #[.int .i8 4, .string ⟨#[43]⟩, .int .i64 2, .int .i64 2] 111) = W2 at *
  have hz2 : w0.heap.size ≤ W2.heap.size := by omega
  have hB2 := hB.trans hWr.below
  have R0 := Lib.hid n0
  have R1 := Lib.hid n1
  have HW := Lib.hid hWr
  obtain ⟨b0, b1, _, _, _⟩ := own2 R0.out
  obtain ⟨d0, d1, d2, d3, _, _, _, _, _⟩ := own4 R1.out
  obtain ⟨g0, g1, g2, g3⟩ := HK.out _ hB2
  clear n0 n1 n2 hWr
  refine (Hne.out _ (HS.out _ hB2)).mono ?_
  rintro e w' ⟨rfl, rfl⟩
  rw [show Ty.need 5 true = 2 from rfl, show Ty.need 5 false = 3 from rfl]
  go_wp2_with fail
  refine (K1.out _ (l) hB2 HBl.out (by rw [HT1.out]; have := HLN.out; simp at this ⊢; omega)).mono ?_
  rintro e W4 ⟨rfl, hbl4, hw4⟩
  rw [HT1.out] at hbl4
  have HBl4 := Lib.hid hbl4
  have HW4 := Lib.hid hw4
  clear hbl4 hw4 b0 b1 d0 d1 d2 d3 g0 g1 g2 g3
  have hB4 := hB2.trans HW4.out.below
  have hz4 : w0.heap.size ≤ W4.heap.size := by have := HW4.out.below.size; omega
  have R04 := Lib.hid (HW4.out.box R0.out (by omega) (by decide))
  have R14 := Lib.hid (HW4.out.box R1.out (by omega) (by decide))
  obtain ⟨b0, b1, _, _, _⟩ := own2 R04.out
  obtain ⟨d0, d1, d2, d3, _, _, _, _, _⟩ := own4 R14.out
  obtain ⟨g0, g1, g2, g3⟩ := HK.out _ hB4
  go_wp2_with fail
  refine (write_str w0.heap.size b (l ++ T1) ⟨#[32, 43, 32]⟩ _ HBl4.out (by rw [HE1.out]; have := HLN.out; simp at this ⊢; omega) hz4).mono ?_
  rintro e W5 ⟨rfl, hbl5, hw5⟩
  have HBl5 := Lib.hid hbl5
  have HW5 := Lib.hid hw5
  clear hbl5 hw5 b0 b1 d0 d1 d2 d3 g0 g1 g2 g3
  have hB5 := hB4.trans HW5.out.below
  have hz5 : w0.heap.size ≤ W5.heap.size := by have := HW5.out.below.size; omega
  have R05 := Lib.hid (HW5.out.box R04.out (by omega) (by decide))
  have R15 := Lib.hid (HW5.out.box R14.out (by omega) (by decide))
  obtain ⟨b0, b1, _, _, _⟩ := own2 R05.out
  obtain ⟨d0, d1, d2, d3, _, _, _, _, _⟩ := own4 R15.out
  obtain ⟨g0, g1, g2, g3⟩ := HK.out _ hB5
  go_wp2_with fail
  refine (K2.out _ (l ++ T1 ++ [32, 43, 32]) hB5 HBl5.out (by rw [HT2.out]; have := HLN.out; simp at this ⊢; omega)).mono ?_
  rintro e W6 ⟨rfl, hbl6, hw6⟩
  rw [HT2.out] at hbl6
  have HBl6 := Lib.hid hbl6
  have HW6 := Lib.hid hw6
  clear hbl6 hw6 b0 b1 d0 d1 d2 d3 g0 g1 g2 g3
  have hB6 := hB5.trans HW6.out.below
  have hz6 : w0.heap.size ≤ W6.heap.size := by have := HW6.out.below.size; omega
  have R06 := Lib.hid (HW6.out.box R05.out (by omega) (by decide))
  have R16 := Lib.hid (HW6.out.box R15.out (by omega) (by decide))
  obtain ⟨b0, b1, _, _, _⟩ := own2 R06.out
  obtain ⟨d0, d1, d2, d3, _, _, _, _, _⟩ := own4 R16.out
  obtain ⟨g0, g1, g2, g3⟩ := HK.out _ hB6
  go_wp2_with fail
  have hw := HW.out.trans (HW4.out.trans (HW5.out.trans (HW6.out)))
  refine ⟨_, results_none rfl _ _ _, rfl, ?_, hw⟩
  have hbl7 := HBl6.out
  simpa using hbl7

set_option maxHeartbeats 2000000 in
set_option maxRecDepth 100000 in
theorem write_5_br (w0 : World) (b : Nat) (hb : w0.heap.size ≤ b) (hS : Shapes w0) (k1 : Int) (kids1 : Fo) (A1 : Option Addr) (c1 : Nat) (k2 : Int) (kids2 : Fo) (A2 : Option Addr) (c2 : Nat) (bb oo c : Nat) (least : Int) (l : List UInt8) (w : World)
    (H1 : KidW w0 b k1 kids1 A1 c1 (Ty.need 5 true)) (H2 : KidW w0 b k2 kids2 A2 c2 (Ty.need 5 false))
    (hkid : ∀ W, Below w0.heap.size w0 W → W.cell? ⟨bb, oo, none⟩ = some (.int .i8 k1) ∧ W.cell? ⟨bb, oo + 1, none⟩ = some (.slice A1 (Ty.len kids1) c1) ∧ W.cell? ⟨bb, oo + 2, none⟩ = some (.int .i8 k2) ∧ W.cell? ⟨bb, oo + 2 + 1, none⟩ = some (.slice A2 (Ty.len kids2) c2))
    (hB : Below w0.heap.size w0 w) (hBl : Bld w0.heap.size b l w) (hbr : 2 < least) (hln : l.length + (40 :: ((Ty.txt k1 kids1 (Ty.need 5 true) ++ (32 :: (Ty.word 5 ++ (32 :: Ty.txt k2 kids2 (Ty.need 5 false))))) ++ [41])).length ≤ 1000000000) :
    Calls Tryz.prog 77 #[.pointer (some ⟨b, 0, none⟩), .agg #[.int .i8 5, .slice (some ⟨bb, oo, none⟩) 2 c], .int .i64 least] w (WroteTxt w0.heap.size b l (40 :: ((Ty.txt k1 kids1 (Ty.need 5 true) ++ (32 :: (Ty.word 5 ++ (32 :: Ty.txt k2 kids2 (Ty.need 5 false))))) ++ [41])) w) := by
  have hsz := hB.size
  have hbl := hBl.lt
  obtain ⟨hs1, hs2⟩ := hS.below hB
  have s0 := hs2 20 _ rfl
  have s1 := hs2 21 _ rfl
  have s2 := hs2 22 _ rfl
  have s3 := hs2 23 _ rfl
  have HS := Lib.hid (fun W (hb : Below w0.heap.size w0 W) => hS.below hb)
  have HK := Lib.hid hkid
  have K1 : Hid (KidW w0 b k1 kids1 A1 c1 2) := Lib.hid H1
  have K2 : Hid (KidW w0 b k2 kids2 A2 c2 3) := Lib.hid H2
  rw [show Ty.need 5 true = 2 from rfl, show Ty.need 5 false = 3 from rfl, show Ty.word 5 = [43] from rfl] at *
  generalize hT1 : Ty.txt k1 kids1 2 = T1 at *
  generalize hT2 : Ty.txt k2 kids2 3 = T2 at *
  have HLN := Lib.hid hln
  have e1 : (ByteArray.size ⟨#[32, 43, 32]⟩) = 3 := rfl
  have e2 : (ByteArray.size ⟨#[40]⟩) = 1 := rfl
  have e3 : (ByteArray.size ⟨#[41]⟩) = 1 := rfl
  have HE1 := Lib.hid e1
  have HE2 := Lib.hid e2
  have HE3 := Lib.hid e3
  have HB0 := Lib.hid hBl
  have Hne := Lib.hid (needs_any 5 (by omega))
  have HT1 := Lib.hid hT1
  have HT2 := Lib.hid hT2
  clear hln hs2 hkid H1 H2 e1 e2 e3 hBl hT1 hT2 hS
  obtain ⟨n0, n1, n2⟩ := two_new w (.cells #[.int .i8 5, .slice (some ⟨bb, oo, none⟩) 2 c] 25) (.cells #[.int .i8 4, .string ⟨#[43]⟩, .int .i64 2, .int .i64 2] 111)
  have hWr := ((Wrote.refl w0.heap.size b w).alloc hsz (.cells #[.int .i8 5, .slice (some ⟨bb, oo, none⟩) 2 c] 25)).alloc (by simp; omega) (.cells #[.int .i8 4, .string ⟨#[43]⟩, .int .i64 2, .int .i64 2] 111)
  have HBl := Lib.hid ((HB0.out.alloc (.cells #[.int .i8 5, .slice (some ⟨bb, oo, none⟩) 2 c] 25)).alloc (.cells #[.int .i8 4, .string ⟨#[43]⟩, .int .i64 2, .int .i64 2] 111))
  go_enter_defers Tryz.func77, Tryz.ntmps77
  go_wp2_with fail
  generalize (w.alloc (.cells #[.int .i8 5, .slice (some ⟨bb, oo, none⟩) 2 c] 25)).alloc (.cells #[.int .i8 4, .string ⟨#[43]⟩, .int .i64 2, .int .i64 2] 111) = W2 at *
  have hz2 : w0.heap.size ≤ W2.heap.size := by omega
  have hB2 := hB.trans hWr.below
  have R0 := Lib.hid n0
  have R1 := Lib.hid n1
  have HW := Lib.hid hWr
  obtain ⟨b0, b1, _, _, _⟩ := own2 R0.out
  obtain ⟨d0, d1, d2, d3, _, _, _, _, _⟩ := own4 R1.out
  obtain ⟨g0, g1, g2, g3⟩ := HK.out _ hB2
  clear n0 n1 n2 hWr
  refine (write_str w0.heap.size b (l) ⟨#[40]⟩ _ HBl.out (by rw [HE2.out]; have := HLN.out; simp at this ⊢; omega) hz2).mono ?_
  rintro e W3 ⟨rfl, hbl3, hw3⟩
  have HBl3 := Lib.hid hbl3
  have HW3 := Lib.hid hw3
  clear hbl3 hw3 b0 b1 d0 d1 d2 d3 g0 g1 g2 g3
  have hB3 := hB2.trans HW3.out.below
  have hz3 : w0.heap.size ≤ W3.heap.size := by have := HW3.out.below.size; omega
  have R03 := Lib.hid (HW3.out.box R0.out (by omega) (by decide))
  have R13 := Lib.hid (HW3.out.box R1.out (by omega) (by decide))
  obtain ⟨b0, b1, _, _, _⟩ := own2 R03.out
  obtain ⟨d0, d1, d2, d3, _, _, _, _, _⟩ := own4 R13.out
  obtain ⟨g0, g1, g2, g3⟩ := HK.out _ hB3
  go_wp2_with fail
  refine (Hne.out _ (HS.out _ hB3)).mono ?_
  rintro e w' ⟨rfl, rfl⟩
  rw [show Ty.need 5 true = 2 from rfl, show Ty.need 5 false = 3 from rfl]
  go_wp2_with fail
  refine (K1.out _ (l ++ [40]) hB3 HBl3.out (by rw [HT1.out]; have := HLN.out; simp at this ⊢; omega)).mono ?_
  rintro e W4 ⟨rfl, hbl4, hw4⟩
  rw [HT1.out] at hbl4
  have HBl4 := Lib.hid hbl4
  have HW4 := Lib.hid hw4
  clear hbl4 hw4 b0 b1 d0 d1 d2 d3 g0 g1 g2 g3
  have hB4 := hB3.trans HW4.out.below
  have hz4 : w0.heap.size ≤ W4.heap.size := by have := HW4.out.below.size; omega
  have R04 := Lib.hid (HW4.out.box R03.out (by omega) (by decide))
  have R14 := Lib.hid (HW4.out.box R13.out (by omega) (by decide))
  obtain ⟨b0, b1, _, _, _⟩ := own2 R04.out
  obtain ⟨d0, d1, d2, d3, _, _, _, _, _⟩ := own4 R14.out
  obtain ⟨g0, g1, g2, g3⟩ := HK.out _ hB4
  go_wp2_with fail
  refine (write_str w0.heap.size b (l ++ [40] ++ T1) ⟨#[32, 43, 32]⟩ _ HBl4.out (by rw [HE1.out]; have := HLN.out; simp at this ⊢; omega) hz4).mono ?_
  rintro e W5 ⟨rfl, hbl5, hw5⟩
  have HBl5 := Lib.hid hbl5
  have HW5 := Lib.hid hw5
  clear hbl5 hw5 b0 b1 d0 d1 d2 d3 g0 g1 g2 g3
  have hB5 := hB4.trans HW5.out.below
  have hz5 : w0.heap.size ≤ W5.heap.size := by have := HW5.out.below.size; omega
  have R05 := Lib.hid (HW5.out.box R04.out (by omega) (by decide))
  have R15 := Lib.hid (HW5.out.box R14.out (by omega) (by decide))
  obtain ⟨b0, b1, _, _, _⟩ := own2 R05.out
  obtain ⟨d0, d1, d2, d3, _, _, _, _, _⟩ := own4 R15.out
  obtain ⟨g0, g1, g2, g3⟩ := HK.out _ hB5
  go_wp2_with fail
  refine (K2.out _ (l ++ [40] ++ T1 ++ [32, 43, 32]) hB5 HBl5.out (by rw [HT2.out]; have := HLN.out; simp at this ⊢; omega)).mono ?_
  rintro e W6 ⟨rfl, hbl6, hw6⟩
  rw [HT2.out] at hbl6
  have HBl6 := Lib.hid hbl6
  have HW6 := Lib.hid hw6
  clear hbl6 hw6 b0 b1 d0 d1 d2 d3 g0 g1 g2 g3
  have hB6 := hB5.trans HW6.out.below
  have hz6 : w0.heap.size ≤ W6.heap.size := by have := HW6.out.below.size; omega
  have R06 := Lib.hid (HW6.out.box R05.out (by omega) (by decide))
  have R16 := Lib.hid (HW6.out.box R15.out (by omega) (by decide))
  obtain ⟨b0, b1, _, _, _⟩ := own2 R06.out
  obtain ⟨d0, d1, d2, d3, _, _, _, _, _⟩ := own4 R16.out
  obtain ⟨g0, g1, g2, g3⟩ := HK.out _ hB6
  go_wp2_with fail
  refine leaves_cons (f := 10) (args := #[.pointer (some ⟨b, 0, none⟩), .string ⟨#[41]⟩]) (by simp) (by simp [go_sem]) ?_
  refine (write_str_d w0.heap.size b (l ++ [40] ++ T1 ++ [32, 43, 32] ++ T2) ⟨#[41]⟩ _ HBl6.out (by rw [HE3.out]; have := HLN.out; simp at this ⊢; omega) hz6 _).mono ?_
  rintro e u' W7 ⟨rfl, rfl, hbl7, hw7⟩
  have hw := HW.out.trans (HW3.out.trans (HW4.out.trans (HW5.out.trans (HW6.out.trans hw7))))
  refine ⟨_, results_none rfl _ _ _, rfl, ?_, hw⟩
  simpa using hbl7
end Go.Proofs.YtdeomggkhbdkaaaGreatDoor
