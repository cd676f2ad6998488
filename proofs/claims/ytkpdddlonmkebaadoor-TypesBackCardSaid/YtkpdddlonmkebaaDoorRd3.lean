/-
  Which kind the word at hand is for.
-/
import Derived.Test.YtkpdddlonmkebaaDoorRd2
namespace Go.Proofs.YtkpdddlonmkebaaDoor
open Go.RowKit Rd

theorem WRow.below {w w' : World} {A : Option Addr} {l : List W4} (h : WRow w A l) (hb : Below w.heap.size w w') : WRow w' A l := fun i x hx => by
  obtain ⟨g, o, e, h0, h1, h2, h3⟩ := h i x hx
  have hc := fun (q : Nat) => hb.cell (p := ⟨g, q, none⟩) (Ty.cell_lt h0)
  exact ⟨g, o, e, by rw [hc]; exact h0, by rw [hc]; exact h1, by rw [hc]; exact h2, by rw [hc]; exact h3⟩

/-- what kind(0) tells -/
def kind0V (l : List W4) (i : Nat) : Value := match Rd.atK l i with | some k => .tuple #[.int .i8 k, .bool true] | none => .tuple #[.int .i8 0, .bool false]
set_option maxHeartbeats 8000000 in
set_option maxRecDepth 100000 in
theorem kind0_any (l : List W4) (A : Option Addr) (c rb i : Nat) (w : World) (hl : l.length ≤ maxLen) (hi : i ≤ l.length) (hS : Shapes w) (hR : Rdr w rb A l.length c i) (hW : WRow w A l) :
    Calls Tryd.prog 35 #[.pointer (some ⟨rb, 0, none⟩), .int .i64 0] w fun e w' => e = .returned (kind0V l i) ∧ Below w.heap.size w w' := by
  have CS := Lib.hid (fun (W : World) (hb : Below w.heap.size w W) (k : Int) (s : ByteArray) => sees_any l A c rb i k s W hl hi (heap_below hb (heap_lt hR) hR) (hW.below hb))
  have HS := Lib.hid hS
  obtain ⟨R, hRR⟩ : ∃ R, R = kind0V l i := ⟨_, rfl⟩
  rw [← hRR]
  have HRR := Lib.hid hRR
  clear hS hR hW hRR hl hi
  go_enter Tryd.func35, Tryd.ntmps35
  go_wp2_with fail
  go_loopw [8] (fun v wr => ∃ k : Nat, v = .int .i64 k ∧ k ≤ 6 ∧ Below w.heap.size w wr ∧ (1 ≤ k → Rd.sees l i 4 [63] = false) ∧ (2 ≤ k → Rd.sees l i 3 sInt = false) ∧ (3 ≤ k → Rd.sees l i 3 sBool = false)) (fun v _ => 6 - (intOf v).toNat)
  case atStart => exact ⟨0, rfl, by omega, Below.refl _ _, fun h => absurd h (by omega), fun h => absurd h (by omega), fun h => absurd h (by omega)⟩
  case round =>
    obtain ⟨k, rfl, hk, hb, n0, n1, n2⟩ := hrel
    have hS := HS.out.below hb
    obtain ⟨hsl, hsc⟩ := hS
    have HN := Lib.hid (And.intro n0 (And.intro n1 n2))
    have HB := Lib.hid hb
    have zb := hb.size
    clear n0 n1 n2 hb
    rcases (by omega : k = 0 ∨ k = 1 ∨ k = 2 ∨ k = 3 ∨ k = 4 ∨ k = 5 ∨ k = 6) with rfl | rfl | rfl | rfl | rfl | rfl | rfl
    · have s0 := hsc 0 _ rfl
      have s1 := hsc 1 _ rfl
      have s2 := hsc 2 _ rfl
      have s3 := hsc 3 _ rfl
      clear hsc
      have hlit : (⟨#[63]⟩ : ByteArray).toList = [63] := (Lib.toList_data _).trans rfl
      have hb1 : Below w.heap.size w (wr.alloc (.cells #[.int .i8 4, .string ⟨#[63]⟩, .int .i64 0, .int .i64 4] 80)) := HB.out.alloc zb _
      have cs := CS.out _ hb1 4 ⟨#[63]⟩
      rw [hlit] at cs
      cases hse : Rd.sees l i 4 [63]
      · rw [hse] at cs
        have CC := Lib.hid cs
        have HE := Lib.hid hse
        have HB1 := Lib.hid hb1
        clear cs hse hlit hb1
        go_wp2_with fail
        refine CC.out.mono ?_
        rintro e w2 ⟨rfl, m, rfl⟩
        have HB2 := Lib.hid (below_drewN HB1.out m)
        go_wp2_with fail
        go_roundw
        case rel =>
          have hse := HE.out
          exact ⟨1, by go_num, by omega, HB2.out, by first | exact fun _ => hse | exact hse | trivial, by first | exact fun h => absurd h (by omega) | trivial, by first | exact fun h => absurd h (by omega) | trivial⟩
        case measure => simp [intOf]
      · rw [hse] at cs
        have CC := Lib.hid cs
        have HB1 := Lib.hid hb1
        have hv : R = .tuple #[.int .i8 0, .bool true] := by
          rw [HRR.out]
          unfold kind0V Rd.atK
          simp [hse]
        clear cs hse hlit hb1
        subst hv
        go_wp2_with fail
        refine CC.out.mono ?_
        rintro e w2 ⟨rfl, m, rfl⟩
        have HB2 := Lib.hid (below_drewN HB1.out m)
        go_wp2_with fail
        go_ret2
        exact ⟨rfl, HB2.out⟩
    · have s0 := hsc 4 _ rfl
      have s1 := hsc 5 _ rfl
      have s2 := hsc 6 _ rfl
      have s3 := hsc 7 _ rfl
      clear hsc
      have hlit : (⟨#[105, 110, 116]⟩ : ByteArray).toList = sInt := (Lib.toList_data _).trans rfl
      have hb1 : Below w.heap.size w (wr.alloc (.cells #[.int .i8 3, .string ⟨#[105, 110, 116]⟩, .int .i64 0, .int .i64 4] 80)) := HB.out.alloc zb _
      have cs := CS.out _ hb1 3 ⟨#[105, 110, 116]⟩
      rw [hlit] at cs
      cases hse : Rd.sees l i 3 sInt
      · rw [hse] at cs
        have CC := Lib.hid cs
        have HE := Lib.hid hse
        have HB1 := Lib.hid hb1
        clear cs hse hlit hb1
        go_wp2_with fail
        refine CC.out.mono ?_
        rintro e w2 ⟨rfl, m, rfl⟩
        have HB2 := Lib.hid (below_drewN HB1.out m)
        go_wp2_with fail
        go_roundw
        case rel =>
          have hse := HE.out
          exact ⟨2, by go_num, by omega, HB2.out, by first | exact fun _ => HN.out.1 (by omega) | exact HN.out.1 (by omega) | trivial, by first | exact fun _ => hse | exact hse | trivial, by first | exact fun h => absurd h (by omega) | trivial⟩
        case measure => simp [intOf]
      · rw [hse] at cs
        have CC := Lib.hid cs
        have HB1 := Lib.hid hb1
        have hv : R = .tuple #[.int .i8 1, .bool true] := by
          rw [HRR.out]
          unfold kind0V Rd.atK
          simp [hse, (HN.out.1 (by omega))]
        clear cs hse hlit hb1
        subst hv
        go_wp2_with fail
        refine CC.out.mono ?_
        rintro e w2 ⟨rfl, m, rfl⟩
        have HB2 := Lib.hid (below_drewN HB1.out m)
        go_wp2_with fail
        go_ret2
        exact ⟨rfl, HB2.out⟩
    · have s0 := hsc 8 _ rfl
      have s1 := hsc 9 _ rfl
      have s2 := hsc 10 _ rfl
      have s3 := hsc 11 _ rfl
      clear hsc
      have hlit : (⟨#[98, 111, 111, 108]⟩ : ByteArray).toList = sBool := (Lib.toList_data _).trans rfl
      have hb1 : Below w.heap.size w (wr.alloc (.cells #[.int .i8 3, .string ⟨#[98, 111, 111, 108]⟩, .int .i64 0, .int .i64 4] 80)) := HB.out.alloc zb _
      have cs := CS.out _ hb1 3 ⟨#[98, 111, 111, 108]⟩
      rw [hlit] at cs
      cases hse : Rd.sees l i 3 sBool
      · rw [hse] at cs
        have CC := Lib.hid cs
        have HE := Lib.hid hse
        have HB1 := Lib.hid hb1
        clear cs hse hlit hb1
        go_wp2_with fail
        refine CC.out.mono ?_
        rintro e w2 ⟨rfl, m, rfl⟩
        have HB2 := Lib.hid (below_drewN HB1.out m)
        go_wp2_with fail
        go_roundw
        case rel =>
          have hse := HE.out
          exact ⟨3, by go_num, by omega, HB2.out, by first | exact fun _ => HN.out.1 (by omega) | exact HN.out.1 (by omega) | trivial, by first | exact fun _ => HN.out.2.1 (by omega) | exact HN.out.2.1 (by omega) | trivial, by first | exact fun _ => hse | exact hse | trivial⟩
        case measure => simp [intOf]
      · rw [hse] at cs
        have CC := Lib.hid cs
        have HB1 := Lib.hid hb1
        have hv : R = .tuple #[.int .i8 2, .bool true] := by
          rw [HRR.out]
          unfold kind0V Rd.atK
          simp [hse, (HN.out.1 (by omega)), (HN.out.2.1 (by omega))]
        clear cs hse hlit hb1
        subst hv
        go_wp2_with fail
        refine CC.out.mono ?_
        rintro e w2 ⟨rfl, m, rfl⟩
        have HB2 := Lib.hid (below_drewN HB1.out m)
        go_wp2_with fail
        go_ret2
        exact ⟨rfl, HB2.out⟩
    · have s0 := hsc 12 _ rfl
      have s1 := hsc 13 _ rfl
      have s2 := hsc 14 _ rfl
      have s3 := hsc 15 _ rfl
      clear hsc
      have hb1 := Lib.hid (HB.out.alloc zb (.cells #[.int .i8 4, .string ⟨#[45, 62]⟩, .int .i64 2, .int .i64 1] 80))
      go_wp2_with fail
      go_roundw
      case rel => exact ⟨4, by go_num, by omega, hb1.out, by first | exact fun _ => HN.out.1 (by omega) | exact HN.out.1 (by omega) | trivial, by first | exact fun _ => HN.out.2.1 (by omega) | exact HN.out.2.1 (by omega) | trivial, by first | exact fun _ => HN.out.2.2 (by omega) | exact HN.out.2.2 (by omega) | trivial⟩
      case measure => simp [intOf]
    · have s0 := hsc 16 _ rfl
      have s1 := hsc 17 _ rfl
      have s2 := hsc 18 _ rfl
      have s3 := hsc 19 _ rfl
      clear hsc
      have hb1 := Lib.hid (HB.out.alloc zb (.cells #[.int .i8 4, .string ⟨#[42]⟩, .int .i64 2, .int .i64 3] 80))
      go_wp2_with fail
      go_roundw
      case rel => exact ⟨5, by go_num, by omega, hb1.out, by first | exact fun _ => HN.out.1 (by omega) | exact HN.out.1 (by omega) | trivial, by first | exact fun _ => HN.out.2.1 (by omega) | exact HN.out.2.1 (by omega) | trivial, by first | exact fun _ => HN.out.2.2 (by omega) | exact HN.out.2.2 (by omega) | trivial⟩
      case measure => simp [intOf]
    · have s0 := hsc 20 _ rfl
      have s1 := hsc 21 _ rfl
      have s2 := hsc 22 _ rfl
      have s3 := hsc 23 _ rfl
      clear hsc
      have hb1 := Lib.hid (HB.out.alloc zb (.cells #[.int .i8 4, .string ⟨#[43]⟩, .int .i64 2, .int .i64 2] 80))
      go_wp2_with fail
      go_roundw
      case rel => exact ⟨6, by go_num, by omega, hb1.out, by first | exact fun _ => HN.out.1 (by omega) | exact HN.out.1 (by omega) | trivial, by first | exact fun _ => HN.out.2.1 (by omega) | exact HN.out.2.1 (by omega) | trivial, by first | exact fun _ => HN.out.2.2 (by omega) | exact HN.out.2.2 (by omega) | trivial⟩
      case measure => simp [intOf]
    · have hv : R = .tuple #[.int .i8 0, .bool false] := by
        rw [HRR.out]
        unfold kind0V Rd.atK
        simp [HN.out.1 (by omega), HN.out.2.1 (by omega), HN.out.2.2 (by omega)]
      clear hsc
      subst hv
      go_wp2_with fail
      go_ret2
      exact ⟨rfl, HB.out⟩

/-- what kind(2) tells -/
def kind2V (l : List W4) (i : Nat) : Value := if Rd.opK l i = 0 then .tuple #[.int .i8 0, .bool false] else .tuple #[.int .i8 (Rd.opK l i), .bool true]
set_option maxHeartbeats 8000000 in
set_option maxRecDepth 100000 in
theorem kind2_any (l : List W4) (A : Option Addr) (c rb i : Nat) (w : World) (hl : l.length ≤ maxLen) (hi : i ≤ l.length) (hS : Shapes w) (hR : Rdr w rb A l.length c i) (hW : WRow w A l) :
    Calls Tryd.prog 35 #[.pointer (some ⟨rb, 0, none⟩), .int .i64 2] w fun e w' => e = .returned (kind2V l i) ∧ Below w.heap.size w w' := by
  have CS := Lib.hid (fun (W : World) (hb : Below w.heap.size w W) (k : Int) (s : ByteArray) => sees_any l A c rb i k s W hl hi (heap_below hb (heap_lt hR) hR) (hW.below hb))
  have HS := Lib.hid hS
  obtain ⟨R, hRR⟩ : ∃ R, R = kind2V l i := ⟨_, rfl⟩
  rw [← hRR]
  have HRR := Lib.hid hRR
  clear hS hR hW hRR hl hi
  go_enter Tryd.func35, Tryd.ntmps35
  go_wp2_with fail
  go_loopw [8] (fun v wr => ∃ k : Nat, v = .int .i64 k ∧ k ≤ 6 ∧ Below w.heap.size w wr ∧ (4 ≤ k → Rd.sees l i 4 sArrow = false) ∧ (5 ≤ k → Rd.sees l i 4 [42] = false) ∧ (6 ≤ k → Rd.sees l i 4 [43] = false)) (fun v _ => 6 - (intOf v).toNat)
  case atStart => exact ⟨0, rfl, by omega, Below.refl _ _, fun h => absurd h (by omega), fun h => absurd h (by omega), fun h => absurd h (by omega)⟩
  case round =>
    obtain ⟨k, rfl, hk, hb, n0, n1, n2⟩ := hrel
    have hS := HS.out.below hb
    obtain ⟨hsl, hsc⟩ := hS
    have HN := Lib.hid (And.intro n0 (And.intro n1 n2))
    have HB := Lib.hid hb
    have zb := hb.size
    clear n0 n1 n2 hb
    rcases (by omega : k = 0 ∨ k = 1 ∨ k = 2 ∨ k = 3 ∨ k = 4 ∨ k = 5 ∨ k = 6) with rfl | rfl | rfl | rfl | rfl | rfl | rfl
    · have s0 := hsc 0 _ rfl
      have s1 := hsc 1 _ rfl
      have s2 := hsc 2 _ rfl
      have s3 := hsc 3 _ rfl
      clear hsc
      have hb1 := Lib.hid (HB.out.alloc zb (.cells #[.int .i8 4, .string ⟨#[63]⟩, .int .i64 0, .int .i64 4] 80))
      go_wp2_with fail
      go_roundw
      case rel => exact ⟨1, by go_num, by omega, hb1.out, by first | exact fun h => absurd h (by omega) | trivial, by first | exact fun h => absurd h (by omega) | trivial, by first | exact fun h => absurd h (by omega) | trivial⟩
      case measure => simp [intOf]
    · have s0 := hsc 4 _ rfl
      have s1 := hsc 5 _ rfl
      have s2 := hsc 6 _ rfl
      have s3 := hsc 7 _ rfl
      clear hsc
      have hb1 := Lib.hid (HB.out.alloc zb (.cells #[.int .i8 3, .string ⟨#[105, 110, 116]⟩, .int .i64 0, .int .i64 4] 80))
      go_wp2_with fail
      go_roundw
      case rel => exact ⟨2, by go_num, by omega, hb1.out, by first | exact fun h => absurd h (by omega) | trivial, by first | exact fun h => absurd h (by omega) | trivial, by first | exact fun h => absurd h (by omega) | trivial⟩
      case measure => simp [intOf]
    · have s0 := hsc 8 _ rfl
      have s1 := hsc 9 _ rfl
      have s2 := hsc 10 _ rfl
      have s3 := hsc 11 _ rfl
      clear hsc
      have hb1 := Lib.hid (HB.out.alloc zb (.cells #[.int .i8 3, .string ⟨#[98, 111, 111, 108]⟩, .int .i64 0, .int .i64 4] 80))
      go_wp2_with fail
      go_roundw
      case rel => exact ⟨3, by go_num, by omega, hb1.out, by first | exact fun h => absurd h (by omega) | trivial, by first | exact fun h => absurd h (by omega) | trivial, by first | exact fun h => absurd h (by omega) | trivial⟩
      case measure => simp [intOf]
    · have s0 := hsc 12 _ rfl
      have s1 := hsc 13 _ rfl
      have s2 := hsc 14 _ rfl
      have s3 := hsc 15 _ rfl
      clear hsc
      have hlit : (⟨#[45, 62]⟩ : ByteArray).toList = sArrow := (Lib.toList_data _).trans rfl
      have hb1 : Below w.heap.size w (wr.alloc (.cells #[.int .i8 4, .string ⟨#[45, 62]⟩, .int .i64 2, .int .i64 1] 80)) := HB.out.alloc zb _
      have cs := CS.out _ hb1 4 ⟨#[45, 62]⟩
      rw [hlit] at cs
      cases hse : Rd.sees l i 4 sArrow
      · rw [hse] at cs
        have CC := Lib.hid cs
        have HE := Lib.hid hse
        have HB1 := Lib.hid hb1
        clear cs hse hlit hb1
        go_wp2_with fail
        refine CC.out.mono ?_
        rintro e w2 ⟨rfl, m, rfl⟩
        have HB2 := Lib.hid (below_drewN HB1.out m)
        go_wp2_with fail
        go_roundw
        case rel =>
          have hse := HE.out
          exact ⟨4, by go_num, by omega, HB2.out, by first | exact fun _ => hse | exact hse | trivial, by first | exact fun h => absurd h (by omega) | trivial, by first | exact fun h => absurd h (by omega) | trivial⟩
        case measure => simp [intOf]
      · rw [hse] at cs
        have CC := Lib.hid cs
        have HB1 := Lib.hid hb1
        have hv : R = .tuple #[.int .i8 3, .bool true] := by
          rw [HRR.out]
          unfold kind2V Rd.opK
          simp [hse]
        clear cs hse hlit hb1
        subst hv
        go_wp2_with fail
        refine CC.out.mono ?_
        rintro e w2 ⟨rfl, m, rfl⟩
        have HB2 := Lib.hid (below_drewN HB1.out m)
        go_wp2_with fail
        go_ret2
        exact ⟨rfl, HB2.out⟩
    · have s0 := hsc 16 _ rfl
      have s1 := hsc 17 _ rfl
      have s2 := hsc 18 _ rfl
      have s3 := hsc 19 _ rfl
      clear hsc
      have hlit : (⟨#[42]⟩ : ByteArray).toList = [42] := (Lib.toList_data _).trans rfl
      have hb1 : Below w.heap.size w (wr.alloc (.cells #[.int .i8 4, .string ⟨#[42]⟩, .int .i64 2, .int .i64 3] 80)) := HB.out.alloc zb _
      have cs := CS.out _ hb1 4 ⟨#[42]⟩
      rw [hlit] at cs
      cases hse : Rd.sees l i 4 [42]
      · rw [hse] at cs
        have CC := Lib.hid cs
        have HE := Lib.hid hse
        have HB1 := Lib.hid hb1
        clear cs hse hlit hb1
        go_wp2_with fail
        refine CC.out.mono ?_
        rintro e w2 ⟨rfl, m, rfl⟩
        have HB2 := Lib.hid (below_drewN HB1.out m)
        go_wp2_with fail
        go_roundw
        case rel =>
          have hse := HE.out
          exact ⟨5, by go_num, by omega, HB2.out, by first | exact fun _ => HN.out.1 (by omega) | exact HN.out.1 (by omega) | trivial, by first | exact fun _ => hse | exact hse | trivial, by first | exact fun h => absurd h (by omega) | trivial⟩
        case measure => simp [intOf]
      · rw [hse] at cs
        have CC := Lib.hid cs
        have HB1 := Lib.hid hb1
        have hv : R = .tuple #[.int .i8 4, .bool true] := by
          rw [HRR.out]
          unfold kind2V Rd.opK
          simp [hse, (HN.out.1 (by omega))]
        clear cs hse hlit hb1
        subst hv
        go_wp2_with fail
        refine CC.out.mono ?_
        rintro e w2 ⟨rfl, m, rfl⟩
        have HB2 := Lib.hid (below_drewN HB1.out m)
        go_wp2_with fail
        go_ret2
        exact ⟨rfl, HB2.out⟩
    · have s0 := hsc 20 _ rfl
      have s1 := hsc 21 _ rfl
      have s2 := hsc 22 _ rfl
      have s3 := hsc 23 _ rfl
      clear hsc
      have hlit : (⟨#[43]⟩ : ByteArray).toList = [43] := (Lib.toList_data _).trans rfl
      have hb1 : Below w.heap.size w (wr.alloc (.cells #[.int .i8 4, .string ⟨#[43]⟩, .int .i64 2, .int .i64 2] 80)) := HB.out.alloc zb _
      have cs := CS.out _ hb1 4 ⟨#[43]⟩
      rw [hlit] at cs
      cases hse : Rd.sees l i 4 [43]
      · rw [hse] at cs
        have CC := Lib.hid cs
        have HE := Lib.hid hse
        have HB1 := Lib.hid hb1
        clear cs hse hlit hb1
        go_wp2_with fail
        refine CC.out.mono ?_
        rintro e w2 ⟨rfl, m, rfl⟩
        have HB2 := Lib.hid (below_drewN HB1.out m)
        go_wp2_with fail
        go_roundw
        case rel =>
          have hse := HE.out
          exact ⟨6, by go_num, by omega, HB2.out, by first | exact fun _ => HN.out.1 (by omega) | exact HN.out.1 (by omega) | trivial, by first | exact fun _ => HN.out.2.1 (by omega) | exact HN.out.2.1 (by omega) | trivial, by first | exact fun _ => hse | exact hse | trivial⟩
        case measure => simp [intOf]
      · rw [hse] at cs
        have CC := Lib.hid cs
        have HB1 := Lib.hid hb1
        have hv : R = .tuple #[.int .i8 5, .bool true] := by
          rw [HRR.out]
          unfold kind2V Rd.opK
          simp [hse, (HN.out.1 (by omega)), (HN.out.2.1 (by omega))]
        clear cs hse hlit hb1
        subst hv
        go_wp2_with fail
        refine CC.out.mono ?_
        rintro e w2 ⟨rfl, m, rfl⟩
        have HB2 := Lib.hid (below_drewN HB1.out m)
        go_wp2_with fail
        go_ret2
        exact ⟨rfl, HB2.out⟩
    · have hv : R = .tuple #[.int .i8 0, .bool false] := by
        rw [HRR.out]
        unfold kind2V Rd.opK
        simp [HN.out.1 (by omega), HN.out.2.1 (by omega), HN.out.2.2 (by omega)]
      clear hsc
      subst hv
      go_wp2_with fail
      go_ret2
      exact ⟨rfl, HB.out⟩
end Go.Proofs.YtkpdddlonmkebaaDoor
