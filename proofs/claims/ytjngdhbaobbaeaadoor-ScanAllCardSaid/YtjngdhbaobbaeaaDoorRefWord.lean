/-
  The reference's word: each branch.
-/
import Derived.Test.YtjngdhbaobbaeaaDoorRefNum
import Derived.BigRegion
namespace Go.Proofs.YtjngdhbaobbaeaaDoor
open Go.RowKit


set_option maxHeartbeats 1000000 in
set_option maxRecDepth 100000 in
theorem rword_long (s : ByteArray) (a : Nat) (_hs : s.size ≤ 65536) (ha : a < s.size)
    (en : Nat) (_h1 : a ≤ en) (h2 : en ≤ s.size)
    (hL : ∀ w : World, Calls Tryd.prog 22 #[.int .u8 ((s[a]).toNat : Int)] w fun e w' => e = .returned (.bool true) ∧ w = w')
    (hR : ∀ w : World, Calls Tryd.prog 34 #[.string s, .int .i64 a, .bool true] w fun e w' => e = .returned (.int .i64 en) ∧ w = w')
    (h64 : 64 < en - a) (w : World) :
    Calls Tryd.prog 20 #[.string s, .int .i64 a] w fun e w' => e = .returned (.tuple #[.agg #[.int .i8 0, .string ⟨#[]⟩, .int .i64 0, .int .i64 0], .int .i64 0, .agg #[.int .i64 3, .int .i64 a, .string (s.extract a en)]]) ∧ Below w.heap.size w w' := by
  have i0 : (a : Int) < s.size := by omega
  have i1 : (en : Int) ≤ s.size := by omega
  have i2 : (a : Int) ≤ en := by omega
  have hx : (s.extract a en).size = en - a := by simp; omega
  go_enter Tryd.func20, Tryd.ntmps20
  go_wp2_with (first | (go_at_call 22; refine (hL _).mono ?_; rintro e w1 ⟨rfl, rfl⟩) | (go_at_call 34; refine (hR _).mono ?_; rintro e w1 ⟨rfl, rfl⟩))
  refine bodyPost_ret (v := .tuple #[.agg #[.int .i8 0, .string ⟨#[]⟩, .int .i64 0, .int .i64 0], .int .i64 0, .agg #[.int .i64 3, .int .i64 a, .string (s.extract a en)]]) (by simp [results, Tryd.results20, go_sem]) rfl ⟨rfl, ?_⟩
  first | exact ((Below.refl _ _).alloc (Nat.le_refl _) _).alloc (by simp) _ | exact (((Below.refl _ _).alloc (Nat.le_refl _) _).alloc (by simp) _).drew

set_option maxHeartbeats 1000000 in
set_option maxRecDepth 100000 in
theorem rword_key (s : ByteArray) (a : Nat) (_hs : s.size ≤ 65536) (ha : a < s.size)
    (en : Nat) (_h1 : a ≤ en) (h2 : en ≤ s.size)
    (hL : ∀ w : World, Calls Tryd.prog 22 #[.int .u8 ((s[a]).toNat : Int)] w fun e w' => e = .returned (.bool true) ∧ w = w')
    (hR : ∀ w : World, Calls Tryd.prog 34 #[.string s, .int .i64 a, .bool true] w fun e w' => e = .returned (.int .i64 en) ∧ w = w')
    (hK : ∀ w : World, Calls Tryd.prog 13 #[.string (s.extract a en)] w fun e w' => e = .returned (.bool true) ∧ w = w')
    (h64 : ¬ 64 < en - a) (w : World) :
    Calls Tryd.prog 20 #[.string s, .int .i64 a] w fun e w' => e = .returned (.tuple #[.agg #[.int .i8 3, .string (s.extract a en), .int .i64 0, .int .i64 a], .int .i64 en, .agg #[.int .i64 0, .int .i64 0, .string ⟨#[]⟩]]) ∧ Below w.heap.size w w' := by
  have i0 : (a : Int) < s.size := by omega
  have i1 : (en : Int) ≤ s.size := by omega
  have i2 : (a : Int) ≤ en := by omega
  have hx : (s.extract a en).size = en - a := by simp; omega
  go_enter Tryd.func20, Tryd.ntmps20
  go_wp2_with (first | (go_at_call 22; refine (hL _).mono ?_; rintro e w1 ⟨rfl, rfl⟩) | (go_at_call 34; refine (hR _).mono ?_; rintro e w1 ⟨rfl, rfl⟩) | (go_at_call 13; refine (hK _).mono ?_; rintro e w1 ⟨rfl, rfl⟩))
  refine bodyPost_ret (v := .tuple #[.agg #[.int .i8 3, .string (s.extract a en), .int .i64 0, .int .i64 a], .int .i64 en, .agg #[.int .i64 0, .int .i64 0, .string ⟨#[]⟩]]) (by simp [results, Tryd.results20, go_sem]) rfl ⟨rfl, ?_⟩
  first | exact ((Below.refl _ _).alloc (Nat.le_refl _) _).alloc (by simp) _ | exact (((Below.refl _ _).alloc (Nat.le_refl _) _).alloc (by simp) _).drew

set_option maxHeartbeats 1000000 in
set_option maxRecDepth 100000 in
theorem rword_name (s : ByteArray) (a : Nat) (_hs : s.size ≤ 65536) (ha : a < s.size)
    (en : Nat) (_h1 : a ≤ en) (h2 : en ≤ s.size)
    (hL : ∀ w : World, Calls Tryd.prog 22 #[.int .u8 ((s[a]).toNat : Int)] w fun e w' => e = .returned (.bool true) ∧ w = w')
    (hR : ∀ w : World, Calls Tryd.prog 34 #[.string s, .int .i64 a, .bool true] w fun e w' => e = .returned (.int .i64 en) ∧ w = w')
    (hK : ∀ w : World, Calls Tryd.prog 13 #[.string (s.extract a en)] w fun e w' => e = .returned (.bool false) ∧ w = w')
    (h64 : ¬ 64 < en - a) (w : World) :
    Calls Tryd.prog 20 #[.string s, .int .i64 a] w fun e w' => e = .returned (.tuple #[.agg #[.int .i8 1, .string (s.extract a en), .int .i64 0, .int .i64 a], .int .i64 en, .agg #[.int .i64 0, .int .i64 0, .string ⟨#[]⟩]]) ∧ Below w.heap.size w w' := by
  have i0 : (a : Int) < s.size := by omega
  have i1 : (en : Int) ≤ s.size := by omega
  have i2 : (a : Int) ≤ en := by omega
  have hx : (s.extract a en).size = en - a := by simp; omega
  go_enter Tryd.func20, Tryd.ntmps20
  go_wp2_with (first | (go_at_call 22; refine (hL _).mono ?_; rintro e w1 ⟨rfl, rfl⟩) | (go_at_call 34; refine (hR _).mono ?_; rintro e w1 ⟨rfl, rfl⟩) | (go_at_call 13; refine (hK _).mono ?_; rintro e w1 ⟨rfl, rfl⟩))
  refine bodyPost_ret (v := .tuple #[.agg #[.int .i8 1, .string (s.extract a en), .int .i64 0, .int .i64 a], .int .i64 en, .agg #[.int .i64 0, .int .i64 0, .string ⟨#[]⟩]]) (by simp [results, Tryd.results20, go_sem]) rfl ⟨rfl, ?_⟩
  first | exact ((Below.refl _ _).alloc (Nat.le_refl _) _).alloc (by simp) _ | exact (((Below.refl _ _).alloc (Nat.le_refl _) _).alloc (by simp) _).drew

set_option maxHeartbeats 1000000 in
set_option maxRecDepth 100000 in
theorem rword_over (s : ByteArray) (a : Nat) (_hs : s.size ≤ 65536) (ha : a < s.size)
    (en : Nat) (_h1 : a ≤ en) (h2 : en ≤ s.size)
    (R : Int)
    (hL : ∀ w : World, Calls Tryd.prog 22 #[.int .u8 ((s[a]).toNat : Int)] w fun e w' => e = .returned (.bool false) ∧ w = w')
    (hD : ∀ w : World, Calls Tryd.prog 23 #[.int .u8 ((s[a]).toNat : Int)] w fun e w' => e = .returned (.bool true) ∧ w = w')
    (hR : ∀ w : World, Calls Tryd.prog 34 #[.string s, .int .i64 a, .bool false] w fun e w' => e = .returned (.int .i64 en) ∧ w = w')
    (hN : ∀ w : World, Calls Tryd.prog 35 #[.string (s.extract a en)] w fun e w' => e = .returned (.tuple #[.int .i64 R, .bool false]) ∧ w = w')
    (w : World) :
    Calls Tryd.prog 20 #[.string s, .int .i64 a] w fun e w' => e = .returned (.tuple #[.agg #[.int .i8 0, .string ⟨#[]⟩, .int .i64 0, .int .i64 0], .int .i64 0, .agg #[.int .i64 3, .int .i64 a, .string (s.extract a en)]]) ∧ Below w.heap.size w w' := by
  have i0 : (a : Int) < s.size := by omega
  have i1 : (en : Int) ≤ s.size := by omega
  have i2 : (a : Int) ≤ en := by omega
  have hx : (s.extract a en).size = en - a := by simp; omega
  go_enter Tryd.func20, Tryd.ntmps20
  go_wp2_with (first | (go_at_call 22; refine (hL _).mono ?_; rintro e w1 ⟨rfl, rfl⟩) | (go_at_call 23; refine (hD _).mono ?_; rintro e w1 ⟨rfl, rfl⟩) | (go_at_call 34; refine (hR _).mono ?_; rintro e w1 ⟨rfl, rfl⟩) | (go_at_call 35; refine (hN _).mono ?_; rintro e w1 ⟨rfl, rfl⟩))
  refine bodyPost_ret (v := .tuple #[.agg #[.int .i8 0, .string ⟨#[]⟩, .int .i64 0, .int .i64 0], .int .i64 0, .agg #[.int .i64 3, .int .i64 a, .string (s.extract a en)]]) (by simp [results, Tryd.results20, go_sem]) rfl ⟨rfl, ?_⟩
  first | exact ((Below.refl _ _).alloc (Nat.le_refl _) _).alloc (by simp) _ | exact (((Below.refl _ _).alloc (Nat.le_refl _) _).alloc (by simp) _).drew

set_option maxHeartbeats 1000000 in
set_option maxRecDepth 100000 in
theorem rword_zero (s : ByteArray) (a : Nat) (_hs : s.size ≤ 65536) (ha : a < s.size)
    (en : Nat) (_h1 : a ≤ en) (h2 : en ≤ s.size)
    (R : Int)
    (hL : ∀ w : World, Calls Tryd.prog 22 #[.int .u8 ((s[a]).toNat : Int)] w fun e w' => e = .returned (.bool false) ∧ w = w')
    (hD : ∀ w : World, Calls Tryd.prog 23 #[.int .u8 ((s[a]).toNat : Int)] w fun e w' => e = .returned (.bool true) ∧ w = w')
    (hR : ∀ w : World, Calls Tryd.prog 34 #[.string s, .int .i64 a, .bool false] w fun e w' => e = .returned (.int .i64 en) ∧ w = w')
    (hN : ∀ w : World, Calls Tryd.prog 35 #[.string (s.extract a en)] w fun e w' => e = .returned (.tuple #[.int .i64 R, .bool true]) ∧ w = w')
    (h48 : (((s[a]).toNat : Int) == 48) = true) (_hlen : 1 < en - a)
    (w : World) :
    Calls Tryd.prog 20 #[.string s, .int .i64 a] w fun e w' => e = .returned (.tuple #[.agg #[.int .i8 0, .string ⟨#[]⟩, .int .i64 0, .int .i64 0], .int .i64 0, .agg #[.int .i64 10, .int .i64 a, .string (s.extract a en)]]) ∧ Below w.heap.size w w' := by
  have i0 : (a : Int) < s.size := by omega
  have i1 : (en : Int) ≤ s.size := by omega
  have i2 : (a : Int) ≤ en := by omega
  have hx : (s.extract a en).size = en - a := by simp; omega
  go_enter Tryd.func20, Tryd.ntmps20
  go_wp2_with (first | (go_at_call 22; refine (hL _).mono ?_; rintro e w1 ⟨rfl, rfl⟩) | (go_at_call 23; refine (hD _).mono ?_; rintro e w1 ⟨rfl, rfl⟩) | (go_at_call 34; refine (hR _).mono ?_; rintro e w1 ⟨rfl, rfl⟩) | (go_at_call 35; refine (hN _).mono ?_; rintro e w1 ⟨rfl, rfl⟩))
  refine bodyPost_ret (v := .tuple #[.agg #[.int .i8 0, .string ⟨#[]⟩, .int .i64 0, .int .i64 0], .int .i64 0, .agg #[.int .i64 10, .int .i64 a, .string (s.extract a en)]]) (by simp [results, Tryd.results20, go_sem]) rfl ⟨rfl, ?_⟩
  first | exact ((Below.refl _ _).alloc (Nat.le_refl _) _).alloc (by simp) _ | exact (((Below.refl _ _).alloc (Nat.le_refl _) _).alloc (by simp) _).drew

set_option maxHeartbeats 1000000 in
set_option maxRecDepth 100000 in
theorem rword_letter1 (s : ByteArray) (a : Nat) (_hs : s.size ≤ 65536) (ha : a < s.size)
    (en : Nat) (_h1 : a ≤ en) (h2 : en ≤ s.size)
    (R : Int) (he : en < s.size)
    (hL : ∀ w : World, Calls Tryd.prog 22 #[.int .u8 ((s[a]).toNat : Int)] w fun e w' => e = .returned (.bool false) ∧ w = w')
    (hD : ∀ w : World, Calls Tryd.prog 23 #[.int .u8 ((s[a]).toNat : Int)] w fun e w' => e = .returned (.bool true) ∧ w = w')
    (hR : ∀ w : World, Calls Tryd.prog 34 #[.string s, .int .i64 a, .bool false] w fun e w' => e = .returned (.int .i64 en) ∧ w = w')
    (hN : ∀ w : World, Calls Tryd.prog 35 #[.string (s.extract a en)] w fun e w' => e = .returned (.tuple #[.int .i64 R, .bool true]) ∧ w = w')
    (h48 : (((s[a]).toNat : Int) == 48) = false) (_hlen : 1 < en - a ∨ en - a ≤ 1)
    (hL2 : ∀ w : World, Calls Tryd.prog 22 #[.int .u8 ((s[en]).toNat : Int)] w fun e w' => e = .returned (.bool true) ∧ w = w')
    (w : World) :
    Calls Tryd.prog 20 #[.string s, .int .i64 a] w fun e w' => e = .returned (.tuple #[.agg #[.int .i8 0, .string ⟨#[]⟩, .int .i64 0, .int .i64 0], .int .i64 0, .agg #[.int .i64 10, .int .i64 a, .string (s.extract a en)]]) ∧ Below w.heap.size w w' := by
  have i0 : (a : Int) < s.size := by omega
  have i1 : (en : Int) < s.size := by omega
  have i2 : (a : Int) ≤ en := by omega
  have hx : (s.extract a en).size = en - a := by simp; omega
  go_enter Tryd.func20, Tryd.ntmps20
  go_wp2_with fail
  refine (hL _).mono ?_
  rintro e w1 ⟨rfl, rfl⟩
  go_wp2_with (first | (go_at_call 23; refine (hD _).mono ?_; rintro e w1 ⟨rfl, rfl⟩) | (go_at_call 34; refine (hR _).mono ?_; rintro e w1 ⟨rfl, rfl⟩) | (go_at_call 35; refine (hN _).mono ?_; rintro e w1 ⟨rfl, rfl⟩) | (go_at_call 22; refine (hL2 _).mono ?_; rintro e w1 ⟨rfl, rfl⟩))
  refine bodyPost_ret (v := .tuple #[.agg #[.int .i8 0, .string ⟨#[]⟩, .int .i64 0, .int .i64 0], .int .i64 0, .agg #[.int .i64 10, .int .i64 a, .string (s.extract a en)]]) (by simp [results, Tryd.results20, go_sem]) rfl ⟨rfl, ?_⟩
  first | exact ((Below.refl _ _).alloc (Nat.le_refl _) _).alloc (by simp) _ | exact (((Below.refl _ _).alloc (Nat.le_refl _) _).alloc (by simp) _).drew

set_option maxHeartbeats 1000000 in
set_option maxRecDepth 100000 in
theorem rword_num1 (s : ByteArray) (a : Nat) (_hs : s.size ≤ 65536) (ha : a < s.size)
    (en : Nat) (_h1 : a ≤ en) (h2 : en ≤ s.size)
    (R : Int) (he : en < s.size)
    (hL : ∀ w : World, Calls Tryd.prog 22 #[.int .u8 ((s[a]).toNat : Int)] w fun e w' => e = .returned (.bool false) ∧ w = w')
    (hD : ∀ w : World, Calls Tryd.prog 23 #[.int .u8 ((s[a]).toNat : Int)] w fun e w' => e = .returned (.bool true) ∧ w = w')
    (hR : ∀ w : World, Calls Tryd.prog 34 #[.string s, .int .i64 a, .bool false] w fun e w' => e = .returned (.int .i64 en) ∧ w = w')
    (hN : ∀ w : World, Calls Tryd.prog 35 #[.string (s.extract a en)] w fun e w' => e = .returned (.tuple #[.int .i64 R, .bool true]) ∧ w = w')
    (h48 : (((s[a]).toNat : Int) == 48) = false) (_hlen : 1 < en - a ∨ en - a ≤ 1)
    (hL2 : ∀ w : World, Calls Tryd.prog 22 #[.int .u8 ((s[en]).toNat : Int)] w fun e w' => e = .returned (.bool false) ∧ w = w')
    (w : World) :
    Calls Tryd.prog 20 #[.string s, .int .i64 a] w fun e w' => e = .returned (.tuple #[.agg #[.int .i8 2, .string (s.extract a en), .int .i64 R, .int .i64 a], .int .i64 en, .agg #[.int .i64 0, .int .i64 0, .string ⟨#[]⟩]]) ∧ Below w.heap.size w w' := by
  have i0 : (a : Int) < s.size := by omega
  have i1 : (en : Int) < s.size := by omega
  have i2 : (a : Int) ≤ en := by omega
  have hx : (s.extract a en).size = en - a := by simp; omega
  go_enter Tryd.func20, Tryd.ntmps20
  go_wp2_with fail
  refine (hL _).mono ?_
  rintro e w1 ⟨rfl, rfl⟩
  go_wp2_with (first | (go_at_call 23; refine (hD _).mono ?_; rintro e w1 ⟨rfl, rfl⟩) | (go_at_call 34; refine (hR _).mono ?_; rintro e w1 ⟨rfl, rfl⟩) | (go_at_call 35; refine (hN _).mono ?_; rintro e w1 ⟨rfl, rfl⟩) | (go_at_call 22; refine (hL2 _).mono ?_; rintro e w1 ⟨rfl, rfl⟩))
  refine bodyPost_ret (v := .tuple #[.agg #[.int .i8 2, .string (s.extract a en), .int .i64 R, .int .i64 a], .int .i64 en, .agg #[.int .i64 0, .int .i64 0, .string ⟨#[]⟩]]) (by simp [results, Tryd.results20, go_sem]) rfl ⟨rfl, ?_⟩
  first | exact ((Below.refl _ _).alloc (Nat.le_refl _) _).alloc (by simp) _ | exact (((Below.refl _ _).alloc (Nat.le_refl _) _).alloc (by simp) _).drew

set_option maxHeartbeats 1000000 in
set_option maxRecDepth 100000 in
theorem rword_numend1 (s : ByteArray) (a : Nat) (_hs : s.size ≤ 65536) (ha : a < s.size)
    (en : Nat) (_h1 : a ≤ en) (h2 : en ≤ s.size)
    (R : Int) (he : ¬ en < s.size)
    (hL : ∀ w : World, Calls Tryd.prog 22 #[.int .u8 ((s[a]).toNat : Int)] w fun e w' => e = .returned (.bool false) ∧ w = w')
    (hD : ∀ w : World, Calls Tryd.prog 23 #[.int .u8 ((s[a]).toNat : Int)] w fun e w' => e = .returned (.bool true) ∧ w = w')
    (hR : ∀ w : World, Calls Tryd.prog 34 #[.string s, .int .i64 a, .bool false] w fun e w' => e = .returned (.int .i64 en) ∧ w = w')
    (hN : ∀ w : World, Calls Tryd.prog 35 #[.string (s.extract a en)] w fun e w' => e = .returned (.tuple #[.int .i64 R, .bool true]) ∧ w = w')
    (h48 : (((s[a]).toNat : Int) == 48) = false) (_hlen : 1 < en - a ∨ en - a ≤ 1)
    (w : World) :
    Calls Tryd.prog 20 #[.string s, .int .i64 a] w fun e w' => e = .returned (.tuple #[.agg #[.int .i8 2, .string (s.extract a en), .int .i64 R, .int .i64 a], .int .i64 en, .agg #[.int .i64 0, .int .i64 0, .string ⟨#[]⟩]]) ∧ Below w.heap.size w w' := by
  have i0 : (a : Int) < s.size := by omega
  have i1 : (en : Int) ≤ s.size := by omega
  have i2 : (a : Int) ≤ en := by omega
  have hx : (s.extract a en).size = en - a := by simp; omega
  go_enter Tryd.func20, Tryd.ntmps20
  go_wp2_with (first | (go_at_call 22; refine (hL _).mono ?_; rintro e w1 ⟨rfl, rfl⟩) | (go_at_call 23; refine (hD _).mono ?_; rintro e w1 ⟨rfl, rfl⟩) | (go_at_call 34; refine (hR _).mono ?_; rintro e w1 ⟨rfl, rfl⟩) | (go_at_call 35; refine (hN _).mono ?_; rintro e w1 ⟨rfl, rfl⟩))
  refine bodyPost_ret (v := .tuple #[.agg #[.int .i8 2, .string (s.extract a en), .int .i64 R, .int .i64 a], .int .i64 en, .agg #[.int .i64 0, .int .i64 0, .string ⟨#[]⟩]]) (by simp [results, Tryd.results20, go_sem]) rfl ⟨rfl, ?_⟩
  first | exact ((Below.refl _ _).alloc (Nat.le_refl _) _).alloc (by simp) _ | exact (((Below.refl _ _).alloc (Nat.le_refl _) _).alloc (by simp) _).drew

set_option maxHeartbeats 1000000 in
set_option maxRecDepth 100000 in
theorem rword_letter2 (s : ByteArray) (a : Nat) (_hs : s.size ≤ 65536) (ha : a < s.size)
    (en : Nat) (_h1 : a ≤ en) (h2 : en ≤ s.size)
    (R : Int) (he : en < s.size)
    (hL : ∀ w : World, Calls Tryd.prog 22 #[.int .u8 ((s[a]).toNat : Int)] w fun e w' => e = .returned (.bool false) ∧ w = w')
    (hD : ∀ w : World, Calls Tryd.prog 23 #[.int .u8 ((s[a]).toNat : Int)] w fun e w' => e = .returned (.bool true) ∧ w = w')
    (hR : ∀ w : World, Calls Tryd.prog 34 #[.string s, .int .i64 a, .bool false] w fun e w' => e = .returned (.int .i64 en) ∧ w = w')
    (hN : ∀ w : World, Calls Tryd.prog 35 #[.string (s.extract a en)] w fun e w' => e = .returned (.tuple #[.int .i64 R, .bool true]) ∧ w = w')
    (h48 : (((s[a]).toNat : Int) == 48) = true) (_hlen : ¬ 1 < en - a)
    (hL2 : ∀ w : World, Calls Tryd.prog 22 #[.int .u8 ((s[en]).toNat : Int)] w fun e w' => e = .returned (.bool true) ∧ w = w')
    (w : World) :
    Calls Tryd.prog 20 #[.string s, .int .i64 a] w fun e w' => e = .returned (.tuple #[.agg #[.int .i8 0, .string ⟨#[]⟩, .int .i64 0, .int .i64 0], .int .i64 0, .agg #[.int .i64 10, .int .i64 a, .string (s.extract a en)]]) ∧ Below w.heap.size w w' := by
  have i0 : (a : Int) < s.size := by omega
  have i1 : (en : Int) < s.size := by omega
  have i2 : (a : Int) ≤ en := by omega
  have hx : (s.extract a en).size = en - a := by simp; omega
  go_enter Tryd.func20, Tryd.ntmps20
  go_wp2_with fail
  refine (hL _).mono ?_
  rintro e w1 ⟨rfl, rfl⟩
  go_wp2_with (first | (go_at_call 23; refine (hD _).mono ?_; rintro e w1 ⟨rfl, rfl⟩) | (go_at_call 34; refine (hR _).mono ?_; rintro e w1 ⟨rfl, rfl⟩) | (go_at_call 35; refine (hN _).mono ?_; rintro e w1 ⟨rfl, rfl⟩) | (go_at_call 22; refine (hL2 _).mono ?_; rintro e w1 ⟨rfl, rfl⟩))
  refine bodyPost_ret (v := .tuple #[.agg #[.int .i8 0, .string ⟨#[]⟩, .int .i64 0, .int .i64 0], .int .i64 0, .agg #[.int .i64 10, .int .i64 a, .string (s.extract a en)]]) (by simp [results, Tryd.results20, go_sem]) rfl ⟨rfl, ?_⟩
  first | exact ((Below.refl _ _).alloc (Nat.le_refl _) _).alloc (by simp) _ | exact (((Below.refl _ _).alloc (Nat.le_refl _) _).alloc (by simp) _).drew

set_option maxHeartbeats 1000000 in
set_option maxRecDepth 100000 in
theorem rword_num2 (s : ByteArray) (a : Nat) (_hs : s.size ≤ 65536) (ha : a < s.size)
    (en : Nat) (_h1 : a ≤ en) (h2 : en ≤ s.size)
    (R : Int) (he : en < s.size)
    (hL : ∀ w : World, Calls Tryd.prog 22 #[.int .u8 ((s[a]).toNat : Int)] w fun e w' => e = .returned (.bool false) ∧ w = w')
    (hD : ∀ w : World, Calls Tryd.prog 23 #[.int .u8 ((s[a]).toNat : Int)] w fun e w' => e = .returned (.bool true) ∧ w = w')
    (hR : ∀ w : World, Calls Tryd.prog 34 #[.string s, .int .i64 a, .bool false] w fun e w' => e = .returned (.int .i64 en) ∧ w = w')
    (hN : ∀ w : World, Calls Tryd.prog 35 #[.string (s.extract a en)] w fun e w' => e = .returned (.tuple #[.int .i64 R, .bool true]) ∧ w = w')
    (h48 : (((s[a]).toNat : Int) == 48) = true) (_hlen : ¬ 1 < en - a)
    (hL2 : ∀ w : World, Calls Tryd.prog 22 #[.int .u8 ((s[en]).toNat : Int)] w fun e w' => e = .returned (.bool false) ∧ w = w')
    (w : World) :
    Calls Tryd.prog 20 #[.string s, .int .i64 a] w fun e w' => e = .returned (.tuple #[.agg #[.int .i8 2, .string (s.extract a en), .int .i64 R, .int .i64 a], .int .i64 en, .agg #[.int .i64 0, .int .i64 0, .string ⟨#[]⟩]]) ∧ Below w.heap.size w w' := by
  have i0 : (a : Int) < s.size := by omega
  have i1 : (en : Int) < s.size := by omega
  have i2 : (a : Int) ≤ en := by omega
  have hx : (s.extract a en).size = en - a := by simp; omega
  go_enter Tryd.func20, Tryd.ntmps20
  go_wp2_with fail
  refine (hL _).mono ?_
  rintro e w1 ⟨rfl, rfl⟩
  go_wp2_with (first | (go_at_call 23; refine (hD _).mono ?_; rintro e w1 ⟨rfl, rfl⟩) | (go_at_call 34; refine (hR _).mono ?_; rintro e w1 ⟨rfl, rfl⟩) | (go_at_call 35; refine (hN _).mono ?_; rintro e w1 ⟨rfl, rfl⟩) | (go_at_call 22; refine (hL2 _).mono ?_; rintro e w1 ⟨rfl, rfl⟩))
  refine bodyPost_ret (v := .tuple #[.agg #[.int .i8 2, .string (s.extract a en), .int .i64 R, .int .i64 a], .int .i64 en, .agg #[.int .i64 0, .int .i64 0, .string ⟨#[]⟩]]) (by simp [results, Tryd.results20, go_sem]) rfl ⟨rfl, ?_⟩
  first | exact ((Below.refl _ _).alloc (Nat.le_refl _) _).alloc (by simp) _ | exact (((Below.refl _ _).alloc (Nat.le_refl _) _).alloc (by simp) _).drew

set_option maxHeartbeats 1000000 in
set_option maxRecDepth 100000 in
theorem rword_numend2 (s : ByteArray) (a : Nat) (_hs : s.size ≤ 65536) (ha : a < s.size)
    (en : Nat) (_h1 : a ≤ en) (h2 : en ≤ s.size)
    (R : Int) (he : ¬ en < s.size)
    (hL : ∀ w : World, Calls Tryd.prog 22 #[.int .u8 ((s[a]).toNat : Int)] w fun e w' => e = .returned (.bool false) ∧ w = w')
    (hD : ∀ w : World, Calls Tryd.prog 23 #[.int .u8 ((s[a]).toNat : Int)] w fun e w' => e = .returned (.bool true) ∧ w = w')
    (hR : ∀ w : World, Calls Tryd.prog 34 #[.string s, .int .i64 a, .bool false] w fun e w' => e = .returned (.int .i64 en) ∧ w = w')
    (hN : ∀ w : World, Calls Tryd.prog 35 #[.string (s.extract a en)] w fun e w' => e = .returned (.tuple #[.int .i64 R, .bool true]) ∧ w = w')
    (h48 : (((s[a]).toNat : Int) == 48) = true) (_hlen : ¬ 1 < en - a)
    (w : World) :
    Calls Tryd.prog 20 #[.string s, .int .i64 a] w fun e w' => e = .returned (.tuple #[.agg #[.int .i8 2, .string (s.extract a en), .int .i64 R, .int .i64 a], .int .i64 en, .agg #[.int .i64 0, .int .i64 0, .string ⟨#[]⟩]]) ∧ Below w.heap.size w w' := by
  have i0 : (a : Int) < s.size := by omega
  have i1 : (en : Int) ≤ s.size := by omega
  have i2 : (a : Int) ≤ en := by omega
  have hx : (s.extract a en).size = en - a := by simp; omega
  go_enter Tryd.func20, Tryd.ntmps20
  go_wp2_with (first | (go_at_call 22; refine (hL _).mono ?_; rintro e w1 ⟨rfl, rfl⟩) | (go_at_call 23; refine (hD _).mono ?_; rintro e w1 ⟨rfl, rfl⟩) | (go_at_call 34; refine (hR _).mono ?_; rintro e w1 ⟨rfl, rfl⟩) | (go_at_call 35; refine (hN _).mono ?_; rintro e w1 ⟨rfl, rfl⟩))
  refine bodyPost_ret (v := .tuple #[.agg #[.int .i8 2, .string (s.extract a en), .int .i64 R, .int .i64 a], .int .i64 en, .agg #[.int .i64 0, .int .i64 0, .string ⟨#[]⟩]]) (by simp [results, Tryd.results20, go_sem]) rfl ⟨rfl, ?_⟩
  first | exact ((Below.refl _ _).alloc (Nat.le_refl _) _).alloc (by simp) _ | exact (((Below.refl _ _).alloc (Nat.le_refl _) _).alloc (by simp) _).drew

set_option maxHeartbeats 1000000 in
set_option maxRecDepth 100000 in
theorem rword_arrow (s : ByteArray) (a : Nat) (_hs : s.size ≤ 65536) (ha : a < s.size)
    (hL : ∀ w : World, Calls Tryd.prog 22 #[.int .u8 ((s[a]).toNat : Int)] w fun e w' => e = .returned (.bool false) ∧ w = w')
    (hD : ∀ w : World, Calls Tryd.prog 23 #[.int .u8 ((s[a]).toNat : Int)] w fun e w' => e = .returned (.bool false) ∧ w = w')
    (h45 : (((s[a]).toNat : Int) == 45) = true)
    (h1 : a + 1 < s.size) (h62 : (((s[a + 1]).toNat : Int) == 62) = true)
    (w : World) :
    Calls Tryd.prog 20 #[.string s, .int .i64 a] w fun e w' => e = .returned (.tuple #[.agg #[.int .i8 4, .string ⟨#[45, 62]⟩, .int .i64 0, .int .i64 a], .int .i64 ((a : Int) + 2), .agg #[.int .i64 0, .int .i64 0, .string ⟨#[]⟩]]) ∧ Below w.heap.size w w' := by
  have i0 : (a : Int) < s.size := by omega
  have i5 : (a : Int) + 1 < s.size := by omega
  go_enter Tryd.func20, Tryd.ntmps20
  go_wp2_with (first | (go_at_call 22; refine (hL _).mono ?_; rintro e w1 ⟨rfl, rfl⟩) | (go_at_call 23; refine (hD _).mono ?_; rintro e w1 ⟨rfl, rfl⟩))
  refine bodyPost_ret (v := .tuple #[.agg #[.int .i8 4, .string ⟨#[45, 62]⟩, .int .i64 0, .int .i64 a], .int .i64 ((a : Int) + 2), .agg #[.int .i64 0, .int .i64 0, .string ⟨#[]⟩]]) (by simp [results, Tryd.results20, go_sem]) rfl ⟨rfl, ?_⟩
  first | exact ((Below.refl _ _).alloc (Nat.le_refl _) _).alloc (by simp) _ | exact (((Below.refl _ _).alloc (Nat.le_refl _) _).alloc (by simp) _).drew

set_option maxHeartbeats 1000000 in
set_option maxRecDepth 100000 in
theorem rword_signa (s : ByteArray) (a : Nat) (_hs : s.size ≤ 65536) (ha : a < s.size)
    (hL : ∀ w : World, Calls Tryd.prog 22 #[.int .u8 ((s[a]).toNat : Int)] w fun e w' => e = .returned (.bool false) ∧ w = w')
    (hD : ∀ w : World, Calls Tryd.prog 23 #[.int .u8 ((s[a]).toNat : Int)] w fun e w' => e = .returned (.bool false) ∧ w = w')
    (h45 : (((s[a]).toNat : Int) == 45) = false)
    (hS : ∀ w : World, Calls Tryd.prog 36 #[.int .u8 ((s[a]).toNat : Int)] w fun e w' => e = .returned (.bool true) ∧ w = w')
    (w : World) :
    Calls Tryd.prog 20 #[.string s, .int .i64 a] w fun e w' => e = .returned (.tuple #[.agg #[.int .i8 4, .string (s.extract a (a + 1)), .int .i64 0, .int .i64 a], .int .i64 ((a : Int) + 1), .agg #[.int .i64 0, .int .i64 0, .string ⟨#[]⟩]]) ∧ Below w.heap.size w w' := by
  have i0 : (a : Int) < s.size := by omega
  go_enter Tryd.func20, Tryd.ntmps20
  go_wp2_with (first | (go_at_call 22; refine (hL _).mono ?_; rintro e w1 ⟨rfl, rfl⟩) | (go_at_call 23; refine (hD _).mono ?_; rintro e w1 ⟨rfl, rfl⟩) | (go_at_call 36; refine (hS _).mono ?_; rintro e w1 ⟨rfl, rfl⟩))
  refine bodyPost_ret (v := .tuple #[.agg #[.int .i8 4, .string (s.extract a (a + 1)), .int .i64 0, .int .i64 a], .int .i64 ((a : Int) + 1), .agg #[.int .i64 0, .int .i64 0, .string ⟨#[]⟩]]) (by simp [results, Tryd.results20, go_sem]) rfl ⟨rfl, ?_⟩
  first | exact ((Below.refl _ _).alloc (Nat.le_refl _) _).alloc (by simp) _ | exact (((Below.refl _ _).alloc (Nat.le_refl _) _).alloc (by simp) _).drew

set_option maxHeartbeats 1000000 in
set_option maxRecDepth 100000 in
theorem rword_nonea (s : ByteArray) (a : Nat) (_hs : s.size ≤ 65536) (ha : a < s.size)
    (hL : ∀ w : World, Calls Tryd.prog 22 #[.int .u8 ((s[a]).toNat : Int)] w fun e w' => e = .returned (.bool false) ∧ w = w')
    (hD : ∀ w : World, Calls Tryd.prog 23 #[.int .u8 ((s[a]).toNat : Int)] w fun e w' => e = .returned (.bool false) ∧ w = w')
    (h45 : (((s[a]).toNat : Int) == 45) = false)
    (hS : ∀ w : World, Calls Tryd.prog 36 #[.int .u8 ((s[a]).toNat : Int)] w fun e w' => e = .returned (.bool false) ∧ w = w')
    (w : World) :
    Calls Tryd.prog 20 #[.string s, .int .i64 a] w fun e w' => e = .returned (.tuple #[.agg #[.int .i8 0, .string ⟨#[]⟩, .int .i64 0, .int .i64 0], .int .i64 0, .agg #[.int .i64 10, .int .i64 a, .string (s.extract a (a + 1))]]) ∧ Below w.heap.size w w' := by
  have i0 : (a : Int) < s.size := by omega
  have hw : IntKind.i64.wrap ((a : Int) + 1) = (a : Int) + 1 := IntWalk.i64_in _ (by omega)
  have i3 : (0 : Int) ≤ (a : Int) + 1 := by omega
  have i4 : ((a : Int) + 1).toNat = a + 1 := by omega
  have i5 : (a : Int) + 1 ≤ s.size := by omega
  go_enter Tryd.func20, Tryd.ntmps20
  go_wp2_with (first | (go_at_call 22; refine (hL _).mono ?_; rintro e w1 ⟨rfl, rfl⟩) | (go_at_call 23; refine (hD _).mono ?_; rintro e w1 ⟨rfl, rfl⟩) | (go_at_call 36; refine (hS _).mono ?_; rintro e w1 ⟨rfl, rfl⟩))
  go_region
  go_wp2_with fail
  refine bodyPost_ret (v := .tuple #[.agg #[.int .i8 0, .string ⟨#[]⟩, .int .i64 0, .int .i64 0], .int .i64 0, .agg #[.int .i64 10, .int .i64 a, .string (s.extract a (a + 1))]]) (by simp [results, Tryd.results20, go_sem]) rfl ⟨rfl, ?_⟩
  first | exact ((Below.refl _ _).alloc (Nat.le_refl _) _).alloc (by simp) _ | exact (((Below.refl _ _).alloc (Nat.le_refl _) _).alloc (by simp) _).drew

set_option maxHeartbeats 1000000 in
set_option maxRecDepth 100000 in
theorem rword_signb (s : ByteArray) (a : Nat) (_hs : s.size ≤ 65536) (ha : a < s.size)
    (hL : ∀ w : World, Calls Tryd.prog 22 #[.int .u8 ((s[a]).toNat : Int)] w fun e w' => e = .returned (.bool false) ∧ w = w')
    (hD : ∀ w : World, Calls Tryd.prog 23 #[.int .u8 ((s[a]).toNat : Int)] w fun e w' => e = .returned (.bool false) ∧ w = w')
    (h45 : (((s[a]).toNat : Int) == 45) = true)
    (h1 : ¬ a + 1 < s.size)
    (hS : ∀ w : World, Calls Tryd.prog 36 #[.int .u8 ((s[a]).toNat : Int)] w fun e w' => e = .returned (.bool true) ∧ w = w')
    (w : World) :
    Calls Tryd.prog 20 #[.string s, .int .i64 a] w fun e w' => e = .returned (.tuple #[.agg #[.int .i8 4, .string (s.extract a (a + 1)), .int .i64 0, .int .i64 a], .int .i64 ((a : Int) + 1), .agg #[.int .i64 0, .int .i64 0, .string ⟨#[]⟩]]) ∧ Below w.heap.size w w' := by
  have i0 : (a : Int) < s.size := by omega
  have i6 : ¬ (a : Int) + 1 < s.size := by omega
  go_enter Tryd.func20, Tryd.ntmps20
  go_wp2_with (first | (go_at_call 22; refine (hL _).mono ?_; rintro e w1 ⟨rfl, rfl⟩) | (go_at_call 23; refine (hD _).mono ?_; rintro e w1 ⟨rfl, rfl⟩) | (go_at_call 36; refine (hS _).mono ?_; rintro e w1 ⟨rfl, rfl⟩))
  refine bodyPost_ret (v := .tuple #[.agg #[.int .i8 4, .string (s.extract a (a + 1)), .int .i64 0, .int .i64 a], .int .i64 ((a : Int) + 1), .agg #[.int .i64 0, .int .i64 0, .string ⟨#[]⟩]]) (by simp [results, Tryd.results20, go_sem]) rfl ⟨rfl, ?_⟩
  first | exact ((Below.refl _ _).alloc (Nat.le_refl _) _).alloc (by simp) _ | exact (((Below.refl _ _).alloc (Nat.le_refl _) _).alloc (by simp) _).drew

set_option maxHeartbeats 1000000 in
set_option maxRecDepth 100000 in
theorem rword_noneb (s : ByteArray) (a : Nat) (_hs : s.size ≤ 65536) (ha : a < s.size)
    (hL : ∀ w : World, Calls Tryd.prog 22 #[.int .u8 ((s[a]).toNat : Int)] w fun e w' => e = .returned (.bool false) ∧ w = w')
    (hD : ∀ w : World, Calls Tryd.prog 23 #[.int .u8 ((s[a]).toNat : Int)] w fun e w' => e = .returned (.bool false) ∧ w = w')
    (h45 : (((s[a]).toNat : Int) == 45) = true)
    (h1 : ¬ a + 1 < s.size)
    (hS : ∀ w : World, Calls Tryd.prog 36 #[.int .u8 ((s[a]).toNat : Int)] w fun e w' => e = .returned (.bool false) ∧ w = w')
    (w : World) :
    Calls Tryd.prog 20 #[.string s, .int .i64 a] w fun e w' => e = .returned (.tuple #[.agg #[.int .i8 0, .string ⟨#[]⟩, .int .i64 0, .int .i64 0], .int .i64 0, .agg #[.int .i64 10, .int .i64 a, .string (s.extract a (a + 1))]]) ∧ Below w.heap.size w w' := by
  have i0 : (a : Int) < s.size := by omega
  have i6 : ¬ (a : Int) + 1 < s.size := by omega
  have hw : IntKind.i64.wrap ((a : Int) + 1) = (a : Int) + 1 := IntWalk.i64_in _ (by omega)
  have i3 : (0 : Int) ≤ (a : Int) + 1 := by omega
  have i4 : ((a : Int) + 1).toNat = a + 1 := by omega
  have i5 : (a : Int) + 1 ≤ s.size := by omega
  go_enter Tryd.func20, Tryd.ntmps20
  go_wp2_with (first | (go_at_call 22; refine (hL _).mono ?_; rintro e w1 ⟨rfl, rfl⟩) | (go_at_call 23; refine (hD _).mono ?_; rintro e w1 ⟨rfl, rfl⟩) | (go_at_call 36; refine (hS _).mono ?_; rintro e w1 ⟨rfl, rfl⟩))
  go_region
  go_wp2_with fail
  refine bodyPost_ret (v := .tuple #[.agg #[.int .i8 0, .string ⟨#[]⟩, .int .i64 0, .int .i64 0], .int .i64 0, .agg #[.int .i64 10, .int .i64 a, .string (s.extract a (a + 1))]]) (by simp [results, Tryd.results20, go_sem]) rfl ⟨rfl, ?_⟩
  first | exact ((Below.refl _ _).alloc (Nat.le_refl _) _).alloc (by simp) _ | exact (((Below.refl _ _).alloc (Nat.le_refl _) _).alloc (by simp) _).drew

set_option maxHeartbeats 1000000 in
set_option maxRecDepth 100000 in
theorem rword_signc (s : ByteArray) (a : Nat) (_hs : s.size ≤ 65536) (ha : a < s.size)
    (hL : ∀ w : World, Calls Tryd.prog 22 #[.int .u8 ((s[a]).toNat : Int)] w fun e w' => e = .returned (.bool false) ∧ w = w')
    (hD : ∀ w : World, Calls Tryd.prog 23 #[.int .u8 ((s[a]).toNat : Int)] w fun e w' => e = .returned (.bool false) ∧ w = w')
    (h45 : (((s[a]).toNat : Int) == 45) = true)
    (h1 : a + 1 < s.size) (h62 : (((s[a + 1]).toNat : Int) == 62) = false)
    (hS : ∀ w : World, Calls Tryd.prog 36 #[.int .u8 ((s[a]).toNat : Int)] w fun e w' => e = .returned (.bool true) ∧ w = w')
    (w : World) :
    Calls Tryd.prog 20 #[.string s, .int .i64 a] w fun e w' => e = .returned (.tuple #[.agg #[.int .i8 4, .string (s.extract a (a + 1)), .int .i64 0, .int .i64 a], .int .i64 ((a : Int) + 1), .agg #[.int .i64 0, .int .i64 0, .string ⟨#[]⟩]]) ∧ Below w.heap.size w w' := by
  have i0 : (a : Int) < s.size := by omega
  have i6 : (a : Int) + 1 < s.size := by omega
  go_enter Tryd.func20, Tryd.ntmps20
  go_wp2_with (first | (go_at_call 22; refine (hL _).mono ?_; rintro e w1 ⟨rfl, rfl⟩) | (go_at_call 23; refine (hD _).mono ?_; rintro e w1 ⟨rfl, rfl⟩) | (go_at_call 36; refine (hS _).mono ?_; rintro e w1 ⟨rfl, rfl⟩))
  refine bodyPost_ret (v := .tuple #[.agg #[.int .i8 4, .string (s.extract a (a + 1)), .int .i64 0, .int .i64 a], .int .i64 ((a : Int) + 1), .agg #[.int .i64 0, .int .i64 0, .string ⟨#[]⟩]]) (by simp [results, Tryd.results20, go_sem]) rfl ⟨rfl, ?_⟩
  first | exact ((Below.refl _ _).alloc (Nat.le_refl _) _).alloc (by simp) _ | exact (((Below.refl _ _).alloc (Nat.le_refl _) _).alloc (by simp) _).drew

set_option maxHeartbeats 1000000 in
set_option maxRecDepth 100000 in
theorem rword_nonec (s : ByteArray) (a : Nat) (_hs : s.size ≤ 65536) (ha : a < s.size)
    (hL : ∀ w : World, Calls Tryd.prog 22 #[.int .u8 ((s[a]).toNat : Int)] w fun e w' => e = .returned (.bool false) ∧ w = w')
    (hD : ∀ w : World, Calls Tryd.prog 23 #[.int .u8 ((s[a]).toNat : Int)] w fun e w' => e = .returned (.bool false) ∧ w = w')
    (h45 : (((s[a]).toNat : Int) == 45) = true)
    (h1 : a + 1 < s.size) (h62 : (((s[a + 1]).toNat : Int) == 62) = false)
    (hS : ∀ w : World, Calls Tryd.prog 36 #[.int .u8 ((s[a]).toNat : Int)] w fun e w' => e = .returned (.bool false) ∧ w = w')
    (w : World) :
    Calls Tryd.prog 20 #[.string s, .int .i64 a] w fun e w' => e = .returned (.tuple #[.agg #[.int .i8 0, .string ⟨#[]⟩, .int .i64 0, .int .i64 0], .int .i64 0, .agg #[.int .i64 10, .int .i64 a, .string (s.extract a (a + 1))]]) ∧ Below w.heap.size w w' := by
  have i0 : (a : Int) < s.size := by omega
  have i6 : (a : Int) + 1 < s.size := by omega
  have hw : IntKind.i64.wrap ((a : Int) + 1) = (a : Int) + 1 := IntWalk.i64_in _ (by omega)
  have i3 : (0 : Int) ≤ (a : Int) + 1 := by omega
  have i4 : ((a : Int) + 1).toNat = a + 1 := by omega
  have i5 : (a : Int) + 1 ≤ s.size := by omega
  go_enter Tryd.func20, Tryd.ntmps20
  go_wp2_with (first | (go_at_call 22; refine (hL _).mono ?_; rintro e w1 ⟨rfl, rfl⟩) | (go_at_call 23; refine (hD _).mono ?_; rintro e w1 ⟨rfl, rfl⟩) | (go_at_call 36; refine (hS _).mono ?_; rintro e w1 ⟨rfl, rfl⟩))
  go_region
  go_wp2_with fail
  refine bodyPost_ret (v := .tuple #[.agg #[.int .i8 0, .string ⟨#[]⟩, .int .i64 0, .int .i64 0], .int .i64 0, .agg #[.int .i64 10, .int .i64 a, .string (s.extract a (a + 1))]]) (by simp [results, Tryd.results20, go_sem]) rfl ⟨rfl, ?_⟩
  first | exact ((Below.refl _ _).alloc (Nat.le_refl _) _).alloc (by simp) _ | exact (((Below.refl _ _).alloc (Nat.le_refl _) _).alloc (by simp) _).drew
end Go.Proofs.YtjngdhbaobbaeaaDoor
