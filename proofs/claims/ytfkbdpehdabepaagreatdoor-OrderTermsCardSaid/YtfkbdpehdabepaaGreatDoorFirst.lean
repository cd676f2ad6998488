/-
  scan.first: the word that a text begins with.
-/
import Derived.Test.YtfkbdpehdabepaaGreatDoorNumber
import Derived.Test.YtfkbdpehdabepaaGreatDoorRune
namespace Go.Proofs.YtfkbdpehdabepaaGreatDoor
open Go.RowKit

def Sc.hd (s : ByteArray) : Int := ((s.data.toList.headD 0).toNat : Int)
def Sc.fN (s : ByteArray) : Nat := if Sc.lett (Sc.hd s) then Sc.spanN Sc.lord s.data.toList else if Sc.digi (Sc.hd s) then Sc.spanN Sc.digi s.data.toList else if Lib.hasPrefix s.data.toList [45, 62] then 2 else 1
def Sc.fK (s : ByteArray) : Int := if Sc.lett (Sc.hd s) then Sc.nameKind (s.extract 0 (Sc.fN s)) (Sc.fN s) else if Sc.digi (Sc.hd s) then 2 else if Lib.hasPrefix s.data.toList [45, 62] || Sc.isSign (Sc.hd s) then 4 else 0
def Sc.fE (s : ByteArray) : Int := if Sc.lett (Sc.hd s) then Sc.nameErr (Sc.fN s) else if Sc.digi (Sc.hd s) then Sc.numErr s (Sc.fN s) else if Lib.hasPrefix s.data.toList [45, 62] || Sc.isSign (Sc.hd s) then 0 else 10
def Sc.fV (s : ByteArray) : Int := if Sc.lett (Sc.hd s) then 0 else if Sc.digi (Sc.hd s) then Sc.numNum s (Sc.fN s) else 0

theorem Sc.hd_eq (s : ByteArray) (h : 0 < s.size) : Sc.hd s = ((s[0]'h).toNat : Int) := by
  have hl : 0 < s.data.toList.length := by rw [Sc.data_len]; exact h
  have e := Sc.get_data s 0 h hl
  unfold Sc.hd
  rw [List.headD_eq_head?_getD, List.head?_eq_getElem?, List.getElem?_eq_getElem hl, e]
  rfl

theorem hasPrefix_flip (s p : ByteArray) (w : World) :
    Calls Tryz.prog 166 #[.string s, .string p] w fun e w' => e = .returned (.bool (Lib.hasPrefix s.data.toList p.data.toList)) ∧ w = w' :=
  (Tryz.strings_HasPrefix s p w).mono fun _ _ h => ⟨h.1, h.2.symm⟩

/-- the result cell of a function: its own block, the first that it made -/
theorem res_facts {w w1 : World} {v0 v1 v2 v3 : Value} {t : TypeId} (hb : Below (w.alloc (.cells #[v0, v1, v2, v3] t)).heap.size (w.alloc (.cells #[v0, v1, v2, v3] t)) w1) :
    w1.heap[w.heap.size]? = some (.cells #[v0, v1, v2, v3] t) ∧ Below w.heap.size w w1 :=
  ⟨heap_below hb (by simp) (heap_new w _), ((Below.refl _ _).alloc (Nat.le_refl _) _).trans (hb.mono (by simp))⟩

set_option maxHeartbeats 1000000 in
set_option maxRecDepth 100000 in
theorem first_name (s : ByteArray) (h0 : 0 < s.size) (w : World) (k v er : Int) (n : Nat)
    (hL : ∀ w : World, Calls Tryz.prog 162 #[.int .i32 ((s[0]).toNat : Int)] w fun e w' => e = .returned (.bool true) ∧ w = w')
    (hF : ∀ w1 : World, Below w.heap.size w w1 → Calls Tryz.prog 163 #[.string s] w1 fun e w' => e = .returned (.tuple #[.agg #[.int .i8 k, .string (s.extract 0 n), .int .i64 v, .int .i64 0], .int .i64 er]) ∧ Below w1.heap.size w1 w')
    :
    Calls Tryz.prog 145 #[.string s] w fun e w' => e = .returned (.tuple #[.agg #[.int .i8 (k), .string (s.extract 0 (n)), .int .i64 (v), .int .i64 0], .int .i64 (er)]) ∧ Below w.heap.size w w' := by
  have i0 : (0 : Int) < s.size := by omega
  have hw32 : wrap32 ((s[0]).toNat : Int) = ((s[0]).toNat : Int) := by have := (s[0]).toNat_lt; exact IntWalk.wrap32_in _ ⟨by omega, by omega⟩
  go_enter Tryz.func145, Tryz.ntmps145
  go_wp2_with (first | (go_at_call 162; refine (hL _).mono ?_; rintro e w1 ⟨rfl, rfl⟩) | (go_at_call 163; refine (hF _ ((Below.refl _ _).alloc (Nat.le_refl _) _)).mono ?_; rintro e w1 ⟨rfl, hb⟩; have hbw := (res_facts hb).2; obtain ⟨q0, q1, q2, q3, f0, f1, f2, f3, hz⟩ := own4 (res_facts hb).1))
  refine bodyPost_ret (v := .tuple #[.agg #[.int .i8 (k), .string (s.extract 0 (n)), .int .i64 (v), .int .i64 0], .int .i64 (er)]) (by simp [results, Tryz.results145, go_sem, *]) rfl ⟨rfl, ?_⟩
  exact below_set4 hbw (Nat.le_refl _) _ _ _ _

set_option maxHeartbeats 1000000 in
set_option maxRecDepth 100000 in
theorem first_number (s : ByteArray) (h0 : 0 < s.size) (w : World) (k v er : Int) (n : Nat)
    (hL : ∀ w : World, Calls Tryz.prog 162 #[.int .i32 ((s[0]).toNat : Int)] w fun e w' => e = .returned (.bool false) ∧ w = w')
    (hD : ∀ w : World, Calls Tryz.prog 164 #[.int .i32 ((s[0]).toNat : Int)] w fun e w' => e = .returned (.bool true) ∧ w = w')
    (hF : ∀ w1 : World, Below w.heap.size w w1 → Calls Tryz.prog 165 #[.string s] w1 fun e w' => e = .returned (.tuple #[.agg #[.int .i8 k, .string (s.extract 0 n), .int .i64 v, .int .i64 0], .int .i64 er]) ∧ Below w1.heap.size w1 w')
    :
    Calls Tryz.prog 145 #[.string s] w fun e w' => e = .returned (.tuple #[.agg #[.int .i8 (k), .string (s.extract 0 (n)), .int .i64 (v), .int .i64 0], .int .i64 (er)]) ∧ Below w.heap.size w w' := by
  have i0 : (0 : Int) < s.size := by omega
  have hw32 : wrap32 ((s[0]).toNat : Int) = ((s[0]).toNat : Int) := by have := (s[0]).toNat_lt; exact IntWalk.wrap32_in _ ⟨by omega, by omega⟩
  go_enter Tryz.func145, Tryz.ntmps145
  go_wp2_with (first | (go_at_call 162; refine (hL _).mono ?_; rintro e w1 ⟨rfl, rfl⟩) | (go_at_call 164; refine (hD _).mono ?_; rintro e w1 ⟨rfl, rfl⟩) | (go_at_call 165; refine (hF _ ((Below.refl _ _).alloc (Nat.le_refl _) _)).mono ?_; rintro e w1 ⟨rfl, hb⟩; have hbw := (res_facts hb).2; obtain ⟨q0, q1, q2, q3, f0, f1, f2, f3, hz⟩ := own4 (res_facts hb).1))
  refine bodyPost_ret (v := .tuple #[.agg #[.int .i8 (k), .string (s.extract 0 (n)), .int .i64 (v), .int .i64 0], .int .i64 (er)]) (by simp [results, Tryz.results145, go_sem, *]) rfl ⟨rfl, ?_⟩
  exact below_set4 hbw (Nat.le_refl _) _ _ _ _

set_option maxHeartbeats 1000000 in
set_option maxRecDepth 100000 in
theorem first_arrow (s : ByteArray) (hs : s.size ≤ 281474976710656) (h0 : 0 < s.size)
    (hL : ∀ w : World, Calls Tryz.prog 162 #[.int .i32 ((s[0]).toNat : Int)] w fun e w' => e = .returned (.bool false) ∧ w = w')
    (hD : ∀ w : World, Calls Tryz.prog 164 #[.int .i32 ((s[0]).toNat : Int)] w fun e w' => e = .returned (.bool false) ∧ w = w')
    (hH : ∀ w : World, Calls Tryz.prog 166 #[.string s, .string ⟨#[45, 62]⟩] w fun e w' => e = .returned (.bool true) ∧ w = w')
    (h2 : 2 ≤ s.size) (w : World) :
    Calls Tryz.prog 145 #[.string s] w fun e w' => e = .returned (.tuple #[.agg #[.int .i8 (4), .string (s.extract 0 (2)), .int .i64 (0), .int .i64 0], .int .i64 (0)]) ∧ Below w.heap.size w w' := by
  have i0 : (0 : Int) < s.size := by omega
  have hw32 : wrap32 ((s[0]).toNat : Int) = ((s[0]).toNat : Int) := by have := (s[0]).toNat_lt; exact IntWalk.wrap32_in _ ⟨by omega, by omega⟩
  have hx : (s.extract 0 2).size = 2 := by simp; omega
  have HX := Lib.hid hx
  clear hx
  have i2 : (2 : Int) ≤ s.size := by omega
  go_enter Tryz.func145, Tryz.ntmps145
  go_wp2_with (first | (go_at_call 162; refine (hL _).mono ?_; rintro e w1 ⟨rfl, rfl⟩) | (go_at_call 164; refine (hD _).mono ?_; rintro e w1 ⟨rfl, rfl⟩) | (go_at_call 166; refine (hH _).mono ?_; rintro e w1 ⟨rfl, rfl⟩) | (go_at_call 168; refine (word_any 4 _ (by rw [HX.out]; omega) _).mono ?_; rintro e w1 ⟨rfl, hb⟩; have hbw := (res_facts hb).2; obtain ⟨q0, q1, q2, q3, f0, f1, f2, f3, hz⟩ := own4 (res_facts hb).1))
  refine bodyPost_ret (v := .tuple #[.agg #[.int .i8 (4), .string (s.extract 0 (2)), .int .i64 (0), .int .i64 0], .int .i64 (0)]) (by simp [results, Tryz.results145, go_sem, *]) rfl ⟨rfl, ?_⟩
  exact below_set4 hbw (Nat.le_refl _) _ _ _ _

set_option maxHeartbeats 1000000 in
set_option maxRecDepth 100000 in
theorem first_sign (s : ByteArray) (hs : s.size ≤ 281474976710656) (h0 : 0 < s.size)
    (hL : ∀ w : World, Calls Tryz.prog 162 #[.int .i32 ((s[0]).toNat : Int)] w fun e w' => e = .returned (.bool false) ∧ w = w')
    (hD : ∀ w : World, Calls Tryz.prog 164 #[.int .i32 ((s[0]).toNat : Int)] w fun e w' => e = .returned (.bool false) ∧ w = w')
    (hH : ∀ w : World, Calls Tryz.prog 166 #[.string s, .string ⟨#[45, 62]⟩] w fun e w' => e = .returned (.bool false) ∧ w = w')
    (hR : ∀ w : World, Calls Tryz.prog 167 #[.string ⟨#[92, 46, 58, 61, 40, 41, 91, 93, 123, 125, 44, 124, 43, 45, 42, 47, 60, 62, 63, 59]⟩, .int .i32 ((s[0]).toNat : Int)] w fun e w' => e = .returned (.bool true) ∧ Below w.heap.size w w')
     (w : World) :
    Calls Tryz.prog 145 #[.string s] w fun e w' => e = .returned (.tuple #[.agg #[.int .i8 (4), .string (s.extract 0 (1)), .int .i64 (0), .int .i64 0], .int .i64 (0)]) ∧ Below w.heap.size w w' := by
  have i0 : (0 : Int) < s.size := by omega
  have hw32 : wrap32 ((s[0]).toNat : Int) = ((s[0]).toNat : Int) := by have := (s[0]).toNat_lt; exact IntWalk.wrap32_in _ ⟨by omega, by omega⟩
  have hx : (s.extract 0 1).size = 1 := by simp; omega
  have HX := Lib.hid hx
  clear hx
  have i2 : (1 : Int) ≤ s.size := by omega
  go_enter Tryz.func145, Tryz.ntmps145
  go_wp2_with (first | (go_at_call 162; refine (hL _).mono ?_; rintro e w1 ⟨rfl, rfl⟩) | (go_at_call 164; refine (hD _).mono ?_; rintro e w1 ⟨rfl, rfl⟩) | (go_at_call 166; refine (hH _).mono ?_; rintro e w1 ⟨rfl, rfl⟩) | (go_at_call 167; refine (hR _).mono ?_; rintro e w1 ⟨rfl, hb⟩; have hbw := (res_facts hb).2; have HH := Lib.hid (res_facts hb).1; obtain ⟨q0, q1, q2, q3, f0, f1, f2, f3, hz⟩ := own4 HH.out) | (go_at_call 168; refine (word_any 4 _ (by rw [HX.out]; omega) _).mono ?_; rintro e w2 ⟨rfl, hb2⟩; have hbw2 := hbw.trans (hb2.mono hbw.size); obtain ⟨q0, q1, q2, q3, f0, f1, f2, f3, hz⟩ := own4 (heap_below hb2 hz HH.out)))
  refine bodyPost_ret (v := .tuple #[.agg #[.int .i8 (4), .string (s.extract 0 (1)), .int .i64 (0), .int .i64 0], .int .i64 (0)]) (by simp [results, Tryz.results145, go_sem, *]) rfl ⟨rfl, ?_⟩
  exact below_set4 hbw2 (Nat.le_refl _) _ _ _ _

set_option maxHeartbeats 1000000 in
set_option maxRecDepth 100000 in
theorem first_none (s : ByteArray) (hs : s.size ≤ 281474976710656) (h0 : 0 < s.size)
    (hL : ∀ w : World, Calls Tryz.prog 162 #[.int .i32 ((s[0]).toNat : Int)] w fun e w' => e = .returned (.bool false) ∧ w = w')
    (hD : ∀ w : World, Calls Tryz.prog 164 #[.int .i32 ((s[0]).toNat : Int)] w fun e w' => e = .returned (.bool false) ∧ w = w')
    (hH : ∀ w : World, Calls Tryz.prog 166 #[.string s, .string ⟨#[45, 62]⟩] w fun e w' => e = .returned (.bool false) ∧ w = w')
    (hR : ∀ w : World, Calls Tryz.prog 167 #[.string ⟨#[92, 46, 58, 61, 40, 41, 91, 93, 123, 125, 44, 124, 43, 45, 42, 47, 60, 62, 63, 59]⟩, .int .i32 ((s[0]).toNat : Int)] w fun e w' => e = .returned (.bool false) ∧ Below w.heap.size w w')
     (w : World) :
    Calls Tryz.prog 145 #[.string s] w fun e w' => e = .returned (.tuple #[.agg #[.int .i8 (0), .string (s.extract 0 (1)), .int .i64 (0), .int .i64 0], .int .i64 (10)]) ∧ Below w.heap.size w w' := by
  have i0 : (0 : Int) < s.size := by omega
  have hw32 : wrap32 ((s[0]).toNat : Int) = ((s[0]).toNat : Int) := by have := (s[0]).toNat_lt; exact IntWalk.wrap32_in _ ⟨by omega, by omega⟩
  have hx : (s.extract 0 1).size = 1 := by simp; omega
  have HX := Lib.hid hx
  clear hx
  have i2 : (1 : Int) ≤ s.size := by omega
  go_enter Tryz.func145, Tryz.ntmps145
  go_wp2_with (first | (go_at_call 162; refine (hL _).mono ?_; rintro e w1 ⟨rfl, rfl⟩) | (go_at_call 164; refine (hD _).mono ?_; rintro e w1 ⟨rfl, rfl⟩) | (go_at_call 166; refine (hH _).mono ?_; rintro e w1 ⟨rfl, rfl⟩) | (go_at_call 167; refine (hR _).mono ?_; rintro e w1 ⟨rfl, hb⟩; have hbw := (res_facts hb).2; have HH := Lib.hid (res_facts hb).1; obtain ⟨q0, q1, q2, q3, f0, f1, f2, f3, hz⟩ := own4 HH.out) | (go_at_call 168; refine (word_any 0 _ (by rw [HX.out]; omega) _).mono ?_; rintro e w2 ⟨rfl, hb2⟩; have hbw2 := hbw.trans (hb2.mono hbw.size); obtain ⟨q0, q1, q2, q3, f0, f1, f2, f3, hz⟩ := own4 (heap_below hb2 hz HH.out)))
  refine bodyPost_ret (v := .tuple #[.agg #[.int .i8 (0), .string (s.extract 0 (1)), .int .i64 (0), .int .i64 0], .int .i64 (10)]) (by simp [results, Tryz.results145, go_sem, *]) rfl ⟨rfl, ?_⟩
  exact below_set4 hbw2 (Nat.le_refl _) _ _ _ _
end Go.Proofs.YtfkbdpehdabepaaGreatDoor
