/-
  The document's digits; how strong a term is; a type's text.
-/
import Derived.Test.YtdeomggkhbdkaaaGreatDoorM4
import Derived.Test.YtdeomggkhbdkaaaGreatDoorM5
import Derived.Test.YtdeomggkhbdkaaaGreatDoorM18
import Derived.Test.YtdeomggkhbdkaaaGreatDoorM10
namespace Go.Proofs.YtdeomggkhbdkaaaGreatDoor
open Go.RowKit

set_option maxHeartbeats 4000000 in
set_option maxRecDepth 100000 in
theorem rstr_any (h : Hd) (p : Pl) (w : World) (hk : 0 ≤ h.kind ∧ h.kind ≤ 16) :
    Calls Tryz.prog 26 #[.agg #[.int .i8 h.kind, .string h.name, .string h.arg, .int .i64 h.num, .int .i8 h.tk, .slice p.TA p.tn p.tc, .int .i8 h.uk, .slice p.UA p.un p.uc, .int .i64 h.label, .int .i64 h.pos, .slice p.A p.n p.c]] w fun e w' => e = .returned (.int .i64 (Sh.st h)) ∧ Below w.heap.size w w' := by
  have hB0 : ∀ o : Obj, Below w.heap.size w (w.alloc o) := fun o => (Below.refl _ _).alloc (Nat.le_refl _) o
  obtain ⟨k, hkk⟩ : ∃ k, h.kind = k := ⟨_, rfl⟩
  rw [hkk] at hk
  have hcase : k = 0 ∨ k = 1 ∨ k = 2 ∨ k = 3 ∨ k = 4 ∨ k = 5 ∨ k = 6 ∨ k = 7 ∨ k = 8 ∨ k = 9 ∨ k = 10 ∨ k = 11 ∨ k = 12 ∨ k = 13 ∨ k = 14 ∨ k = 15 ∨ k = 16 := by omega
  have hst : Sh.st h = if k = 4 ∨ k = 5 ∨ k = 7 ∨ k = 8 ∨ k = 14 then -1 else if k = 16 then 0 else if k = 15 then (Sh.opS h.name).1 else if k = 10 ∨ k = 11 ∨ k = 12 ∨ k = 13 then 4 else if k = 1 ∧ h.num < 0 then 4 else 5 := by unfold Sh.st; rw [hkk]
  rw [hst]
  clear hst hk
  rcases hcase with rfl | rfl | rfl | rfl | rfl | rfl | rfl | rfl | rfl | rfl | rfl | rfl | rfl | rfl | rfl | rfl | rfl
  case inr.inl =>
    by_cases hn : h.num < 0
    · simp only [hn]
      go_enter Tryz.func26, Tryz.ntmps26
      go_wp2_with fail
      go_ret
      exact ⟨rfl, hB0 _⟩
    · simp only [hn]
      go_enter Tryz.func26, Tryz.ntmps26
      go_wp2_with fail
      go_ret
      exact ⟨rfl, hB0 _⟩
  case inr.inr.inr.inr.inr.inr.inr.inr.inr.inr.inr.inr.inr.inr.inr.inl =>
    obtain ⟨b0, h0⟩ : ∃ b, (h.name.toList == [42]) = b := ⟨_, rfl⟩
    obtain ⟨b1, h1⟩ : ∃ b, (h.name.toList == [47]) = b := ⟨_, rfl⟩
    obtain ⟨b2, h2⟩ : ∃ b, (h.name.toList == [43]) = b := ⟨_, rfl⟩
    obtain ⟨b3, h3⟩ : ∃ b, (h.name.toList == [45]) = b := ⟨_, rfl⟩
    rw [Sh.opS_of h0 h1 h2 h3]
    cases b0 <;> cases b1 <;> cases b2 <;> cases b3
    all_goals
      simp only [Bool.or_true, Bool.true_or, Bool.or_self, if_true, Bool.false_eq_true, if_false]
      go_enter Tryz.func26, Tryz.ntmps26
      go_wp2_with fail
      go_ret
      exact ⟨rfl, hB0 _⟩
  all_goals
    go_enter Tryz.func26, Tryz.ntmps26
    go_wp2_with fail
    go_ret
    exact ⟨rfl, hB0 _⟩

set_option maxHeartbeats 1000000 in
set_option maxRecDepth 100000 in
theorem rkind_any (k : Int) (kids : Fo) (A : Option Addr) (n c : Nat) (w : World) (hIs : Ty.Is w k kids A n c) (hc : Ty.chk k kids = 0) :
    Calls Tryz.prog 54 #[.agg #[.int .i8 k, .slice A n c]] w fun e w' => e = .returned (.string ⟨(Sh.tyW k kids).toArray⟩) ∧ Below w.heap.size w w' := by
  have hB0 : Below w.heap.size w (w.alloc (.cells #[.int .i8 k, .slice A n c] 25)) := (Below.refl _ _).alloc (Nat.le_refl _) _
  have CT := Lib.hid (ref_text k kids A n c _ (hIs.below hB0))
  have e1 : Ty.textT k kids = ⟨(Sh.tyW k kids).toArray⟩ := by unfold Ty.textT; rw [if_pos hc]; rfl
  rw [hc, e1] at CT
  clear hIs hc e1
  generalize (⟨(Sh.tyW k kids).toArray⟩ : ByteArray) = s at *
  go_enter Tryz.func54, Tryz.ntmps54
  go_wp2_with fail
  refine CT.out.mono ?_
  rintro e w2 ⟨rfl, hb⟩
  go_wp2_with fail
  go_ret
  exact ⟨rfl, hB0.trans (hb.mono hB0.size)⟩

theorem ret_str {a b : ByteArray} (h : a = b) : Ending.returned (.string a) = Ending.returned (.string b) := by rw [h]

set_option maxHeartbeats 4000000 in
set_option maxRecDepth 100000 in
theorem rdigits_any (n : Int) (h0 : 0 ≤ n) (h1 : n ≤ 9223372036854775807) (w : World) :
    Calls Tryz.prog 53 #[.int .i64 n] w fun e w' => e = .returned (.string ⟨(Lib.decDigits n.toNat).toArray⟩) ∧ w' = w := by
  obtain ⟨T, hT⟩ : ∃ T, Lib.decDigits n.toNat = T := ⟨_, rfl⟩
  have hTl : T.length ≤ 19 := by rw [← hT]; have := Sh.decDigits_len n.toNat 19 (by omega); omega
  rw [hT]
  have HT := Lib.hid hT
  have HTL := Lib.hid hTl
  have H01 := Lib.hid (And.intro h0 h1)
  clear hT hTl h0 h1
  go_enter Tryz.func53, Tryz.ntmps53
  go_wp2_with fail
  go_loopw [0, 3] (fun v0 v3 wr => ∃ (m : Int) (l : List UInt8), v0 = .int .i64 m ∧ v3 = .string ⟨l.toArray⟩ ∧ 0 ≤ m ∧ m ≤ 9223372036854775807 ∧ Lib.decDigits m.toNat ++ l = T ∧ wr = w) (fun v0 _ _ => (intOf v0).toNat)
  case atStart => exact ⟨n, [], rfl, rfl, H01.out.1, H01.out.2, by rw [List.append_nil]; exact HT.out, rfl⟩
  case round =>
    obtain ⟨m, l, rfl, rfl, hm0, hm1, hd, rfl⟩ := hrel
    have hll : l.length ≤ 19 := by have := HTL.out; rw [← hd] at this; simp at this; omega
    have n0 : Utf8.encode 48 = ⟨#[48]⟩ := by decide
    have n1 : Utf8.encode 49 = ⟨#[49]⟩ := by decide
    have n2 : Utf8.encode 50 = ⟨#[50]⟩ := by decide
    have n3 : Utf8.encode 51 = ⟨#[51]⟩ := by decide
    have n4 : Utf8.encode 52 = ⟨#[52]⟩ := by decide
    have n5 : Utf8.encode 53 = ⟨#[53]⟩ := by decide
    have n6 : Utf8.encode 54 = ⟨#[54]⟩ := by decide
    have n7 : Utf8.encode 55 = ⟨#[55]⟩ := by decide
    have n8 : Utf8.encode 56 = ⟨#[56]⟩ := by decide
    have n9 : Utf8.encode 57 = ⟨#[57]⟩ := by decide
    by_cases hm : m ≤ 9
    · have hgt : decide (9 < m) = false := by simp; omega
      have hT2 : T = UInt8.ofNat (48 + m.toNat) :: l := by rw [← hd, Lib.decDigits, dif_pos (by omega)]; rfl
      subst hT2
      have hc : m = 0 ∨ m = 1 ∨ m = 2 ∨ m = 3 ∨ m = 4 ∨ m = 5 ∨ m = 6 ∨ m = 7 ∨ m = 8 ∨ m = 9 := by omega
      clear hd hm hm1 hm0 hgt HT HTL H01
      rcases hc with rfl | rfl | rfl | rfl | rfl | rfl | rfl | rfl | rfl | rfl
      all_goals
        go_wp2_with fail
        go_ret
        exact ⟨ret_str (by apply ByteArray.ext; simp), rfl⟩
    · have hgt : decide (9 < m) = true := by simp; omega
      obtain ⟨q, hq⟩ : ∃ q, m.tdiv 10 = q := ⟨_, rfl⟩
      obtain ⟨d, hd0⟩ : ∃ d, m.tmod 10 = d := ⟨_, rfl⟩
      have hdq : m = 10 * q + d ∧ 0 ≤ d ∧ d ≤ 9 := by
        have e1 := Int.mul_tdiv_add_tmod m 10
        have e2 := Int.tmod_nonneg 10 hm0
        have e3 := Int.tmod_lt_of_pos m (show (0 : Int) < 10 by omega)
        omega
      have hT2 : Lib.decDigits q.toNat ++ (UInt8.ofNat (48 + d.toNat) :: l) = T := by
        rw [← hd, Lib.decDigits.eq_1 m.toNat, dif_neg (by omega), show m.toNat / 10 = q.toNat by omega, show m.toNat % 10 = d.toNat by omega]
        simp
      have hq0 : 0 ≤ q ∧ q ≤ 922337203685477580 ∧ q < m := by omega
      have HQ := Lib.hid (And.intro hq0 hT2)
      have hc : d = 0 ∨ d = 1 ∨ d = 2 ∨ d = 3 ∨ d = 4 ∨ d = 5 ∨ d = 6 ∨ d = 7 ∨ d = 8 ∨ d = 9 := by omega
      have j1 : IntKind.i64.wrap q = q := IntWalk.i64_in _ (by omega)
      clear hd hm hm1 hdq hT2 hq0 HT HTL H01
      rcases hc with rfl | rfl | rfl | rfl | rfl | rfl | rfl | rfl | rfl | rfl
      all_goals
        go_wp2_with fail
        go_roundw
        case rel => exact ⟨q, _, by first | rfl | go_num, rfl, HQ.out.1.1, by have := HQ.out.1.2.1; omega, by simpa using HQ.out.2, by first | rfl | trivial⟩
        case measure => have := HQ.out.1; simp [intOf]; omega
end Go.Proofs.YtdeomggkhbdkaaaGreatDoor
