/-
  The reference's run, sign, Number, skip.
-/
import Derived.Test.YtjngdhbaobbaeaaDoorToks
namespace Go.Proofs.YtjngdhbaobbaeaaDoor
open Go.RowKit

theorem Sc.drop_get (s : ByteArray) (a k : Nat) (h : k < s.size) (ha : a ≤ k) (h' : k - a < (s.data.toList.drop a).length) : (s.data.toList.drop a)[k - a] = s[k] := by
  rw [List.getElem_drop]
  have hk : k < s.data.toList.length := by rw [Sc.data_len]; exact h
  rw [← Sc.get_data s k h hk]
  congr 1
  omega

/-- the span from a on, one byte more | ended -/
theorem Sc.span_more (q : Int → Bool) (s : ByteArray) (a k : Nat) (h : k < s.size) (ha : a ≤ k) (hk : k ≤ a + Sc.spanN q (s.data.toList.drop a)) (hq : q ((s[k]).toNat : Int) = true) : k + 1 ≤ a + Sc.spanN q (s.data.toList.drop a) := by
  have hl : k - a < (s.data.toList.drop a).length := by rw [List.length_drop, Sc.data_len]; omega
  have := Sc.spanN_more q _ (k - a) hl (by omega) (by rw [Sc.drop_get s a k h ha hl]; exact hq)
  omega
theorem Sc.span_stop (q : Int → Bool) (s : ByteArray) (a k : Nat) (h : k < s.size) (ha : a ≤ k) (hk : k ≤ a + Sc.spanN q (s.data.toList.drop a)) (hq : q ((s[k]).toNat : Int) = false) : a + Sc.spanN q (s.data.toList.drop a) = k := by
  have hl : k - a < (s.data.toList.drop a).length := by rw [List.length_drop, Sc.data_len]; omega
  have := Sc.spanN_eq q _ (k - a) hl (by omega) (by rw [Sc.drop_get s a k h ha hl]; exact hq)
  omega
theorem Sc.span_all (q : Int → Bool) (s : ByteArray) (a k : Nat) (h : s.size ≤ k) (hs : k ≤ s.size) (ha : a ≤ k) (hk : k ≤ a + Sc.spanN q (s.data.toList.drop a)) : a + Sc.spanN q (s.data.toList.drop a) = k := by
  have := Sc.spanN_le q (s.data.toList.drop a)
  rw [List.length_drop, Sc.data_len] at this
  omega

def Sc.runQ (b : Bool) : Int → Bool := if b then Sc.lord else Sc.digi

set_option maxHeartbeats 1000000 in
set_option maxRecDepth 100000 in
theorem ref_run (s : ByteArray) (a : Nat) (b : Bool) (hs : s.size ≤ 65536) (ha : a ≤ s.size) (w : World) :
    Calls Tryd.prog 34 #[.string s, .int .i64 a, .bool b] w fun e w' => e = .returned (.int .i64 ((a + Sc.spanN (Sc.runQ b) (s.data.toList.drop a) : Nat) : Int)) ∧ w = w' := by
  have hE : ∀ k : Nat, a + Sc.spanN (Sc.runQ b) (s.data.toList.drop a) = k → (k : Int) = ((a + Sc.spanN (Sc.runQ b) (s.data.toList.drop a) : Nat) : Int) := fun k h => by rw [h]
  generalize hR : ((a + Sc.spanN (Sc.runQ b) (s.data.toList.drop a) : Nat) : Int) = R at *
  have HE := Lib.hid hE
  clear hE hR
  go_enter Tryd.func34, Tryd.ntmps34
  go_wp2_with fail
  go_loop [1] (fun i => ∃ k : Nat, a ≤ k ∧ k ≤ s.size ∧ k ≤ a + Sc.spanN (Sc.runQ b) (s.data.toList.drop a) ∧ i = .int .i64 k) (fun i => s.size - (intOf i).toNat)
  case atStart => exact ⟨a, Nat.le_refl _, ha, by omega, rfl⟩
  case round =>
    obtain ⟨k, hk0, hk1, hk2, rfl⟩ := hrel
    by_cases hlt : k < s.size
    · have hD := ref_digit_any ((s[k]).toNat : Int)
      have hL := ref_letter_any ((s[k]).toNat : Int)
      have hmore := Sc.span_more (Sc.runQ b) s a k hlt hk0 hk2
      have hstop := Sc.span_stop (Sc.runQ b) s a k hlt hk0 hk2
      cases c1 : Sc.digi ((s[k]).toNat : Int)
      · rw [c1] at hD
        cases b
        · have hst := hstop (by show Sc.digi _ = false; exact c1)
          have HS := Lib.hid hst
          clear hmore hstop hst c1
          go_wp2_with (go_at_call 23; refine (hD _).mono ?_; rintro e w1 ⟨rfl, rfl⟩)
          go_ret
          exact ⟨ret_i (HE.out _ HS.out).symm, rfl⟩
        · cases c2 : Sc.lett ((s[k]).toNat : Int)
          · rw [c2] at hL
            have hst := hstop (by show Sc.lord _ = false; unfold Sc.lord; rw [c1, c2]; rfl)
            have HS := Lib.hid hst
            clear hmore hstop hst c1 c2
            go_wp2_with (first | (go_at_call 23; refine (hD _).mono ?_; rintro e w1 ⟨rfl, rfl⟩) | (go_at_call 22; refine (hL _).mono ?_; rintro e w1 ⟨rfl, rfl⟩))
            go_ret
            exact ⟨ret_i (HE.out _ HS.out).symm, rfl⟩
          · rw [c2] at hL
            have hm := hmore (by show Sc.lord _ = true; unfold Sc.lord; rw [c2]; rfl)
            clear hmore hstop c1 c2
            go_wp2_with (first | (go_at_call 23; refine (hD _).mono ?_; rintro e w1 ⟨rfl, rfl⟩) | (go_at_call 22; refine (hL _).mono ?_; rintro e w1 ⟨rfl, rfl⟩))
            go_round
            case rel => exact ⟨k + 1, by omega, by omega, hm, by go_num⟩
            case measure => simp [intOf]; omega
      · rw [c1] at hD
        have hm := hmore (by cases b; exact c1; show Sc.lord _ = true; unfold Sc.lord; rw [c1]; simp)
        clear hmore hstop c1
        go_wp2_with (go_at_call 23; refine (hD _).mono ?_; rintro e w1 ⟨rfl, rfl⟩)
        go_round
        case rel => exact ⟨k + 1, by omega, by omega, hm, by go_num⟩
        case measure => simp [intOf]; omega
    · have hst := Sc.span_all (Sc.runQ b) s a k (by omega) hk1 hk0 hk2
      have HS := Lib.hid hst
      clear hst
      go_wp2_with fail
      go_ret
      exact ⟨ret_i (HE.out _ HS.out).symm, rfl⟩

set_option maxHeartbeats 1000000 in
set_option maxRecDepth 100000 in
theorem ref_sign (c : UInt8) (w : World) :
    Calls Tryd.prog 36 #[.int .u8 c.toNat] w fun e w' => e = .returned (.bool (Sc.isSign c.toNat)) ∧ w = w' := by
  have hin : ∀ (k : Nat) (h : k < Sc.signs.size), Sc.isSign ((Sc.signs[k]).toNat : Int) = true := by decide +kernel
  have hout : (∀ (k : Nat) (h : k < Sc.signs.size), (Sc.signs[k]) ≠ c) → Sc.isSign c.toNat = false := by
    intro h
    cases hq : Sc.isSign c.toNat
    · rfl
    · exfalso
      have key : ∀ n : Nat, n < 256 → Sc.isSign (n : Int) = true → (Sc.signs.data.toList.any fun b => b.toNat == n) = true := by decide +kernel
      have h2 := key c.toNat c.toNat_lt hq
      obtain ⟨b, hb, hbc⟩ := List.any_eq_true.1 h2
      obtain ⟨k, hk, e⟩ := List.mem_iff_getElem.1 hb
      have hk2 : k < Sc.signs.size := by rw [← Sc.data_len]; exact hk
      refine h k hk2 ?_
      rw [← Sc.get_data Sc.signs k hk2 hk, e]
      exact UInt8.toNat_inj.1 (beq_iff_eq.1 hbc)
  have HI := Lib.hid hin
  have HO := Lib.hid hout
  clear hin hout
  go_enter Tryd.func36, Tryd.ntmps36
  go_wp2_with fail
  go_loop [3] (fun i => ∃ k : Nat, k ≤ 20 ∧ i = .int .i64 k ∧ ∀ (j : Nat) (h : j < Sc.signs.size), j < k → Sc.signs[j] ≠ c) (fun i => 20 - (intOf i).toNat)
  case atStart => exact ⟨0, by omega, rfl, fun j _ h => by omega⟩
  case round =>
    obtain ⟨k, hk, rfl, hno⟩ := hrel
    have HNO := Lib.hid hno
    clear hno
    have hsz : Sc.signs.size = 20 := rfl
    by_cases hlt : k < 20
    · have hlt2 : k < Sc.signs.size := by omega
      by_cases hc : Sc.signs[k] = c
      · have hb : (((Sc.signs[k]).toNat : Int) == (c.toNat : Int)) = true := by rw [hc]; simp
        have hres : Sc.isSign c.toNat = true := by rw [← hc]; exact HI.out k hlt2
        have HR := Lib.hid hres
        clear hc hres hsz
        unfold Sc.signs at hb hlt2
        go_wp2_with fail
        go_ret
        exact ⟨ret_b HR.out.symm, rfl⟩
      · have hb : (((Sc.signs[k]).toNat : Int) == (c.toNat : Int)) = false := by
          rw [beq_eq_false_iff_ne]
          intro h
          exact hc (UInt8.toNat_inj.1 (by omega))
        have HC := Lib.hid hc
        clear hc hsz
        unfold Sc.signs at hb hlt2
        go_wp2_with fail
        go_round
        case rel =>
          refine ⟨k + 1, by omega, by go_num, fun j hj h => ?_⟩
          rcases Nat.lt_or_ge j k with h1 | h1
          · exact HNO.out j hj h1
          · obtain rfl : j = k := by omega
            exact HC.out
        case measure => simp [intOf]; omega
    · have hres := HO.out fun j hj => HNO.out j hj (by omega)
      have HR := Lib.hid hres
      clear hres hsz
      go_wp2_with fail
      go_ret
      exact ⟨ret_b HR.out.symm, rfl⟩
end Go.Proofs.YtjngdhbaobbaeaaDoor
