/-
  The reference's Name.
-/
import Derived.Test.YtfkbdpehdabepaaGreatDoorM1
namespace Go.Proofs.YtfkbdpehdabepaaGreatDoor
open Go.RowKit

theorem Sc.isName_eq (s : ByteArray) (h0 : 0 < s.size) : Sc.isName s = (decide (s.size ≤ 64) && !Sc.isKey s && Sc.lett (Sc.hd s) && decide (Sc.spanN Sc.lord s.data.toList = s.size)) := by
  have hz : ¬ s.size = 0 := by omega
  unfold Sc.isName
  rw [if_neg hz]
  cases c1 : Sc.lett (Sc.hd s)
  · have hk : Sc.fK s ≠ 1 := by
      unfold Sc.fK
      rw [c1, if_neg (by decide)]
      split
      · decide
      · split <;> decide
    simp [hk]
  · have e1 : Sc.fN s = Sc.spanN Sc.lord s.data.toList := by unfold Sc.fN; rw [if_pos c1]
    have e2 : Sc.fK s = Sc.nameKind (s.extract 0 (Sc.fN s)) (Sc.fN s) := by unfold Sc.fK; rw [if_pos c1]
    have e3 : Sc.fE s = Sc.nameErr (Sc.fN s) := by unfold Sc.fE; rw [if_pos c1]
    rw [e3, e2, e1]
    generalize Sc.spanN Sc.lord s.data.toList = n
    by_cases hn : n = s.size
    · subst hn
      have ex : s.extract 0 s.size = s := by simp
      rw [ex]
      unfold Sc.nameErr Sc.nameKind
      by_cases h64 : 64 < s.size
      · have hd : decide (s.size ≤ 64) = false := by simp; omega
        rw [hd]
        simp [h64]
      · have h64' : s.size ≤ 64 := by omega
        cases Sc.isKey s <;> simp [h64']
    · simp [hn]

set_option maxHeartbeats 400000 in
set_option maxRecDepth 100000 in
/-- the loop: every byte a letter or a digit -/
theorem ref_Name_loop (s : ByteArray) (h0 : 0 < s.size) (hs : s.size ≤ 64) (w : World)
    (he : s.toList.isEmpty = false) (hk : Sc.isKey s = false) (hl : Sc.lett (Sc.hd s) = true) :
    Calls Tryz.prog 121 #[.string s] w fun e w' => e = .returned (.bool (decide (Sc.spanN Sc.lord s.data.toList = s.size))) ∧ w = w' := by
  have he2 : (s.toList == []) = false := by cases hq : s.toList <;> simp_all
  have i0 : (0 : Int) < s.size := by omega
  have i1 : (s.size : Int) ≤ 64 := by omega
  have hK := ref_Key_any s
  rw [hk] at hK
  have hL := ref_letter_any ((s[0]).toNat : Int)
  rw [← Sc.hd_eq s h0, hl, Sc.hd_eq s h0] at hL
  clear hl hk
  go_enter Tryz.func121, Tryz.ntmps121
  go_wp2_with (first | (go_at_call 141; refine (hK _).mono ?_; rintro e w1 ⟨rfl, rfl⟩) | (go_at_call 142; refine (hL _).mono ?_; rintro e w1 ⟨rfl, rfl⟩))
  go_loop [3] (fun i => ∃ k : Nat, k ≤ s.size ∧ k ≤ Sc.spanN Sc.lord s.data.toList ∧ i = .int .i64 k) (fun i => s.size - (intOf i).toNat)
  case atStart => exact ⟨0, Nat.zero_le _, Nat.zero_le _, rfl⟩
  case round =>
    obtain ⟨k, hk1, hk2, rfl⟩ := hrel
    clear hL
    by_cases hlt : k < s.size
    · have hlen : k < s.data.toList.length := by rw [Sc.data_len]; exact hlt
      have hLk := ref_letter_any ((s[k]).toNat : Int)
      have hDk := ref_digit_any ((s[k]).toNat : Int)
      cases c1 : Sc.lett ((s[k]).toNat : Int)
      · cases c2 : Sc.digi ((s[k]).toNat : Int)
        · have hst : Sc.spanN Sc.lord s.data.toList = k := Sc.spanN_eq Sc.lord _ k hlen hk2 (by rw [Sc.get_data s k hlt hlen]; unfold Sc.lord; rw [c1, c2]; rfl)
          have hdec : decide (Sc.spanN Sc.lord s.data.toList = s.size) = false := by rw [hst]; simp; omega
          have HD := Lib.hid hdec
          clear hst hdec
          rw [c1] at hLk
          rw [c2] at hDk
          clear c1 c2
          go_wp2_with (first | (go_at_call 142; refine (hLk _).mono ?_; rintro e w1 ⟨rfl, rfl⟩) | (go_at_call 143; refine (hDk _).mono ?_; rintro e w1 ⟨rfl, rfl⟩))
          go_ret
          exact ⟨ret_b HD.out.symm, rfl⟩
        · have hm := Sc.spanN_more Sc.lord _ k hlen hk2 (by rw [Sc.get_data s k hlt hlen]; unfold Sc.lord; rw [c2]; simp)
          rw [c1] at hLk
          rw [c2] at hDk
          clear c1 c2
          go_wp2_with (first | (go_at_call 142; refine (hLk _).mono ?_; rintro e w1 ⟨rfl, rfl⟩) | (go_at_call 143; refine (hDk _).mono ?_; rintro e w1 ⟨rfl, rfl⟩))
          go_round
          case rel => exact ⟨k + 1, by omega, hm, by go_num⟩
          case measure => simp [intOf]; omega
      · have hm := Sc.spanN_more Sc.lord _ k hlen hk2 (by rw [Sc.get_data s k hlt hlen]; unfold Sc.lord; rw [c1]; simp)
        rw [c1] at hLk
        clear c1
        go_wp2_with (go_at_call 142; refine (hLk _).mono ?_; rintro e w1 ⟨rfl, rfl⟩)
        go_round
        case rel => exact ⟨k + 1, by omega, hm, by go_num⟩
        case measure => simp [intOf]; omega
    · have hle := Sc.spanN_le Sc.lord s.data.toList
      rw [Sc.data_len] at hle
      have hdec : decide (Sc.spanN Sc.lord s.data.toList = s.size) = true := by simp; omega
      have HD := Lib.hid hdec
      clear hdec
      go_wp2_with fail
      go_ret
      exact ⟨ret_b HD.out.symm, rfl⟩

set_option maxHeartbeats 400000 in
set_option maxRecDepth 100000 in
theorem ref_Name_empty (s : ByteArray) (w : World) (he : s.toList.isEmpty = true) :
    Calls Tryz.prog 121 #[.string s] w fun e w' => e = .returned (.bool false) ∧ w = w' := by
  go_enter Tryz.func121, Tryz.ntmps121
  go_wp2_with fail
  go_ret
  exact ⟨rfl, rfl⟩

set_option maxHeartbeats 400000 in
set_option maxRecDepth 100000 in
theorem ref_Name_long (s : ByteArray) (w : World) (he : s.toList.isEmpty = false) (h64 : (64 : Int) < s.size) :
    Calls Tryz.prog 121 #[.string s] w fun e w' => e = .returned (.bool false) ∧ w = w' := by
  have he2 : (s.toList == []) = false := by cases hq : s.toList <;> simp_all
  go_enter Tryz.func121, Tryz.ntmps121
  go_wp2_with fail
  go_ret
  exact ⟨rfl, rfl⟩

set_option maxHeartbeats 400000 in
set_option maxRecDepth 100000 in
theorem ref_Name_key (s : ByteArray) (w : World) (he : s.toList.isEmpty = false) (h64 : (s.size : Int) ≤ 64)
    (hK : ∀ w : World, Calls Tryz.prog 141 #[.string s] w fun e w' => e = .returned (.bool true) ∧ w = w') :
    Calls Tryz.prog 121 #[.string s] w fun e w' => e = .returned (.bool false) ∧ w = w' := by
  have he2 : (s.toList == []) = false := by cases hq : s.toList <;> simp_all
  go_enter Tryz.func121, Tryz.ntmps121
  go_wp2_with (go_at_call 141; refine (hK _).mono ?_; rintro e w1 ⟨rfl, rfl⟩)
  go_ret
  exact ⟨rfl, rfl⟩

set_option maxHeartbeats 400000 in
set_option maxRecDepth 100000 in
theorem ref_Name_head (s : ByteArray) (w : World) (h0 : 0 < s.size) (he : s.toList.isEmpty = false) (h64 : (s.size : Int) ≤ 64)
    (hK : ∀ w : World, Calls Tryz.prog 141 #[.string s] w fun e w' => e = .returned (.bool false) ∧ w = w')
    (hL : ∀ w : World, Calls Tryz.prog 142 #[.int .u8 ((s[0]).toNat : Int)] w fun e w' => e = .returned (.bool false) ∧ w = w') :
    Calls Tryz.prog 121 #[.string s] w fun e w' => e = .returned (.bool false) ∧ w = w' := by
  have he2 : (s.toList == []) = false := by cases hq : s.toList <;> simp_all
  have i0 : (0 : Int) < s.size := by omega
  go_enter Tryz.func121, Tryz.ntmps121
  go_wp2_with (first | (go_at_call 141; refine (hK _).mono ?_; rintro e w1 ⟨rfl, rfl⟩) | (go_at_call 142; refine (hL _).mono ?_; rintro e w1 ⟨rfl, rfl⟩))
  go_ret
  exact ⟨rfl, rfl⟩

theorem ref_Name_any (s : ByteArray) (w : World) :
    Calls Tryz.prog 121 #[.string s] w fun e w' => e = .returned (.bool (Sc.isName s)) ∧ w = w' := by
  by_cases h0 : s.size = 0
  · have hn : Sc.isName s = false := by unfold Sc.isName; rw [if_pos h0]
    have he : s.toList = [] := by rw [Lib.toList_data]; apply List.eq_nil_of_length_eq_zero; rw [Sc.data_len]; exact h0
    rw [hn]
    exact ref_Name_empty s w (by rw [he]; rfl)
  · have h1 : 0 < s.size := by omega
    have he : s.toList.isEmpty = false := by
      rw [Lib.toList_data]
      have := Sc.data_len s
      cases hq : s.data.toList with
      | nil => rw [hq] at this; simp at this; omega
      | cons a l => rfl
    rw [Sc.isName_eq s h1]
    by_cases h64 : s.size ≤ 64
    · cases hk : Sc.isKey s
      · cases hl : Sc.lett (Sc.hd s)
        · have hL := ref_letter_any ((s[0]).toNat : Int)
          have hK := ref_Key_any s
          rw [hk] at hK
          rw [← Sc.hd_eq s h1, hl, Sc.hd_eq s h1] at hL
          simpa [h64] using ref_Name_head s w h1 he (by omega) hK hL
        · simpa [h64] using ref_Name_loop s h1 h64 w he hk hl
      · have hK := ref_Key_any s
        rw [hk] at hK
        simpa [h64] using ref_Name_key s w he (by omega) hK
    · simpa [h64] using ref_Name_long s w he (by omega)
end Go.Proofs.YtfkbdpehdabepaaGreatDoor
