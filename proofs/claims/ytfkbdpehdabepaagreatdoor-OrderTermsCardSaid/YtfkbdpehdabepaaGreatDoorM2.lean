/-
  scan.first at every text that is not empty, in one contract; scan.Name. scan.Name. The reference's Name.
-/
import Derived.Test.YtfkbdpehdabepaaGreatDoorFirst
namespace Go.Proofs.YtfkbdpehdabepaaGreatDoor
open Go.RowKit

theorem Sc.spanN_pos (q : Int → Bool) (s : ByteArray) (h : 0 < s.size) (hq : q (Sc.hd s) = true) : 1 ≤ Sc.spanN q s.data.toList := by
  have hl : 0 < s.data.toList.length := by rw [Sc.data_len]; exact h
  refine Sc.spanN_more q _ 0 hl (Nat.zero_le _) ?_
  rw [Sc.get_data s 0 h hl, ← Sc.hd_eq s h]
  exact hq

theorem Sc.hasPrefix_two (l : List UInt8) (h : Lib.hasPrefix l [45, 62] = true) : 2 ≤ l.length := by
  match l with
  | [] => simp [Lib.hasPrefix] at h
  | [a] => simp [Lib.hasPrefix] at h
  | a :: b :: l => simp

theorem first_any (s : ByteArray) (hs : s.size ≤ 281474976710656) (h0 : 0 < s.size) (w : World) (tp : TypeId) (p : Value) (hvar : w.var? Tryz.prog "strconv.ErrRange" = some #[.iface tp p]) :
    Calls Tryz.prog 145 #[.string s] w fun e w' => e = .returned (.tuple #[.agg #[.int .i8 (Sc.fK s), .string (s.extract 0 (Sc.fN s)), .int .i64 (Sc.fV s), .int .i64 0], .int .i64 (Sc.fE s)]) ∧ Below w.heap.size w w' := by
  have hd := Sc.hd_eq s h0
  have hb : (s[0]).toNat < 256 := (s[0]).toNat_lt
  have hL := scan_letter_any ((s[0]).toNat : Int)
  have hD := scan_digit_any ((s[0]).toNat : Int)
  have hH := hasPrefix_flip s ⟨#[45, 62]⟩
  have hR := contains_any ((s[0]).toNat : Int) (by omega) (by omega)
  rw [← hd] at hL hD hR
  by_cases c1 : Sc.lett (Sc.hd s) = true
  · have e1 : Sc.fN s = Sc.spanN Sc.lord s.data.toList := by unfold Sc.fN; rw [if_pos c1]
    have e2 : Sc.fK s = Sc.nameKind (s.extract 0 (Sc.fN s)) (Sc.fN s) := by unfold Sc.fK; rw [if_pos c1]
    have e3 : Sc.fE s = Sc.nameErr (Sc.fN s) := by unfold Sc.fE; rw [if_pos c1]
    have e4 : Sc.fV s = 0 := by unfold Sc.fV; rw [if_pos c1]
    rw [e2, e3, e4, e1]
    rw [c1] at hL
    rw [hd] at hL
    exact first_name s h0 w _ _ _ _ hL fun w1 _ => name_any s hs w1
  · rw [Bool.not_eq_true] at c1
    by_cases c2 : Sc.digi (Sc.hd s) = true
    · have e1 : Sc.fN s = Sc.spanN Sc.digi s.data.toList := by unfold Sc.fN; rw [c1, if_neg (by decide), if_pos c2]
      have e2 : Sc.fK s = 2 := by unfold Sc.fK; rw [c1, if_neg (by decide), if_pos c2]
      have e3 : Sc.fE s = Sc.numErr s (Sc.fN s) := by unfold Sc.fE; rw [c1, if_neg (by decide), if_pos c2]
      have e4 : Sc.fV s = Sc.numNum s (Sc.fN s) := by unfold Sc.fV; rw [c1, if_neg (by decide), if_pos c2]
      rw [e2, e3, e4, e1]
      rw [c1, hd] at hL
      rw [c2, hd] at hD
      exact first_number s h0 w _ _ _ _ hL hD fun w1 hb => number_any s hs (Sc.spanN_pos _ s h0 c2) w1 tp p (var_at hb hvar)
    · rw [Bool.not_eq_true] at c2
      rw [c1, hd] at hL
      rw [c2, hd] at hD
      by_cases c3 : Lib.hasPrefix s.data.toList [45, 62] = true
      · have e1 : Sc.fN s = 2 := by unfold Sc.fN; rw [c1, c2, c3]; rfl
        have e2 : Sc.fK s = 4 := by unfold Sc.fK; rw [c1, c2, c3]; rfl
        have e3 : Sc.fE s = 0 := by unfold Sc.fE; rw [c1, c2, c3]; rfl
        have e4 : Sc.fV s = 0 := by unfold Sc.fV; rw [c1, c2]; rfl
        rw [e2, e3, e4, e1]
        have hH' : ∀ w : World, Calls Tryz.prog 166 #[.string s, .string ⟨#[45, 62]⟩] w fun e w' => e = .returned (.bool true) ∧ w = w' := by
          intro w
          have := hH w
          rw [show (⟨#[45, 62]⟩ : ByteArray).data.toList = [45, 62] from rfl, c3] at this
          exact this
        have h2 := Sc.hasPrefix_two _ c3
        rw [Sc.data_len] at h2
        exact first_arrow s hs h0 hL hD hH' h2 w
      · rw [Bool.not_eq_true] at c3
        have hH' : ∀ w : World, Calls Tryz.prog 166 #[.string s, .string ⟨#[45, 62]⟩] w fun e w' => e = .returned (.bool false) ∧ w = w' := by
          intro w
          have := hH w
          rw [show (⟨#[45, 62]⟩ : ByteArray).data.toList = [45, 62] from rfl, c3] at this
          exact this
        have e1 : Sc.fN s = 1 := by unfold Sc.fN; rw [c1, c2, c3]; rfl
        have e4 : Sc.fV s = 0 := by unfold Sc.fV; rw [c1, c2]; rfl
        by_cases c4 : Sc.isSign (Sc.hd s) = true
        · have e2 : Sc.fK s = 4 := by unfold Sc.fK; rw [c1, c2, c3, c4]; rfl
          have e3 : Sc.fE s = 0 := by unfold Sc.fE; rw [c1, c2, c3, c4]; rfl
          rw [e2, e3, e4, e1]
          rw [c4, hd] at hR
          exact first_sign s hs h0 hL hD hH' hR w
        · rw [Bool.not_eq_true] at c4
          have e2 : Sc.fK s = 0 := by unfold Sc.fK; rw [c1, c2, c3, c4]; rfl
          have e3 : Sc.fE s = 10 := by unfold Sc.fE; rw [c1, c2, c3, c4]; rfl
          rw [e2, e3, e4, e1]
          rw [c4, hd] at hR
          exact first_none s hs h0 hL hD hH' hR w

/-- whether a text is one name -/
def Sc.isName (s : ByteArray) : Bool := if s.size = 0 then false else decide (Sc.fE s = 0) && decide (Sc.fK s = 1) && decide (Sc.fN s = s.size)

theorem Sc.fN_le (s : ByteArray) (h0 : 0 < s.size) : Sc.fN s ≤ s.size := by
  have h1 := Sc.spanN_le Sc.lord s.data.toList
  have h2 := Sc.spanN_le Sc.digi s.data.toList
  rw [Sc.data_len] at h1 h2
  unfold Sc.fN
  split
  · exact h1
  · split
    · exact h2
    · split
      · rename_i h; have := Sc.hasPrefix_two _ h; rw [Sc.data_len] at this; exact this
      · omega

theorem Sc.extract_beq (s : ByteArray) (n : Nat) (h : n ≤ s.size) : ((s.extract 0 n).toList == s.toList) = decide (n = s.size) := by
  rw [Bool.eq_iff_iff, beq_iff_eq, decide_eq_true_iff, Lib.extract_toList, Lib.toList_data]
  have hl := Sc.data_len s
  constructor
  · intro h1
    have := congrArg List.length h1
    simp at this
    omega
  · rintro rfl
    simp [List.take_of_length_le]
end Go.Proofs.YtfkbdpehdabepaaGreatDoor
namespace Go.Proofs.YtfkbdpehdabepaaGreatDoor
open Go.RowKit

set_option maxHeartbeats 1000000 in
set_option maxRecDepth 100000 in
theorem scan_Name_of (s : ByteArray) (k v er : Int) (n : Nat) (w : World) (b1 b2 b3 : Bool) (h1 : (er == 0) = b1) (h2 : (k == 1) = b2) (h3 : ((s.extract 0 n).toList == s.toList) = b3)
    (he : s.toList.isEmpty = false)
    (hF : ∀ w1 : World, Below w.heap.size w w1 → Calls Tryz.prog 145 #[.string s] w1 fun e w' => e = .returned (.tuple #[.agg #[.int .i8 k, .string (s.extract 0 n), .int .i64 v, .int .i64 0], .int .i64 er]) ∧ Below w1.heap.size w1 w') :
    Calls Tryz.prog 126 #[.string s] w fun e w' => e = .returned (.bool (b1 && b2 && b3)) ∧ Below w.heap.size w w' := by
  have he2 : (s.toList == []) = false := by cases hq : s.toList <;> simp_all
  cases b1 <;> cases b2 <;> cases b3
  all_goals
    go_enter Tryz.func126, Tryz.ntmps126
    go_wp2_with (go_at_call 145; refine (hF _ (Below.refl _ _)).mono ?_; rintro e w1 ⟨rfl, hb⟩)
    go_ret
    exact ⟨rfl, hb.alloc hb.size _⟩

theorem scan_Name_any (s : ByteArray) (hs : s.size ≤ 281474976710656) (w : World) (tp : TypeId) (p : Value) (hvar : w.var? Tryz.prog "strconv.ErrRange" = some #[.iface tp p]) :
    Calls Tryz.prog 126 #[.string s] w fun e w' => e = .returned (.bool (Sc.isName s)) ∧ Below w.heap.size w w' := by
  by_cases h0 : s.size = 0
  · have hn : Sc.isName s = false := by unfold Sc.isName; rw [if_pos h0]
    have he : s.toList = [] := by rw [Lib.toList_data]; apply List.eq_nil_of_length_eq_zero; rw [Sc.data_len]; exact h0
    rw [hn]
    clear h0 hn
    have he1 : s.toList.isEmpty = true := by rw [he]; rfl
    clear he
    go_enter Tryz.func126, Tryz.ntmps126
    go_wp2_with fail
    go_ret
    exact ⟨rfl, Below.refl _ _⟩
  · have h1 : 0 < s.size := by omega
    have he : s.toList.isEmpty = false := by
      rw [Lib.toList_data]
      have := Sc.data_len s
      cases hq : s.data.toList with
      | nil => rw [hq] at this; simp at this; omega
      | cons a l => rfl
    have hle := Sc.fN_le s h1
    have := scan_Name_of s (Sc.fK s) (Sc.fV s) (Sc.fE s) (Sc.fN s) w _ _ _ rfl rfl rfl he fun w1 hb => first_any s hs h1 w1 tp p (var_at hb hvar)
    have e : Sc.isName s = ((Sc.fE s == 0) && (Sc.fK s == 1) && ((s.extract 0 (Sc.fN s)).toList == s.toList)) := by
      unfold Sc.isName
      rw [if_neg h0, Sc.extract_beq s _ hle]
      rfl
    rw [e]
    exact this
end Go.Proofs.YtfkbdpehdabepaaGreatDoor
namespace Go.Proofs.YtfkbdpehdabepaaGreatDoor
open Go.RowKit

theorem Sc.isName_eq (s : ByteArray) (h0 : 0 < s.size) : Sc.isName s = (decide (s.size ≤ 64) && !Sc.isKey s && Sc.lett (Sc.hd s) && decide (Sc.spanN Sc.lord s.data.toList = s.size)) := by
  have hz : ¬ s.size = 0 := by omega
  unfold Sc.isName
  rw [if_neg hz]
  cases c1 : Sc.lett (Sc.hd s)
  · have hk : Sc.fK s ≠ 1 := by
      unfold Sc.fK
      rw [c1, if_neg (by decide)]
      split
      · decide
      · split <;> decide
    simp [hk]
  · have e1 : Sc.fN s = Sc.spanN Sc.lord s.data.toList := by unfold Sc.fN; rw [if_pos c1]
    have e2 : Sc.fK s = Sc.nameKind (s.extract 0 (Sc.fN s)) (Sc.fN s) := by unfold Sc.fK; rw [if_pos c1]
    have e3 : Sc.fE s = Sc.nameErr (Sc.fN s) := by unfold Sc.fE; rw [if_pos c1]
    rw [e3, e2, e1]
    generalize Sc.spanN Sc.lord s.data.toList = n
    by_cases hn : n = s.size
    · subst hn
      have ex : s.extract 0 s.size = s := by simp
      rw [ex]
      unfold Sc.nameErr Sc.nameKind
      by_cases h64 : 64 < s.size
      · have hd : decide (s.size ≤ 64) = false := by simp; omega
        rw [hd]
        simp [h64]
      · have h64' : s.size ≤ 64 := by omega
        cases Sc.isKey s <;> simp [h64']
    · simp [hn]

set_option maxHeartbeats 400000 in
set_option maxRecDepth 100000 in
/-- the loop: every byte a letter or a digit -/
theorem ref_Name_loop (s : ByteArray) (h0 : 0 < s.size) (hs : s.size ≤ 64) (w : World)
    (he : s.toList.isEmpty = false) (hk : Sc.isKey s = false) (hl : Sc.lett (Sc.hd s) = true) :
    Calls Tryz.prog 121 #[.string s] w fun e w' => e = .returned (.bool (decide (Sc.spanN Sc.lord s.data.toList = s.size))) ∧ w = w' := by
  have he2 : (s.toList == []) = false := by cases hq : s.toList <;> simp_all
  have i0 : (0 : Int) < s.size := by omega
  have i1 : (s.size : Int) ≤ 64 := by omega
  have hK := ref_Key_any s
  rw [hk] at hK
  have hL := ref_letter_any ((s[0]).toNat : Int)
  rw [← Sc.hd_eq s h0, hl, Sc.hd_eq s h0] at hL
  clear hl hk
  go_enter Tryz.func121, Tryz.ntmps121
  go_wp2_with (first | (go_at_call 141; refine (hK _).mono ?_; rintro e w1 ⟨rfl, rfl⟩) | (go_at_call 142; refine (hL _).mono ?_; rintro e w1 ⟨rfl, rfl⟩))
  go_loop [3] (fun i => ∃ k : Nat, k ≤ s.size ∧ k ≤ Sc.spanN Sc.lord s.data.toList ∧ i = .int .i64 k) (fun i => s.size - (intOf i).toNat)
  case atStart => exact ⟨0, Nat.zero_le _, Nat.zero_le _, rfl⟩
  case round =>
    obtain ⟨k, hk1, hk2, rfl⟩ := hrel
    clear hL
    by_cases hlt : k < s.size
    · have hlen : k < s.data.toList.length := by rw [Sc.data_len]; exact hlt
      have hLk := ref_letter_any ((s[k]).toNat : Int)
      have hDk := ref_digit_any ((s[k]).toNat : Int)
      cases c1 : Sc.lett ((s[k]).toNat : Int)
      · cases c2 : Sc.digi ((s[k]).toNat : Int)
        · have hst : Sc.spanN Sc.lord s.data.toList = k := Sc.spanN_eq Sc.lord _ k hlen hk2 (by rw [Sc.get_data s k hlt hlen]; unfold Sc.lord; rw [c1, c2]; rfl)
          have hdec : decide (Sc.spanN Sc.lord s.data.toList = s.size) = false := by rw [hst]; simp; omega
          have HD := Lib.hid hdec
          clear hst hdec
          rw [c1] at hLk
          rw [c2] at hDk
          clear c1 c2
          go_wp2_with (first | (go_at_call 142; refine (hLk _).mono ?_; rintro e w1 ⟨rfl, rfl⟩) | (go_at_call 143; refine (hDk _).mono ?_; rintro e w1 ⟨rfl, rfl⟩))
          go_ret
          exact ⟨ret_b HD.out.symm, rfl⟩
        · have hm := Sc.spanN_more Sc.lord _ k hlen hk2 (by rw [Sc.get_data s k hlt hlen]; unfold Sc.lord; rw [c2]; simp)
          rw [c1] at hLk
          rw [c2] at hDk
          clear c1 c2
          go_wp2_with (first | (go_at_call 142; refine (hLk _).mono ?_; rintro e w1 ⟨rfl, rfl⟩) | (go_at_call 143; refine (hDk _).mono ?_; rintro e w1 ⟨rfl, rfl⟩))
          go_round
          case rel => exact ⟨k + 1, by omega, hm, by go_num⟩
          case measure => simp [intOf]; omega
      · have hm := Sc.spanN_more Sc.lord _ k hlen hk2 (by rw [Sc.get_data s k hlt hlen]; unfold Sc.lord; rw [c1]; simp)
        rw [c1] at hLk
        clear c1
        go_wp2_with (go_at_call 142; refine (hLk _).mono ?_; rintro e w1 ⟨rfl, rfl⟩)
        go_round
        case rel => exact ⟨k + 1, by omega, hm, by go_num⟩
        case measure => simp [intOf]; omega
    · have hle := Sc.spanN_le Sc.lord s.data.toList
      rw [Sc.data_len] at hle
      have hdec : decide (Sc.spanN Sc.lord s.data.toList = s.size) = true := by simp; omega
      have HD := Lib.hid hdec
      clear hdec
      go_wp2_with fail
      go_ret
      exact ⟨ret_b HD.out.symm, rfl⟩

set_option maxHeartbeats 400000 in
set_option maxRecDepth 100000 in
theorem ref_Name_empty (s : ByteArray) (w : World) (he : s.toList.isEmpty = true) :
    Calls Tryz.prog 121 #[.string s] w fun e w' => e = .returned (.bool false) ∧ w = w' := by
  go_enter Tryz.func121, Tryz.ntmps121
  go_wp2_with fail
  go_ret
  exact ⟨rfl, rfl⟩

set_option maxHeartbeats 400000 in
set_option maxRecDepth 100000 in
theorem ref_Name_long (s : ByteArray) (w : World) (he : s.toList.isEmpty = false) (h64 : (64 : Int) < s.size) :
    Calls Tryz.prog 121 #[.string s] w fun e w' => e = .returned (.bool false) ∧ w = w' := by
  have he2 : (s.toList == []) = false := by cases hq : s.toList <;> simp_all
  go_enter Tryz.func121, Tryz.ntmps121
  go_wp2_with fail
  go_ret
  exact ⟨rfl, rfl⟩

set_option maxHeartbeats 400000 in
set_option maxRecDepth 100000 in
theorem ref_Name_key (s : ByteArray) (w : World) (he : s.toList.isEmpty = false) (h64 : (s.size : Int) ≤ 64)
    (hK : ∀ w : World, Calls Tryz.prog 141 #[.string s] w fun e w' => e = .returned (.bool true) ∧ w = w') :
    Calls Tryz.prog 121 #[.string s] w fun e w' => e = .returned (.bool false) ∧ w = w' := by
  have he2 : (s.toList == []) = false := by cases hq : s.toList <;> simp_all
  go_enter Tryz.func121, Tryz.ntmps121
  go_wp2_with (go_at_call 141; refine (hK _).mono ?_; rintro e w1 ⟨rfl, rfl⟩)
  go_ret
  exact ⟨rfl, rfl⟩

set_option maxHeartbeats 400000 in
set_option maxRecDepth 100000 in
theorem ref_Name_head (s : ByteArray) (w : World) (h0 : 0 < s.size) (he : s.toList.isEmpty = false) (h64 : (s.size : Int) ≤ 64)
    (hK : ∀ w : World, Calls Tryz.prog 141 #[.string s] w fun e w' => e = .returned (.bool false) ∧ w = w')
    (hL : ∀ w : World, Calls Tryz.prog 142 #[.int .u8 ((s[0]).toNat : Int)] w fun e w' => e = .returned (.bool false) ∧ w = w') :
    Calls Tryz.prog 121 #[.string s] w fun e w' => e = .returned (.bool false) ∧ w = w' := by
  have he2 : (s.toList == []) = false := by cases hq : s.toList <;> simp_all
  have i0 : (0 : Int) < s.size := by omega
  go_enter Tryz.func121, Tryz.ntmps121
  go_wp2_with (first | (go_at_call 141; refine (hK _).mono ?_; rintro e w1 ⟨rfl, rfl⟩) | (go_at_call 142; refine (hL _).mono ?_; rintro e w1 ⟨rfl, rfl⟩))
  go_ret
  exact ⟨rfl, rfl⟩

theorem ref_Name_any (s : ByteArray) (w : World) :
    Calls Tryz.prog 121 #[.string s] w fun e w' => e = .returned (.bool (Sc.isName s)) ∧ w = w' := by
  by_cases h0 : s.size = 0
  · have hn : Sc.isName s = false := by unfold Sc.isName; rw [if_pos h0]
    have he : s.toList = [] := by rw [Lib.toList_data]; apply List.eq_nil_of_length_eq_zero; rw [Sc.data_len]; exact h0
    rw [hn]
    exact ref_Name_empty s w (by rw [he]; rfl)
  · have h1 : 0 < s.size := by omega
    have he : s.toList.isEmpty = false := by
      rw [Lib.toList_data]
      have := Sc.data_len s
      cases hq : s.data.toList with
      | nil => rw [hq] at this; simp at this; omega
      | cons a l => rfl
    rw [Sc.isName_eq s h1]
    by_cases h64 : s.size ≤ 64
    · cases hk : Sc.isKey s
      · cases hl : Sc.lett (Sc.hd s)
        · have hL := ref_letter_any ((s[0]).toNat : Int)
          have hK := ref_Key_any s
          rw [hk] at hK
          rw [← Sc.hd_eq s h1, hl, Sc.hd_eq s h1] at hL
          simpa [h64] using ref_Name_head s w h1 he (by omega) hK hL
        · simpa [h64] using ref_Name_loop s h1 h64 w he hk hl
      · have hK := ref_Key_any s
        rw [hk] at hK
        simpa [h64] using ref_Name_key s w he (by omega) hK
    · simpa [h64] using ref_Name_long s w he (by omega)
end Go.Proofs.YtfkbdpehdabepaaGreatDoor
