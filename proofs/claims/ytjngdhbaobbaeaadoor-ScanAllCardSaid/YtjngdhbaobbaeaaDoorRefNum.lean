/-
  The reference's Number, skip.
-/
import Derived.Test.YtjngdhbaobbaeaaDoorRefLeaf
import Derived.Test.YtjngdhbaobbaeaaDoorParted
namespace Go.Proofs.YtjngdhbaobbaeaaDoor
open Go.RowKit

theorem Sc.numFrom_snoc (l : List UInt8) (c : UInt8) (acc : Nat) : Sc.numFrom acc (l ++ [c]) = Sc.numFrom acc l * 10 + (c.toNat - 48) := by
  unfold Sc.numFrom; rw [List.foldl_append]; rfl
theorem Sc.numFrom_take (l : List UInt8) (k : Nat) (h : k < l.length) : Sc.numFrom 0 (l.take (k + 1)) = Sc.numFrom 0 (l.take k) * 10 + (l[k].toNat - 48) := by
  rw [List.take_add_one, List.getElem?_eq_getElem h]; exact Sc.numFrom_snoc _ _ _
theorem Sc.numFrom_ge (l : List UInt8) (k : Nat) : Sc.numFrom 0 (l.take k) ≤ Sc.numFrom 0 l := by
  have : Sc.numFrom 0 l = Sc.numFrom (Sc.numFrom 0 (l.take k)) (l.drop k) := by
    unfold Sc.numFrom
    rw [← List.foldl_append, List.take_append_drop]
  rw [this]
  exact Sc.numFrom_le _ _

theorem ret_ib {a b : Int} {c d : Bool} (h1 : a = b) (h2 : c = d) : Ending.returned (.tuple #[.int .i64 a, .bool c]) = .returned (.tuple #[.int .i64 b, .bool d]) := by rw [h1, h2]
/-- 'n > (2^63 - 1 - d) / 10' -/
theorem Sc.over (n d : Nat) (hd : d ≤ 9) : (9223372036854775807 - d) / 10 < n ↔ 9223372036854775808 ≤ n * 10 + d := by omega

set_option maxHeartbeats 1000000 in
set_option maxRecDepth 100000 in
theorem ref_Number (s : ByteArray) (hs : s.size ≤ 65536) (hd : ∀ k (h : k < s.size), 48 ≤ (s[k]).toNat ∧ (s[k]).toNat ≤ 57) (w : World) (V : Nat) (hV : Sc.numFrom 0 s.data.toList = V) (R : Int) (ok : Bool) (hR1 : V < 9223372036854775808 → R = V ∧ ok = true) (hR2 : ¬ V < 9223372036854775808 → R = 0 ∧ ok = false) :
    Calls Tryd.prog 35 #[.string s] w fun e w' => e = .returned (.tuple #[.int .i64 R, .bool ok]) ∧ w = w' := by
  have HV := Lib.hid hV
  have HD := Lib.hid hd
  have HR1 := Lib.hid hR1
  have HR2 := Lib.hid hR2
  clear hV hd hR1 hR2
  go_enter Tryd.func35, Tryd.ntmps35
  go_wp2_with fail
  go_loop [4, 5] (fun v4 v5 => ∃ k n : Nat, k ≤ s.size ∧ v5 = .int .i64 k ∧ v4 = .int .i64 n ∧ n = Sc.numFrom 0 (s.data.toList.take k) ∧ n ≤ 9223372036854775807) (fun _ v5 => s.size - (intOf v5).toNat)
  case atStart => exact ⟨0, 0, Nat.zero_le _, rfl, rfl, rfl, Nat.zero_le _⟩
  case round =>
    obtain ⟨k, n, hk, rfl, rfl, hn, hnb⟩ := hrel
    have HN := Lib.hid hn
    clear hn
    by_cases hlt : k < s.size
    · have hdk := HD.out k hlt
      have hl : k < s.data.toList.length := by rw [Sc.data_len]; exact hlt
      have hstep := Sc.numFrom_take s.data.toList k hl
      rw [Sc.get_data s k hlt hl, ← HN.out] at hstep
      have HS := Lib.hid hstep
      have hmono := Sc.numFrom_ge s.data.toList (k + 1)
      have HMO := Lib.hid hmono
      clear hstep hmono
      obtain ⟨d1, d2⟩ := hdk
      by_cases hov : (9223372036854775807 - (((s[k]).toNat : Int) - 48)) / 10 < (n : Int)
      · have hbig : ¬ V < 9223372036854775808 := by
          have h1 := HMO.out
          have h2 := HS.out
          have h3 := HV.out
          omega
        obtain ⟨e1, e2⟩ := HR2.out hbig
        have E1 := Lib.hid e1
        have E2 := Lib.hid e2
        clear e1 e2 hbig
        go_wp2_with fail
        go_ret2
        exact ⟨ret_ib E1.out.symm E2.out.symm, rfl⟩
      · have hle : n * 10 + ((s[k]).toNat - 48) ≤ 9223372036854775807 := by omega
        have hle2 : (n : Int) ≤ (9223372036854775807 - (((s[k]).toNat : Int) - 48)) / 10 := by omega
        have hle3 : (n : Int) * 10 + (((s[k]).toNat : Int) - 48) ≤ 9223372036854775807 := by omega
        have hcast : (((n * 10 + ((s[k]).toNat - 48) : Nat) : Int)) = (n : Int) * 10 + (((s[k]).toNat : Int) - 48) := by omega
        have HCA := Lib.hid hcast
        clear hcast
        go_wp2_with fail
        go_round
        case rel => exact ⟨k + 1, n * 10 + ((s[k]).toNat - 48), by omega, by go_num, by rw [HCA.out], HS.out.symm, hle⟩
        case measure => simp [intOf]; omega
    · have hkl : k = s.size := by omega
      have hval : n = V := by rw [HN.out, ← HV.out, hkl, ← Sc.data_len, List.take_length]
      have hsm : V < 9223372036854775808 := by omega
      obtain ⟨e1, e2⟩ := HR1.out hsm
      rw [← hval] at e1
      have E1 := Lib.hid e1
      have E2 := Lib.hid e2
      clear e1 e2 hsm hval hkl
      go_wp2_with fail
      go_ret2
      exact ⟨ret_ib E1.out.symm E2.out.symm, rfl⟩

set_option maxHeartbeats 1000000 in
set_option maxRecDepth 100000 in
/-- skip: the first place from a on at which neither a blank nor a remark stands -/
theorem ref_skip (s : ByteArray) (a : Nat) (hs : s.size ≤ 65536) (ha : a ≤ s.size) (w : World) :
    Calls Tryd.prog 19 #[.string s, .int .i64 a] w fun e w' => ∃ r : Nat, a ≤ r ∧ r ≤ s.size ∧ Sc.tk s r = Sc.tk s a ∧ (r < s.size → Sc.blan (Sc.byteAt s r) = false ∧ Sc.byteAt s r ≠ 35) ∧ e = .returned (.int .i64 r) ∧ w = w' := by
  go_enter Tryd.func19, Tryd.ntmps19
  go_wp2_with fail
  go_loop [1] (fun i => ∃ k : Nat, a ≤ k ∧ k ≤ s.size ∧ Sc.tk s k = Sc.tk s a ∧ i = .int .i64 k) (fun i => s.size - (intOf i).toNat)
  case atStart => exact ⟨a, Nat.le_refl _, ha, rfl, rfl⟩
  case round =>
    obtain ⟨k, hk0, hk1, htk, rfl⟩ := hrel
    have HT := Lib.hid htk
    clear htk
    by_cases hlt : k < s.size
    · have hby := Sc.byteAt_eq s k hlt
      by_cases h35 : Sc.byteAt s k = 35
      · have hb : (((s[k]).toNat : Int) == 35) = true := by rw [← hby, h35]; rfl
        have hsk := Sc.skipN_pos s k hlt h35
        have hle := Sc.skipN_le s k
        have htk2 := Sc.tk_remark s k hlt h35
        have HT2 := Lib.hid htk2
        clear htk2 h35 hby
        go_wp2_with fail
        go_loop [1] (fun i => ∃ k2 : Nat, k ≤ k2 ∧ k2 ≤ s.size ∧ k2 ≤ k + Sc.spanN Sc.notNl (s.data.toList.drop k) ∧ i = .int .i64 k2) (fun i => s.size - (intOf i).toNat)
        case atStart => exact ⟨k, Nat.le_refl _, hk1, by omega, rfl⟩
        case round =>
          obtain ⟨k2, g0, g1, g2, rfl⟩ := hrel
          by_cases hlt2 : k2 < s.size
          · by_cases h10 : ((s[k2]).toNat : Int) = 10
            · have hb2 : (((s[k2]).toNat : Int) != 10) = false := by rw [h10]; rfl
              have hst := Sc.span_stop Sc.notNl s k k2 hlt2 g0 g2 (by rw [h10]; rfl)
              have HS := Lib.hid hst
              clear h10 hst
              go_wp2_with fail
              go_round
              case rel => exact ⟨k2, by omega, by omega, by rw [← HT.out, HT2.out]; unfold Sc.skipN; rw [HS.out], rfl⟩
              case measure => simp [intOf]; have := HS.out; unfold Sc.skipN at hsk; omega
            · have hb2 : (((s[k2]).toNat : Int) != 10) = true := by rw [bne_iff_ne]; exact h10
              have hm := Sc.span_more Sc.notNl s k k2 hlt2 g0 g2 (by simp [Sc.notNl]; omega)
              clear h10
              go_wp2_with fail
              go_round
              case rel => exact ⟨k2 + 1, by omega, by omega, hm, by go_num⟩
              case measure => simp [intOf]; omega
          · have hst := Sc.span_all Sc.notNl s k k2 (by omega) g1 g0 g2
            have HS := Lib.hid hst
            clear hst
            go_wp2_with fail
            go_round
            case rel => exact ⟨k2, by omega, by omega, by rw [← HT.out, HT2.out]; unfold Sc.skipN; rw [HS.out], rfl⟩
            case measure => simp [intOf]; have := HS.out; unfold Sc.skipN at hsk; omega
      · have hb : (((s[k]).toNat : Int) == 35) = false := by rw [← hby]; simp [h35]
        have hB := ref_blank_any ((s[k]).toNat : Int)
        rw [← hby] at hB
        cases c1 : Sc.blan (Sc.byteAt s k)
        · rw [c1, hby] at hB
          have H35 := Lib.hid h35
          have HC1 := Lib.hid c1
          clear h35 c1 hby
          go_wp2_with (go_at_call 33; refine (hB _).mono ?_; rintro e w1 ⟨rfl, rfl⟩)
          go_ret
          exact ⟨k, hk0, hk1, HT.out, fun _ => ⟨HC1.out, H35.out⟩, rfl, rfl⟩
        · rw [c1, hby] at hB
          have htk2 := Sc.tk_blank s k hlt c1
          have HT2 := Lib.hid htk2
          clear h35 c1 hby htk2
          go_wp2_with (go_at_call 33; refine (hB _).mono ?_; rintro e w1 ⟨rfl, rfl⟩)
          go_round
          case rel => exact ⟨k + 1, by omega, by omega, by rw [← HT.out, HT2.out], by go_num⟩
          case measure => simp [intOf]; omega
    · go_wp2_with fail
      go_ret
      exact ⟨k, hk0, hk1, HT.out, fun h => absurd h hlt, rfl, rfl⟩
end Go.Proofs.YtjngdhbaobbaeaaDoor
