/-
  scan.span over each of the four predicates that the program hands it: how many of the first bytes belong.
-/
import Derived.Test.YtknhoagicdfikaaGreatDoorLeaf
import Derived.Test.YtknhoagicdfikaaGreatDoorUtf
namespace Go.Proofs.YtknhoagicdfikaaGreatDoor
open Go.RowKit

theorem Sc.lett_high (r : Nat) (h : 128 ≤ r) : Sc.lett (r : Int) = false := by simp [Sc.lett]; omega
theorem Sc.digi_high (r : Nat) (h : 128 ≤ r) : Sc.digi (r : Int) = false := by simp [Sc.digi]; omega
theorem Sc.lord_high (r : Nat) (h : 128 ≤ r) : Sc.lord (r : Int) = false := by simp [Sc.lord, Sc.lett_high r h, Sc.digi_high r h]
set_option maxHeartbeats 400000 in
theorem scan_lord_any (r : Int) (w : World) :
    Calls Tryz.prog 103 #[.int .i32 r] w fun e w' => e = .returned (.bool (Sc.lord r)) ∧ w = w' := by
  by_cases h : Sc.lett r = true
  · have hc := (scan_letter_any r w)
    rw [h] at hc
    have hl : Sc.lord r = true := by simp [Sc.lord, h]
    rw [hl]
    clear h hl
    go_enter Tryz.func103, Tryz.ntmps103
    go_wp2_with (go_at_call 95; refine hc.mono ?_; rintro e w' ⟨rfl, rfl⟩)
    go_ret
    exact ⟨rfl, rfl⟩
  · have h' : Sc.lett r = false := by simpa using h
    have hc := (scan_letter_any r w)
    rw [h'] at hc
    have hl : Sc.digi r = Sc.lord r := by simp [Sc.lord, h']
    have hd := scan_digit_any r w
    rw [hl] at hd
    clear h h' hl
    go_enter Tryz.func103, Tryz.ntmps103
    go_wp2_with (first | (go_at_call 95; refine hc.mono ?_; rintro e w' ⟨rfl, rfl⟩) | (go_at_call 97; refine hd.mono ?_; rintro e w' ⟨rfl, rfl⟩))
    go_ret
    exact ⟨rfl, rfl⟩

set_option maxHeartbeats 1000000 in
set_option maxRecDepth 100000 in
theorem span_letter (s : ByteArray) (w : World) :
    Calls Tryz.prog 102 #[.string s, .func (.func 95) #[] #[]] w fun e w' => e = .returned (.int .i64 (Sc.spanN Sc.lett s.data.toList)) ∧ ∃ pos, w' = w.iter s pos := by
  go_enter Tryz.func102, Tryz.ntmps102
  go_wp2

  go_loopw [5] (fun _ wr => ∃ pos : Nat, wr = w.iter s pos ∧ pos ≤ s.size ∧ pos ≤ Sc.spanN Sc.lett s.data.toList) (fun _ wr => s.size - wr.iterPos w.heap.size)
  case atStart => exact ⟨0, rfl, Nat.zero_le _, Nat.zero_le _⟩
  case round =>
    obtain ⟨pos, rfl, hps, hk⟩ := hrel
    by_cases hp : pos < s.size
    · have hl : pos < s.data.toList.length := by rw [Sc.data_len]; exact hp
      by_cases hb : 128 ≤ s[pos].toNat
      · have hd := decode_high s pos hp hb
        have hle := decode_le s pos
        have hnx : ∀ ty, (Instr.next (.pointer (some ⟨w.heap.size, 0, none⟩)) true ty).run Tryz.prog (w.iter s pos) = _ := fun ty => run_next_any w s pos ty hp
        have hq : Sc.lett (Utf8.decode s pos).1 = false := Sc.lett_high _ hd.1
        have hst : Sc.spanN Sc.lett s.data.toList = pos := Sc.spanN_eq Sc.lett _ pos hl hk (by rw [Sc.get_data s pos hp hl]; exact Sc.lett_high _ (by omega))
        have HS := Lib.hid hst
        clear hst
        have HQ := Lib.hid hq
        clear hq
        go_wp2_with (go_at_call 95; refine (scan_letter_any _ _).mono ?_; rintro e w' ⟨rfl, rfl⟩; rw [HQ.out])
        go_ret
        exact ⟨ret_i (by rw [HS.out]), _, rfl⟩
      · have hnx : ∀ ty, (Instr.next (.pointer (some ⟨w.heap.size, 0, none⟩)) true ty).run Tryz.prog (w.iter s pos) = _ := fun ty => run_next_ascii w s pos ty hp (by omega)
        have hb256 : s[pos].toNat < 256 := s[pos].toNat_lt
        by_cases hq : Sc.lett (s[pos].toNat : Int) = true
        · have hm : pos + 1 ≤ Sc.spanN Sc.lett s.data.toList := Sc.spanN_more Sc.lett _ pos hl hk (by rw [Sc.get_data s pos hp hl]; exact hq)
          have HQ := Lib.hid hq
          clear hq
          go_wp2_with (go_at_call 95; refine (scan_letter_any _ _).mono ?_; rintro e w' ⟨rfl, rfl⟩; rw [HQ.out])
          go_roundw
          case rel => exact ⟨_, rfl, by omega, hm⟩
          case measure => simp; omega
        · have hq' : Sc.lett (s[pos].toNat : Int) = false := by simpa using hq
          have hst : Sc.spanN Sc.lett s.data.toList = pos := Sc.spanN_eq Sc.lett _ pos hl hk (by rw [Sc.get_data s pos hp hl]; exact hq')
          have HS := Lib.hid hst
          clear hst
          have HQ := Lib.hid hq'
          clear hq' hq
          go_wp2_with (go_at_call 95; refine (scan_letter_any _ _).mono ?_; rintro e w' ⟨rfl, rfl⟩; rw [HQ.out])
          go_ret
          exact ⟨ret_i (by rw [HS.out]), _, rfl⟩
    · have hnx : ∀ ty, (Instr.next (.pointer (some ⟨w.heap.size, 0, none⟩)) true ty).run Tryz.prog (w.iter s pos) = _ := fun ty => run_next_end w s pos ty hp
      have hst : Sc.spanN Sc.lett s.data.toList = s.size := by
        have := Sc.spanN_le Sc.lett s.data.toList
        rw [Sc.data_len] at this
        omega
      have HS := Lib.hid hst
      clear hst
      go_wp2
      go_ret
      exact ⟨ret_i (by rw [HS.out]), _, rfl⟩

set_option maxHeartbeats 1000000 in
set_option maxRecDepth 100000 in
theorem span_digit (s : ByteArray) (w : World) :
    Calls Tryz.prog 102 #[.string s, .func (.func 97) #[] #[]] w fun e w' => e = .returned (.int .i64 (Sc.spanN Sc.digi s.data.toList)) ∧ ∃ pos, w' = w.iter s pos := by
  go_enter Tryz.func102, Tryz.ntmps102
  go_wp2

  go_loopw [5] (fun _ wr => ∃ pos : Nat, wr = w.iter s pos ∧ pos ≤ s.size ∧ pos ≤ Sc.spanN Sc.digi s.data.toList) (fun _ wr => s.size - wr.iterPos w.heap.size)
  case atStart => exact ⟨0, rfl, Nat.zero_le _, Nat.zero_le _⟩
  case round =>
    obtain ⟨pos, rfl, hps, hk⟩ := hrel
    by_cases hp : pos < s.size
    · have hl : pos < s.data.toList.length := by rw [Sc.data_len]; exact hp
      by_cases hb : 128 ≤ s[pos].toNat
      · have hd := decode_high s pos hp hb
        have hle := decode_le s pos
        have hnx : ∀ ty, (Instr.next (.pointer (some ⟨w.heap.size, 0, none⟩)) true ty).run Tryz.prog (w.iter s pos) = _ := fun ty => run_next_any w s pos ty hp
        have hq : Sc.digi (Utf8.decode s pos).1 = false := Sc.digi_high _ hd.1
        have hst : Sc.spanN Sc.digi s.data.toList = pos := Sc.spanN_eq Sc.digi _ pos hl hk (by rw [Sc.get_data s pos hp hl]; exact Sc.digi_high _ (by omega))
        have HS := Lib.hid hst
        clear hst
        have HQ := Lib.hid hq
        clear hq
        go_wp2_with (go_at_call 97; refine (scan_digit_any _ _).mono ?_; rintro e w' ⟨rfl, rfl⟩; rw [HQ.out])
        go_ret
        exact ⟨ret_i (by rw [HS.out]), _, rfl⟩
      · have hnx : ∀ ty, (Instr.next (.pointer (some ⟨w.heap.size, 0, none⟩)) true ty).run Tryz.prog (w.iter s pos) = _ := fun ty => run_next_ascii w s pos ty hp (by omega)
        have hb256 : s[pos].toNat < 256 := s[pos].toNat_lt
        by_cases hq : Sc.digi (s[pos].toNat : Int) = true
        · have hm : pos + 1 ≤ Sc.spanN Sc.digi s.data.toList := Sc.spanN_more Sc.digi _ pos hl hk (by rw [Sc.get_data s pos hp hl]; exact hq)
          have HQ := Lib.hid hq
          clear hq
          go_wp2_with (go_at_call 97; refine (scan_digit_any _ _).mono ?_; rintro e w' ⟨rfl, rfl⟩; rw [HQ.out])
          go_roundw
          case rel => exact ⟨_, rfl, by omega, hm⟩
          case measure => simp; omega
        · have hq' : Sc.digi (s[pos].toNat : Int) = false := by simpa using hq
          have hst : Sc.spanN Sc.digi s.data.toList = pos := Sc.spanN_eq Sc.digi _ pos hl hk (by rw [Sc.get_data s pos hp hl]; exact hq')
          have HS := Lib.hid hst
          clear hst
          have HQ := Lib.hid hq'
          clear hq' hq
          go_wp2_with (go_at_call 97; refine (scan_digit_any _ _).mono ?_; rintro e w' ⟨rfl, rfl⟩; rw [HQ.out])
          go_ret
          exact ⟨ret_i (by rw [HS.out]), _, rfl⟩
    · have hnx : ∀ ty, (Instr.next (.pointer (some ⟨w.heap.size, 0, none⟩)) true ty).run Tryz.prog (w.iter s pos) = _ := fun ty => run_next_end w s pos ty hp
      have hst : Sc.spanN Sc.digi s.data.toList = s.size := by
        have := Sc.spanN_le Sc.digi s.data.toList
        rw [Sc.data_len] at this
        omega
      have HS := Lib.hid hst
      clear hst
      go_wp2
      go_ret
      exact ⟨ret_i (by rw [HS.out]), _, rfl⟩

set_option maxHeartbeats 1000000 in
set_option maxRecDepth 100000 in
theorem span_lord (s : ByteArray) (w : World) :
    Calls Tryz.prog 102 #[.string s, .func (.func 103) #[] #[]] w fun e w' => e = .returned (.int .i64 (Sc.spanN Sc.lord s.data.toList)) ∧ ∃ pos, w' = w.iter s pos := by
  go_enter Tryz.func102, Tryz.ntmps102
  go_wp2

  go_loopw [5] (fun _ wr => ∃ pos : Nat, wr = w.iter s pos ∧ pos ≤ s.size ∧ pos ≤ Sc.spanN Sc.lord s.data.toList) (fun _ wr => s.size - wr.iterPos w.heap.size)
  case atStart => exact ⟨0, rfl, Nat.zero_le _, Nat.zero_le _⟩
  case round =>
    obtain ⟨pos, rfl, hps, hk⟩ := hrel
    by_cases hp : pos < s.size
    · have hl : pos < s.data.toList.length := by rw [Sc.data_len]; exact hp
      by_cases hb : 128 ≤ s[pos].toNat
      · have hd := decode_high s pos hp hb
        have hle := decode_le s pos
        have hnx : ∀ ty, (Instr.next (.pointer (some ⟨w.heap.size, 0, none⟩)) true ty).run Tryz.prog (w.iter s pos) = _ := fun ty => run_next_any w s pos ty hp
        have hq : Sc.lord (Utf8.decode s pos).1 = false := Sc.lord_high _ hd.1
        have hst : Sc.spanN Sc.lord s.data.toList = pos := Sc.spanN_eq Sc.lord _ pos hl hk (by rw [Sc.get_data s pos hp hl]; exact Sc.lord_high _ (by omega))
        have HS := Lib.hid hst
        clear hst
        have HQ := Lib.hid hq
        clear hq
        go_wp2_with (go_at_call 103; refine (scan_lord_any _ _).mono ?_; rintro e w' ⟨rfl, rfl⟩; rw [HQ.out])
        go_ret
        exact ⟨ret_i (by rw [HS.out]), _, rfl⟩
      · have hnx : ∀ ty, (Instr.next (.pointer (some ⟨w.heap.size, 0, none⟩)) true ty).run Tryz.prog (w.iter s pos) = _ := fun ty => run_next_ascii w s pos ty hp (by omega)
        have hb256 : s[pos].toNat < 256 := s[pos].toNat_lt
        by_cases hq : Sc.lord (s[pos].toNat : Int) = true
        · have hm : pos + 1 ≤ Sc.spanN Sc.lord s.data.toList := Sc.spanN_more Sc.lord _ pos hl hk (by rw [Sc.get_data s pos hp hl]; exact hq)
          have HQ := Lib.hid hq
          clear hq
          go_wp2_with (go_at_call 103; refine (scan_lord_any _ _).mono ?_; rintro e w' ⟨rfl, rfl⟩; rw [HQ.out])
          go_roundw
          case rel => exact ⟨_, rfl, by omega, hm⟩
          case measure => simp; omega
        · have hq' : Sc.lord (s[pos].toNat : Int) = false := by simpa using hq
          have hst : Sc.spanN Sc.lord s.data.toList = pos := Sc.spanN_eq Sc.lord _ pos hl hk (by rw [Sc.get_data s pos hp hl]; exact hq')
          have HS := Lib.hid hst
          clear hst
          have HQ := Lib.hid hq'
          clear hq' hq
          go_wp2_with (go_at_call 103; refine (scan_lord_any _ _).mono ?_; rintro e w' ⟨rfl, rfl⟩; rw [HQ.out])
          go_ret
          exact ⟨ret_i (by rw [HS.out]), _, rfl⟩
    · have hnx : ∀ ty, (Instr.next (.pointer (some ⟨w.heap.size, 0, none⟩)) true ty).run Tryz.prog (w.iter s pos) = _ := fun ty => run_next_end w s pos ty hp
      have hst : Sc.spanN Sc.lord s.data.toList = s.size := by
        have := Sc.spanN_le Sc.lord s.data.toList
        rw [Sc.data_len] at this
        omega
      have HS := Lib.hid hst
      clear hst
      go_wp2
      go_ret
      exact ⟨ret_i (by rw [HS.out]), _, rfl⟩

end Go.Proofs.YtknhoagicdfikaaGreatDoor
