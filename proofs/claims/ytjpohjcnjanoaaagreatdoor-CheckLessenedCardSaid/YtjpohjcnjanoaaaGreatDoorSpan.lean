import Derived.Test.YtjpohjcnjanoaaaGreatDoorLeaf
import Derived.Test.YtjpohjcnjanoaaaGreatDoorUtf
namespace Go.Proofs.YtjpohjcnjanoaaaGreatDoor
open Go.RowKit

theorem Sc.vv (r : Nat) (h : 128 ≤ r) : Sc.lett (r : Int) = false := by simp [Sc.lett]; omega
theorem Sc.vw (r : Nat) (h : 128 ≤ r) : Sc.digi (r : Int) = false := by simp [Sc.digi]; omega
theorem Sc.xO (r : Nat) (h : 128 ≤ r) : Sc.lord (r : Int) = false := by simp [Sc.lord, Sc.vv r h, Sc.vw r h]
set_option maxHeartbeats 400000 in
theorem qx (r : Int) (w : World) :
    Calls Tryz.prog 169 #[.int .i32 r] w fun e w' => e = .returned (.bool (Sc.lord r)) ∧ w = w' := by
  by_cases h : Sc.lett r = true
  · have hc := (zw r w)
    rw [h] at hc
    have hl : Sc.lord r = true := by simp [Sc.lord, h]
    rw [hl]
    clear h hl
    go_enter Tryz.func169, Tryz.ntmps169
    go_wp2_with (go_at_call 161; refine hc.mono ?_; rintro e w' ⟨rfl, rfl⟩)
    go_ret
    exact ⟨rfl, rfl⟩
  · have h' : Sc.lett r = false := by simpa using h
    have hc := (zw r w)
    rw [h'] at hc
    have hl : Sc.digi r = Sc.lord r := by simp [Sc.lord, h']
    have hd := qK r w
    rw [hl] at hd
    clear h h' hl
    go_enter Tryz.func169, Tryz.ntmps169
    go_wp2_with (first | (go_at_call 161; refine hc.mono ?_; rintro e w' ⟨rfl, rfl⟩) | (go_at_call 163; refine hd.mono ?_; rintro e w' ⟨rfl, rfl⟩))
    go_ret
    exact ⟨rfl, rfl⟩

set_option maxHeartbeats 1000000 in
set_option maxRecDepth 100000 in
theorem uI (s : ByteArray) (w : World) :
    Calls Tryz.prog 168 #[.string s, .func (.func 161) #[] #[]] w fun e w' => e = .returned (.int .i64 (Sc.spanN Sc.lett s.data.toList)) ∧ ∃ pos, w' = w.iter s pos := by
  go_enter Tryz.func168, Tryz.ntmps168
  go_wp2

  go_loopw [5] (fun _ wr => ∃ pos : Nat, wr = w.iter s pos ∧ pos ≤ s.size ∧ pos ≤ Sc.spanN Sc.lett s.data.toList) (fun _ wr => s.size - wr.iterPos w.heap.size)
  case atStart => exact ⟨0, rfl, Nat.zero_le _, Nat.zero_le _⟩
  case round =>
    obtain ⟨pos, rfl, hps, hk⟩ := hrel
    by_cases hp : pos < s.size
    · have hl : pos < s.data.toList.length := by rw [Sc.ze]; exact hp
      by_cases hb : 128 ≤ s[pos].toNat
      · have hd := decode_high s pos hp hb
        have hle := decode_le s pos
        have hnx : ∀ ty, (Instr.next (.pointer (some ⟨w.heap.size, 0, none⟩)) true ty).run Tryz.prog (w.iter s pos) = _ := fun ty => run_next_any w s pos ty hp
        have hq : Sc.lett (Utf8.decode s pos).1 = false := Sc.vv _ hd.1
        have hst : Sc.spanN Sc.lett s.data.toList = pos := Sc.jA Sc.lett _ pos hl hk (by rw [Sc.qH s pos hp hl]; exact Sc.vv _ (by omega))
        have HS := Lib.hid hst
        clear hst
        have HQ := Lib.hid hq
        clear hq
        go_wp2_with (go_at_call 161; refine (zw _ _).mono ?_; rintro e w' ⟨rfl, rfl⟩; rw [HQ.out])
        go_ret
        exact ⟨vG (by rw [HS.out]), _, rfl⟩
      · have hnx : ∀ ty, (Instr.next (.pointer (some ⟨w.heap.size, 0, none⟩)) true ty).run Tryz.prog (w.iter s pos) = _ := fun ty => run_next_ascii w s pos ty hp (by omega)
        have hb256 : s[pos].toNat < 256 := s[pos].toNat_lt
        by_cases hq : Sc.lett (s[pos].toNat : Int) = true
        · have hm : pos + 1 ≤ Sc.spanN Sc.lett s.data.toList := Sc.jC Sc.lett _ pos hl hk (by rw [Sc.qH s pos hp hl]; exact hq)
          have HQ := Lib.hid hq
          clear hq
          go_wp2_with (go_at_call 161; refine (zw _ _).mono ?_; rintro e w' ⟨rfl, rfl⟩; rw [HQ.out])
          go_roundw
          case rel => exact ⟨_, rfl, by omega, hm⟩
          case measure => simp; omega
        · have hq' : Sc.lett (s[pos].toNat : Int) = false := by simpa using hq
          have hst : Sc.spanN Sc.lett s.data.toList = pos := Sc.jA Sc.lett _ pos hl hk (by rw [Sc.qH s pos hp hl]; exact hq')
          have HS := Lib.hid hst
          clear hst
          have HQ := Lib.hid hq'
          clear hq' hq
          go_wp2_with (go_at_call 161; refine (zw _ _).mono ?_; rintro e w' ⟨rfl, rfl⟩; rw [HQ.out])
          go_ret
          exact ⟨vG (by rw [HS.out]), _, rfl⟩
    · have hnx : ∀ ty, (Instr.next (.pointer (some ⟨w.heap.size, 0, none⟩)) true ty).run Tryz.prog (w.iter s pos) = _ := fun ty => run_next_end w s pos ty hp
      have hst : Sc.spanN Sc.lett s.data.toList = s.size := by
        have := Sc.qh Sc.lett s.data.toList
        rw [Sc.ze] at this
        omega
      have HS := Lib.hid hst
      clear hst
      go_wp2
      go_ret
      exact ⟨vG (by rw [HS.out]), _, rfl⟩

set_option maxHeartbeats 1000000 in
set_option maxRecDepth 100000 in
theorem zA2 (s : ByteArray) (w : World) :
    Calls Tryz.prog 168 #[.string s, .func (.func 163) #[] #[]] w fun e w' => e = .returned (.int .i64 (Sc.spanN Sc.digi s.data.toList)) ∧ ∃ pos, w' = w.iter s pos := by
  go_enter Tryz.func168, Tryz.ntmps168
  go_wp2

  go_loopw [5] (fun _ wr => ∃ pos : Nat, wr = w.iter s pos ∧ pos ≤ s.size ∧ pos ≤ Sc.spanN Sc.digi s.data.toList) (fun _ wr => s.size - wr.iterPos w.heap.size)
  case atStart => exact ⟨0, rfl, Nat.zero_le _, Nat.zero_le _⟩
  case round =>
    obtain ⟨pos, rfl, hps, hk⟩ := hrel
    by_cases hp : pos < s.size
    · have hl : pos < s.data.toList.length := by rw [Sc.ze]; exact hp
      by_cases hb : 128 ≤ s[pos].toNat
      · have hd := decode_high s pos hp hb
        have hle := decode_le s pos
        have hnx : ∀ ty, (Instr.next (.pointer (some ⟨w.heap.size, 0, none⟩)) true ty).run Tryz.prog (w.iter s pos) = _ := fun ty => run_next_any w s pos ty hp
        have hq : Sc.digi (Utf8.decode s pos).1 = false := Sc.vw _ hd.1
        have hst : Sc.spanN Sc.digi s.data.toList = pos := Sc.jA Sc.digi _ pos hl hk (by rw [Sc.qH s pos hp hl]; exact Sc.vw _ (by omega))
        have HS := Lib.hid hst
        clear hst
        have HQ := Lib.hid hq
        clear hq
        go_wp2_with (go_at_call 163; refine (qK _ _).mono ?_; rintro e w' ⟨rfl, rfl⟩; rw [HQ.out])
        go_ret
        exact ⟨vG (by rw [HS.out]), _, rfl⟩
      · have hnx : ∀ ty, (Instr.next (.pointer (some ⟨w.heap.size, 0, none⟩)) true ty).run Tryz.prog (w.iter s pos) = _ := fun ty => run_next_ascii w s pos ty hp (by omega)
        have hb256 : s[pos].toNat < 256 := s[pos].toNat_lt
        by_cases hq : Sc.digi (s[pos].toNat : Int) = true
        · have hm : pos + 1 ≤ Sc.spanN Sc.digi s.data.toList := Sc.jC Sc.digi _ pos hl hk (by rw [Sc.qH s pos hp hl]; exact hq)
          have HQ := Lib.hid hq
          clear hq
          go_wp2_with (go_at_call 163; refine (qK _ _).mono ?_; rintro e w' ⟨rfl, rfl⟩; rw [HQ.out])
          go_roundw
          case rel => exact ⟨_, rfl, by omega, hm⟩
          case measure => simp; omega
        · have hq' : Sc.digi (s[pos].toNat : Int) = false := by simpa using hq
          have hst : Sc.spanN Sc.digi s.data.toList = pos := Sc.jA Sc.digi _ pos hl hk (by rw [Sc.qH s pos hp hl]; exact hq')
          have HS := Lib.hid hst
          clear hst
          have HQ := Lib.hid hq'
          clear hq' hq
          go_wp2_with (go_at_call 163; refine (qK _ _).mono ?_; rintro e w' ⟨rfl, rfl⟩; rw [HQ.out])
          go_ret
          exact ⟨vG (by rw [HS.out]), _, rfl⟩
    · have hnx : ∀ ty, (Instr.next (.pointer (some ⟨w.heap.size, 0, none⟩)) true ty).run Tryz.prog (w.iter s pos) = _ := fun ty => run_next_end w s pos ty hp
      have hst : Sc.spanN Sc.digi s.data.toList = s.size := by
        have := Sc.qh Sc.digi s.data.toList
        rw [Sc.ze] at this
        omega
      have HS := Lib.hid hst
      clear hst
      go_wp2
      go_ret
      exact ⟨vG (by rw [HS.out]), _, rfl⟩

set_option maxHeartbeats 1000000 in
set_option maxRecDepth 100000 in
theorem zBH (s : ByteArray) (w : World) :
    Calls Tryz.prog 168 #[.string s, .func (.func 169) #[] #[]] w fun e w' => e = .returned (.int .i64 (Sc.spanN Sc.lord s.data.toList)) ∧ ∃ pos, w' = w.iter s pos := by
  go_enter Tryz.func168, Tryz.ntmps168
  go_wp2

  go_loopw [5] (fun _ wr => ∃ pos : Nat, wr = w.iter s pos ∧ pos ≤ s.size ∧ pos ≤ Sc.spanN Sc.lord s.data.toList) (fun _ wr => s.size - wr.iterPos w.heap.size)
  case atStart => exact ⟨0, rfl, Nat.zero_le _, Nat.zero_le _⟩
  case round =>
    obtain ⟨pos, rfl, hps, hk⟩ := hrel
    by_cases hp : pos < s.size
    · have hl : pos < s.data.toList.length := by rw [Sc.ze]; exact hp
      by_cases hb : 128 ≤ s[pos].toNat
      · have hd := decode_high s pos hp hb
        have hle := decode_le s pos
        have hnx : ∀ ty, (Instr.next (.pointer (some ⟨w.heap.size, 0, none⟩)) true ty).run Tryz.prog (w.iter s pos) = _ := fun ty => run_next_any w s pos ty hp
        have hq : Sc.lord (Utf8.decode s pos).1 = false := Sc.xO _ hd.1
        have hst : Sc.spanN Sc.lord s.data.toList = pos := Sc.jA Sc.lord _ pos hl hk (by rw [Sc.qH s pos hp hl]; exact Sc.xO _ (by omega))
        have HS := Lib.hid hst
        clear hst
        have HQ := Lib.hid hq
        clear hq
        go_wp2_with (go_at_call 169; refine (qx _ _).mono ?_; rintro e w' ⟨rfl, rfl⟩; rw [HQ.out])
        go_ret
        exact ⟨vG (by rw [HS.out]), _, rfl⟩
      · have hnx : ∀ ty, (Instr.next (.pointer (some ⟨w.heap.size, 0, none⟩)) true ty).run Tryz.prog (w.iter s pos) = _ := fun ty => run_next_ascii w s pos ty hp (by omega)
        have hb256 : s[pos].toNat < 256 := s[pos].toNat_lt
        by_cases hq : Sc.lord (s[pos].toNat : Int) = true
        · have hm : pos + 1 ≤ Sc.spanN Sc.lord s.data.toList := Sc.jC Sc.lord _ pos hl hk (by rw [Sc.qH s pos hp hl]; exact hq)
          have HQ := Lib.hid hq
          clear hq
          go_wp2_with (go_at_call 169; refine (qx _ _).mono ?_; rintro e w' ⟨rfl, rfl⟩; rw [HQ.out])
          go_roundw
          case rel => exact ⟨_, rfl, by omega, hm⟩
          case measure => simp; omega
        · have hq' : Sc.lord (s[pos].toNat : Int) = false := by simpa using hq
          have hst : Sc.spanN Sc.lord s.data.toList = pos := Sc.jA Sc.lord _ pos hl hk (by rw [Sc.qH s pos hp hl]; exact hq')
          have HS := Lib.hid hst
          clear hst
          have HQ := Lib.hid hq'
          clear hq' hq
          go_wp2_with (go_at_call 169; refine (qx _ _).mono ?_; rintro e w' ⟨rfl, rfl⟩; rw [HQ.out])
          go_ret
          exact ⟨vG (by rw [HS.out]), _, rfl⟩
    · have hnx : ∀ ty, (Instr.next (.pointer (some ⟨w.heap.size, 0, none⟩)) true ty).run Tryz.prog (w.iter s pos) = _ := fun ty => run_next_end w s pos ty hp
      have hst : Sc.spanN Sc.lord s.data.toList = s.size := by
        have := Sc.qh Sc.lord s.data.toList
        rw [Sc.ze] at this
        omega
      have HS := Lib.hid hst
      clear hst
      go_wp2
      go_ret
      exact ⟨vG (by rw [HS.out]), _, rfl⟩

end Go.Proofs.YtjpohjcnjanoaaaGreatDoor
