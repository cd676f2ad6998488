import Derived.Test.YtgjemmmbnpkamaaGreatDoorLeaf
import Derived.Test.YtgjemmmbnpkamaaGreatDoorUtf
namespace Go.Proofs.YtgjemmmbnpkamaaGreatDoor
open Go.RowKit
theorem zFF {P : Prop} (h : P := by
  have HS := Lib.hid hst
  clear hst
  go_wp2
  go_ret
  exact ⟨uw (by rw [HS.out]), _, rfl⟩) : P := h
theorem zFD {P : Prop} (h : P := by
  go_roundw
  case rel => exact ⟨_, rfl, by omega, hm⟩
  case measure => simp; omega) : P := h
theorem zGx {P : Prop} (h : P := by
  go_wp2_with (go_at_call 40; refine (qI _ _).mono ?_; rintro e w' ⟨rfl, rfl⟩; rw [HQ.out])
  go_ret
  exact ⟨uw (by rw [HS.out]), _, rfl⟩) : P := h
theorem zGu {P : Prop} (h : P := by
  go_wp2_with (go_at_call 42; refine (qa _ _).mono ?_; rintro e w' ⟨rfl, rfl⟩; rw [HQ.out])
  go_ret
  exact ⟨uw (by rw [HS.out]), _, rfl⟩) : P := h
theorem zGt {P : Prop} (h : P := by
  go_wp2_with (go_at_call 70; refine (vI _ _).mono ?_; rintro e w' ⟨rfl, rfl⟩; rw [HQ.out])
  go_ret
  exact ⟨uw (by rw [HS.out]), _, rfl⟩) : P := h
end Go.Proofs.YtgjemmmbnpkamaaGreatDoor
namespace Go.Proofs.YtgjemmmbnpkamaaGreatDoor
set_option maxHeartbeats 1000000
open Go.RowKit
theorem Sc.kI (r : Nat) (h : 128 ≤ r) : Sc.lett (r : Int) = false := by simp [Sc.lett]; omega
theorem Sc.kM (r : Nat) (h : 128 ≤ r) : Sc.digi (r : Int) = false := by simp [Sc.digi]; omega
theorem Sc.xx (r : Nat) (h : 128 ≤ r) : Sc.lord (r : Int) = false := by simp [Sc.lord, Sc.kI r h, Sc.kM r h]
theorem Sc.yh (r : Nat) (h : 128 ≤ r) : Sc.notNl (r : Int) = true := by simp [Sc.notNl]; omega
theorem vI (r : Int) (w : World) :
    Calls Tryz.prog 70 #[.int .i32 r] w fun e w' => e = .returned (.bool (Sc.lord r)) ∧ w = w' := by
  by_cases h : Sc.lett r = true
  · have hc := (qI r w)
    rw [h] at hc
    have hl : Sc.lord r = true := by simp [Sc.lord, h]
    rw [hl]
    clear h hl
    go_enter Tryz.func70, Tryz.ntmps70
    go_wp2_with (go_at_call 40; refine hc.mono ?_; rintro e w' ⟨rfl, rfl⟩)
    go_ret
    exact ⟨rfl, rfl⟩
  · have h' : Sc.lett r = false := by simpa using h
    have hc := (qI r w)
    rw [h'] at hc
    have hl : Sc.digi r = Sc.lord r := by simp [Sc.lord, h']
    have hd := qa r w
    rw [hl] at hd
    clear h h' hl
    go_enter Tryz.func70, Tryz.ntmps70
    go_wp2_with (first | (go_at_call 40; refine hc.mono ?_; rintro e w' ⟨rfl, rfl⟩) | (go_at_call 42; refine hd.mono ?_; rintro e w' ⟨rfl, rfl⟩))
    go_ret
    exact ⟨rfl, rfl⟩
set_option maxRecDepth 100000 in
theorem uj (s : ByteArray) (w : World) :
    Calls Tryz.prog 38 #[.string s, .func (.func 40) #[] #[]] w fun e w' => e = .returned (.int .i64 (Sc.spanN Sc.lett s.data.toList)) ∧ ∃ pos, w' = w.iter s pos := by
  go_enter Tryz.func38, Tryz.ntmps38
  go_wp2
  go_loopw [5] (fun _ wr => ∃ pos : Nat, wr = w.iter s pos ∧ pos ≤ s.size ∧ pos ≤ Sc.spanN Sc.lett s.data.toList) (fun _ wr => s.size - wr.iterPos w.heap.size)
  case atStart => exact ⟨0, rfl, Nat.zero_le _, Nat.zero_le _⟩
  case round =>
    obtain ⟨pos, rfl, hps, hk⟩ := hrel
    by_cases hp : pos < s.size
    · have hl : pos < s.data.toList.length := by rw [Sc.zV]; exact hp
      by_cases hb : 128 ≤ s[pos].toNat
      · have hd := decode_high s pos hp hb
        have hle := decode_le s pos
        have hnx : ∀ ty, (Instr.next (.pointer (some ⟨w.heap.size, 0, none⟩)) true ty).run Tryz.prog (w.iter s pos) = _ := fun ty => run_next_any w s pos ty hp
        have hq : Sc.lett (Utf8.decode s pos).1 = false := Sc.kI _ hd.1
        have hst : Sc.spanN Sc.lett s.data.toList = pos := Sc.jD Sc.lett _ pos hl hk (by rw [Sc.zh s pos hp hl]; exact Sc.kI _ (by omega))
        have HS := Lib.hid hst
        clear hst
        have HQ := Lib.hid hq
        clear hq
        exact zGx
      · have hnx : ∀ ty, (Instr.next (.pointer (some ⟨w.heap.size, 0, none⟩)) true ty).run Tryz.prog (w.iter s pos) = _ := fun ty => run_next_ascii w s pos ty hp (by omega)
        have hb256 : s[pos].toNat < 256 := s[pos].toNat_lt
        by_cases hq : Sc.lett (s[pos].toNat : Int) = true
        · have hm : pos + 1 ≤ Sc.spanN Sc.lett s.data.toList := Sc.qh Sc.lett _ pos hl hk (by rw [Sc.zh s pos hp hl]; exact hq)
          have HQ := Lib.hid hq
          clear hq
          go_wp2_with (go_at_call 40; refine (qI _ _).mono ?_; rintro e w' ⟨rfl, rfl⟩; rw [HQ.out])
          exact zFD
        · have hq' : Sc.lett (s[pos].toNat : Int) = false := by simpa using hq
          have hst : Sc.spanN Sc.lett s.data.toList = pos := Sc.jD Sc.lett _ pos hl hk (by rw [Sc.zh s pos hp hl]; exact hq')
          have HS := Lib.hid hst
          clear hst
          have HQ := Lib.hid hq'
          clear hq' hq
          exact zGx
    · have hnx : ∀ ty, (Instr.next (.pointer (some ⟨w.heap.size, 0, none⟩)) true ty).run Tryz.prog (w.iter s pos) = _ := fun ty => run_next_end w s pos ty hp
      have hst : Sc.spanN Sc.lett s.data.toList = s.size := by
        have := Sc.qZ Sc.lett s.data.toList
        rw [Sc.zV] at this
        omega
      exact zFF
set_option maxRecDepth 100000 in
theorem zAd (s : ByteArray) (w : World) :
    Calls Tryz.prog 38 #[.string s, .func (.func 42) #[] #[]] w fun e w' => e = .returned (.int .i64 (Sc.spanN Sc.digi s.data.toList)) ∧ ∃ pos, w' = w.iter s pos := by
  go_enter Tryz.func38, Tryz.ntmps38
  go_wp2
  go_loopw [5] (fun _ wr => ∃ pos : Nat, wr = w.iter s pos ∧ pos ≤ s.size ∧ pos ≤ Sc.spanN Sc.digi s.data.toList) (fun _ wr => s.size - wr.iterPos w.heap.size)
  case atStart => exact ⟨0, rfl, Nat.zero_le _, Nat.zero_le _⟩
  case round =>
    obtain ⟨pos, rfl, hps, hk⟩ := hrel
    by_cases hp : pos < s.size
    · have hl : pos < s.data.toList.length := by rw [Sc.zV]; exact hp
      by_cases hb : 128 ≤ s[pos].toNat
      · have hd := decode_high s pos hp hb
        have hle := decode_le s pos
        have hnx : ∀ ty, (Instr.next (.pointer (some ⟨w.heap.size, 0, none⟩)) true ty).run Tryz.prog (w.iter s pos) = _ := fun ty => run_next_any w s pos ty hp
        have hq : Sc.digi (Utf8.decode s pos).1 = false := Sc.kM _ hd.1
        have hst : Sc.spanN Sc.digi s.data.toList = pos := Sc.jD Sc.digi _ pos hl hk (by rw [Sc.zh s pos hp hl]; exact Sc.kM _ (by omega))
        have HS := Lib.hid hst
        clear hst
        have HQ := Lib.hid hq
        clear hq
        exact zGu
      · have hnx : ∀ ty, (Instr.next (.pointer (some ⟨w.heap.size, 0, none⟩)) true ty).run Tryz.prog (w.iter s pos) = _ := fun ty => run_next_ascii w s pos ty hp (by omega)
        have hb256 : s[pos].toNat < 256 := s[pos].toNat_lt
        by_cases hq : Sc.digi (s[pos].toNat : Int) = true
        · have hm : pos + 1 ≤ Sc.spanN Sc.digi s.data.toList := Sc.qh Sc.digi _ pos hl hk (by rw [Sc.zh s pos hp hl]; exact hq)
          have HQ := Lib.hid hq
          clear hq
          go_wp2_with (go_at_call 42; refine (qa _ _).mono ?_; rintro e w' ⟨rfl, rfl⟩; rw [HQ.out])
          exact zFD
        · have hq' : Sc.digi (s[pos].toNat : Int) = false := by simpa using hq
          have hst : Sc.spanN Sc.digi s.data.toList = pos := Sc.jD Sc.digi _ pos hl hk (by rw [Sc.zh s pos hp hl]; exact hq')
          have HS := Lib.hid hst
          clear hst
          have HQ := Lib.hid hq'
          clear hq' hq
          exact zGu
    · have hnx : ∀ ty, (Instr.next (.pointer (some ⟨w.heap.size, 0, none⟩)) true ty).run Tryz.prog (w.iter s pos) = _ := fun ty => run_next_end w s pos ty hp
      have hst : Sc.spanN Sc.digi s.data.toList = s.size := by
        have := Sc.qZ Sc.digi s.data.toList
        rw [Sc.zV] at this
        omega
      exact zFF
set_option maxRecDepth 100000 in
theorem zCB (s : ByteArray) (w : World) :
    Calls Tryz.prog 38 #[.string s, .func (.func 70) #[] #[]] w fun e w' => e = .returned (.int .i64 (Sc.spanN Sc.lord s.data.toList)) ∧ ∃ pos, w' = w.iter s pos := by
  go_enter Tryz.func38, Tryz.ntmps38
  go_wp2
  go_loopw [5] (fun _ wr => ∃ pos : Nat, wr = w.iter s pos ∧ pos ≤ s.size ∧ pos ≤ Sc.spanN Sc.lord s.data.toList) (fun _ wr => s.size - wr.iterPos w.heap.size)
  case atStart => exact ⟨0, rfl, Nat.zero_le _, Nat.zero_le _⟩
  case round =>
    obtain ⟨pos, rfl, hps, hk⟩ := hrel
    by_cases hp : pos < s.size
    · have hl : pos < s.data.toList.length := by rw [Sc.zV]; exact hp
      by_cases hb : 128 ≤ s[pos].toNat
      · have hd := decode_high s pos hp hb
        have hle := decode_le s pos
        have hnx : ∀ ty, (Instr.next (.pointer (some ⟨w.heap.size, 0, none⟩)) true ty).run Tryz.prog (w.iter s pos) = _ := fun ty => run_next_any w s pos ty hp
        have hq : Sc.lord (Utf8.decode s pos).1 = false := Sc.xx _ hd.1
        have hst : Sc.spanN Sc.lord s.data.toList = pos := Sc.jD Sc.lord _ pos hl hk (by rw [Sc.zh s pos hp hl]; exact Sc.xx _ (by omega))
        have HS := Lib.hid hst
        clear hst
        have HQ := Lib.hid hq
        clear hq
        exact zGt
      · have hnx : ∀ ty, (Instr.next (.pointer (some ⟨w.heap.size, 0, none⟩)) true ty).run Tryz.prog (w.iter s pos) = _ := fun ty => run_next_ascii w s pos ty hp (by omega)
        have hb256 : s[pos].toNat < 256 := s[pos].toNat_lt
        by_cases hq : Sc.lord (s[pos].toNat : Int) = true
        · have hm : pos + 1 ≤ Sc.spanN Sc.lord s.data.toList := Sc.qh Sc.lord _ pos hl hk (by rw [Sc.zh s pos hp hl]; exact hq)
          have HQ := Lib.hid hq
          clear hq
          go_wp2_with (go_at_call 70; refine (vI _ _).mono ?_; rintro e w' ⟨rfl, rfl⟩; rw [HQ.out])
          exact zFD
        · have hq' : Sc.lord (s[pos].toNat : Int) = false := by simpa using hq
          have hst : Sc.spanN Sc.lord s.data.toList = pos := Sc.jD Sc.lord _ pos hl hk (by rw [Sc.zh s pos hp hl]; exact hq')
          have HS := Lib.hid hst
          clear hst
          have HQ := Lib.hid hq'
          clear hq' hq
          exact zGt
    · have hnx : ∀ ty, (Instr.next (.pointer (some ⟨w.heap.size, 0, none⟩)) true ty).run Tryz.prog (w.iter s pos) = _ := fun ty => run_next_end w s pos ty hp
      have hst : Sc.spanN Sc.lord s.data.toList = s.size := by
        have := Sc.qZ Sc.lord s.data.toList
        rw [Sc.zV] at this
        omega
      exact zFF
set_option maxRecDepth 100000 in
theorem zAc (s : ByteArray) (w : World) :
    Calls Tryz.prog 38 #[.string s, .func (.func 39) #[] #[]] w fun e w' => e = .returned (.int .i64 (Sc.spanN Sc.notNl s.data.toList)) ∧ ∃ pos, w' = w.iter s pos := by
  go_enter Tryz.func38, Tryz.ntmps38
  go_wp2
  go_loopw [5] (fun _ wr => ∃ pos : Nat, wr = w.iter s pos ∧ pos ≤ s.size ∧ pos ≤ Sc.spanN Sc.notNl s.data.toList) (fun _ wr => s.size - wr.iterPos w.heap.size)
  case atStart => exact ⟨0, rfl, Nat.zero_le _, Nat.zero_le _⟩
  case round =>
    obtain ⟨pos, rfl, hps, hk⟩ := hrel
    by_cases hp : pos < s.size
    · have hl : pos < s.data.toList.length := by rw [Sc.zV]; exact hp
      by_cases hb : 128 ≤ s[pos].toNat
      · have hd := decode_high s pos hp hb
        have hle := decode_le s pos
        have hnx : ∀ ty, (Instr.next (.pointer (some ⟨w.heap.size, 0, none⟩)) true ty).run Tryz.prog (w.iter s pos) = _ := fun ty => run_next_any w s pos ty hp
        have hq : Sc.notNl (Utf8.decode s pos).1 = true := Sc.yh _ hd.1
        have HQ := Lib.hid hq
        clear hq
        have hw := Sc.zAF s pos hp hb
        have hj : pos + (Utf8.decode s pos).2 ≤ Sc.spanN Sc.notNl s.data.toList := Sc.zAe Sc.notNl _ pos hk _ (by rw [Sc.zV]; exact hw.1) (fun j hj a b => by
          have hj' : j < s.size := by rw [← Sc.zV]; exact hj
          rw [Sc.zh s j hj' hj]; exact Sc.yh _ (by have := hw.2 j hj' a b; omega))
        have hw1 := hw.1
        clear hw
        have hd2 := hd.2
        go_wp2_with (go_at_call 39; refine (qi _ _).mono ?_; rintro e w' ⟨rfl, rfl⟩; rw [HQ.out])
        go_roundw
        case rel => exact ⟨_, rfl, by omega, hj⟩
        case measure => simp; omega
      · have hnx : ∀ ty, (Instr.next (.pointer (some ⟨w.heap.size, 0, none⟩)) true ty).run Tryz.prog (w.iter s pos) = _ := fun ty => run_next_ascii w s pos ty hp (by omega)
        have hb256 : s[pos].toNat < 256 := s[pos].toNat_lt
        by_cases hq : Sc.notNl (s[pos].toNat : Int) = true
        · have hm : pos + 1 ≤ Sc.spanN Sc.notNl s.data.toList := Sc.qh Sc.notNl _ pos hl hk (by rw [Sc.zh s pos hp hl]; exact hq)
          have HQ := Lib.hid hq
          clear hq
          go_wp2_with (go_at_call 39; refine (qi _ _).mono ?_; rintro e w' ⟨rfl, rfl⟩; rw [HQ.out])
          exact zFD
        · have hq' : Sc.notNl (s[pos].toNat : Int) = false := by simpa using hq
          have hst : Sc.spanN Sc.notNl s.data.toList = pos := Sc.jD Sc.notNl _ pos hl hk (by rw [Sc.zh s pos hp hl]; exact hq')
          have HS := Lib.hid hst
          clear hst
          have HQ := Lib.hid hq'
          clear hq' hq
          go_wp2_with (go_at_call 39; refine (qi _ _).mono ?_; rintro e w' ⟨rfl, rfl⟩; rw [HQ.out])
          go_ret
          exact ⟨uw (by rw [HS.out]), _, rfl⟩
    · have hnx : ∀ ty, (Instr.next (.pointer (some ⟨w.heap.size, 0, none⟩)) true ty).run Tryz.prog (w.iter s pos) = _ := fun ty => run_next_end w s pos ty hp
      have hst : Sc.spanN Sc.notNl s.data.toList = s.size := by
        have := Sc.qZ Sc.notNl s.data.toList
        rw [Sc.zV] at this
        omega
      exact zFF
end Go.Proofs.YtgjemmmbnpkamaaGreatDoor
