import Derived.Test.YtepmjknljbafgaaGreatDoorLeaf
import Derived.Test.YtepmjknljbafgaaGreatDoorUtf
namespace Go.Proofs.YtepmjknljbafgaaGreatDoor
open Go.RowKit
theorem zG6 {P : Prop} (h : P := by
  have HS := Lib.hid hst;clear hst
  go_wp2
  go_ret
  exact ⟨zAO (by rw [HS.out]), _, rfl⟩) : P := h
theorem zG4 {P : Prop} (h : P := by
  go_roundw
  case rel => exact ⟨_, rfl, by omega, hm⟩
  case measure => simp; omega) : P := h
theorem zHx {P : Prop} (h : P := by
  go_wp2_with (go_at_call 54; refine (qL _ _).mono ?_; rintro e w' ⟨rfl, rfl⟩; rw [HQ.out])
  go_ret
  exact ⟨zAO (by rw [HS.out]), _, rfl⟩) : P := h
theorem zHl {P : Prop} (h : P := by
  go_wp2_with (go_at_call 56; refine (qh _ _).mono ?_; rintro e w' ⟨rfl, rfl⟩; rw [HQ.out])
  go_ret
  exact ⟨zAO (by rw [HS.out]), _, rfl⟩) : P := h
theorem zHj {P : Prop} (h : P := by
  go_wp2_with (go_at_call 80; refine (vR _ _).mono ?_; rintro e w' ⟨rfl, rfl⟩; rw [HQ.out])
  go_ret
  exact ⟨zAO (by rw [HS.out]), _, rfl⟩) : P := h
end Go.Proofs.YtepmjknljbafgaaGreatDoor
namespace Go.Proofs.YtepmjknljbafgaaGreatDoor
set_option maxHeartbeats 1000000
open Go.RowKit
theorem Sc.kX (r : Nat) (h : 128 <= r) : Sc.lett (r : Int) = false := by simp [Sc.lett]; omega
theorem Sc.ku (r : Nat) (h : 128 <= r) : Sc.digi (r : Int) = false := by simp [Sc.digi]; omega
theorem Sc.wU (r : Nat) (h : 128 <= r) : Sc.lord (r : Int) = false := by simp [Sc.lord, Sc.kX r h, Sc.ku r h]
theorem Sc.xI (r : Nat) (h : 128 <= r) : Sc.notNl (r : Int) = true := by simp [Sc.notNl]; omega
theorem vR (r : Int) (w : World) :
    Calls Tryz.prog 80 #[.int .i32 r] w fun e w' => e = .returned (.bool (Sc.lord r)) /\ w = w' := by
  by_cases h : Sc.lett r = true
  · have hc := (qL r w)
    rw [h] at hc;have hl : Sc.lord r = true := by simp [Sc.lord, h]
    rw [hl];clear h hl
    go_enter Tryz.func80, Tryz.ntmps80
    go_wp2_with (go_at_call 54; refine hc.mono ?_; rintro e w' ⟨rfl, rfl⟩)
    go_ret
    exact ⟨rfl, rfl⟩
  · have h' : Sc.lett r = false := by simpa using h
    have hc := (qL r w);rw [h'] at hc;have hl : Sc.digi r = Sc.lord r := by simp [Sc.lord, h']
    have hd := qh r w;rw [hl] at hd;clear h h' hl
    go_enter Tryz.func80, Tryz.ntmps80
    go_wp2_with (first | (go_at_call 54; refine hc.mono ?_; rintro e w' ⟨rfl, rfl⟩) | (go_at_call 56; refine hd.mono ?_; rintro e w' ⟨rfl, rfl⟩))
    go_ret
    exact ⟨rfl, rfl⟩
set_option maxRecDepth 100000 in
theorem zAI (s : ByteArray) (w : World) :
    Calls Tryz.prog 52 #[.string s, .func (.func 54) #[] #[]] w fun e w' => e = .returned (.int .i64 (Sc.spanN Sc.lett s.data.toList)) /\ ∃ pos, w' = w.iter s pos := by
  go_enter Tryz.func52, Tryz.ntmps52
  go_wp2
  go_loopw [5] (fun _ wr => ∃ pos : Nat, wr = w.iter s pos /\ pos <= s.size /\ pos <= Sc.spanN Sc.lett s.data.toList) (fun _ wr => s.size - wr.iterPos w.heap.size)
  case atStart => exact ⟨0, rfl, Nat.zero_le _, Nat.zero_le _⟩
  case round =>
    obtain ⟨pos, rfl, hps, hk⟩ := hrel
    by_cases hp : pos < s.size
    · have hl : pos < s.data.toList.length := by rw [Sc.zZ]; exact hp
      by_cases hb : 128 <= s[pos].toNat
      · have hd := decode_high s pos hp hb
        have hle := decode_le s pos;have hnx : ∀ ty, (Instr.next (.pointer (some ⟨w.heap.size, 0, none⟩)) true ty).run Tryz.prog (w.iter s pos) = _ := fun ty => run_next_any w s pos ty hp
        have hq : Sc.lett (Utf8.decode s pos).1 = false := Sc.kX _ hd.1;have hst : Sc.spanN Sc.lett s.data.toList = pos := Sc.jL Sc.lett _ pos hl hk (by rw [Sc.zi s pos hp hl]; exact Sc.kX _ (by omega));have HS := Lib.hid hst;clear hst;have HQ := Lib.hid hq;clear hq;exact zHx
      · have hnx : ∀ ty, (Instr.next (.pointer (some ⟨w.heap.size, 0, none⟩)) true ty).run Tryz.prog (w.iter s pos) = _ := fun ty => run_next_ascii w s pos ty hp (by omega)
        have hb256 : s[pos].toNat < 256 := s[pos].toNat_lt
        by_cases hq : Sc.lett (s[pos].toNat : Int) = true
        · have hm : pos + 1 <= Sc.spanN Sc.lett s.data.toList := Sc.qw Sc.lett _ pos hl hk (by rw [Sc.zi s pos hp hl]; exact hq)
          have HQ := Lib.hid hq;clear hq
          go_wp2_with (go_at_call 54; refine (qL _ _).mono ?_; rintro e w' ⟨rfl, rfl⟩; rw [HQ.out])
          exact zG4
        · have hq' : Sc.lett (s[pos].toNat : Int) = false := by simpa using hq
          have hst : Sc.spanN Sc.lett s.data.toList = pos := Sc.jL Sc.lett _ pos hl hk (by rw [Sc.zi s pos hp hl]; exact hq');have HS := Lib.hid hst;clear hst;have HQ := Lib.hid hq';clear hq' hq;exact zHx
    · have hnx : ∀ ty, (Instr.next (.pointer (some ⟨w.heap.size, 0, none⟩)) true ty).run Tryz.prog (w.iter s pos) = _ := fun ty => run_next_end w s pos ty hp
      have hst : Sc.spanN Sc.lett s.data.toList = s.size := by
        have := Sc.qg Sc.lett s.data.toList;rw [Sc.zZ] at this
        omega
      exact zG6
set_option maxRecDepth 100000 in
theorem zBG (s : ByteArray) (w : World) :
    Calls Tryz.prog 52 #[.string s, .func (.func 56) #[] #[]] w fun e w' => e = .returned (.int .i64 (Sc.spanN Sc.digi s.data.toList)) /\ ∃ pos, w' = w.iter s pos := by
  go_enter Tryz.func52, Tryz.ntmps52
  go_wp2
  go_loopw [5] (fun _ wr => ∃ pos : Nat, wr = w.iter s pos /\ pos <= s.size /\ pos <= Sc.spanN Sc.digi s.data.toList) (fun _ wr => s.size - wr.iterPos w.heap.size)
  case atStart => exact ⟨0, rfl, Nat.zero_le _, Nat.zero_le _⟩
  case round =>
    obtain ⟨pos, rfl, hps, hk⟩ := hrel
    by_cases hp : pos < s.size
    · have hl : pos < s.data.toList.length := by rw [Sc.zZ]; exact hp
      by_cases hb : 128 <= s[pos].toNat
      · have hd := decode_high s pos hp hb
        have hle := decode_le s pos;have hnx : ∀ ty, (Instr.next (.pointer (some ⟨w.heap.size, 0, none⟩)) true ty).run Tryz.prog (w.iter s pos) = _ := fun ty => run_next_any w s pos ty hp
        have hq : Sc.digi (Utf8.decode s pos).1 = false := Sc.ku _ hd.1;have hst : Sc.spanN Sc.digi s.data.toList = pos := Sc.jL Sc.digi _ pos hl hk (by rw [Sc.zi s pos hp hl]; exact Sc.ku _ (by omega));have HS := Lib.hid hst;clear hst;have HQ := Lib.hid hq;clear hq;exact zHl
      · have hnx : ∀ ty, (Instr.next (.pointer (some ⟨w.heap.size, 0, none⟩)) true ty).run Tryz.prog (w.iter s pos) = _ := fun ty => run_next_ascii w s pos ty hp (by omega)
        have hb256 : s[pos].toNat < 256 := s[pos].toNat_lt
        by_cases hq : Sc.digi (s[pos].toNat : Int) = true
        · have hm : pos + 1 <= Sc.spanN Sc.digi s.data.toList := Sc.qw Sc.digi _ pos hl hk (by rw [Sc.zi s pos hp hl]; exact hq)
          have HQ := Lib.hid hq;clear hq
          go_wp2_with (go_at_call 56; refine (qh _ _).mono ?_; rintro e w' ⟨rfl, rfl⟩; rw [HQ.out])
          exact zG4
        · have hq' : Sc.digi (s[pos].toNat : Int) = false := by simpa using hq
          have hst : Sc.spanN Sc.digi s.data.toList = pos := Sc.jL Sc.digi _ pos hl hk (by rw [Sc.zi s pos hp hl]; exact hq');have HS := Lib.hid hst;clear hst;have HQ := Lib.hid hq';clear hq' hq;exact zHl
    · have hnx : ∀ ty, (Instr.next (.pointer (some ⟨w.heap.size, 0, none⟩)) true ty).run Tryz.prog (w.iter s pos) = _ := fun ty => run_next_end w s pos ty hp
      have hst : Sc.spanN Sc.digi s.data.toList = s.size := by
        have := Sc.qg Sc.digi s.data.toList;rw [Sc.zZ] at this
        omega
      exact zG6
set_option maxRecDepth 100000 in
theorem zCn (s : ByteArray) (w : World) :
    Calls Tryz.prog 52 #[.string s, .func (.func 80) #[] #[]] w fun e w' => e = .returned (.int .i64 (Sc.spanN Sc.lord s.data.toList)) /\ ∃ pos, w' = w.iter s pos := by
  go_enter Tryz.func52, Tryz.ntmps52
  go_wp2
  go_loopw [5] (fun _ wr => ∃ pos : Nat, wr = w.iter s pos /\ pos <= s.size /\ pos <= Sc.spanN Sc.lord s.data.toList) (fun _ wr => s.size - wr.iterPos w.heap.size)
  case atStart => exact ⟨0, rfl, Nat.zero_le _, Nat.zero_le _⟩
  case round =>
    obtain ⟨pos, rfl, hps, hk⟩ := hrel
    by_cases hp : pos < s.size
    · have hl : pos < s.data.toList.length := by rw [Sc.zZ]; exact hp
      by_cases hb : 128 <= s[pos].toNat
      · have hd := decode_high s pos hp hb
        have hle := decode_le s pos;have hnx : ∀ ty, (Instr.next (.pointer (some ⟨w.heap.size, 0, none⟩)) true ty).run Tryz.prog (w.iter s pos) = _ := fun ty => run_next_any w s pos ty hp
        have hq : Sc.lord (Utf8.decode s pos).1 = false := Sc.wU _ hd.1;have hst : Sc.spanN Sc.lord s.data.toList = pos := Sc.jL Sc.lord _ pos hl hk (by rw [Sc.zi s pos hp hl]; exact Sc.wU _ (by omega));have HS := Lib.hid hst;clear hst;have HQ := Lib.hid hq;clear hq;exact zHj
      · have hnx : ∀ ty, (Instr.next (.pointer (some ⟨w.heap.size, 0, none⟩)) true ty).run Tryz.prog (w.iter s pos) = _ := fun ty => run_next_ascii w s pos ty hp (by omega)
        have hb256 : s[pos].toNat < 256 := s[pos].toNat_lt
        by_cases hq : Sc.lord (s[pos].toNat : Int) = true
        · have hm : pos + 1 <= Sc.spanN Sc.lord s.data.toList := Sc.qw Sc.lord _ pos hl hk (by rw [Sc.zi s pos hp hl]; exact hq)
          have HQ := Lib.hid hq;clear hq
          go_wp2_with (go_at_call 80; refine (vR _ _).mono ?_; rintro e w' ⟨rfl, rfl⟩; rw [HQ.out])
          exact zG4
        · have hq' : Sc.lord (s[pos].toNat : Int) = false := by simpa using hq
          have hst : Sc.spanN Sc.lord s.data.toList = pos := Sc.jL Sc.lord _ pos hl hk (by rw [Sc.zi s pos hp hl]; exact hq');have HS := Lib.hid hst;clear hst;have HQ := Lib.hid hq';clear hq' hq;exact zHj
    · have hnx : ∀ ty, (Instr.next (.pointer (some ⟨w.heap.size, 0, none⟩)) true ty).run Tryz.prog (w.iter s pos) = _ := fun ty => run_next_end w s pos ty hp
      have hst : Sc.spanN Sc.lord s.data.toList = s.size := by
        have := Sc.qg Sc.lord s.data.toList;rw [Sc.zZ] at this
        omega
      exact zG6
set_option maxRecDepth 100000 in
theorem zBF (s : ByteArray) (w : World) :
    Calls Tryz.prog 52 #[.string s, .func (.func 53) #[] #[]] w fun e w' => e = .returned (.int .i64 (Sc.spanN Sc.notNl s.data.toList)) /\ ∃ pos, w' = w.iter s pos := by
  go_enter Tryz.func52, Tryz.ntmps52
  go_wp2
  go_loopw [5] (fun _ wr => ∃ pos : Nat, wr = w.iter s pos /\ pos <= s.size /\ pos <= Sc.spanN Sc.notNl s.data.toList) (fun _ wr => s.size - wr.iterPos w.heap.size)
  case atStart => exact ⟨0, rfl, Nat.zero_le _, Nat.zero_le _⟩
  case round =>
    obtain ⟨pos, rfl, hps, hk⟩ := hrel
    by_cases hp : pos < s.size
    · have hl : pos < s.data.toList.length := by rw [Sc.zZ]; exact hp
      by_cases hb : 128 <= s[pos].toNat
      · have hd := decode_high s pos hp hb
        have hle := decode_le s pos;have hnx : ∀ ty, (Instr.next (.pointer (some ⟨w.heap.size, 0, none⟩)) true ty).run Tryz.prog (w.iter s pos) = _ := fun ty => run_next_any w s pos ty hp
        have hq : Sc.notNl (Utf8.decode s pos).1 = true := Sc.xI _ hd.1;have HQ := Lib.hid hq;clear hq;have hw := Sc.zAk s pos hp hb
        have hj : pos + (Utf8.decode s pos).2 <= Sc.spanN Sc.notNl s.data.toList := Sc.zBH Sc.notNl _ pos hk _ (by rw [Sc.zZ]; exact hw.1) (fun j hj a b => by
          have hj' : j < s.size := by rw [← Sc.zZ]; exact hj
          rw [Sc.zi s j hj' hj]; exact Sc.xI _ (by have := hw.2 j hj' a b; omega))
        have hw1 := hw.1;clear hw;have hd2 := hd.2
        go_wp2_with (go_at_call 53; refine (qx _ _).mono ?_; rintro e w' ⟨rfl, rfl⟩; rw [HQ.out])
        go_roundw
        case rel => exact ⟨_, rfl, by omega, hj⟩
        case measure => simp; omega
      · have hnx : ∀ ty, (Instr.next (.pointer (some ⟨w.heap.size, 0, none⟩)) true ty).run Tryz.prog (w.iter s pos) = _ := fun ty => run_next_ascii w s pos ty hp (by omega)
        have hb256 : s[pos].toNat < 256 := s[pos].toNat_lt
        by_cases hq : Sc.notNl (s[pos].toNat : Int) = true
        · have hm : pos + 1 <= Sc.spanN Sc.notNl s.data.toList := Sc.qw Sc.notNl _ pos hl hk (by rw [Sc.zi s pos hp hl]; exact hq)
          have HQ := Lib.hid hq;clear hq
          go_wp2_with (go_at_call 53; refine (qx _ _).mono ?_; rintro e w' ⟨rfl, rfl⟩; rw [HQ.out])
          exact zG4
        · have hq' : Sc.notNl (s[pos].toNat : Int) = false := by simpa using hq
          have hst : Sc.spanN Sc.notNl s.data.toList = pos := Sc.jL Sc.notNl _ pos hl hk (by rw [Sc.zi s pos hp hl]; exact hq');have HS := Lib.hid hst;clear hst;have HQ := Lib.hid hq';clear hq' hq
          go_wp2_with (go_at_call 53; refine (qx _ _).mono ?_; rintro e w' ⟨rfl, rfl⟩; rw [HQ.out])
          go_ret
          exact ⟨zAO (by rw [HS.out]), _, rfl⟩
    · have hnx : ∀ ty, (Instr.next (.pointer (some ⟨w.heap.size, 0, none⟩)) true ty).run Tryz.prog (w.iter s pos) = _ := fun ty => run_next_end w s pos ty hp
      have hst : Sc.spanN Sc.notNl s.data.toList = s.size := by
        have := Sc.qg Sc.notNl s.data.toList;rw [Sc.zZ] at this
        omega
      exact zG6
end Go.Proofs.YtepmjknljbafgaaGreatDoor
