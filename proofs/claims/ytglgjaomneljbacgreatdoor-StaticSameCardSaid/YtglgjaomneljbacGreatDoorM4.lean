import Derived.Test.YtglgjaomneljbacGreatDoorLeaf
import Derived.Test.YtglgjaomneljbacGreatDoorUtf
namespace Go.Proofs.YtglgjaomneljbacGreatDoor
open Go.RowKit
theorem zDb {P : Prop} (h : P := by
 have HS := Lib.hid hst
 clear hst
 go_wp2
 go_ret
 exact ⟨zAI (by rw [HS.out]), _, rfl⟩) : P := h
theorem zDa {P : Prop} (h : P := by
 go_roundw
 case rel => exact ⟨_, rfl, by omega, hm⟩
 case measure => simp; omega) : P := h
theorem zE3 {P : Prop} (h : P := by
 go_wp2_with (go_at_call 94; refine (zg _ _).mono ?_; rintro e w' ⟨rfl, rfl⟩; rw [HQ.out])
 go_ret
 exact ⟨zAI (by rw [HS.out]), _, rfl⟩) : P := h
theorem zE1 {P : Prop} (h : P := by
 go_wp2_with (go_at_call 96; refine (qA _ _).mono ?_; rintro e w' ⟨rfl, rfl⟩; rw [HQ.out])
 go_ret
 exact ⟨zAI (by rw [HS.out]), _, rfl⟩) : P := h
theorem zE0 {P : Prop} (h : P := by
 go_wp2_with (go_at_call 102; refine (jH _ _).mono ?_; rintro e w' ⟨rfl, rfl⟩; rw [HQ.out])
 go_ret
 exact ⟨zAI (by rw [HS.out]), _, rfl⟩) : P := h
end Go.Proofs.YtglgjaomneljbacGreatDoor
namespace Go.Proofs.YtglgjaomneljbacGreatDoor
set_option maxHeartbeats 1000000
open Go.RowKit
theorem Sc.jf (r : Nat) (h : 128 ≤ r) : Sc.lett (r : Int) = false := by simp [Sc.lett]; omega
theorem Sc.ji (r : Nat) (h : 128 ≤ r) : Sc.digi (r : Int) = false := by simp [Sc.digi]; omega
theorem Sc.yJ (r : Nat) (h : 128 ≤ r) : Sc.lord (r : Int) = false := by simp [Sc.lord, Sc.jf r h, Sc.ji r h]
theorem jH (r : Int) (w : World) :
  Calls Tryz.prog 102 #[.int .i32 r] w fun e w' => e = .returned (.bool (Sc.lord r)) ∧ w = w' := by
 by_cases h : Sc.lett r = true
 ·have hc := (zg r w)
  rw [h] at hc
  have hl : Sc.lord r = true := by simp [Sc.lord, h]
  rw [hl]
  clear h hl
  go_enter Tryz.func102, Tryz.ntmps102
  go_wp2_with (go_at_call 94; refine hc.mono ?_; rintro e w' ⟨rfl, rfl⟩)
  go_ret
  exact ⟨rfl, rfl⟩
 ·have h' : Sc.lett r = false := by simpa using h
  have hc := (zg r w)
  rw [h'] at hc
  have hl : Sc.digi r = Sc.lord r := by simp [Sc.lord, h']
  have hd := qA r w
  rw [hl] at hd
  clear h h' hl
  go_enter Tryz.func102, Tryz.ntmps102
  go_wp2_with (first | (go_at_call 94; refine hc.mono ?_; rintro e w' ⟨rfl, rfl⟩) | (go_at_call 96; refine hd.mono ?_; rintro e w' ⟨rfl, rfl⟩))
  go_ret
  exact ⟨rfl, rfl⟩
set_option maxRecDepth 100000 in
theorem xn (s : ByteArray) (w : World) :
  Calls Tryz.prog 101 #[.string s, .func (.func 94) #[] #[]] w fun e w' => e = .returned (.int .i64 (Sc.spanN Sc.lett s.data.toList)) ∧ ∃ pos, w' = w.iter s pos := by
 go_enter Tryz.func101, Tryz.ntmps101
 go_wp2
 go_loopw [5] (fun _ wr => ∃ pos : Nat, wr = w.iter s pos ∧ pos ≤ s.size ∧ pos ≤ Sc.spanN Sc.lett s.data.toList) (fun _ wr => s.size - wr.iterPos w.heap.size)
 case atStart => exact ⟨0, rfl, Nat.zero_le _, Nat.zero_le _⟩
 case round =>
  obtain ⟨pos, rfl, hps, hk⟩ := hrel
  by_cases hp : pos < s.size
  ·have hl : pos < s.data.toList.length := by rw [Sc.zT]; exact hp
   by_cases hb : 128 ≤ s[pos].toNat
   ·have hd := decode_high s pos hp hb
    have hle := decode_le s pos
    have hnx : ∀ ty, (Instr.next (.pointer (some ⟨w.heap.size, 0, none⟩)) true ty).run Tryz.prog (w.iter s pos) = _ := fun ty => run_next_any w s pos ty hp
    have hq : Sc.lett (Utf8.decode s pos).1 = false := Sc.jf _ hd.1
    have hst : Sc.spanN Sc.lett s.data.toList = pos := Sc.qU Sc.lett _ pos hl hk (by rw [Sc.zh s pos hp hl]; exact Sc.jf _ (by omega))
    have HS := Lib.hid hst
    clear hst
    have HQ := Lib.hid hq
    clear hq
    exact zE3
   ·have hnx : ∀ ty, (Instr.next (.pointer (some ⟨w.heap.size, 0, none⟩)) true ty).run Tryz.prog (w.iter s pos) = _ := fun ty => run_next_ascii w s pos ty hp (by omega)
    have hb256 : s[pos].toNat < 256 := s[pos].toNat_lt
    by_cases hq : Sc.lett (s[pos].toNat : Int) = true
    ·have hm : pos + 1 ≤ Sc.spanN Sc.lett s.data.toList := Sc.qX Sc.lett _ pos hl hk (by rw [Sc.zh s pos hp hl]; exact hq)
     have HQ := Lib.hid hq
     clear hq
     go_wp2_with (go_at_call 94; refine (zg _ _).mono ?_; rintro e w' ⟨rfl, rfl⟩; rw [HQ.out])
     exact zDa
    ·have hq' : Sc.lett (s[pos].toNat : Int) = false := by simpa using hq
     have hst : Sc.spanN Sc.lett s.data.toList = pos := Sc.qU Sc.lett _ pos hl hk (by rw [Sc.zh s pos hp hl]; exact hq')
     have HS := Lib.hid hst
     clear hst
     have HQ := Lib.hid hq'
     clear hq' hq
     exact zE3
  ·have hnx : ∀ ty, (Instr.next (.pointer (some ⟨w.heap.size, 0, none⟩)) true ty).run Tryz.prog (w.iter s pos) = _ := fun ty => run_next_end w s pos ty hp
   have hst : Sc.spanN Sc.lett s.data.toList = s.size := by
    have := Sc.qM Sc.lett s.data.toList
    rw [Sc.zT] at this
    omega
   exact zDb
set_option maxRecDepth 100000 in
theorem wy (s : ByteArray) (w : World) :
  Calls Tryz.prog 101 #[.string s, .func (.func 96) #[] #[]] w fun e w' => e = .returned (.int .i64 (Sc.spanN Sc.digi s.data.toList)) ∧ ∃ pos, w' = w.iter s pos := by
 go_enter Tryz.func101, Tryz.ntmps101
 go_wp2
 go_loopw [5] (fun _ wr => ∃ pos : Nat, wr = w.iter s pos ∧ pos ≤ s.size ∧ pos ≤ Sc.spanN Sc.digi s.data.toList) (fun _ wr => s.size - wr.iterPos w.heap.size)
 case atStart => exact ⟨0, rfl, Nat.zero_le _, Nat.zero_le _⟩
 case round =>
  obtain ⟨pos, rfl, hps, hk⟩ := hrel
  by_cases hp : pos < s.size
  ·have hl : pos < s.data.toList.length := by rw [Sc.zT]; exact hp
   by_cases hb : 128 ≤ s[pos].toNat
   ·have hd := decode_high s pos hp hb
    have hle := decode_le s pos
    have hnx : ∀ ty, (Instr.next (.pointer (some ⟨w.heap.size, 0, none⟩)) true ty).run Tryz.prog (w.iter s pos) = _ := fun ty => run_next_any w s pos ty hp
    have hq : Sc.digi (Utf8.decode s pos).1 = false := Sc.ji _ hd.1
    have hst : Sc.spanN Sc.digi s.data.toList = pos := Sc.qU Sc.digi _ pos hl hk (by rw [Sc.zh s pos hp hl]; exact Sc.ji _ (by omega))
    have HS := Lib.hid hst
    clear hst
    have HQ := Lib.hid hq
    clear hq
    exact zE1
   ·have hnx : ∀ ty, (Instr.next (.pointer (some ⟨w.heap.size, 0, none⟩)) true ty).run Tryz.prog (w.iter s pos) = _ := fun ty => run_next_ascii w s pos ty hp (by omega)
    have hb256 : s[pos].toNat < 256 := s[pos].toNat_lt
    by_cases hq : Sc.digi (s[pos].toNat : Int) = true
    ·have hm : pos + 1 ≤ Sc.spanN Sc.digi s.data.toList := Sc.qX Sc.digi _ pos hl hk (by rw [Sc.zh s pos hp hl]; exact hq)
     have HQ := Lib.hid hq
     clear hq
     go_wp2_with (go_at_call 96; refine (qA _ _).mono ?_; rintro e w' ⟨rfl, rfl⟩; rw [HQ.out])
     exact zDa
    ·have hq' : Sc.digi (s[pos].toNat : Int) = false := by simpa using hq
     have hst : Sc.spanN Sc.digi s.data.toList = pos := Sc.qU Sc.digi _ pos hl hk (by rw [Sc.zh s pos hp hl]; exact hq')
     have HS := Lib.hid hst
     clear hst
     have HQ := Lib.hid hq'
     clear hq' hq
     exact zE1
  ·have hnx : ∀ ty, (Instr.next (.pointer (some ⟨w.heap.size, 0, none⟩)) true ty).run Tryz.prog (w.iter s pos) = _ := fun ty => run_next_end w s pos ty hp
   have hst : Sc.spanN Sc.digi s.data.toList = s.size := by
    have := Sc.qM Sc.digi s.data.toList
    rw [Sc.zT] at this
    omega
   exact zDb
set_option maxRecDepth 100000 in
theorem zAn (s : ByteArray) (w : World) :
  Calls Tryz.prog 101 #[.string s, .func (.func 102) #[] #[]] w fun e w' => e = .returned (.int .i64 (Sc.spanN Sc.lord s.data.toList)) ∧ ∃ pos, w' = w.iter s pos := by
 go_enter Tryz.func101, Tryz.ntmps101
 go_wp2
 go_loopw [5] (fun _ wr => ∃ pos : Nat, wr = w.iter s pos ∧ pos ≤ s.size ∧ pos ≤ Sc.spanN Sc.lord s.data.toList) (fun _ wr => s.size - wr.iterPos w.heap.size)
 case atStart => exact ⟨0, rfl, Nat.zero_le _, Nat.zero_le _⟩
 case round =>
  obtain ⟨pos, rfl, hps, hk⟩ := hrel
  by_cases hp : pos < s.size
  ·have hl : pos < s.data.toList.length := by rw [Sc.zT]; exact hp
   by_cases hb : 128 ≤ s[pos].toNat
   ·have hd := decode_high s pos hp hb
    have hle := decode_le s pos
    have hnx : ∀ ty, (Instr.next (.pointer (some ⟨w.heap.size, 0, none⟩)) true ty).run Tryz.prog (w.iter s pos) = _ := fun ty => run_next_any w s pos ty hp
    have hq : Sc.lord (Utf8.decode s pos).1 = false := Sc.yJ _ hd.1
    have hst : Sc.spanN Sc.lord s.data.toList = pos := Sc.qU Sc.lord _ pos hl hk (by rw [Sc.zh s pos hp hl]; exact Sc.yJ _ (by omega))
    have HS := Lib.hid hst
    clear hst
    have HQ := Lib.hid hq
    clear hq
    exact zE0
   ·have hnx : ∀ ty, (Instr.next (.pointer (some ⟨w.heap.size, 0, none⟩)) true ty).run Tryz.prog (w.iter s pos) = _ := fun ty => run_next_ascii w s pos ty hp (by omega)
    have hb256 : s[pos].toNat < 256 := s[pos].toNat_lt
    by_cases hq : Sc.lord (s[pos].toNat : Int) = true
    ·have hm : pos + 1 ≤ Sc.spanN Sc.lord s.data.toList := Sc.qX Sc.lord _ pos hl hk (by rw [Sc.zh s pos hp hl]; exact hq)
     have HQ := Lib.hid hq
     clear hq
     go_wp2_with (go_at_call 102; refine (jH _ _).mono ?_; rintro e w' ⟨rfl, rfl⟩; rw [HQ.out])
     exact zDa
    ·have hq' : Sc.lord (s[pos].toNat : Int) = false := by simpa using hq
     have hst : Sc.spanN Sc.lord s.data.toList = pos := Sc.qU Sc.lord _ pos hl hk (by rw [Sc.zh s pos hp hl]; exact hq')
     have HS := Lib.hid hst
     clear hst
     have HQ := Lib.hid hq'
     clear hq' hq
     exact zE0
  ·have hnx : ∀ ty, (Instr.next (.pointer (some ⟨w.heap.size, 0, none⟩)) true ty).run Tryz.prog (w.iter s pos) = _ := fun ty => run_next_end w s pos ty hp
   have hst : Sc.spanN Sc.lord s.data.toList = s.size := by
    have := Sc.qM Sc.lord s.data.toList
    rw [Sc.zT] at this
    omega
   exact zDb
end Go.Proofs.YtglgjaomneljbacGreatDoor
