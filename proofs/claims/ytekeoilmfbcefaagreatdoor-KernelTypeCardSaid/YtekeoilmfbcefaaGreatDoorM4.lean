import Derived.WalkKit
import Derived.WalkSpells
import Derived.WalkLawsBesides
import Derived.Lib.Hide
import Derived.Deep.QuietTactic
import Derived.BigQuiet
import Derived.Test.YtekeoilmfbcefaaGreatDoorRows
import Derived.Lib.DecodeN
import Derived.Lib.Strings
import Derived.Laws.RangeAny
import Derived.Test.YtekeoilmfbcefaaGreatDoorLeaf
import Derived.Test.YtekeoilmfbcefaaGreatDoorUtf
namespace Go.Proofs.YtekeoilmfbcefaaGreatDoor
open Go.RowKit
theorem zEj {P : Prop} (h : P := by
 have HS := Lib.hid hst
 clear hst
 go_wp2
 go_ret
 exact ⟨yx (by rw [HS.out]), _, rfl⟩) : P := h
theorem zEi {P : Prop} (h : P := by
 go_roundw
 case rel => exact ⟨_, rfl, by omega, hm⟩
 case measure => simp; omega) : P := h
theorem zFE {P : Prop} (h : P := by
 go_wp2_with (go_at_call 117; refine (qH _ _).mono ?_; rintro e w' ⟨rfl, rfl⟩; rw [HQ.out])
 go_ret
 exact ⟨yx (by rw [HS.out]), _, rfl⟩) : P := h
theorem zFD {P : Prop} (h : P := by
 go_wp2_with (go_at_call 119; refine (qd _ _).mono ?_; rintro e w' ⟨rfl, rfl⟩; rw [HQ.out])
 go_ret
 exact ⟨yx (by rw [HS.out]), _, rfl⟩) : P := h
theorem zFB {P : Prop} (h : P := by
 go_wp2_with (go_at_call 125; refine (vK _ _).mono ?_; rintro e w' ⟨rfl, rfl⟩; rw [HQ.out])
 go_ret
 exact ⟨yx (by rw [HS.out]), _, rfl⟩) : P := h
end Go.Proofs.YtekeoilmfbcefaaGreatDoor
namespace Go.Proofs.YtekeoilmfbcefaaGreatDoor
set_option maxHeartbeats 1000000
open Go.RowKit
theorem Sc.vz (r : Nat) (h : 128 ≤ r) : Sc.lett (r : Int) = false := by simp [Sc.lett]; omega
theorem Sc.kI (r : Nat) (h : 128 ≤ r) : Sc.digi (r : Int) = false := by simp [Sc.digi]; omega
theorem Sc.xC (r : Nat) (h : 128 ≤ r) : Sc.lord (r : Int) = false := by simp [Sc.lord, Sc.vz r h, Sc.kI r h]
theorem vK (r : Int) (w : World) :
  Calls Tryz.prog 125 #[.int .i32 r] w fun e w' => e = .returned (.bool (Sc.lord r)) ∧ w = w' := by
 by_cases h : Sc.lett r = true
 ·have hc := (qH r w)
  rw [h] at hc
  have hl : Sc.lord r = true := by simp [Sc.lord, h]
  rw [hl]
  clear h hl
  go_enter Tryz.func125, Tryz.ntmps125
  go_wp2_with (go_at_call 117; refine hc.mono ?_; rintro e w' ⟨rfl, rfl⟩)
  go_ret
  exact ⟨rfl, rfl⟩
 ·have h' : Sc.lett r = false := by simpa using h
  have hc := (qH r w)
  rw [h'] at hc
  have hl : Sc.digi r = Sc.lord r := by simp [Sc.lord, h']
  have hd := qd r w
  rw [hl] at hd
  clear h h' hl
  go_enter Tryz.func125, Tryz.ntmps125
  go_wp2_with (first | (go_at_call 117; refine hc.mono ?_; rintro e w' ⟨rfl, rfl⟩) | (go_at_call 119; refine hd.mono ?_; rintro e w' ⟨rfl, rfl⟩))
  go_ret
  exact ⟨rfl, rfl⟩
set_option maxRecDepth 100000 in
theorem wm (s : ByteArray) (w : World) :
  Calls Tryz.prog 124 #[.string s, .func (.func 117) #[] #[]] w fun e w' => e = .returned (.int .i64 (Sc.spanN Sc.lett s.data.toList)) ∧ ∃ pos, w' = w.iter s pos := by
 go_enter Tryz.func124, Tryz.ntmps124
 go_wp2
 go_loopw [5] (fun _ wr => ∃ pos : Nat, wr = w.iter s pos ∧ pos ≤ s.size ∧ pos ≤ Sc.spanN Sc.lett s.data.toList) (fun _ wr => s.size - wr.iterPos w.heap.size)
 case atStart => exact ⟨0, rfl, Nat.zero_le _, Nat.zero_le _⟩
 case round =>
  obtain ⟨pos, rfl, hps, hk⟩ := hrel
  by_cases hp : pos < s.size
  ·have hl : pos < s.data.toList.length := by rw [Sc.za]; exact hp
   by_cases hb : 128 ≤ s[pos].toNat
   ·have hd := decode_high s pos hp hb
    have hle := decode_le s pos
    have hnx : ∀ ty, (Instr.next (.pointer (some ⟨w.heap.size, 0, none⟩)) true ty).run Tryz.prog (w.iter s pos) = _ := fun ty => run_next_any w s pos ty hp
    have hq : Sc.lett (Utf8.decode s pos).1 = false := Sc.vz _ hd.1
    have hst : Sc.spanN Sc.lett s.data.toList = pos := Sc.jM Sc.lett _ pos hl hk (by rw [Sc.zx s pos hp hl]; exact Sc.vz _ (by omega))
    have HS := Lib.hid hst
    clear hst
    have HQ := Lib.hid hq
    clear hq
    exact zFE
   ·have hnx : ∀ ty, (Instr.next (.pointer (some ⟨w.heap.size, 0, none⟩)) true ty).run Tryz.prog (w.iter s pos) = _ := fun ty => run_next_ascii w s pos ty hp (by omega)
    have hb256 : s[pos].toNat < 256 := s[pos].toNat_lt
    by_cases hq : Sc.lett (s[pos].toNat : Int) = true
    ·have hm : pos + 1 ≤ Sc.spanN Sc.lett s.data.toList := Sc.qo Sc.lett _ pos hl hk (by rw [Sc.zx s pos hp hl]; exact hq)
     have HQ := Lib.hid hq
     clear hq
     go_wp2_with (go_at_call 117; refine (qH _ _).mono ?_; rintro e w' ⟨rfl, rfl⟩; rw [HQ.out])
     exact zEi
    ·have hq' : Sc.lett (s[pos].toNat : Int) = false := by simpa using hq
     have hst : Sc.spanN Sc.lett s.data.toList = pos := Sc.jM Sc.lett _ pos hl hk (by rw [Sc.zx s pos hp hl]; exact hq')
     have HS := Lib.hid hst
     clear hst
     have HQ := Lib.hid hq'
     clear hq' hq
     exact zFE
  ·have hnx : ∀ ty, (Instr.next (.pointer (some ⟨w.heap.size, 0, none⟩)) true ty).run Tryz.prog (w.iter s pos) = _ := fun ty => run_next_end w s pos ty hp
   have hst : Sc.spanN Sc.lett s.data.toList = s.size := by
    have := Sc.j6 Sc.lett s.data.toList
    rw [Sc.za] at this
    omega
   exact zEj
set_option maxRecDepth 100000 in
theorem uy (s : ByteArray) (w : World) :
  Calls Tryz.prog 124 #[.string s, .func (.func 119) #[] #[]] w fun e w' => e = .returned (.int .i64 (Sc.spanN Sc.digi s.data.toList)) ∧ ∃ pos, w' = w.iter s pos := by
 go_enter Tryz.func124, Tryz.ntmps124
 go_wp2
 go_loopw [5] (fun _ wr => ∃ pos : Nat, wr = w.iter s pos ∧ pos ≤ s.size ∧ pos ≤ Sc.spanN Sc.digi s.data.toList) (fun _ wr => s.size - wr.iterPos w.heap.size)
 case atStart => exact ⟨0, rfl, Nat.zero_le _, Nat.zero_le _⟩
 case round =>
  obtain ⟨pos, rfl, hps, hk⟩ := hrel
  by_cases hp : pos < s.size
  ·have hl : pos < s.data.toList.length := by rw [Sc.za]; exact hp
   by_cases hb : 128 ≤ s[pos].toNat
   ·have hd := decode_high s pos hp hb
    have hle := decode_le s pos
    have hnx : ∀ ty, (Instr.next (.pointer (some ⟨w.heap.size, 0, none⟩)) true ty).run Tryz.prog (w.iter s pos) = _ := fun ty => run_next_any w s pos ty hp
    have hq : Sc.digi (Utf8.decode s pos).1 = false := Sc.kI _ hd.1
    have hst : Sc.spanN Sc.digi s.data.toList = pos := Sc.jM Sc.digi _ pos hl hk (by rw [Sc.zx s pos hp hl]; exact Sc.kI _ (by omega))
    have HS := Lib.hid hst
    clear hst
    have HQ := Lib.hid hq
    clear hq
    exact zFD
   ·have hnx : ∀ ty, (Instr.next (.pointer (some ⟨w.heap.size, 0, none⟩)) true ty).run Tryz.prog (w.iter s pos) = _ := fun ty => run_next_ascii w s pos ty hp (by omega)
    have hb256 : s[pos].toNat < 256 := s[pos].toNat_lt
    by_cases hq : Sc.digi (s[pos].toNat : Int) = true
    ·have hm : pos + 1 ≤ Sc.spanN Sc.digi s.data.toList := Sc.qo Sc.digi _ pos hl hk (by rw [Sc.zx s pos hp hl]; exact hq)
     have HQ := Lib.hid hq
     clear hq
     go_wp2_with (go_at_call 119; refine (qd _ _).mono ?_; rintro e w' ⟨rfl, rfl⟩; rw [HQ.out])
     exact zEi
    ·have hq' : Sc.digi (s[pos].toNat : Int) = false := by simpa using hq
     have hst : Sc.spanN Sc.digi s.data.toList = pos := Sc.jM Sc.digi _ pos hl hk (by rw [Sc.zx s pos hp hl]; exact hq')
     have HS := Lib.hid hst
     clear hst
     have HQ := Lib.hid hq'
     clear hq' hq
     exact zFD
  ·have hnx : ∀ ty, (Instr.next (.pointer (some ⟨w.heap.size, 0, none⟩)) true ty).run Tryz.prog (w.iter s pos) = _ := fun ty => run_next_end w s pos ty hp
   have hst : Sc.spanN Sc.digi s.data.toList = s.size := by
    have := Sc.j6 Sc.digi s.data.toList
    rw [Sc.za] at this
    omega
   exact zEj
set_option maxRecDepth 100000 in
theorem zBK (s : ByteArray) (w : World) :
  Calls Tryz.prog 124 #[.string s, .func (.func 125) #[] #[]] w fun e w' => e = .returned (.int .i64 (Sc.spanN Sc.lord s.data.toList)) ∧ ∃ pos, w' = w.iter s pos := by
 go_enter Tryz.func124, Tryz.ntmps124
 go_wp2
 go_loopw [5] (fun _ wr => ∃ pos : Nat, wr = w.iter s pos ∧ pos ≤ s.size ∧ pos ≤ Sc.spanN Sc.lord s.data.toList) (fun _ wr => s.size - wr.iterPos w.heap.size)
 case atStart => exact ⟨0, rfl, Nat.zero_le _, Nat.zero_le _⟩
 case round =>
  obtain ⟨pos, rfl, hps, hk⟩ := hrel
  by_cases hp : pos < s.size
  ·have hl : pos < s.data.toList.length := by rw [Sc.za]; exact hp
   by_cases hb : 128 ≤ s[pos].toNat
   ·have hd := decode_high s pos hp hb
    have hle := decode_le s pos
    have hnx : ∀ ty, (Instr.next (.pointer (some ⟨w.heap.size, 0, none⟩)) true ty).run Tryz.prog (w.iter s pos) = _ := fun ty => run_next_any w s pos ty hp
    have hq : Sc.lord (Utf8.decode s pos).1 = false := Sc.xC _ hd.1
    have hst : Sc.spanN Sc.lord s.data.toList = pos := Sc.jM Sc.lord _ pos hl hk (by rw [Sc.zx s pos hp hl]; exact Sc.xC _ (by omega))
    have HS := Lib.hid hst
    clear hst
    have HQ := Lib.hid hq
    clear hq
    exact zFB
   ·have hnx : ∀ ty, (Instr.next (.pointer (some ⟨w.heap.size, 0, none⟩)) true ty).run Tryz.prog (w.iter s pos) = _ := fun ty => run_next_ascii w s pos ty hp (by omega)
    have hb256 : s[pos].toNat < 256 := s[pos].toNat_lt
    by_cases hq : Sc.lord (s[pos].toNat : Int) = true
    ·have hm : pos + 1 ≤ Sc.spanN Sc.lord s.data.toList := Sc.qo Sc.lord _ pos hl hk (by rw [Sc.zx s pos hp hl]; exact hq)
     have HQ := Lib.hid hq
     clear hq
     go_wp2_with (go_at_call 125; refine (vK _ _).mono ?_; rintro e w' ⟨rfl, rfl⟩; rw [HQ.out])
     exact zEi
    ·have hq' : Sc.lord (s[pos].toNat : Int) = false := by simpa using hq
     have hst : Sc.spanN Sc.lord s.data.toList = pos := Sc.jM Sc.lord _ pos hl hk (by rw [Sc.zx s pos hp hl]; exact hq')
     have HS := Lib.hid hst
     clear hst
     have HQ := Lib.hid hq'
     clear hq' hq
     exact zFB
  ·have hnx : ∀ ty, (Instr.next (.pointer (some ⟨w.heap.size, 0, none⟩)) true ty).run Tryz.prog (w.iter s pos) = _ := fun ty => run_next_end w s pos ty hp
   have hst : Sc.spanN Sc.lord s.data.toList = s.size := by
    have := Sc.j6 Sc.lord s.data.toList
    rw [Sc.za] at this
    omega
   exact zEj
end Go.Proofs.YtekeoilmfbcefaaGreatDoor
