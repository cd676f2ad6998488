import Derived.WalkKit
import Derived.WalkSpells
import Derived.WalkLawsBesides
import Derived.Lib.Hide
import Derived.Deep.QuietTactic
import Derived.BigQuiet
import Derived.Test.YtlfcbmobgbcgnaaGreatDoorRows
import Derived.Lib.DecodeN
import Derived.Lib.Strings
import Derived.Laws.RangeAny
import Derived.Test.YtlfcbmobgbcgnaaGreatDoorLeaf
import Derived.Test.YtlfcbmobgbcgnaaGreatDoorUtf
namespace Go.Proofs.YtlfcbmobgbcgnaaGreatDoor
open Go.RowKit
theorem zFA {P : Prop} (h : P := by
 have HS := Lib.hid hst
 clear hst
 go_wp2
 go_ret
 exact ⟨xK (by rw [HS.out]), _, rfl⟩) : P := h
theorem zF7 {P : Prop} (h : P := by
 go_roundw
 case rel => exact ⟨_, rfl, by omega, hm⟩
 case measure => simp; omega) : P := h
theorem zFl {P : Prop} (h : P := by
 go_wp2_with (go_at_call 143; refine (qL _ _).mono ?_; rintro e w' ⟨rfl, rfl⟩; rw [HQ.out])
 go_ret
 exact ⟨xK (by rw [HS.out]), _, rfl⟩) : P := h
theorem zFk {P : Prop} (h : P := by
 go_wp2_with (go_at_call 145; refine (qg _ _).mono ?_; rintro e w' ⟨rfl, rfl⟩; rw [HQ.out])
 go_ret
 exact ⟨xK (by rw [HS.out]), _, rfl⟩) : P := h
theorem zFi {P : Prop} (h : P := by
 go_wp2_with (go_at_call 151; refine (vR _ _).mono ?_; rintro e w' ⟨rfl, rfl⟩; rw [HQ.out])
 go_ret
 exact ⟨xK (by rw [HS.out]), _, rfl⟩) : P := h
end Go.Proofs.YtlfcbmobgbcgnaaGreatDoor
namespace Go.Proofs.YtlfcbmobgbcgnaaGreatDoor
set_option maxHeartbeats 1000000
open Go.RowKit
theorem Sc.kK (r : Nat) (h : 128 ≤ r) : Sc.lett (r : Int) = false := by simp [Sc.lett]; omega
theorem Sc.kR (r : Nat) (h : 128 ≤ r) : Sc.digi (r : Int) = false := by simp [Sc.digi]; omega
theorem Sc.xQ (r : Nat) (h : 128 ≤ r) : Sc.lord (r : Int) = false := by simp [Sc.lord, Sc.kK r h, Sc.kR r h]
theorem vR (r : Int) (w : World) :
  Calls Tryz.prog 151 #[.int .i32 r] w fun e w' => e = .returned (.bool (Sc.lord r)) ∧ w = w' := by
 by_cases h : Sc.lett r = true
 ·have hc := (qL r w)
  rw [h] at hc
  have hl : Sc.lord r = true := by simp [Sc.lord, h]
  rw [hl]
  clear h hl
  go_enter Tryz.func151, Tryz.ntmps151
  go_wp2_with (go_at_call 143; refine hc.mono ?_; rintro e w' ⟨rfl, rfl⟩)
  go_ret
  exact ⟨rfl, rfl⟩
 ·have h' : Sc.lett r = false := by simpa using h
  have hc := (qL r w)
  rw [h'] at hc
  have hl : Sc.digi r = Sc.lord r := by simp [Sc.lord, h']
  have hd := qg r w
  rw [hl] at hd
  clear h h' hl
  go_enter Tryz.func151, Tryz.ntmps151
  go_wp2_with (first | (go_at_call 143; refine hc.mono ?_; rintro e w' ⟨rfl, rfl⟩) | (go_at_call 145; refine hd.mono ?_; rintro e w' ⟨rfl, rfl⟩))
  go_ret
  exact ⟨rfl, rfl⟩
set_option maxRecDepth 100000 in
theorem uL (s : ByteArray) (w : World) :
  Calls Tryz.prog 150 #[.string s, .func (.func 143) #[] #[]] w fun e w' => e = .returned (.int .i64 (Sc.spanN Sc.lett s.data.toList)) ∧ ∃ pos, w' = w.iter s pos := by
 go_enter Tryz.func150, Tryz.ntmps150
 go_wp2
 go_loopw [5] (fun _ wr => ∃ pos : Nat, wr = w.iter s pos ∧ pos ≤ s.size ∧ pos ≤ Sc.spanN Sc.lett s.data.toList) (fun _ wr => s.size - wr.iterPos w.heap.size)
 case atStart => exact ⟨0, rfl, Nat.zero_le _, Nat.zero_le _⟩
 case round =>
  obtain ⟨pos, rfl, hps, hk⟩ := hrel
  by_cases hp : pos < s.size
  ·have hl : pos < s.data.toList.length := by rw [Sc.za]; exact hp
   by_cases hb : 128 ≤ s[pos].toNat
   ·have hd := decode_high s pos hp hb
    have hle := decode_le s pos
    have hnx : ∀ ty, (Instr.next (.pointer (some ⟨w.heap.size, 0, none⟩)) true ty).run Tryz.prog (w.iter s pos) = _ := fun ty => run_next_any w s pos ty hp
    have hq : Sc.lett (Utf8.decode s pos).1 = false := Sc.kK _ hd.1
    have hst : Sc.spanN Sc.lett s.data.toList = pos := Sc.jK Sc.lett _ pos hl hk (by rw [Sc.zz s pos hp hl]; exact Sc.kK _ (by omega))
    have HS := Lib.hid hst
    clear hst
    have HQ := Lib.hid hq
    clear hq
    exact zFl
   ·have hnx : ∀ ty, (Instr.next (.pointer (some ⟨w.heap.size, 0, none⟩)) true ty).run Tryz.prog (w.iter s pos) = _ := fun ty => run_next_ascii w s pos ty hp (by omega)
    have hb256 : s[pos].toNat < 256 := s[pos].toNat_lt
    by_cases hq : Sc.lett (s[pos].toNat : Int) = true
    ·have hm : pos + 1 ≤ Sc.spanN Sc.lett s.data.toList := Sc.qo Sc.lett _ pos hl hk (by rw [Sc.zz s pos hp hl]; exact hq)
     have HQ := Lib.hid hq
     clear hq
     go_wp2_with (go_at_call 143; refine (qL _ _).mono ?_; rintro e w' ⟨rfl, rfl⟩; rw [HQ.out])
     exact zF7
    ·have hq' : Sc.lett (s[pos].toNat : Int) = false := by simpa using hq
     have hst : Sc.spanN Sc.lett s.data.toList = pos := Sc.jK Sc.lett _ pos hl hk (by rw [Sc.zz s pos hp hl]; exact hq')
     have HS := Lib.hid hst
     clear hst
     have HQ := Lib.hid hq'
     clear hq' hq
     exact zFl
  ·have hnx : ∀ ty, (Instr.next (.pointer (some ⟨w.heap.size, 0, none⟩)) true ty).run Tryz.prog (w.iter s pos) = _ := fun ty => run_next_end w s pos ty hp
   have hst : Sc.spanN Sc.lett s.data.toList = s.size := by
    have := Sc.qy Sc.lett s.data.toList
    rw [Sc.za] at this
    omega
   exact zFA
set_option maxRecDepth 100000 in
theorem zAE (s : ByteArray) (w : World) :
  Calls Tryz.prog 150 #[.string s, .func (.func 145) #[] #[]] w fun e w' => e = .returned (.int .i64 (Sc.spanN Sc.digi s.data.toList)) ∧ ∃ pos, w' = w.iter s pos := by
 go_enter Tryz.func150, Tryz.ntmps150
 go_wp2
 go_loopw [5] (fun _ wr => ∃ pos : Nat, wr = w.iter s pos ∧ pos ≤ s.size ∧ pos ≤ Sc.spanN Sc.digi s.data.toList) (fun _ wr => s.size - wr.iterPos w.heap.size)
 case atStart => exact ⟨0, rfl, Nat.zero_le _, Nat.zero_le _⟩
 case round =>
  obtain ⟨pos, rfl, hps, hk⟩ := hrel
  by_cases hp : pos < s.size
  ·have hl : pos < s.data.toList.length := by rw [Sc.za]; exact hp
   by_cases hb : 128 ≤ s[pos].toNat
   ·have hd := decode_high s pos hp hb
    have hle := decode_le s pos
    have hnx : ∀ ty, (Instr.next (.pointer (some ⟨w.heap.size, 0, none⟩)) true ty).run Tryz.prog (w.iter s pos) = _ := fun ty => run_next_any w s pos ty hp
    have hq : Sc.digi (Utf8.decode s pos).1 = false := Sc.kR _ hd.1
    have hst : Sc.spanN Sc.digi s.data.toList = pos := Sc.jK Sc.digi _ pos hl hk (by rw [Sc.zz s pos hp hl]; exact Sc.kR _ (by omega))
    have HS := Lib.hid hst
    clear hst
    have HQ := Lib.hid hq
    clear hq
    exact zFk
   ·have hnx : ∀ ty, (Instr.next (.pointer (some ⟨w.heap.size, 0, none⟩)) true ty).run Tryz.prog (w.iter s pos) = _ := fun ty => run_next_ascii w s pos ty hp (by omega)
    have hb256 : s[pos].toNat < 256 := s[pos].toNat_lt
    by_cases hq : Sc.digi (s[pos].toNat : Int) = true
    ·have hm : pos + 1 ≤ Sc.spanN Sc.digi s.data.toList := Sc.qo Sc.digi _ pos hl hk (by rw [Sc.zz s pos hp hl]; exact hq)
     have HQ := Lib.hid hq
     clear hq
     go_wp2_with (go_at_call 145; refine (qg _ _).mono ?_; rintro e w' ⟨rfl, rfl⟩; rw [HQ.out])
     exact zF7
    ·have hq' : Sc.digi (s[pos].toNat : Int) = false := by simpa using hq
     have hst : Sc.spanN Sc.digi s.data.toList = pos := Sc.jK Sc.digi _ pos hl hk (by rw [Sc.zz s pos hp hl]; exact hq')
     have HS := Lib.hid hst
     clear hst
     have HQ := Lib.hid hq'
     clear hq' hq
     exact zFk
  ·have hnx : ∀ ty, (Instr.next (.pointer (some ⟨w.heap.size, 0, none⟩)) true ty).run Tryz.prog (w.iter s pos) = _ := fun ty => run_next_end w s pos ty hp
   have hst : Sc.spanN Sc.digi s.data.toList = s.size := by
    have := Sc.qy Sc.digi s.data.toList
    rw [Sc.za] at this
    omega
   exact zFA
set_option maxRecDepth 100000 in
theorem zBg (s : ByteArray) (w : World) :
  Calls Tryz.prog 150 #[.string s, .func (.func 151) #[] #[]] w fun e w' => e = .returned (.int .i64 (Sc.spanN Sc.lord s.data.toList)) ∧ ∃ pos, w' = w.iter s pos := by
 go_enter Tryz.func150, Tryz.ntmps150
 go_wp2
 go_loopw [5] (fun _ wr => ∃ pos : Nat, wr = w.iter s pos ∧ pos ≤ s.size ∧ pos ≤ Sc.spanN Sc.lord s.data.toList) (fun _ wr => s.size - wr.iterPos w.heap.size)
 case atStart => exact ⟨0, rfl, Nat.zero_le _, Nat.zero_le _⟩
 case round =>
  obtain ⟨pos, rfl, hps, hk⟩ := hrel
  by_cases hp : pos < s.size
  ·have hl : pos < s.data.toList.length := by rw [Sc.za]; exact hp
   by_cases hb : 128 ≤ s[pos].toNat
   ·have hd := decode_high s pos hp hb
    have hle := decode_le s pos
    have hnx : ∀ ty, (Instr.next (.pointer (some ⟨w.heap.size, 0, none⟩)) true ty).run Tryz.prog (w.iter s pos) = _ := fun ty => run_next_any w s pos ty hp
    have hq : Sc.lord (Utf8.decode s pos).1 = false := Sc.xQ _ hd.1
    have hst : Sc.spanN Sc.lord s.data.toList = pos := Sc.jK Sc.lord _ pos hl hk (by rw [Sc.zz s pos hp hl]; exact Sc.xQ _ (by omega))
    have HS := Lib.hid hst
    clear hst
    have HQ := Lib.hid hq
    clear hq
    exact zFi
   ·have hnx : ∀ ty, (Instr.next (.pointer (some ⟨w.heap.size, 0, none⟩)) true ty).run Tryz.prog (w.iter s pos) = _ := fun ty => run_next_ascii w s pos ty hp (by omega)
    have hb256 : s[pos].toNat < 256 := s[pos].toNat_lt
    by_cases hq : Sc.lord (s[pos].toNat : Int) = true
    ·have hm : pos + 1 ≤ Sc.spanN Sc.lord s.data.toList := Sc.qo Sc.lord _ pos hl hk (by rw [Sc.zz s pos hp hl]; exact hq)
     have HQ := Lib.hid hq
     clear hq
     go_wp2_with (go_at_call 151; refine (vR _ _).mono ?_; rintro e w' ⟨rfl, rfl⟩; rw [HQ.out])
     exact zF7
    ·have hq' : Sc.lord (s[pos].toNat : Int) = false := by simpa using hq
     have hst : Sc.spanN Sc.lord s.data.toList = pos := Sc.jK Sc.lord _ pos hl hk (by rw [Sc.zz s pos hp hl]; exact hq')
     have HS := Lib.hid hst
     clear hst
     have HQ := Lib.hid hq'
     clear hq' hq
     exact zFi
  ·have hnx : ∀ ty, (Instr.next (.pointer (some ⟨w.heap.size, 0, none⟩)) true ty).run Tryz.prog (w.iter s pos) = _ := fun ty => run_next_end w s pos ty hp
   have hst : Sc.spanN Sc.lord s.data.toList = s.size := by
    have := Sc.qy Sc.lord s.data.toList
    rw [Sc.za] at this
    omega
   exact zFA
end Go.Proofs.YtlfcbmobgbcgnaaGreatDoor
