import Derived.Test.YtglgjaomneljbaaGreatDoorLeaf
import Derived.Test.YtglgjaomneljbaaGreatDoorUtf
namespace Go.Proofs.YtglgjaomneljbaaGreatDoor
open Go.RowKit
theorem zF7 {P : Prop} (h : P := by
 have HS := Lib.hid hst;clear hst
 go_wp2
 go_ret
 exact ⟨xC (by rw [HS.out]), _, rfl⟩) : P := h
theorem zF5 {P : Prop} (h : P := by
 go_roundw
 case rel => exact ⟨_, rfl, by omega, hm⟩
 case measure => simp; omega) : P := h
theorem zFj {P : Prop} (h : P := by
 go_wp2_with (go_at_call 134; refine (qF _ _).mono ?_; rintro e w' ⟨rfl, rfl⟩; rw [HQ.out])
 go_ret
 exact ⟨xC (by rw [HS.out]), _, rfl⟩) : P := h
theorem zFi {P : Prop} (h : P := by
 go_wp2_with (go_at_call 136; refine (qg _ _).mono ?_; rintro e w' ⟨rfl, rfl⟩; rw [HQ.out])
 go_ret
 exact ⟨xC (by rw [HS.out]), _, rfl⟩) : P := h
theorem zFg {P : Prop} (h : P := by
 go_wp2_with (go_at_call 142; refine (vI _ _).mono ?_; rintro e w' ⟨rfl, rfl⟩; rw [HQ.out])
 go_ret
 exact ⟨xC (by rw [HS.out]), _, rfl⟩) : P := h
end Go.Proofs.YtglgjaomneljbaaGreatDoor
namespace Go.Proofs.YtglgjaomneljbaaGreatDoor
set_option maxHeartbeats 1000000
open Go.RowKit
theorem Sc.vz (r : Nat) (h : 128 <= r) : Sc.lett (r : Int) = false := by simp [Sc.lett]; omega
theorem Sc.kI (r : Nat) (h : 128 <= r) : Sc.digi (r : Int) = false := by simp [Sc.digi]; omega
theorem Sc.xJ (r : Nat) (h : 128 <= r) : Sc.lord (r : Int) = false := by simp [Sc.lord, Sc.vz r h, Sc.kI r h]
theorem vI (r : Int) (w : World) :
  Calls Tryz.prog 142 #[.int .i32 r] w fun e w' => e = .returned (.bool (Sc.lord r)) /\ w = w' := by
 by_cases h : Sc.lett r = true
 ·have hc := (qF r w)
  rw [h] at hc;have hl : Sc.lord r = true := by simp [Sc.lord, h]
  rw [hl];clear h hl
  go_enter Tryz.func142, Tryz.ntmps142
  go_wp2_with (go_at_call 134; refine hc.mono ?_; rintro e w' ⟨rfl, rfl⟩)
  go_ret
  exact ⟨rfl, rfl⟩
 ·have h' : Sc.lett r = false := by simpa using h
  have hc := (qF r w);rw [h'] at hc;have hl : Sc.digi r = Sc.lord r := by simp [Sc.lord, h']
  have hd := qg r w;rw [hl] at hd;clear h h' hl
  go_enter Tryz.func142, Tryz.ntmps142
  go_wp2_with (first | (go_at_call 134; refine hc.mono ?_; rintro e w' ⟨rfl, rfl⟩) | (go_at_call 136; refine hd.mono ?_; rintro e w' ⟨rfl, rfl⟩))
  go_ret
  exact ⟨rfl, rfl⟩
set_option maxRecDepth 100000 in
theorem wy (s : ByteArray) (w : World) :
  Calls Tryz.prog 141 #[.string s, .func (.func 134) #[] #[]] w fun e w' => e = .returned (.int .i64 (Sc.spanN Sc.lett s.data.toList)) /\ ∃ pos, w' = w.iter s pos := by
 go_enter Tryz.func141, Tryz.ntmps141
 go_wp2
 go_loopw [5] (fun _ wr => ∃ pos : Nat, wr = w.iter s pos /\ pos <= s.size /\ pos <= Sc.spanN Sc.lett s.data.toList) (fun _ wr => s.size - wr.iterPos w.heap.size)
 case atStart => exact ⟨0, rfl, Nat.zero_le _, Nat.zero_le _⟩
 case round =>
  obtain ⟨pos, rfl, hps, hk⟩ := hrel
  by_cases hp : pos < s.size
  ·have hl : pos < s.data.toList.length := by rw [Sc.za]; exact hp
   by_cases hb : 128 <= s[pos].toNat
   ·have hd := decode_high s pos hp hb
    have hle := decode_le s pos;have hnx : ∀ ty, (Instr.next (.pointer (some ⟨w.heap.size, 0, none⟩)) true ty).run Tryz.prog (w.iter s pos) = _ := fun ty => run_next_any w s pos ty hp
    have hq : Sc.lett (Utf8.decode s pos).1 = false := Sc.vz _ hd.1;have hst : Sc.spanN Sc.lett s.data.toList = pos := Sc.jG Sc.lett _ pos hl hk (by rw [Sc.zx s pos hp hl]; exact Sc.vz _ (by omega));have HS := Lib.hid hst;clear hst;have HQ := Lib.hid hq;clear hq;exact zFj
   ·have hnx : ∀ ty, (Instr.next (.pointer (some ⟨w.heap.size, 0, none⟩)) true ty).run Tryz.prog (w.iter s pos) = _ := fun ty => run_next_ascii w s pos ty hp (by omega)
    have hb256 : s[pos].toNat < 256 := s[pos].toNat_lt
    by_cases hq : Sc.lett (s[pos].toNat : Int) = true
    ·have hm : pos + 1 <= Sc.spanN Sc.lett s.data.toList := Sc.qo Sc.lett _ pos hl hk (by rw [Sc.zx s pos hp hl]; exact hq)
     have HQ := Lib.hid hq;clear hq
     go_wp2_with (go_at_call 134; refine (qF _ _).mono ?_; rintro e w' ⟨rfl, rfl⟩; rw [HQ.out])
     exact zF5
    ·have hq' : Sc.lett (s[pos].toNat : Int) = false := by simpa using hq
     have hst : Sc.spanN Sc.lett s.data.toList = pos := Sc.jG Sc.lett _ pos hl hk (by rw [Sc.zx s pos hp hl]; exact hq');have HS := Lib.hid hst;clear hst;have HQ := Lib.hid hq';clear hq' hq;exact zFj
  ·have hnx : ∀ ty, (Instr.next (.pointer (some ⟨w.heap.size, 0, none⟩)) true ty).run Tryz.prog (w.iter s pos) = _ := fun ty => run_next_end w s pos ty hp
   have hst : Sc.spanN Sc.lett s.data.toList = s.size := by
    have := Sc.qz Sc.lett s.data.toList;rw [Sc.za] at this
    omega
   exact zF7
set_option maxRecDepth 100000 in
theorem zAA (s : ByteArray) (w : World) :
  Calls Tryz.prog 141 #[.string s, .func (.func 136) #[] #[]] w fun e w' => e = .returned (.int .i64 (Sc.spanN Sc.digi s.data.toList)) /\ ∃ pos, w' = w.iter s pos := by
 go_enter Tryz.func141, Tryz.ntmps141
 go_wp2
 go_loopw [5] (fun _ wr => ∃ pos : Nat, wr = w.iter s pos /\ pos <= s.size /\ pos <= Sc.spanN Sc.digi s.data.toList) (fun _ wr => s.size - wr.iterPos w.heap.size)
 case atStart => exact ⟨0, rfl, Nat.zero_le _, Nat.zero_le _⟩
 case round =>
  obtain ⟨pos, rfl, hps, hk⟩ := hrel
  by_cases hp : pos < s.size
  ·have hl : pos < s.data.toList.length := by rw [Sc.za]; exact hp
   by_cases hb : 128 <= s[pos].toNat
   ·have hd := decode_high s pos hp hb
    have hle := decode_le s pos;have hnx : ∀ ty, (Instr.next (.pointer (some ⟨w.heap.size, 0, none⟩)) true ty).run Tryz.prog (w.iter s pos) = _ := fun ty => run_next_any w s pos ty hp
    have hq : Sc.digi (Utf8.decode s pos).1 = false := Sc.kI _ hd.1;have hst : Sc.spanN Sc.digi s.data.toList = pos := Sc.jG Sc.digi _ pos hl hk (by rw [Sc.zx s pos hp hl]; exact Sc.kI _ (by omega));have HS := Lib.hid hst;clear hst;have HQ := Lib.hid hq;clear hq;exact zFi
   ·have hnx : ∀ ty, (Instr.next (.pointer (some ⟨w.heap.size, 0, none⟩)) true ty).run Tryz.prog (w.iter s pos) = _ := fun ty => run_next_ascii w s pos ty hp (by omega)
    have hb256 : s[pos].toNat < 256 := s[pos].toNat_lt
    by_cases hq : Sc.digi (s[pos].toNat : Int) = true
    ·have hm : pos + 1 <= Sc.spanN Sc.digi s.data.toList := Sc.qo Sc.digi _ pos hl hk (by rw [Sc.zx s pos hp hl]; exact hq)
     have HQ := Lib.hid hq;clear hq
     go_wp2_with (go_at_call 136; refine (qg _ _).mono ?_; rintro e w' ⟨rfl, rfl⟩; rw [HQ.out])
     exact zF5
    ·have hq' : Sc.digi (s[pos].toNat : Int) = false := by simpa using hq
     have hst : Sc.spanN Sc.digi s.data.toList = pos := Sc.jG Sc.digi _ pos hl hk (by rw [Sc.zx s pos hp hl]; exact hq');have HS := Lib.hid hst;clear hst;have HQ := Lib.hid hq';clear hq' hq;exact zFi
  ·have hnx : ∀ ty, (Instr.next (.pointer (some ⟨w.heap.size, 0, none⟩)) true ty).run Tryz.prog (w.iter s pos) = _ := fun ty => run_next_end w s pos ty hp
   have hst : Sc.spanN Sc.digi s.data.toList = s.size := by
    have := Sc.qz Sc.digi s.data.toList;rw [Sc.za] at this
    omega
   exact zF7
set_option maxRecDepth 100000 in
theorem zBd (s : ByteArray) (w : World) :
  Calls Tryz.prog 141 #[.string s, .func (.func 142) #[] #[]] w fun e w' => e = .returned (.int .i64 (Sc.spanN Sc.lord s.data.toList)) /\ ∃ pos, w' = w.iter s pos := by
 go_enter Tryz.func141, Tryz.ntmps141
 go_wp2
 go_loopw [5] (fun _ wr => ∃ pos : Nat, wr = w.iter s pos /\ pos <= s.size /\ pos <= Sc.spanN Sc.lord s.data.toList) (fun _ wr => s.size - wr.iterPos w.heap.size)
 case atStart => exact ⟨0, rfl, Nat.zero_le _, Nat.zero_le _⟩
 case round =>
  obtain ⟨pos, rfl, hps, hk⟩ := hrel
  by_cases hp : pos < s.size
  ·have hl : pos < s.data.toList.length := by rw [Sc.za]; exact hp
   by_cases hb : 128 <= s[pos].toNat
   ·have hd := decode_high s pos hp hb
    have hle := decode_le s pos;have hnx : ∀ ty, (Instr.next (.pointer (some ⟨w.heap.size, 0, none⟩)) true ty).run Tryz.prog (w.iter s pos) = _ := fun ty => run_next_any w s pos ty hp
    have hq : Sc.lord (Utf8.decode s pos).1 = false := Sc.xJ _ hd.1;have hst : Sc.spanN Sc.lord s.data.toList = pos := Sc.jG Sc.lord _ pos hl hk (by rw [Sc.zx s pos hp hl]; exact Sc.xJ _ (by omega));have HS := Lib.hid hst;clear hst;have HQ := Lib.hid hq;clear hq;exact zFg
   ·have hnx : ∀ ty, (Instr.next (.pointer (some ⟨w.heap.size, 0, none⟩)) true ty).run Tryz.prog (w.iter s pos) = _ := fun ty => run_next_ascii w s pos ty hp (by omega)
    have hb256 : s[pos].toNat < 256 := s[pos].toNat_lt
    by_cases hq : Sc.lord (s[pos].toNat : Int) = true
    ·have hm : pos + 1 <= Sc.spanN Sc.lord s.data.toList := Sc.qo Sc.lord _ pos hl hk (by rw [Sc.zx s pos hp hl]; exact hq)
     have HQ := Lib.hid hq;clear hq
     go_wp2_with (go_at_call 142; refine (vI _ _).mono ?_; rintro e w' ⟨rfl, rfl⟩; rw [HQ.out])
     exact zF5
    ·have hq' : Sc.lord (s[pos].toNat : Int) = false := by simpa using hq
     have hst : Sc.spanN Sc.lord s.data.toList = pos := Sc.jG Sc.lord _ pos hl hk (by rw [Sc.zx s pos hp hl]; exact hq');have HS := Lib.hid hst;clear hst;have HQ := Lib.hid hq';clear hq' hq;exact zFg
  ·have hnx : ∀ ty, (Instr.next (.pointer (some ⟨w.heap.size, 0, none⟩)) true ty).run Tryz.prog (w.iter s pos) = _ := fun ty => run_next_end w s pos ty hp
   have hst : Sc.spanN Sc.lord s.data.toList = s.size := by
    have := Sc.qz Sc.lord s.data.toList;rw [Sc.za] at this
    omega
   exact zF7
end Go.Proofs.YtglgjaomneljbaaGreatDoor
