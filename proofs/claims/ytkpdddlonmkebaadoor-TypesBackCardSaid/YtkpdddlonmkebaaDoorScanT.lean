/-
  Plain facts on UTF-8 and on the first place where a predicate on runes fails. scan.span over each of the four predicates that the program hands it: how many of the first bytes belong. scan.name: a letter, and letters and digits behind it. Plain facts on numerals. scan.number: digits; too great, with a 0 ahead or a letter behind: an error. strings.ContainsRune of the signs, at a rune of one byte. scan.first: the word that a text begins with. scan.first at every text that is not empty, in one contract; scan.Name. The words of a text, as a plain function: what scan.All answers. scan.All: the words of a text, or its fault.
-/
import Derived.Test.YtkpdddlonmkebaaDoorScan0
import Derived.Lib.DecodeN
import Derived.Lib.Strings
import Derived.Laws.RangeAny
import Derived.Test.YtkpdddlonmkebaaDoorLeaf
import Derived.Test.YtkpdddlonmkebaaDoorWord
import Derived.Lib.ParseIntB
import Derived.WalkSmall
import Derived.Test.YtkpdddlonmkebaaDoorShelf
import Derived.Test.YtkpdddlonmkebaaDoorShelf2
import Derived.Laws.Cover4
import Derived.Lib.OthersKept
import Derived.Deep.DeepMust
namespace Go.Proofs.YtkpdddlonmkebaaDoor
namespace Sc
theorem get!_eq (s : ByteArray) (j : Nat) (h : j < s.size) : s.get! j = s[j] := get_at s j h

theorem dec_wide (s : ByteArray) (pos : Nat) (h : pos < s.size) (hb : 128 ≤ s[pos].toNat) :
    pos + (Utf8.decode s pos).2 ≤ s.size ∧ ∀ j (hj : j < s.size), pos ≤ j → j < pos + (Utf8.decode s pos).2 → 128 ≤ s[j].toNat := by
  have g0 : (s.get! pos).toNat = s[pos].toNat := by rw [get!_eq s pos h]
  have key : pos + (Utf8.decode s pos).2 ≤ s.size ∧ ((Utf8.decode s pos).2 ≤ 1 ∨ (128 ≤ (s.get! (pos + 1)).toNat ∧ ((Utf8.decode s pos).2 ≤ 2 ∨ (128 ≤ (s.get! (pos + 2)).toNat ∧ ((Utf8.decode s pos).2 ≤ 3 ∨ (128 ≤ (s.get! (pos + 3)).toNat ∧ (Utf8.decode s pos).2 ≤ 4)))))) := by
    rw [Lib.decode_at]
    have hb' : 128 ≤ (s.get! pos).toNat := by omega
    generalize (s.get! pos).toNat = b0 at *
    generalize (s.get! (pos + 1)).toNat = b1 at *
    generalize (s.get! (pos + 2)).toNat = b2 at *
    generalize (s.get! (pos + 3)).toNat = b3 at *
    unfold Lib.decodeN
    repeat' split
    all_goals simp only
    all_goals omega
  obtain ⟨k1, k2⟩ := key
  refine ⟨k1, fun j hj h1 h2 => ?_⟩
  have hd : j = pos ∨ j = pos + 1 ∨ j = pos + 2 ∨ j = pos + 3 := by omega
  rw [← get!_eq s j hj]
  rcases hd with rfl | rfl | rfl | rfl <;> omega

/-- how many of s's first bytes meet q -/
def spanN (q : Int → Bool) (l : List UInt8) : Nat := (l.takeWhile fun b => q (b.toNat : Int)).length

theorem spanN_le (q : Int → Bool) (l : List UInt8) : spanN q l ≤ l.length := by
  unfold spanN
  exact (List.takeWhile_sublist _).length_le

theorem spanN_cons (q : Int → Bool) (b : UInt8) (l : List UInt8) : spanN q (b :: l) = if q (b.toNat : Int) then spanN q l + 1 else 0 := by
  unfold spanN
  rw [List.takeWhile_cons]
  split <;> simp

theorem spanN_get (q : Int → Bool) : ∀ (l : List UInt8) (k : Nat) (h : k < l.length), k < spanN q l → q (l[k].toNat : Int) = true := by
  intro l
  induction l with
  | nil => intro k h; simp at h
  | cons b l ih =>
    intro k h hk
    rw [spanN_cons] at hk
    by_cases hq : q (b.toNat : Int) = true
    · rw [if_pos hq] at hk
      cases k with
      | zero => exact hq
      | succ k => exact ih k (by simpa using h) (by omega)
    · rw [if_neg hq] at hk; omega

theorem spanN_stop (q : Int → Bool) : ∀ (l : List UInt8) (h : spanN q l < l.length), q (l[spanN q l].toNat : Int) = false := by
  intro l
  induction l with
  | nil => intro h; simp at h
  | cons b l ih =>
    intro h
    by_cases hq : q (b.toNat : Int) = true
    · have e : spanN q (b :: l) = spanN q l + 1 := by rw [spanN_cons, if_pos hq]
      have h' : spanN q l < l.length := by rw [e] at h; simpa using h
      simp only [e, List.getElem_cons_succ]
      exact ih h'
    · have e : spanN q (b :: l) = 0 := by rw [spanN_cons, if_neg hq]
      simp only [e, List.getElem_cons_zero]
      simpa using hq

/-- one byte more -/
theorem spanN_more (q : Int → Bool) (l : List UInt8) (k : Nat) (h : k < l.length) (hk : k ≤ spanN q l) (hq : q (l[k].toNat : Int) = true) : k + 1 ≤ spanN q l := by
  rcases Nat.lt_or_ge k (spanN q l) with h1 | h1
  · omega
  · have e : spanN q l = k := by omega
    have h2 : spanN q l < l.length := by omega
    have := spanN_stop q l h2
    simp only [e] at this
    rw [hq] at this; cases this

theorem spanN_eq (q : Int → Bool) (l : List UInt8) (k : Nat) (h : k < l.length) (hk : k ≤ spanN q l) (hq : q (l[k].toNat : Int) = false) : spanN q l = k := by
  rcases Nat.lt_or_ge k (spanN q l) with h1 | h1
  · have := spanN_get q l k h h1
    rw [hq] at this; cases this
  · omega

theorem spanN_jump (q : Int → Bool) (l : List UInt8) (k : Nat) (hk : k ≤ spanN q l) : ∀ (d : Nat), k + d ≤ l.length → (∀ j (hj : j < l.length), k ≤ j → j < k + d → q (l[j].toNat : Int) = true) → k + d ≤ spanN q l := by
  intro d
  induction d with
  | zero => intro _ _; omega
  | succ d ih =>
    intro h1 h2
    have := ih (by omega) (fun j hj a b => h2 j hj a (by omega))
    have := spanN_more q l (k + d) (by omega) this (h2 (k + d) (by omega) (by omega) (by omega))
    omega

theorem get_data (s : ByteArray) (k : Nat) (_h : k < s.size) (h' : k < s.data.toList.length) : s.data.toList[k] = s[k] := by
  simp [ByteArray.getElem_eq_getElem_data]
theorem data_len (s : ByteArray) : s.data.toList.length = s.size := by simp
end Sc
end Go.Proofs.YtkpdddlonmkebaaDoor
namespace Go.Proofs.YtkpdddlonmkebaaDoor
open Go.RowKit

theorem Sc.lett_high (r : Nat) (h : 128 ≤ r) : Sc.lett (r : Int) = false := by simp [Sc.lett]; omega
theorem Sc.digi_high (r : Nat) (h : 128 ≤ r) : Sc.digi (r : Int) = false := by simp [Sc.digi]; omega
theorem Sc.lord_high (r : Nat) (h : 128 ≤ r) : Sc.lord (r : Int) = false := by simp [Sc.lord, Sc.lett_high r h, Sc.digi_high r h]
theorem Sc.notNl_high (r : Nat) (h : 128 ≤ r) : Sc.notNl (r : Int) = true := by simp [Sc.notNl]; omega

set_option maxHeartbeats 400000 in
theorem scan_lord_any (r : Int) (w : World) :
    Calls Tryd.prog 71 #[.int .i32 r] w fun e w' => e = .returned (.bool (Sc.lord r)) ∧ w = w' := by
  by_cases h : Sc.lett r = true
  · have hc := (scan_letter_any r w)
    rw [h] at hc
    have hl : Sc.lord r = true := by simp [Sc.lord, h]
    rw [hl]
    clear h hl
    go_enter Tryd.func71, Tryd.ntmps71
    go_wp2_with (go_at_call 52; refine hc.mono ?_; rintro e w' ⟨rfl, rfl⟩)
    go_ret
    exact ⟨rfl, rfl⟩
  · have h' : Sc.lett r = false := by simpa using h
    have hc := (scan_letter_any r w)
    rw [h'] at hc
    have hl : Sc.digi r = Sc.lord r := by simp [Sc.lord, h']
    have hd := scan_digit_any r w
    rw [hl] at hd
    clear h h' hl
    go_enter Tryd.func71, Tryd.ntmps71
    go_wp2_with (first | (go_at_call 52; refine hc.mono ?_; rintro e w' ⟨rfl, rfl⟩) | (go_at_call 54; refine hd.mono ?_; rintro e w' ⟨rfl, rfl⟩))
    go_ret
    exact ⟨rfl, rfl⟩

set_option maxHeartbeats 1000000 in
set_option maxRecDepth 100000 in
theorem span_letter (s : ByteArray) (w : World) :
    Calls Tryd.prog 50 #[.string s, .func (.func 52) #[] #[]] w fun e w' => e = .returned (.int .i64 (Sc.spanN Sc.lett s.data.toList)) ∧ ∃ pos, w' = w.iter s pos := by
  go_enter Tryd.func50, Tryd.ntmps50
  go_wp2

  go_loopw [5] (fun _ wr => ∃ pos : Nat, wr = w.iter s pos ∧ pos ≤ s.size ∧ pos ≤ Sc.spanN Sc.lett s.data.toList) (fun _ wr => s.size - wr.iterPos w.heap.size)
  case atStart => exact ⟨0, rfl, Nat.zero_le _, Nat.zero_le _⟩
  case round =>
    obtain ⟨pos, rfl, hps, hk⟩ := hrel
    by_cases hp : pos < s.size
    · have hl : pos < s.data.toList.length := by rw [Sc.data_len]; exact hp
      by_cases hb : 128 ≤ s[pos].toNat
      · have hd := decode_high s pos hp hb
        have hle := decode_le s pos
        have hnx : ∀ ty, (Instr.next (.pointer (some ⟨w.heap.size, 0, none⟩)) true ty).run Tryd.prog (w.iter s pos) = _ := fun ty => run_next_any w s pos ty hp
        have hq : Sc.lett (Utf8.decode s pos).1 = false := Sc.lett_high _ hd.1
        have hst : Sc.spanN Sc.lett s.data.toList = pos := Sc.spanN_eq Sc.lett _ pos hl hk (by rw [Sc.get_data s pos hp hl]; exact Sc.lett_high _ (by omega))
        have HS := Lib.hid hst
        clear hst
        have HQ := Lib.hid hq
        clear hq
        go_wp2_with (go_at_call 52; refine (scan_letter_any _ _).mono ?_; rintro e w' ⟨rfl, rfl⟩; rw [HQ.out])
        go_ret
        exact ⟨ret_i (by rw [HS.out]), _, rfl⟩
      · have hnx : ∀ ty, (Instr.next (.pointer (some ⟨w.heap.size, 0, none⟩)) true ty).run Tryd.prog (w.iter s pos) = _ := fun ty => run_next_ascii w s pos ty hp (by omega)
        have hb256 : s[pos].toNat < 256 := s[pos].toNat_lt
        by_cases hq : Sc.lett (s[pos].toNat : Int) = true
        · have hm : pos + 1 ≤ Sc.spanN Sc.lett s.data.toList := Sc.spanN_more Sc.lett _ pos hl hk (by rw [Sc.get_data s pos hp hl]; exact hq)
          have HQ := Lib.hid hq
          clear hq
          go_wp2_with (go_at_call 52; refine (scan_letter_any _ _).mono ?_; rintro e w' ⟨rfl, rfl⟩; rw [HQ.out])
          go_roundw
          case rel => exact ⟨_, rfl, by omega, hm⟩
          case measure => simp; omega
        · have hq' : Sc.lett (s[pos].toNat : Int) = false := by simpa using hq
          have hst : Sc.spanN Sc.lett s.data.toList = pos := Sc.spanN_eq Sc.lett _ pos hl hk (by rw [Sc.get_data s pos hp hl]; exact hq')
          have HS := Lib.hid hst
          clear hst
          have HQ := Lib.hid hq'
          clear hq' hq
          go_wp2_with (go_at_call 52; refine (scan_letter_any _ _).mono ?_; rintro e w' ⟨rfl, rfl⟩; rw [HQ.out])
          go_ret
          exact ⟨ret_i (by rw [HS.out]), _, rfl⟩
    · have hnx : ∀ ty, (Instr.next (.pointer (some ⟨w.heap.size, 0, none⟩)) true ty).run Tryd.prog (w.iter s pos) = _ := fun ty => run_next_end w s pos ty hp
      have hst : Sc.spanN Sc.lett s.data.toList = s.size := by
        have := Sc.spanN_le Sc.lett s.data.toList
        rw [Sc.data_len] at this
        omega
      have HS := Lib.hid hst
      clear hst
      go_wp2
      go_ret
      exact ⟨ret_i (by rw [HS.out]), _, rfl⟩

set_option maxHeartbeats 1000000 in
set_option maxRecDepth 100000 in
theorem span_digit (s : ByteArray) (w : World) :
    Calls Tryd.prog 50 #[.string s, .func (.func 54) #[] #[]] w fun e w' => e = .returned (.int .i64 (Sc.spanN Sc.digi s.data.toList)) ∧ ∃ pos, w' = w.iter s pos := by
  go_enter Tryd.func50, Tryd.ntmps50
  go_wp2

  go_loopw [5] (fun _ wr => ∃ pos : Nat, wr = w.iter s pos ∧ pos ≤ s.size ∧ pos ≤ Sc.spanN Sc.digi s.data.toList) (fun _ wr => s.size - wr.iterPos w.heap.size)
  case atStart => exact ⟨0, rfl, Nat.zero_le _, Nat.zero_le _⟩
  case round =>
    obtain ⟨pos, rfl, hps, hk⟩ := hrel
    by_cases hp : pos < s.size
    · have hl : pos < s.data.toList.length := by rw [Sc.data_len]; exact hp
      by_cases hb : 128 ≤ s[pos].toNat
      · have hd := decode_high s pos hp hb
        have hle := decode_le s pos
        have hnx : ∀ ty, (Instr.next (.pointer (some ⟨w.heap.size, 0, none⟩)) true ty).run Tryd.prog (w.iter s pos) = _ := fun ty => run_next_any w s pos ty hp
        have hq : Sc.digi (Utf8.decode s pos).1 = false := Sc.digi_high _ hd.1
        have hst : Sc.spanN Sc.digi s.data.toList = pos := Sc.spanN_eq Sc.digi _ pos hl hk (by rw [Sc.get_data s pos hp hl]; exact Sc.digi_high _ (by omega))
        have HS := Lib.hid hst
        clear hst
        have HQ := Lib.hid hq
        clear hq
        go_wp2_with (go_at_call 54; refine (scan_digit_any _ _).mono ?_; rintro e w' ⟨rfl, rfl⟩; rw [HQ.out])
        go_ret
        exact ⟨ret_i (by rw [HS.out]), _, rfl⟩
      · have hnx : ∀ ty, (Instr.next (.pointer (some ⟨w.heap.size, 0, none⟩)) true ty).run Tryd.prog (w.iter s pos) = _ := fun ty => run_next_ascii w s pos ty hp (by omega)
        have hb256 : s[pos].toNat < 256 := s[pos].toNat_lt
        by_cases hq : Sc.digi (s[pos].toNat : Int) = true
        · have hm : pos + 1 ≤ Sc.spanN Sc.digi s.data.toList := Sc.spanN_more Sc.digi _ pos hl hk (by rw [Sc.get_data s pos hp hl]; exact hq)
          have HQ := Lib.hid hq
          clear hq
          go_wp2_with (go_at_call 54; refine (scan_digit_any _ _).mono ?_; rintro e w' ⟨rfl, rfl⟩; rw [HQ.out])
          go_roundw
          case rel => exact ⟨_, rfl, by omega, hm⟩
          case measure => simp; omega
        · have hq' : Sc.digi (s[pos].toNat : Int) = false := by simpa using hq
          have hst : Sc.spanN Sc.digi s.data.toList = pos := Sc.spanN_eq Sc.digi _ pos hl hk (by rw [Sc.get_data s pos hp hl]; exact hq')
          have HS := Lib.hid hst
          clear hst
          have HQ := Lib.hid hq'
          clear hq' hq
          go_wp2_with (go_at_call 54; refine (scan_digit_any _ _).mono ?_; rintro e w' ⟨rfl, rfl⟩; rw [HQ.out])
          go_ret
          exact ⟨ret_i (by rw [HS.out]), _, rfl⟩
    · have hnx : ∀ ty, (Instr.next (.pointer (some ⟨w.heap.size, 0, none⟩)) true ty).run Tryd.prog (w.iter s pos) = _ := fun ty => run_next_end w s pos ty hp
      have hst : Sc.spanN Sc.digi s.data.toList = s.size := by
        have := Sc.spanN_le Sc.digi s.data.toList
        rw [Sc.data_len] at this
        omega
      have HS := Lib.hid hst
      clear hst
      go_wp2
      go_ret
      exact ⟨ret_i (by rw [HS.out]), _, rfl⟩

set_option maxHeartbeats 1000000 in
set_option maxRecDepth 100000 in
theorem span_lord (s : ByteArray) (w : World) :
    Calls Tryd.prog 50 #[.string s, .func (.func 71) #[] #[]] w fun e w' => e = .returned (.int .i64 (Sc.spanN Sc.lord s.data.toList)) ∧ ∃ pos, w' = w.iter s pos := by
  go_enter Tryd.func50, Tryd.ntmps50
  go_wp2

  go_loopw [5] (fun _ wr => ∃ pos : Nat, wr = w.iter s pos ∧ pos ≤ s.size ∧ pos ≤ Sc.spanN Sc.lord s.data.toList) (fun _ wr => s.size - wr.iterPos w.heap.size)
  case atStart => exact ⟨0, rfl, Nat.zero_le _, Nat.zero_le _⟩
  case round =>
    obtain ⟨pos, rfl, hps, hk⟩ := hrel
    by_cases hp : pos < s.size
    · have hl : pos < s.data.toList.length := by rw [Sc.data_len]; exact hp
      by_cases hb : 128 ≤ s[pos].toNat
      · have hd := decode_high s pos hp hb
        have hle := decode_le s pos
        have hnx : ∀ ty, (Instr.next (.pointer (some ⟨w.heap.size, 0, none⟩)) true ty).run Tryd.prog (w.iter s pos) = _ := fun ty => run_next_any w s pos ty hp
        have hq : Sc.lord (Utf8.decode s pos).1 = false := Sc.lord_high _ hd.1
        have hst : Sc.spanN Sc.lord s.data.toList = pos := Sc.spanN_eq Sc.lord _ pos hl hk (by rw [Sc.get_data s pos hp hl]; exact Sc.lord_high _ (by omega))
        have HS := Lib.hid hst
        clear hst
        have HQ := Lib.hid hq
        clear hq
        go_wp2_with (go_at_call 71; refine (scan_lord_any _ _).mono ?_; rintro e w' ⟨rfl, rfl⟩; rw [HQ.out])
        go_ret
        exact ⟨ret_i (by rw [HS.out]), _, rfl⟩
      · have hnx : ∀ ty, (Instr.next (.pointer (some ⟨w.heap.size, 0, none⟩)) true ty).run Tryd.prog (w.iter s pos) = _ := fun ty => run_next_ascii w s pos ty hp (by omega)
        have hb256 : s[pos].toNat < 256 := s[pos].toNat_lt
        by_cases hq : Sc.lord (s[pos].toNat : Int) = true
        · have hm : pos + 1 ≤ Sc.spanN Sc.lord s.data.toList := Sc.spanN_more Sc.lord _ pos hl hk (by rw [Sc.get_data s pos hp hl]; exact hq)
          have HQ := Lib.hid hq
          clear hq
          go_wp2_with (go_at_call 71; refine (scan_lord_any _ _).mono ?_; rintro e w' ⟨rfl, rfl⟩; rw [HQ.out])
          go_roundw
          case rel => exact ⟨_, rfl, by omega, hm⟩
          case measure => simp; omega
        · have hq' : Sc.lord (s[pos].toNat : Int) = false := by simpa using hq
          have hst : Sc.spanN Sc.lord s.data.toList = pos := Sc.spanN_eq Sc.lord _ pos hl hk (by rw [Sc.get_data s pos hp hl]; exact hq')
          have HS := Lib.hid hst
          clear hst
          have HQ := Lib.hid hq'
          clear hq' hq
          go_wp2_with (go_at_call 71; refine (scan_lord_any _ _).mono ?_; rintro e w' ⟨rfl, rfl⟩; rw [HQ.out])
          go_ret
          exact ⟨ret_i (by rw [HS.out]), _, rfl⟩
    · have hnx : ∀ ty, (Instr.next (.pointer (some ⟨w.heap.size, 0, none⟩)) true ty).run Tryd.prog (w.iter s pos) = _ := fun ty => run_next_end w s pos ty hp
      have hst : Sc.spanN Sc.lord s.data.toList = s.size := by
        have := Sc.spanN_le Sc.lord s.data.toList
        rw [Sc.data_len] at this
        omega
      have HS := Lib.hid hst
      clear hst
      go_wp2
      go_ret
      exact ⟨ret_i (by rw [HS.out]), _, rfl⟩

set_option maxHeartbeats 1000000 in
set_option maxRecDepth 100000 in
theorem span_notNl (s : ByteArray) (w : World) :
    Calls Tryd.prog 50 #[.string s, .func (.func 51) #[] #[]] w fun e w' => e = .returned (.int .i64 (Sc.spanN Sc.notNl s.data.toList)) ∧ ∃ pos, w' = w.iter s pos := by
  go_enter Tryd.func50, Tryd.ntmps50
  go_wp2

  go_loopw [5] (fun _ wr => ∃ pos : Nat, wr = w.iter s pos ∧ pos ≤ s.size ∧ pos ≤ Sc.spanN Sc.notNl s.data.toList) (fun _ wr => s.size - wr.iterPos w.heap.size)
  case atStart => exact ⟨0, rfl, Nat.zero_le _, Nat.zero_le _⟩
  case round =>
    obtain ⟨pos, rfl, hps, hk⟩ := hrel
    by_cases hp : pos < s.size
    · have hl : pos < s.data.toList.length := by rw [Sc.data_len]; exact hp
      by_cases hb : 128 ≤ s[pos].toNat
      · have hd := decode_high s pos hp hb
        have hle := decode_le s pos
        have hnx : ∀ ty, (Instr.next (.pointer (some ⟨w.heap.size, 0, none⟩)) true ty).run Tryd.prog (w.iter s pos) = _ := fun ty => run_next_any w s pos ty hp
        have hq : Sc.notNl (Utf8.decode s pos).1 = true := Sc.notNl_high _ hd.1
        have HQ := Lib.hid hq
        clear hq
        have hw := Sc.dec_wide s pos hp hb
        have hj : pos + (Utf8.decode s pos).2 ≤ Sc.spanN Sc.notNl s.data.toList := Sc.spanN_jump Sc.notNl _ pos hk _ (by rw [Sc.data_len]; exact hw.1) (fun j hj a b => by
          have hj' : j < s.size := by rw [← Sc.data_len]; exact hj
          rw [Sc.get_data s j hj' hj]; exact Sc.notNl_high _ (by have := hw.2 j hj' a b; omega))
        have hw1 := hw.1
        clear hw
        have hd2 := hd.2
        go_wp2_with (go_at_call 51; refine (scan_remark1_any _ _).mono ?_; rintro e w' ⟨rfl, rfl⟩; rw [HQ.out])
        go_roundw
        case rel => exact ⟨_, rfl, by omega, hj⟩
        case measure => simp; omega
      · have hnx : ∀ ty, (Instr.next (.pointer (some ⟨w.heap.size, 0, none⟩)) true ty).run Tryd.prog (w.iter s pos) = _ := fun ty => run_next_ascii w s pos ty hp (by omega)
        have hb256 : s[pos].toNat < 256 := s[pos].toNat_lt
        by_cases hq : Sc.notNl (s[pos].toNat : Int) = true
        · have hm : pos + 1 ≤ Sc.spanN Sc.notNl s.data.toList := Sc.spanN_more Sc.notNl _ pos hl hk (by rw [Sc.get_data s pos hp hl]; exact hq)
          have HQ := Lib.hid hq
          clear hq
          go_wp2_with (go_at_call 51; refine (scan_remark1_any _ _).mono ?_; rintro e w' ⟨rfl, rfl⟩; rw [HQ.out])
          go_roundw
          case rel => exact ⟨_, rfl, by omega, hm⟩
          case measure => simp; omega
        · have hq' : Sc.notNl (s[pos].toNat : Int) = false := by simpa using hq
          have hst : Sc.spanN Sc.notNl s.data.toList = pos := Sc.spanN_eq Sc.notNl _ pos hl hk (by rw [Sc.get_data s pos hp hl]; exact hq')
          have HS := Lib.hid hst
          clear hst
          have HQ := Lib.hid hq'
          clear hq' hq
          go_wp2_with (go_at_call 51; refine (scan_remark1_any _ _).mono ?_; rintro e w' ⟨rfl, rfl⟩; rw [HQ.out])
          go_ret
          exact ⟨ret_i (by rw [HS.out]), _, rfl⟩
    · have hnx : ∀ ty, (Instr.next (.pointer (some ⟨w.heap.size, 0, none⟩)) true ty).run Tryd.prog (w.iter s pos) = _ := fun ty => run_next_end w s pos ty hp
      have hst : Sc.spanN Sc.notNl s.data.toList = s.size := by
        have := Sc.spanN_le Sc.notNl s.data.toList
        rw [Sc.data_len] at this
        omega
      have HS := Lib.hid hst
      clear hst
      go_wp2
      go_ret
      exact ⟨ret_i (by rw [HS.out]), _, rfl⟩
end Go.Proofs.YtkpdddlonmkebaaDoor
namespace Go.Proofs.YtkpdddlonmkebaaDoor
open Go.RowKit

/-- what scan.name answers of n letters and digits t: kind, error -/
def Sc.nameKind (t : ByteArray) (n : Nat) : Int := if 64 < n then 1 else if Sc.isKey t then 3 else 1
def Sc.nameErr (n : Nat) : Int := if 64 < n then 3 else 0

theorem ret_we {T : Nat} {k k' e e' : Int} {t : ByteArray} (hk : k = k') (he : e = e') :
    (Value.tuple #[.agg #[.int .i8 k, .string t, .int .i64 0, .int .i64 T], .int .i64 e]) = .tuple #[.agg #[.int .i8 k', .string t, .int .i64 0, .int .i64 T], .int .i64 e'] := by rw [hk, he]

theorem below_iter {w w1 : World} {o : Obj} {s : ByteArray} {pos : Nat} (hb : Below ((w.alloc o).iter s pos).heap.size ((w.alloc o).iter s pos) w1) : Below w.heap.size w w1 :=
  (((Below.refl _ _).alloc (Nat.le_refl _) _).alloc (by simp) _).trans (hb.mono (by simp [World.iter]; omega))

set_option maxHeartbeats 400000 in
theorem name_any (s : ByteArray) (hs : s.size ≤ 281474976710656) (w : World) :
    Calls Tryd.prog 53 #[.string s] w fun e w' => e = .returned (.tuple #[.agg #[.int .i8 (Sc.nameKind (s.extract 0 (Sc.spanN Sc.lord s.data.toList)) (Sc.spanN Sc.lord s.data.toList)), .string (s.extract 0 (Sc.spanN Sc.lord s.data.toList)), .int .i64 0, .int .i64 0], .int .i64 (Sc.nameErr (Sc.spanN Sc.lord s.data.toList))]) ∧ Below w.heap.size w w' := by
  have hle := Sc.spanN_le Sc.lord s.data.toList
  rw [Sc.data_len] at hle
  generalize hn : Sc.spanN Sc.lord s.data.toList = n at *
  have hx : (s.extract 0 n).size = n := by simp; omega
  have HX := Lib.hid hx
  clear hx
  have hsp := span_lord s
  rw [hn] at hsp
  clear hn
  by_cases h64 : 64 < n
  · have hk : Sc.nameKind (s.extract 0 n) n = 1 := by unfold Sc.nameKind; rw [if_pos h64]
    have he : Sc.nameErr n = 3 := by unfold Sc.nameErr; rw [if_pos h64]
    rw [hk, he]
    clear hk he
    go_enter Tryd.func53, Tryd.ntmps53
    go_wp2_with (first | (go_at_call 50; refine (hsp _).mono ?_; rintro e w' ⟨rfl, pos, rfl⟩) | (go_at_call 58; refine (word_any 1 _ (by rw [HX.out]; omega) _).mono ?_; rintro e w' ⟨rfl, hb⟩; obtain ⟨q0, q1, q2, q3, f0, f1, f2, f3, hz⟩ := own4 (heap_below hb (by simp [World.iter]; omega) (heap_old (heap_new w _) _)); have hbw := below_iter hb))
    refine bodyPost_ret (v := .tuple #[.agg #[.int .i8 1, .string (s.extract 0 n), .int .i64 0, .int .i64 0], .int .i64 3]) (by simp [results, Tryd.results53, go_sem, *]) rfl ⟨rfl, ?_⟩
    exact (below_set4 hbw (Nat.le_refl _) _ _ _ _).alloc (by simp; omega) _
  · have he : Sc.nameErr n = 0 := by unfold Sc.nameErr; rw [if_neg h64]
    cases hkey : Sc.isKey (s.extract 0 n)
    · have hk : Sc.nameKind (s.extract 0 n) n = 1 := by unfold Sc.nameKind; rw [if_neg h64, hkey]; rfl
      rw [hk, he]
      clear hk he
      have hkk := scan_Key_any (s.extract 0 n)
      rw [hkey] at hkk
      clear hkey
      go_enter Tryd.func53, Tryd.ntmps53
      go_wp2_with (first | (go_at_call 50; refine (hsp _).mono ?_; rintro e w' ⟨rfl, pos, rfl⟩) | (go_at_call 58; refine (word_any 1 _ (by rw [HX.out]; omega) _).mono ?_; rintro e w' ⟨rfl, hb⟩; obtain ⟨q0, q1, q2, q3, f0, f1, f2, f3, hz⟩ := own4 (heap_below hb (by simp [World.iter]; omega) (heap_old (heap_new w _) _)); have hbw := below_iter hb) | (go_at_call 72; refine (hkk _).mono ?_; rintro e w' ⟨rfl, rfl⟩))
      refine bodyPost_ret (v := .tuple #[.agg #[.int .i8 1, .string (s.extract 0 n), .int .i64 0, .int .i64 0], .int .i64 0]) (by simp [results, Tryd.results53, go_sem, *]) rfl ⟨rfl, ?_⟩
      exact (below_set4 hbw (Nat.le_refl _) _ _ _ _).alloc (by simp; omega) _
    · have hk : Sc.nameKind (s.extract 0 n) n = 3 := by unfold Sc.nameKind; rw [if_neg h64, hkey]; rfl
      rw [hk, he]
      clear hk he
      have hkk := scan_Key_any (s.extract 0 n)
      rw [hkey] at hkk
      clear hkey
      go_enter Tryd.func53, Tryd.ntmps53
      go_wp2_with (first | (go_at_call 50; refine (hsp _).mono ?_; rintro e w' ⟨rfl, pos, rfl⟩) | (go_at_call 58; refine (word_any 1 _ (by rw [HX.out]; omega) _).mono ?_; rintro e w' ⟨rfl, hb⟩; obtain ⟨q0, q1, q2, q3, f0, f1, f2, f3, hz⟩ := own4 (heap_below hb (by simp [World.iter]; omega) (heap_old (heap_new w _) _)); have hbw := below_iter hb) | (go_at_call 72; refine (hkk _).mono ?_; rintro e w' ⟨rfl, rfl⟩))
      refine bodyPost_ret (v := .tuple #[.agg #[.int .i8 3, .string (s.extract 0 n), .int .i64 0, .int .i64 0], .int .i64 0]) (by simp [results, Tryd.results53, go_sem, *]) rfl ⟨rfl, ?_⟩
      exact (below_set4 hbw (Nat.le_refl _) _ _ _ _).alloc (by simp; omega) _
end Go.Proofs.YtkpdddlonmkebaaDoor
namespace Go.Proofs.YtkpdddlonmkebaaDoor
namespace Sc
/-- what digits are, behind what is read already -/
def numFrom (acc : Nat) (l : List UInt8) : Nat := l.foldl (fun a c => a * 10 + (c.toNat - 48)) acc
def allDigi (l : List UInt8) : Prop := ∀ c ∈ l, 48 ≤ c.toNat ∧ c.toNat ≤ 57

theorem numFrom_le (l : List UInt8) : ∀ acc, acc ≤ numFrom acc l := by
  induction l with
  | nil => intro acc; exact Nat.le_refl _
  | cons c l ih => intro acc; have := ih (acc * 10 + (c.toNat - 48)); unfold numFrom at this ⊢; rw [List.foldl_cons]; omega

theorem numFrom_cons (c : UInt8) (l : List UInt8) (acc : Nat) : numFrom acc (c :: l) = numFrom (acc * 10 + (c.toNat - 48)) l := by unfold numFrom; rw [List.foldl_cons]

theorem parseM (M : Nat) (hM : M < 18446744073709551620) : ∀ (l : List UInt8) (acc : Nat), allDigi l → acc ≤ M → Lib.parseUintM M acc l = if numFrom acc l ≤ M then .ok (numFrom acc l) else .range := by
  intro l
  induction l with
  | nil => intro acc _ ha; rw [if_pos (show numFrom acc [] ≤ M from ha)]; rfl
  | cons c l ih =>
    intro acc h _
    have hc := h c (by simp)
    have hl : allDigi l := fun x hx => h x (by simp [hx])
    have hmono := numFrom_le l (acc * 10 + (c.toNat - 48))
    rw [numFrom_cons, Lib.parseUintM, if_pos hc]
    have hge : acc * 10 ≤ acc * 10 + (c.toNat - 48) := Nat.le_add_right _ _
    generalize acc * 10 + (c.toNat - 48) = acc2 at hmono hge ⊢
    by_cases h1 : 1844674407370955162 ≤ acc
    · have e : ¬ numFrom acc2 l ≤ M := by omega
      rw [if_pos h1, if_neg e]
    · rw [if_neg h1]
      by_cases h2 : M < acc2
      · have e : ¬ numFrom acc2 l ≤ M := by omega
        rw [if_pos h2, if_neg e]
      · rw [if_neg h2, ih acc2 hl (by omega)]

theorem parse64 (l : List UInt8) (hne : l ≠ []) (h : allDigi l) : Lib.parseIntB 64 l = if numFrom 0 l < 9223372036854775808 then .ok (numFrom 0 l : Int) else .range := by
  cases l with
  | nil => exact absurd rfl hne
  | cons c l =>
    have hc := h c (by simp)
    have h45 : ¬ c.toNat = 45 := by omega
    have h43 : ¬ (c.toNat = 43 ∨ c.toNat = 45) := by omega
    simp only [Lib.parseIntB, if_neg h43, Lib.parseUintB]
    rw [parseM _ (by decide) _ _ h (by decide)]
    by_cases hm : numFrom 0 (c :: l) ≤ 2 ^ 64 - 1
    · simp only [hm, if_true]
      by_cases h2 : numFrom 0 (c :: l) < 9223372036854775808
      · simp [h2, h45]
      · simp [h2, h45]
    · have hm' : ¬ numFrom 0 (c :: l) < 9223372036854775808 := by omega
      simp [hm, hm']

theorem allDigi_take (l : List UInt8) : allDigi (l.take (spanN digi l)) := by
  intro c hc
  obtain ⟨i, hi, rfl⟩ := List.mem_iff_getElem.1 hc
  have h1 : i < spanN digi l := by simp at hi; omega
  have h2 : i < l.length := by simp at hi; omega
  have := spanN_get digi l i h2 h1
  simp [digi] at this
  simp
  omega
end Sc
end Go.Proofs.YtkpdddlonmkebaaDoor
namespace Go.Proofs.YtkpdddlonmkebaaDoor
open Go.RowKit

def Sc.numBad (s : ByteArray) (n : Nat) : Bool := (decide (1 < n) && decide (s.data.toList.head? = some 48)) || decide (0 < Sc.spanN Sc.lett (s.data.toList.drop n))
def Sc.numVal (s : ByteArray) (n : Nat) : Nat := Sc.numFrom 0 (s.data.toList.take n)
def Sc.numErr (s : ByteArray) (n : Nat) : Int := if 9223372036854775808 ≤ Sc.numVal s n then 3 else if Sc.numBad s n then 10 else 0
def Sc.numNum (s : ByteArray) (n : Nat) : Int := if Sc.numErr s n = 0 then Sc.numVal s n else 0

theorem below_iterN {w w1 : World} {o : Obj} {s : ByteArray} {pos nq : Nat} (hb : Below (((w.alloc o).iter s pos).drewN nq).heap.size (((w.alloc o).iter s pos).drewN nq) w1) : Below w.heap.size w w1 := by
  have h0 : Below w.heap.size w (((w.alloc o).iter s pos).drewN nq) := by
    have := (((Below.refl w.heap.size w).alloc (Nat.le_refl _) o).alloc (by simp) (.stringIter s pos))
    exact ⟨this.os, this.tape, this.output, this.size, this.block⟩
  exact h0.trans (hb.mono h0.size)

theorem var_at {P : Program} {W W' : World} {n : String} {cs : Array Value} (h : Below W.heap.size W W') (hv : W.var? P n = some cs) : W'.var? P n = some cs := by
  cases hg : P.globalNamed n with
  | none => unfold World.var? at hv; rw [hg] at hv; cases hv
  | some g =>
    refine var?_below h hg ?_ hv
    rcases Nat.lt_or_ge g W.heap.size with h1 | h1
    · exact h1
    · exfalso
      unfold World.var? at hv
      rw [hg] at hv
      simp [Array.getElem?_eq_none h1] at hv

theorem parse_ok (s : ByteArray) (hs : s.size ≤ 281474976710656) (v : Int) (h : Lib.parseIntB 64 s.data.toList = .ok v) (w : World) :
    Calls Tryd.prog 73 #[.string s, .int .i64 10, .int .i64 64] w fun e w' => e = .returned (.tuple #[.int .i64 v, .nilIface]) ∧ Below w.heap.size w w' := by
  refine (Tryd.strconv_ParseInt_10_at64_ok s (by omega) v h w).mono fun e w' => ?_
  rintro ⟨rfl, rfl | ⟨t, rfl⟩⟩
  · exact ⟨rfl, Below.refl _ _⟩
  · exact ⟨rfl, Lib.bytesWorld_below _ _ _⟩

set_option maxHeartbeats 1000000 in
theorem number_err (s : ByteArray) (hs : s.size ≤ 281474976710656) (n : Nat) (hle : n ≤ s.size) (h1 : 1 ≤ n)
    (hsp : ∀ w : World, Calls Tryd.prog 50 #[.string s, .func (.func 54) #[] #[]] w fun e w' => e = .returned (.int .i64 n) ∧ ∃ pos, w' = w.iter s pos)
    (hr : Lib.parseIntB 64 (s.extract 0 n).data.toList = .range) (w : World) (tp : TypeId) (p : Value) (hvar : w.var? Tryd.prog "strconv.ErrRange" = some #[.iface tp p]) :
    Calls Tryd.prog 55 #[.string s] w fun e w' => e = .returned (.tuple #[.agg #[.int .i8 2, .string (s.extract 0 n), .int .i64 0, .int .i64 0], .int .i64 3]) ∧ Below w.heap.size w w' := by
  have hx : (s.extract 0 n).size = n := by simp; omega
  have HX := Lib.hid hx
  clear hx
  have i1 : (n : Int) ≤ s.size := by omega
  have i2 : (0 : Int) ≤ n := by omega
  have HV := Lib.hid hvar
  clear hvar
  go_enter Tryd.func55, Tryd.ntmps55
  go_wp2_with (go_at_call 50; refine (hsp _).mono ?_; rintro e w' ⟨rfl, pos, rfl⟩)
  go_quiet (fail)
  go_wp2_with (first | (go_at_call 58; refine (word_any 2 _ (by rw [HX.out]; omega) _).mono ?_; rintro e w1 ⟨rfl, hb⟩; have H1 := Lib.hid (heap_below hb (by simp [World.iter]; omega) (heap_old (heap_new w _) _)); obtain ⟨q0, q1, q2, q3, f0, f1, f2, f3, hz⟩ := own4 H1.out; have hbw := below_iterN hb) | (go_at_call 73; refine (Tryd.strconv_ParseInt_10_at64_range_var _ (by rw [HX.out]; omega) hr tp p _ (var_at (hbw.alloc hbw.size _) HV.out)).mono ?_; rintro e w2 ⟨N, rfl, _, _, hb2⟩; have hbw2 := (hbw.alloc hbw.size _).trans (hb2.mono (by have := hbw.size; simp; omega)); have H2 := Lib.hid (heap_below hb2 (by simp; omega) (heap_old H1.out _)); have H3 := Lib.hid (heap_below hb2 (by simp) (heap_new w1 _)); obtain ⟨q0, q1, q2, q3, f0, f1, f2, f3, hz⟩ := own4 H2.out; obtain ⟨p0, p1, p2, p3, g0, g1, g2, g3, hy⟩ := own4 H3.out))
  refine bodyPost_ret (v := .tuple #[.agg #[.int .i8 2, .string (s.extract 0 n), .int .i64 0, .int .i64 0], .int .i64 3]) (by simp [results, Tryd.results55, go_sem, *]) rfl ⟨rfl, ?_⟩
  exact (below_set4 hbw2 (Nat.le_refl _) _ _ _ _)

set_option maxHeartbeats 1000000 in
theorem number_zero (s : ByteArray) (hs : s.size ≤ 281474976710656) (n : Nat) (hle : n ≤ s.size) (h1 : 1 ≤ n)
    (hsp : ∀ w : World, Calls Tryd.prog 50 #[.string s, .func (.func 54) #[] #[]] w fun e w' => e = .returned (.int .i64 n) ∧ ∃ pos, w' = w.iter s pos)
    (v : Int) (hr : Lib.parseIntB 64 (s.extract 0 n).data.toList = .ok v) (hx0 : 0 < (s.extract 0 n).size) (hn2 : 1 < n) (hd : ((((s.extract 0 n)[0]'hx0).toNat : Int) == 48) = true) (w : World) (tp : TypeId) (p : Value) (hvar : w.var? Tryd.prog "strconv.ErrRange" = some #[.iface tp p]) :
    Calls Tryd.prog 55 #[.string s] w fun e w' => e = .returned (.tuple #[.agg #[.int .i8 2, .string (s.extract 0 n), .int .i64 0, .int .i64 0], .int .i64 10]) ∧ Below w.heap.size w w' := by
  have hx : (s.extract 0 n).size = n := by simp; omega
  have HX := Lib.hid hx
  clear hx
  have i1 : (n : Int) ≤ s.size := by omega
  have i2 : (0 : Int) ≤ n := by omega
  have HV := Lib.hid hvar
  clear hvar
  go_enter Tryd.func55, Tryd.ntmps55
  go_wp2_with (go_at_call 50; refine (hsp _).mono ?_; rintro e w' ⟨rfl, pos, rfl⟩)
  go_quiet (fail)
  go_wp2_with (first | (go_at_call 58; refine (word_any 2 _ (by rw [HX.out]; omega) _).mono ?_; rintro e w1 ⟨rfl, hb⟩; have H1 := Lib.hid (heap_below hb (by simp [World.iter]; omega) (heap_old (heap_new w _) _)); obtain ⟨q0, q1, q2, q3, f0, f1, f2, f3, hz⟩ := own4 H1.out; have hbw := below_iterN hb) | (go_at_call 73; refine (parse_ok _ (by rw [HX.out]; omega) v hr _).mono ?_; rintro e w2 ⟨rfl, hb2⟩; have hbw2 := (hbw.alloc hbw.size _).trans (hb2.mono (by have := hbw.size; simp; omega)); have H2 := Lib.hid (heap_below hb2 (by simp; omega) (heap_old H1.out _)); have H3 := Lib.hid (heap_below hb2 (by simp) (heap_new w1 _)); obtain ⟨q0, q1, q2, q3, f0, f1, f2, f3, hz⟩ := own4 H2.out; obtain ⟨p0, p1, p2, p3, g0, g1, g2, g3, hy⟩ := own4 H3.out))
  clear hd
  refine bodyPost_ret (v := .tuple #[.agg #[.int .i8 2, .string (s.extract 0 n), .int .i64 0, .int .i64 0], .int .i64 10]) (by simp [results, Tryd.results55, go_sem, *]) rfl ⟨rfl, ?_⟩
  exact (below_set4 hbw2 (Nat.le_refl _) _ _ _ _)

set_option maxHeartbeats 1000000 in
theorem number_letter1 (s : ByteArray) (_hs : s.size ≤ 281474976710656) (n : Nat) (hle : n ≤ s.size) (h1 : 1 ≤ n)
    (hsp : ∀ w : World, Calls Tryd.prog 50 #[.string s, .func (.func 54) #[] #[]] w fun e w' => e = .returned (.int .i64 n) ∧ ∃ pos, w' = w.iter s pos)
    (v : Int) (hr : Lib.parseIntB 64 (s.extract 0 n).data.toList = .ok v) (m : Nat) (hm : 0 < m)
    (hsl : ∀ w : World, Calls Tryd.prog 50 #[.string (s.extract n s.size), .func (.func 52) #[] #[]] w fun e w' => e = .returned (.int .i64 m) ∧ Below w.heap.size w w') (hn2 : ¬ 1 < n) (w : World) (tp : TypeId) (p : Value) (hvar : w.var? Tryd.prog "strconv.ErrRange" = some #[.iface tp p]) :
    Calls Tryd.prog 55 #[.string s] w fun e w' => e = .returned (.tuple #[.agg #[.int .i8 2, .string (s.extract 0 n), .int .i64 0, .int .i64 0], .int .i64 10]) ∧ Below w.heap.size w w' := by
  have hx : (s.extract 0 n).size = n := by simp; omega
  have HX := Lib.hid hx
  clear hx
  have i1 : (n : Int) ≤ s.size := by omega
  have i2 : (0 : Int) ≤ n := by omega
  have HV := Lib.hid hvar
  clear hvar
  go_enter Tryd.func55, Tryd.ntmps55
  go_wp2_with (go_at_call 50; refine (hsp _).mono ?_; rintro e w' ⟨rfl, pos, rfl⟩)
  go_quiet (fail)
  go_wp2_with (first | (go_at_call 58; refine (word_any 2 _ (by rw [HX.out]; omega) _).mono ?_; rintro e w1 ⟨rfl, hb⟩; have H1 := Lib.hid (heap_below hb (by simp [World.iter]; omega) (heap_old (heap_new w _) _)); obtain ⟨q0, q1, q2, q3, f0, f1, f2, f3, hz⟩ := own4 H1.out; have hbw := below_iterN hb) | (go_at_call 73; refine (parse_ok _ (by rw [HX.out]; omega) v hr _).mono ?_; rintro e w2 ⟨rfl, hb2⟩; have hbw2 := (hbw.alloc hbw.size _).trans (hb2.mono (by have := hbw.size; simp; omega)); have H2 := Lib.hid (heap_below hb2 (by simp; omega) (heap_old H1.out _)); have H3 := Lib.hid (heap_below hb2 (by simp) (heap_new w1 _)); obtain ⟨q0, q1, q2, q3, f0, f1, f2, f3, hz⟩ := own4 H2.out; obtain ⟨p0, p1, p2, p3, g0, g1, g2, g3, hy⟩ := own4 H3.out) | (go_at_call 50; refine (hsl _).mono ?_; rintro e w3 ⟨rfl, hb3⟩; have hbw3 := hbw2.trans (hb3.mono hbw2.size); obtain ⟨q0, q1, q2, q3, f0, f1, f2, f3, hz⟩ := own4 (heap_below hb3 hz H2.out); obtain ⟨p0, p1, p2, p3, g0, g1, g2, g3, hy⟩ := own4 (heap_below hb3 hy H3.out)))
  refine bodyPost_ret (v := .tuple #[.agg #[.int .i8 2, .string (s.extract 0 n), .int .i64 0, .int .i64 0], .int .i64 10]) (by simp [results, Tryd.results55, go_sem, *]) rfl ⟨rfl, ?_⟩
  exact (below_set4 hbw3 (Nat.le_refl _) _ _ _ _)

set_option maxHeartbeats 1000000 in
theorem number_letter2 (s : ByteArray) (hs : s.size ≤ 281474976710656) (n : Nat) (hle : n ≤ s.size) (h1 : 1 ≤ n)
    (hsp : ∀ w : World, Calls Tryd.prog 50 #[.string s, .func (.func 54) #[] #[]] w fun e w' => e = .returned (.int .i64 n) ∧ ∃ pos, w' = w.iter s pos)
    (v : Int) (hr : Lib.parseIntB 64 (s.extract 0 n).data.toList = .ok v) (m : Nat) (hm : 0 < m)
    (hsl : ∀ w : World, Calls Tryd.prog 50 #[.string (s.extract n s.size), .func (.func 52) #[] #[]] w fun e w' => e = .returned (.int .i64 m) ∧ Below w.heap.size w w') (hx0 : 0 < (s.extract 0 n).size) (hn2 : 1 < n) (hd : ((((s.extract 0 n)[0]'hx0).toNat : Int) == 48) = false) (w : World) (tp : TypeId) (p : Value) (hvar : w.var? Tryd.prog "strconv.ErrRange" = some #[.iface tp p]) :
    Calls Tryd.prog 55 #[.string s] w fun e w' => e = .returned (.tuple #[.agg #[.int .i8 2, .string (s.extract 0 n), .int .i64 0, .int .i64 0], .int .i64 10]) ∧ Below w.heap.size w w' := by
  have hx : (s.extract 0 n).size = n := by simp; omega
  have HX := Lib.hid hx
  clear hx
  have i1 : (n : Int) ≤ s.size := by omega
  have i2 : (0 : Int) ≤ n := by omega
  have HV := Lib.hid hvar
  clear hvar
  go_enter Tryd.func55, Tryd.ntmps55
  go_wp2_with (go_at_call 50; refine (hsp _).mono ?_; rintro e w' ⟨rfl, pos, rfl⟩)
  go_quiet (fail)
  go_wp2_with (first | (go_at_call 58; refine (word_any 2 _ (by rw [HX.out]; omega) _).mono ?_; rintro e w1 ⟨rfl, hb⟩; have H1 := Lib.hid (heap_below hb (by simp [World.iter]; omega) (heap_old (heap_new w _) _)); obtain ⟨q0, q1, q2, q3, f0, f1, f2, f3, hz⟩ := own4 H1.out; have hbw := below_iterN hb) | (go_at_call 73; refine (parse_ok _ (by rw [HX.out]; omega) v hr _).mono ?_; rintro e w2 ⟨rfl, hb2⟩; have hbw2 := (hbw.alloc hbw.size _).trans (hb2.mono (by have := hbw.size; simp; omega)); have H2 := Lib.hid (heap_below hb2 (by simp; omega) (heap_old H1.out _)); have H3 := Lib.hid (heap_below hb2 (by simp) (heap_new w1 _)); obtain ⟨q0, q1, q2, q3, f0, f1, f2, f3, hz⟩ := own4 H2.out; obtain ⟨p0, p1, p2, p3, g0, g1, g2, g3, hy⟩ := own4 H3.out) | (go_at_call 50; refine (hsl _).mono ?_; rintro e w3 ⟨rfl, hb3⟩; have hbw3 := hbw2.trans (hb3.mono hbw2.size); obtain ⟨q0, q1, q2, q3, f0, f1, f2, f3, hz⟩ := own4 (heap_below hb3 hz H2.out); obtain ⟨p0, p1, p2, p3, g0, g1, g2, g3, hy⟩ := own4 (heap_below hb3 hy H3.out)))
  clear hd
  refine bodyPost_ret (v := .tuple #[.agg #[.int .i8 2, .string (s.extract 0 n), .int .i64 0, .int .i64 0], .int .i64 10]) (by simp [results, Tryd.results55, go_sem, *]) rfl ⟨rfl, ?_⟩
  exact (below_set4 hbw3 (Nat.le_refl _) _ _ _ _)

set_option maxHeartbeats 1000000 in
theorem number_ok1 (s : ByteArray) (_hs : s.size ≤ 281474976710656) (n : Nat) (hle : n ≤ s.size) (h1 : 1 ≤ n)
    (hsp : ∀ w : World, Calls Tryd.prog 50 #[.string s, .func (.func 54) #[] #[]] w fun e w' => e = .returned (.int .i64 n) ∧ ∃ pos, w' = w.iter s pos)
    (v : Int) (hr : Lib.parseIntB 64 (s.extract 0 n).data.toList = .ok v)
    (hsl : ∀ w : World, Calls Tryd.prog 50 #[.string (s.extract n s.size), .func (.func 52) #[] #[]] w fun e w' => e = .returned (.int .i64 0) ∧ Below w.heap.size w w') (hn2 : ¬ 1 < n) (w : World) (tp : TypeId) (p : Value) (hvar : w.var? Tryd.prog "strconv.ErrRange" = some #[.iface tp p]) :
    Calls Tryd.prog 55 #[.string s] w fun e w' => e = .returned (.tuple #[.agg #[.int .i8 2, .string (s.extract 0 n), .int .i64 v, .int .i64 0], .int .i64 0]) ∧ Below w.heap.size w w' := by
  have hx : (s.extract 0 n).size = n := by simp; omega
  have HX := Lib.hid hx
  clear hx
  have i1 : (n : Int) ≤ s.size := by omega
  have i2 : (0 : Int) ≤ n := by omega
  have HV := Lib.hid hvar
  clear hvar
  go_enter Tryd.func55, Tryd.ntmps55
  go_wp2_with (go_at_call 50; refine (hsp _).mono ?_; rintro e w' ⟨rfl, pos, rfl⟩)
  go_quiet (fail)
  go_wp2_with (first | (go_at_call 58; refine (word_any 2 _ (by rw [HX.out]; omega) _).mono ?_; rintro e w1 ⟨rfl, hb⟩; have H1 := Lib.hid (heap_below hb (by simp [World.iter]; omega) (heap_old (heap_new w _) _)); obtain ⟨q0, q1, q2, q3, f0, f1, f2, f3, hz⟩ := own4 H1.out; have hbw := below_iterN hb) | (go_at_call 73; refine (parse_ok _ (by rw [HX.out]; omega) v hr _).mono ?_; rintro e w2 ⟨rfl, hb2⟩; have hbw2 := (hbw.alloc hbw.size _).trans (hb2.mono (by have := hbw.size; simp; omega)); have H2 := Lib.hid (heap_below hb2 (by simp; omega) (heap_old H1.out _)); have H3 := Lib.hid (heap_below hb2 (by simp) (heap_new w1 _)); obtain ⟨q0, q1, q2, q3, f0, f1, f2, f3, hz⟩ := own4 H2.out; obtain ⟨p0, p1, p2, p3, g0, g1, g2, g3, hy⟩ := own4 H3.out) | (go_at_call 50; refine (hsl _).mono ?_; rintro e w3 ⟨rfl, hb3⟩; have hbw3 := hbw2.trans (hb3.mono hbw2.size); obtain ⟨q0, q1, q2, q3, f0, f1, f2, f3, hz⟩ := own4 (heap_below hb3 hz H2.out); obtain ⟨p0, p1, p2, p3, g0, g1, g2, g3, hy⟩ := own4 (heap_below hb3 hy H3.out)))
  refine bodyPost_ret (v := .tuple #[.agg #[.int .i8 2, .string (s.extract 0 n), .int .i64 v, .int .i64 0], .int .i64 0]) (by simp [results, Tryd.results55, go_sem, *]) rfl ⟨rfl, ?_⟩
  exact (below_set4 (hbw3.setCell hbw.size _) (Nat.le_refl _) _ _ _ _)

set_option maxHeartbeats 1000000 in
theorem number_ok2 (s : ByteArray) (hs : s.size ≤ 281474976710656) (n : Nat) (hle : n ≤ s.size) (h1 : 1 ≤ n)
    (hsp : ∀ w : World, Calls Tryd.prog 50 #[.string s, .func (.func 54) #[] #[]] w fun e w' => e = .returned (.int .i64 n) ∧ ∃ pos, w' = w.iter s pos)
    (v : Int) (hr : Lib.parseIntB 64 (s.extract 0 n).data.toList = .ok v)
    (hsl : ∀ w : World, Calls Tryd.prog 50 #[.string (s.extract n s.size), .func (.func 52) #[] #[]] w fun e w' => e = .returned (.int .i64 0) ∧ Below w.heap.size w w') (hx0 : 0 < (s.extract 0 n).size) (hn2 : 1 < n) (hd : ((((s.extract 0 n)[0]'hx0).toNat : Int) == 48) = false) (w : World) (tp : TypeId) (p : Value) (hvar : w.var? Tryd.prog "strconv.ErrRange" = some #[.iface tp p]) :
    Calls Tryd.prog 55 #[.string s] w fun e w' => e = .returned (.tuple #[.agg #[.int .i8 2, .string (s.extract 0 n), .int .i64 v, .int .i64 0], .int .i64 0]) ∧ Below w.heap.size w w' := by
  have hx : (s.extract 0 n).size = n := by simp; omega
  have HX := Lib.hid hx
  clear hx
  have i1 : (n : Int) ≤ s.size := by omega
  have i2 : (0 : Int) ≤ n := by omega
  have HV := Lib.hid hvar
  clear hvar
  go_enter Tryd.func55, Tryd.ntmps55
  go_wp2_with (go_at_call 50; refine (hsp _).mono ?_; rintro e w' ⟨rfl, pos, rfl⟩)
  go_quiet (fail)
  go_wp2_with (first | (go_at_call 58; refine (word_any 2 _ (by rw [HX.out]; omega) _).mono ?_; rintro e w1 ⟨rfl, hb⟩; have H1 := Lib.hid (heap_below hb (by simp [World.iter]; omega) (heap_old (heap_new w _) _)); obtain ⟨q0, q1, q2, q3, f0, f1, f2, f3, hz⟩ := own4 H1.out; have hbw := below_iterN hb) | (go_at_call 73; refine (parse_ok _ (by rw [HX.out]; omega) v hr _).mono ?_; rintro e w2 ⟨rfl, hb2⟩; have hbw2 := (hbw.alloc hbw.size _).trans (hb2.mono (by have := hbw.size; simp; omega)); have H2 := Lib.hid (heap_below hb2 (by simp; omega) (heap_old H1.out _)); have H3 := Lib.hid (heap_below hb2 (by simp) (heap_new w1 _)); obtain ⟨q0, q1, q2, q3, f0, f1, f2, f3, hz⟩ := own4 H2.out; obtain ⟨p0, p1, p2, p3, g0, g1, g2, g3, hy⟩ := own4 H3.out) | (go_at_call 50; refine (hsl _).mono ?_; rintro e w3 ⟨rfl, hb3⟩; have hbw3 := hbw2.trans (hb3.mono hbw2.size); obtain ⟨q0, q1, q2, q3, f0, f1, f2, f3, hz⟩ := own4 (heap_below hb3 hz H2.out); obtain ⟨p0, p1, p2, p3, g0, g1, g2, g3, hy⟩ := own4 (heap_below hb3 hy H3.out)))
  clear hd
  refine bodyPost_ret (v := .tuple #[.agg #[.int .i8 2, .string (s.extract 0 n), .int .i64 v, .int .i64 0], .int .i64 0]) (by simp [results, Tryd.results55, go_sem, *]) rfl ⟨rfl, ?_⟩
  exact (below_set4 (hbw3.setCell hbw.size _) (Nat.le_refl _) _ _ _ _)

theorem Sc.extract_head (s : ByteArray) (n : Nat) (h : 1 ≤ n) (hle : n ≤ s.size) (hx0 : 0 < (s.extract 0 n).size) : s.data.toList.head? = some ((s.extract 0 n)[0]'hx0) := by
  have h0 : 0 < s.size := by omega
  have e : (s.extract 0 n)[0]'hx0 = s[0]'h0 := by rw [ByteArray.getElem_extract]
  rw [e, ← Sc.get_data s 0 h0 (by rw [Sc.data_len]; exact h0)]
  rw [List.head?_eq_getElem?, List.getElem?_eq_getElem]

theorem number_any (s : ByteArray) (hs : s.size ≤ 281474976710656) (h1 : 1 ≤ Sc.spanN Sc.digi s.data.toList) (w : World) (tp : TypeId) (p : Value) (hvar : w.var? Tryd.prog "strconv.ErrRange" = some #[.iface tp p]) :
    Calls Tryd.prog 55 #[.string s] w fun e w' => e = .returned (.tuple #[.agg #[.int .i8 2, .string (s.extract 0 (Sc.spanN Sc.digi s.data.toList)), .int .i64 (Sc.numNum s (Sc.spanN Sc.digi s.data.toList)), .int .i64 0], .int .i64 (Sc.numErr s (Sc.spanN Sc.digi s.data.toList))]) ∧ Below w.heap.size w w' := by
  have hle := Sc.spanN_le Sc.digi s.data.toList
  rw [Sc.data_len] at hle
  have hsp := span_digit s
  have hall := Sc.allDigi_take s.data.toList
  generalize hn : Sc.spanN Sc.digi s.data.toList = n at *
  have hx : (s.extract 0 n).size = n := by simp; omega
  have hx0 : 0 < (s.extract 0 n).size := by omega
  have hxd : (s.extract 0 n).data.toList = s.data.toList.take n := by rw [Lib.extract_data]; simp
  have hlen : (s.data.toList.take n).length = n := by simp; omega
  have hp := Sc.parse64 (s.data.toList.take n) (by intro h; rw [h] at hlen; simp at hlen; omega) hall
  rw [← hxd] at hp
  have hv : Sc.numFrom 0 (s.extract 0 n).data.toList = Sc.numVal s n := by rw [hxd]; rfl
  rw [hv] at hp
  by_cases hb : Sc.numVal s n < 9223372036854775808
  · rw [if_pos hb] at hp
    have hb' : ¬ 9223372036854775808 ≤ Sc.numVal s n := by omega
    have hdl : (s.extract n s.size).data.toList = s.data.toList.drop n := by rw [Lib.extract_data]; exact List.take_of_length_le (by simp)
    have hsl : ∀ w : World, Calls Tryd.prog 50 #[.string (s.extract n s.size), .func (.func 52) #[] #[]] w fun e w' => e = .returned (.int .i64 (Sc.spanN Sc.lett (s.data.toList.drop n))) ∧ Below w.heap.size w w' := by
      intro w
      rw [← hdl]
      refine (span_letter _ w).mono fun e w' => ?_
      rintro ⟨rfl, pos, rfl⟩
      exact ⟨rfl, (Below.refl _ _).alloc (Nat.le_refl _) _⟩
    have hh := Sc.extract_head s n h1 hle hx0
    have bad_of : ∀ b, Sc.numBad s n = b → Sc.numErr s n = (if b then 10 else 0) ∧ Sc.numNum s n = if b then 0 else (Sc.numVal s n : Int) := by
      intro b hbb
      have : Sc.numErr s n = (if b then 10 else 0) := by unfold Sc.numErr; rw [if_neg hb', hbb]
      refine ⟨this, ?_⟩
      unfold Sc.numNum
      rw [this]
      cases b <;> simp
    by_cases hm : 0 < Sc.spanN Sc.lett (s.data.toList.drop n)
    · have hbad : Sc.numBad s n = true := by unfold Sc.numBad; simp [hm]
      obtain ⟨e1, e2⟩ := bad_of true hbad
      rw [e1, e2]
      by_cases h2 : 1 < n
      · cases h48 : ((((s.extract 0 n)[0]'hx0).toNat : Int) == 48)
        · exact number_letter2 s hs n hle h1 hsp _ hp _ hm hsl hx0 h2 h48 w tp p hvar
        · exact number_zero s hs n hle h1 hsp _ hp hx0 h2 h48 w tp p hvar
      · exact number_letter1 s hs n hle h1 hsp _ hp _ hm hsl h2 w tp p hvar
    · have hm0 : Sc.spanN Sc.lett (s.data.toList.drop n) = 0 := by omega
      rw [hm0] at hsl
      by_cases h2 : 1 < n
      · cases h48 : ((((s.extract 0 n)[0]'hx0).toNat : Int) == 48)
        · have hbad : Sc.numBad s n = false := by
            unfold Sc.numBad
            have : ¬ s.data.toList.head? = some 48 := by
              rw [hh]; intro h; injection h with h; rw [h] at h48; simp at h48
            simp [hm0, this]
          obtain ⟨e1, e2⟩ := bad_of false hbad
          rw [e1, e2]
          exact number_ok2 s hs n hle h1 hsp _ hp hsl hx0 h2 h48 w tp p hvar
        · have hbad : Sc.numBad s n = true := by
            unfold Sc.numBad
            have : s.data.toList.head? = some 48 := by
              rw [hh]; congr 1; apply UInt8.toNat_inj.1; have := beq_iff_eq.1 h48; show _ = 48; omega
            simp [this, h2]
          obtain ⟨e1, e2⟩ := bad_of true hbad
          rw [e1, e2]
          exact number_zero s hs n hle h1 hsp _ hp hx0 h2 h48 w tp p hvar
      · have hbad : Sc.numBad s n = false := by unfold Sc.numBad; simp [hm0, h2]
        obtain ⟨e1, e2⟩ := bad_of false hbad
        rw [e1, e2]
        exact number_ok1 s hs n hle h1 hsp _ hp hsl h2 w tp p hvar
  · rw [if_neg hb] at hp
    have e1 : Sc.numErr s n = 3 := by unfold Sc.numErr; rw [if_pos (by omega)]
    have e2 : Sc.numNum s n = 0 := by unfold Sc.numNum; rw [e1]; rfl
    rw [e1, e2]
    exact number_err s hs n hle h1 hsp hp w tp p hvar
end Go.Proofs.YtkpdddlonmkebaaDoor
namespace Go.Proofs.YtkpdddlonmkebaaDoor
open Go.RowKit

def Sc.signs : ByteArray := ⟨#[92, 46, 58, 61, 40, 41, 91, 93, 123, 125, 44, 124, 43, 45, 42, 47, 60, 62, 63, 59]⟩

theorem enc_two (r : Int) (h : 128 ≤ r) (h2 : r ≤ 255) : ∃ b0 b1 : UInt8, Utf8.encode r = ⟨#[b0, b1]⟩ ∧ 128 ≤ b1.toNat := by
  unfold Utf8.encode
  have hv : Utf8.valid r = true := by unfold Utf8.valid; simp; omega
  simp only [hv, if_true]
  have h3 : ¬ r.toNat < 0x80 := by omega
  have h4 : r.toNat < 0x800 := by omega
  rw [if_neg h3, if_pos h4]
  refine ⟨_, _, rfl, ?_⟩
  simp
  omega

theorem indexByte_none (l : List UInt8) (c : UInt8) (h : ∀ b ∈ l, (b == c) = false) : Lib.indexByte l c = -1 := by
  induction l with
  | nil => rfl
  | cons b l ih =>
    unfold Lib.indexByte
    rw [ih fun x hx => h x (by simp [hx]), h b (by simp)]
    rfl
theorem below_drw (w : World) (n : Nat) : Below w.heap.size w (w.drewN n) := ⟨rfl, rfl, rfl, Nat.le_refl _, fun _ _ => rfl⟩
theorem below_drwr {B : Nat} {a w : World} (h : Below B a w) (n : Nat) : Below B a (w.drewN n) := ⟨h.os, h.tape, h.output, h.size, h.block⟩

set_option maxHeartbeats 1000000 in
set_option maxRecDepth 100000 in
theorem indexRune_high (r : Int) (h : 128 ≤ r) (h2 : r ≤ 255) (w : World) :
    Calls Tryd.prog 75 #[.string Sc.signs, .int .i32 r] w fun e w' => e = .returned (.int .i64 (-1)) ∧ Below w.heap.size w w' := by
  obtain ⟨b0, b1, he, hb⟩ := enc_two r h h2
  have hval : Lib.validRune r = true := by unfold Lib.validRune; simp; omega
  have hc1 : (r == 65533) = false := by simp; omega
  have hV : ∀ w : World, Calls Tryd.prog 83 #[.int .i32 r] w fun e w' => e = .returned (.bool true) ∧ w = w' := fun w => (Tryd.utf8_ValidRune r w).mono fun e w' h => ⟨by rw [h.1, hval], h.2.symm⟩
  clear hval
  have hne : (((Sc.signs[1]'(by decide)).toNat : Int) != (((⟨#[b0, b1]⟩ : ByteArray)[1]'(by show 1 < 2; decide)).toNat : Int)) = true := by
    show ((46 : Int) != (b1.toNat : Int)) = true
    rw [bne_iff_ne]; omega
  unfold Sc.signs at *
  have hIB : ∀ (t : ByteArray) (ht : ∀ b ∈ t.data.toList, b.toNat < 128) (w : World), Calls Tryd.prog 82 #[.string t, .int .u8 b1.toNat] w fun e w' => e = .returned (.int .i64 (-1)) ∧ w' = w := by
    intro t ht w
    refine (Tryd.strings_IndexByte t b1.toNat w).mono fun e w' h => ⟨?_, h.2⟩
    rw [h.1, indexByte_none _ _ fun b hb' => ?_]
    have := ht b hb'
    simp at this ⊢
    intro hcon
    rw [hcon] at this
    omega
  go_enter Tryd.func75, Tryd.ntmps75
  go_wp2_with (go_at_call 83; refine (hV _).mono ?_; rintro e w' ⟨rfl, rfl⟩)
  go_step3
  go_wp2_with fail
  refine wp_loop_rounds 1 ?_
  rw [rounds_succ]
  go_wp2_with fail
  go_step3
  go_wp2_with fail
  go_quiet (fail)
  have hbw := below_drw w nq
  generalize w.drewN nq = W at hbw ⊢
  go_wp2_with fail
  go_quiet ((go_at_call 82; exact Calls.quiet_of_same (hIB _ (by decide) _)))
  go_wp2_with fail
  rw [Exit.noGoto_ret]
  go_wp2_with fail
  rw [Exit.noGoto_ret]
  go_wp2_with fail
  go_ret
  exact ⟨rfl, below_drwr hbw _⟩
def Sc.isSign (r : Int) : Bool := decide (r ∈ ([92, 46, 58, 61, 40, 41, 91, 93, 123, 125, 44, 124, 43, 45, 42, 47, 60, 62, 63, 59] : List Int))

theorem sign_ascii : ∀ n : Nat, n < 128 → decide (0 ≤ Lib.indexByte Sc.signs.data.toList n.toUInt8) = Sc.isSign (n : Int) := by decide +kernel

theorem contains_any (r : Int) (h0 : 0 ≤ r) (h1 : r < 256) (w : World) :
    Calls Tryd.prog 57 #[.string Sc.signs, .int .i32 r] w fun e w' => e = .returned (.bool (Sc.isSign r)) ∧ Below w.heap.size w w' := by
  by_cases h : r < 128
  · refine (Tryd.strings_ContainsRune_ascii Sc.signs r w h0 h).mono fun e w' h2 => ?_
    obtain ⟨rfl, rfl⟩ := h2
    obtain ⟨n, rfl⟩ := Int.eq_ofNat_of_zero_le h0
    rw [show (n : Int).toNat.toUInt8 = n.toUInt8 from rfl, sign_ascii n (by omega)]
    exact ⟨rfl, Below.refl _ _⟩
  · have hs : Sc.isSign r = false := by unfold Sc.isSign; simp; omega
    rw [hs]
    have hc := indexRune_high r (by omega) (by omega)
    go_enter Tryd.func57, Tryd.ntmps57
    go_wp2_with (go_at_call 75; refine (hc _).mono ?_; rintro e w' ⟨rfl, hb⟩)
    go_ret
    exact ⟨rfl, hb⟩
end Go.Proofs.YtkpdddlonmkebaaDoor
namespace Go.Proofs.YtkpdddlonmkebaaDoor
open Go.RowKit

def Sc.hd (s : ByteArray) : Int := ((s.data.toList.headD 0).toNat : Int)
def Sc.fN (s : ByteArray) : Nat := if Sc.lett (Sc.hd s) then Sc.spanN Sc.lord s.data.toList else if Sc.digi (Sc.hd s) then Sc.spanN Sc.digi s.data.toList else if Lib.hasPrefix s.data.toList [45, 62] then 2 else 1
def Sc.fK (s : ByteArray) : Int := if Sc.lett (Sc.hd s) then Sc.nameKind (s.extract 0 (Sc.fN s)) (Sc.fN s) else if Sc.digi (Sc.hd s) then 2 else if Lib.hasPrefix s.data.toList [45, 62] || Sc.isSign (Sc.hd s) then 4 else 0
def Sc.fE (s : ByteArray) : Int := if Sc.lett (Sc.hd s) then Sc.nameErr (Sc.fN s) else if Sc.digi (Sc.hd s) then Sc.numErr s (Sc.fN s) else if Lib.hasPrefix s.data.toList [45, 62] || Sc.isSign (Sc.hd s) then 0 else 10
def Sc.fV (s : ByteArray) : Int := if Sc.lett (Sc.hd s) then 0 else if Sc.digi (Sc.hd s) then Sc.numNum s (Sc.fN s) else 0

theorem Sc.hd_eq (s : ByteArray) (h : 0 < s.size) : Sc.hd s = ((s[0]'h).toNat : Int) := by
  have hl : 0 < s.data.toList.length := by rw [Sc.data_len]; exact h
  have e := Sc.get_data s 0 h hl
  unfold Sc.hd
  rw [List.headD_eq_head?_getD, List.head?_eq_getElem?, List.getElem?_eq_getElem hl, e]
  rfl

theorem hasPrefix_flip (s p : ByteArray) (w : World) :
    Calls Tryd.prog 56 #[.string s, .string p] w fun e w' => e = .returned (.bool (Lib.hasPrefix s.data.toList p.data.toList)) ∧ w = w' :=
  (Tryd.strings_HasPrefix s p w).mono fun _ _ h => ⟨h.1, h.2.symm⟩

theorem tup4 {k k' v v' e e' : Int} {n n' : Nat} {s : ByteArray} (hk : k = k') (hn : n = n') (hv : v = v') (he : e = e') :
    Ending.returned (.tuple #[.agg #[.int .i8 k, .string (s.extract 0 n), .int .i64 v, .int .i64 0], .int .i64 e]) = .returned (.tuple #[.agg #[.int .i8 k', .string (s.extract 0 n'), .int .i64 v', .int .i64 0], .int .i64 e']) := by rw [hk, hn, hv, he]

/-- the result cell of a function: its own block, the first that it made -/
theorem res_facts {w w1 : World} {v0 v1 v2 v3 : Value} {t : TypeId} (hb : Below (w.alloc (.cells #[v0, v1, v2, v3] t)).heap.size (w.alloc (.cells #[v0, v1, v2, v3] t)) w1) :
    w1.heap[w.heap.size]? = some (.cells #[v0, v1, v2, v3] t) ∧ Below w.heap.size w w1 :=
  ⟨heap_below hb (by simp) (heap_new w _), ((Below.refl _ _).alloc (Nat.le_refl _) _).trans (hb.mono (by simp))⟩

set_option maxHeartbeats 1000000 in
set_option maxRecDepth 100000 in
theorem first_name (s : ByteArray) (h0 : 0 < s.size) (w : World) (k v er : Int) (n : Nat)
    (hL : ∀ w : World, Calls Tryd.prog 52 #[.int .i32 ((s[0]).toNat : Int)] w fun e w' => e = .returned (.bool true) ∧ w = w')
    (hF : ∀ w1 : World, Below w.heap.size w w1 → Calls Tryd.prog 53 #[.string s] w1 fun e w' => e = .returned (.tuple #[.agg #[.int .i8 k, .string (s.extract 0 n), .int .i64 v, .int .i64 0], .int .i64 er]) ∧ Below w1.heap.size w1 w')
    :
    Calls Tryd.prog 31 #[.string s] w fun e w' => e = .returned (.tuple #[.agg #[.int .i8 (k), .string (s.extract 0 (n)), .int .i64 (v), .int .i64 0], .int .i64 (er)]) ∧ Below w.heap.size w w' := by
  have i0 : (0 : Int) < s.size := by omega
  have hw32 : wrap32 ((s[0]).toNat : Int) = ((s[0]).toNat : Int) := by have := (s[0]).toNat_lt; exact IntWalk.wrap32_in _ ⟨by omega, by omega⟩
  go_enter Tryd.func31, Tryd.ntmps31
  go_wp2_with (first | (go_at_call 52; refine (hL _).mono ?_; rintro e w1 ⟨rfl, rfl⟩) | (go_at_call 53; refine (hF _ ((Below.refl _ _).alloc (Nat.le_refl _) _)).mono ?_; rintro e w1 ⟨rfl, hb⟩; have hbw := (res_facts hb).2; obtain ⟨q0, q1, q2, q3, f0, f1, f2, f3, hz⟩ := own4 (res_facts hb).1))
  refine bodyPost_ret (v := .tuple #[.agg #[.int .i8 (k), .string (s.extract 0 (n)), .int .i64 (v), .int .i64 0], .int .i64 (er)]) (by simp [results, Tryd.results31, go_sem, *]) rfl ⟨rfl, ?_⟩
  exact below_set4 hbw (Nat.le_refl _) _ _ _ _

set_option maxHeartbeats 1000000 in
set_option maxRecDepth 100000 in
theorem first_number (s : ByteArray) (h0 : 0 < s.size) (w : World) (k v er : Int) (n : Nat)
    (hL : ∀ w : World, Calls Tryd.prog 52 #[.int .i32 ((s[0]).toNat : Int)] w fun e w' => e = .returned (.bool false) ∧ w = w')
    (hD : ∀ w : World, Calls Tryd.prog 54 #[.int .i32 ((s[0]).toNat : Int)] w fun e w' => e = .returned (.bool true) ∧ w = w')
    (hF : ∀ w1 : World, Below w.heap.size w w1 → Calls Tryd.prog 55 #[.string s] w1 fun e w' => e = .returned (.tuple #[.agg #[.int .i8 k, .string (s.extract 0 n), .int .i64 v, .int .i64 0], .int .i64 er]) ∧ Below w1.heap.size w1 w')
    :
    Calls Tryd.prog 31 #[.string s] w fun e w' => e = .returned (.tuple #[.agg #[.int .i8 (k), .string (s.extract 0 (n)), .int .i64 (v), .int .i64 0], .int .i64 (er)]) ∧ Below w.heap.size w w' := by
  have i0 : (0 : Int) < s.size := by omega
  have hw32 : wrap32 ((s[0]).toNat : Int) = ((s[0]).toNat : Int) := by have := (s[0]).toNat_lt; exact IntWalk.wrap32_in _ ⟨by omega, by omega⟩
  go_enter Tryd.func31, Tryd.ntmps31
  go_wp2_with (first | (go_at_call 52; refine (hL _).mono ?_; rintro e w1 ⟨rfl, rfl⟩) | (go_at_call 54; refine (hD _).mono ?_; rintro e w1 ⟨rfl, rfl⟩) | (go_at_call 55; refine (hF _ ((Below.refl _ _).alloc (Nat.le_refl _) _)).mono ?_; rintro e w1 ⟨rfl, hb⟩; have hbw := (res_facts hb).2; obtain ⟨q0, q1, q2, q3, f0, f1, f2, f3, hz⟩ := own4 (res_facts hb).1))
  refine bodyPost_ret (v := .tuple #[.agg #[.int .i8 (k), .string (s.extract 0 (n)), .int .i64 (v), .int .i64 0], .int .i64 (er)]) (by simp [results, Tryd.results31, go_sem, *]) rfl ⟨rfl, ?_⟩
  exact below_set4 hbw (Nat.le_refl _) _ _ _ _

set_option maxHeartbeats 1000000 in
set_option maxRecDepth 100000 in
theorem first_arrow (s : ByteArray) (hs : s.size ≤ 281474976710656) (h0 : 0 < s.size)
    (hL : ∀ w : World, Calls Tryd.prog 52 #[.int .i32 ((s[0]).toNat : Int)] w fun e w' => e = .returned (.bool false) ∧ w = w')
    (hD : ∀ w : World, Calls Tryd.prog 54 #[.int .i32 ((s[0]).toNat : Int)] w fun e w' => e = .returned (.bool false) ∧ w = w')
    (hH : ∀ w : World, Calls Tryd.prog 56 #[.string s, .string ⟨#[45, 62]⟩] w fun e w' => e = .returned (.bool true) ∧ w = w')
    (h2 : 2 ≤ s.size) (w : World) :
    Calls Tryd.prog 31 #[.string s] w fun e w' => e = .returned (.tuple #[.agg #[.int .i8 (4), .string (s.extract 0 (2)), .int .i64 (0), .int .i64 0], .int .i64 (0)]) ∧ Below w.heap.size w w' := by
  have i0 : (0 : Int) < s.size := by omega
  have hw32 : wrap32 ((s[0]).toNat : Int) = ((s[0]).toNat : Int) := by have := (s[0]).toNat_lt; exact IntWalk.wrap32_in _ ⟨by omega, by omega⟩
  have hx : (s.extract 0 2).size = 2 := by simp; omega
  have HX := Lib.hid hx
  clear hx
  have i2 : (2 : Int) ≤ s.size := by omega
  go_enter Tryd.func31, Tryd.ntmps31
  go_wp2_with (first | (go_at_call 52; refine (hL _).mono ?_; rintro e w1 ⟨rfl, rfl⟩) | (go_at_call 54; refine (hD _).mono ?_; rintro e w1 ⟨rfl, rfl⟩) | (go_at_call 56; refine (hH _).mono ?_; rintro e w1 ⟨rfl, rfl⟩) | (go_at_call 58; refine (word_any 4 _ (by rw [HX.out]; omega) _).mono ?_; rintro e w1 ⟨rfl, hb⟩; have hbw := (res_facts hb).2; obtain ⟨q0, q1, q2, q3, f0, f1, f2, f3, hz⟩ := own4 (res_facts hb).1))
  refine bodyPost_ret (v := .tuple #[.agg #[.int .i8 (4), .string (s.extract 0 (2)), .int .i64 (0), .int .i64 0], .int .i64 (0)]) (by simp [results, Tryd.results31, go_sem, *]) rfl ⟨rfl, ?_⟩
  exact below_set4 hbw (Nat.le_refl _) _ _ _ _

set_option maxHeartbeats 1000000 in
set_option maxRecDepth 100000 in
theorem first_sign (s : ByteArray) (hs : s.size ≤ 281474976710656) (h0 : 0 < s.size)
    (hL : ∀ w : World, Calls Tryd.prog 52 #[.int .i32 ((s[0]).toNat : Int)] w fun e w' => e = .returned (.bool false) ∧ w = w')
    (hD : ∀ w : World, Calls Tryd.prog 54 #[.int .i32 ((s[0]).toNat : Int)] w fun e w' => e = .returned (.bool false) ∧ w = w')
    (hH : ∀ w : World, Calls Tryd.prog 56 #[.string s, .string ⟨#[45, 62]⟩] w fun e w' => e = .returned (.bool false) ∧ w = w')
    (hR : ∀ w : World, Calls Tryd.prog 57 #[.string ⟨#[92, 46, 58, 61, 40, 41, 91, 93, 123, 125, 44, 124, 43, 45, 42, 47, 60, 62, 63, 59]⟩, .int .i32 ((s[0]).toNat : Int)] w fun e w' => e = .returned (.bool true) ∧ Below w.heap.size w w')
     (w : World) :
    Calls Tryd.prog 31 #[.string s] w fun e w' => e = .returned (.tuple #[.agg #[.int .i8 (4), .string (s.extract 0 (1)), .int .i64 (0), .int .i64 0], .int .i64 (0)]) ∧ Below w.heap.size w w' := by
  have i0 : (0 : Int) < s.size := by omega
  have hw32 : wrap32 ((s[0]).toNat : Int) = ((s[0]).toNat : Int) := by have := (s[0]).toNat_lt; exact IntWalk.wrap32_in _ ⟨by omega, by omega⟩
  have hx : (s.extract 0 1).size = 1 := by simp; omega
  have HX := Lib.hid hx
  clear hx
  have i2 : (1 : Int) ≤ s.size := by omega
  go_enter Tryd.func31, Tryd.ntmps31
  go_wp2_with (first | (go_at_call 52; refine (hL _).mono ?_; rintro e w1 ⟨rfl, rfl⟩) | (go_at_call 54; refine (hD _).mono ?_; rintro e w1 ⟨rfl, rfl⟩) | (go_at_call 56; refine (hH _).mono ?_; rintro e w1 ⟨rfl, rfl⟩) | (go_at_call 57; refine (hR _).mono ?_; rintro e w1 ⟨rfl, hb⟩; have hbw := (res_facts hb).2; have HH := Lib.hid (res_facts hb).1; obtain ⟨q0, q1, q2, q3, f0, f1, f2, f3, hz⟩ := own4 HH.out) | (go_at_call 58; refine (word_any 4 _ (by rw [HX.out]; omega) _).mono ?_; rintro e w2 ⟨rfl, hb2⟩; have hbw2 := hbw.trans (hb2.mono hbw.size); obtain ⟨q0, q1, q2, q3, f0, f1, f2, f3, hz⟩ := own4 (heap_below hb2 hz HH.out)))
  refine bodyPost_ret (v := .tuple #[.agg #[.int .i8 (4), .string (s.extract 0 (1)), .int .i64 (0), .int .i64 0], .int .i64 (0)]) (by simp [results, Tryd.results31, go_sem, *]) rfl ⟨rfl, ?_⟩
  exact below_set4 hbw2 (Nat.le_refl _) _ _ _ _

set_option maxHeartbeats 1000000 in
set_option maxRecDepth 100000 in
theorem first_none (s : ByteArray) (hs : s.size ≤ 281474976710656) (h0 : 0 < s.size)
    (hL : ∀ w : World, Calls Tryd.prog 52 #[.int .i32 ((s[0]).toNat : Int)] w fun e w' => e = .returned (.bool false) ∧ w = w')
    (hD : ∀ w : World, Calls Tryd.prog 54 #[.int .i32 ((s[0]).toNat : Int)] w fun e w' => e = .returned (.bool false) ∧ w = w')
    (hH : ∀ w : World, Calls Tryd.prog 56 #[.string s, .string ⟨#[45, 62]⟩] w fun e w' => e = .returned (.bool false) ∧ w = w')
    (hR : ∀ w : World, Calls Tryd.prog 57 #[.string ⟨#[92, 46, 58, 61, 40, 41, 91, 93, 123, 125, 44, 124, 43, 45, 42, 47, 60, 62, 63, 59]⟩, .int .i32 ((s[0]).toNat : Int)] w fun e w' => e = .returned (.bool false) ∧ Below w.heap.size w w')
     (w : World) :
    Calls Tryd.prog 31 #[.string s] w fun e w' => e = .returned (.tuple #[.agg #[.int .i8 (0), .string (s.extract 0 (1)), .int .i64 (0), .int .i64 0], .int .i64 (10)]) ∧ Below w.heap.size w w' := by
  have i0 : (0 : Int) < s.size := by omega
  have hw32 : wrap32 ((s[0]).toNat : Int) = ((s[0]).toNat : Int) := by have := (s[0]).toNat_lt; exact IntWalk.wrap32_in _ ⟨by omega, by omega⟩
  have hx : (s.extract 0 1).size = 1 := by simp; omega
  have HX := Lib.hid hx
  clear hx
  have i2 : (1 : Int) ≤ s.size := by omega
  go_enter Tryd.func31, Tryd.ntmps31
  go_wp2_with (first | (go_at_call 52; refine (hL _).mono ?_; rintro e w1 ⟨rfl, rfl⟩) | (go_at_call 54; refine (hD _).mono ?_; rintro e w1 ⟨rfl, rfl⟩) | (go_at_call 56; refine (hH _).mono ?_; rintro e w1 ⟨rfl, rfl⟩) | (go_at_call 57; refine (hR _).mono ?_; rintro e w1 ⟨rfl, hb⟩; have hbw := (res_facts hb).2; have HH := Lib.hid (res_facts hb).1; obtain ⟨q0, q1, q2, q3, f0, f1, f2, f3, hz⟩ := own4 HH.out) | (go_at_call 58; refine (word_any 0 _ (by rw [HX.out]; omega) _).mono ?_; rintro e w2 ⟨rfl, hb2⟩; have hbw2 := hbw.trans (hb2.mono hbw.size); obtain ⟨q0, q1, q2, q3, f0, f1, f2, f3, hz⟩ := own4 (heap_below hb2 hz HH.out)))
  refine bodyPost_ret (v := .tuple #[.agg #[.int .i8 (0), .string (s.extract 0 (1)), .int .i64 (0), .int .i64 0], .int .i64 (10)]) (by simp [results, Tryd.results31, go_sem, *]) rfl ⟨rfl, ?_⟩
  exact below_set4 hbw2 (Nat.le_refl _) _ _ _ _
end Go.Proofs.YtkpdddlonmkebaaDoor
namespace Go.Proofs.YtkpdddlonmkebaaDoor
open Go.RowKit

theorem Sc.spanN_pos (q : Int → Bool) (s : ByteArray) (h : 0 < s.size) (hq : q (Sc.hd s) = true) : 1 ≤ Sc.spanN q s.data.toList := by
  have hl : 0 < s.data.toList.length := by rw [Sc.data_len]; exact h
  refine Sc.spanN_more q _ 0 hl (Nat.zero_le _) ?_
  rw [Sc.get_data s 0 h hl, ← Sc.hd_eq s h]
  exact hq

theorem Sc.hasPrefix_two (l : List UInt8) (h : Lib.hasPrefix l [45, 62] = true) : 2 ≤ l.length := by
  match l with
  | [] => simp [Lib.hasPrefix] at h
  | [a] => simp [Lib.hasPrefix] at h
  | a :: b :: l => simp

theorem first_any (s : ByteArray) (hs : s.size ≤ 281474976710656) (h0 : 0 < s.size) (w : World) (tp : TypeId) (p : Value) (hvar : w.var? Tryd.prog "strconv.ErrRange" = some #[.iface tp p]) :
    Calls Tryd.prog 31 #[.string s] w fun e w' => e = .returned (.tuple #[.agg #[.int .i8 (Sc.fK s), .string (s.extract 0 (Sc.fN s)), .int .i64 (Sc.fV s), .int .i64 0], .int .i64 (Sc.fE s)]) ∧ Below w.heap.size w w' := by
  have hd := Sc.hd_eq s h0
  have hb : (s[0]).toNat < 256 := (s[0]).toNat_lt
  have hL := scan_letter_any ((s[0]).toNat : Int)
  have hD := scan_digit_any ((s[0]).toNat : Int)
  have hH := hasPrefix_flip s ⟨#[45, 62]⟩
  have hR := contains_any ((s[0]).toNat : Int) (by omega) (by omega)
  rw [← hd] at hL hD hR
  by_cases c1 : Sc.lett (Sc.hd s) = true
  · have e1 : Sc.fN s = Sc.spanN Sc.lord s.data.toList := by unfold Sc.fN; rw [if_pos c1]
    have e2 : Sc.fK s = Sc.nameKind (s.extract 0 (Sc.fN s)) (Sc.fN s) := by unfold Sc.fK; rw [if_pos c1]
    have e3 : Sc.fE s = Sc.nameErr (Sc.fN s) := by unfold Sc.fE; rw [if_pos c1]
    have e4 : Sc.fV s = 0 := by unfold Sc.fV; rw [if_pos c1]
    rw [e2, e3, e4, e1]
    rw [c1] at hL
    rw [hd] at hL
    exact first_name s h0 w _ _ _ _ hL fun w1 _ => name_any s hs w1
  · rw [Bool.not_eq_true] at c1
    by_cases c2 : Sc.digi (Sc.hd s) = true
    · have e1 : Sc.fN s = Sc.spanN Sc.digi s.data.toList := by unfold Sc.fN; rw [c1, if_neg (by decide), if_pos c2]
      have e2 : Sc.fK s = 2 := by unfold Sc.fK; rw [c1, if_neg (by decide), if_pos c2]
      have e3 : Sc.fE s = Sc.numErr s (Sc.fN s) := by unfold Sc.fE; rw [c1, if_neg (by decide), if_pos c2]
      have e4 : Sc.fV s = Sc.numNum s (Sc.fN s) := by unfold Sc.fV; rw [c1, if_neg (by decide), if_pos c2]
      rw [e2, e3, e4, e1]
      rw [c1, hd] at hL
      rw [c2, hd] at hD
      exact first_number s h0 w _ _ _ _ hL hD fun w1 hb => number_any s hs (Sc.spanN_pos _ s h0 c2) w1 tp p (var_at hb hvar)
    · rw [Bool.not_eq_true] at c2
      rw [c1, hd] at hL
      rw [c2, hd] at hD
      by_cases c3 : Lib.hasPrefix s.data.toList [45, 62] = true
      · have e1 : Sc.fN s = 2 := by unfold Sc.fN; rw [c1, c2, c3]; rfl
        have e2 : Sc.fK s = 4 := by unfold Sc.fK; rw [c1, c2, c3]; rfl
        have e3 : Sc.fE s = 0 := by unfold Sc.fE; rw [c1, c2, c3]; rfl
        have e4 : Sc.fV s = 0 := by unfold Sc.fV; rw [c1, c2]; rfl
        rw [e2, e3, e4, e1]
        have hH' : ∀ w : World, Calls Tryd.prog 56 #[.string s, .string ⟨#[45, 62]⟩] w fun e w' => e = .returned (.bool true) ∧ w = w' := by
          intro w
          have := hH w
          rw [show (⟨#[45, 62]⟩ : ByteArray).data.toList = [45, 62] from rfl, c3] at this
          exact this
        have h2 := Sc.hasPrefix_two _ c3
        rw [Sc.data_len] at h2
        exact first_arrow s hs h0 hL hD hH' h2 w
      · rw [Bool.not_eq_true] at c3
        have hH' : ∀ w : World, Calls Tryd.prog 56 #[.string s, .string ⟨#[45, 62]⟩] w fun e w' => e = .returned (.bool false) ∧ w = w' := by
          intro w
          have := hH w
          rw [show (⟨#[45, 62]⟩ : ByteArray).data.toList = [45, 62] from rfl, c3] at this
          exact this
        have e1 : Sc.fN s = 1 := by unfold Sc.fN; rw [c1, c2, c3]; rfl
        have e4 : Sc.fV s = 0 := by unfold Sc.fV; rw [c1, c2]; rfl
        by_cases c4 : Sc.isSign (Sc.hd s) = true
        · have e2 : Sc.fK s = 4 := by unfold Sc.fK; rw [c1, c2, c3, c4]; rfl
          have e3 : Sc.fE s = 0 := by unfold Sc.fE; rw [c1, c2, c3, c4]; rfl
          rw [e2, e3, e4, e1]
          rw [c4, hd] at hR
          exact first_sign s hs h0 hL hD hH' hR w
        · rw [Bool.not_eq_true] at c4
          have e2 : Sc.fK s = 0 := by unfold Sc.fK; rw [c1, c2, c3, c4]; rfl
          have e3 : Sc.fE s = 10 := by unfold Sc.fE; rw [c1, c2, c3, c4]; rfl
          rw [e2, e3, e4, e1]
          rw [c4, hd] at hR
          exact first_none s hs h0 hL hD hH' hR w

/-- whether a text is one name -/
def Sc.isName (s : ByteArray) : Bool := if s.size = 0 then false else decide (Sc.fE s = 0) && decide (Sc.fK s = 1) && decide (Sc.fN s = s.size)

theorem Sc.fN_le (s : ByteArray) (h0 : 0 < s.size) : Sc.fN s ≤ s.size := by
  have h1 := Sc.spanN_le Sc.lord s.data.toList
  have h2 := Sc.spanN_le Sc.digi s.data.toList
  rw [Sc.data_len] at h1 h2
  unfold Sc.fN
  split
  · exact h1
  · split
    · exact h2
    · split
      · rename_i h; have := Sc.hasPrefix_two _ h; rw [Sc.data_len] at this; exact this
      · omega

theorem Sc.extract_beq (s : ByteArray) (n : Nat) (h : n ≤ s.size) : ((s.extract 0 n).toList == s.toList) = decide (n = s.size) := by
  rw [Bool.eq_iff_iff, beq_iff_eq, decide_eq_true_iff, Lib.extract_toList, Lib.toList_data]
  have hl := Sc.data_len s
  constructor
  · intro h1
    have := congrArg List.length h1
    simp at this
    omega
  · rintro rfl
    simp [List.take_of_length_le]
end Go.Proofs.YtkpdddlonmkebaaDoor
namespace Go.Proofs.YtkpdddlonmkebaaDoor
namespace Sc
/-- a word: kind, text, number, place -/
abbrev Wd := Int × ByteArray × Int × Nat
/-- a fault: code, place, text -/
abbrev Flt := Int × Nat × ByteArray
def byteAt (s : ByteArray) (at' : Nat) : Int := ((s.data.toList.drop at').headD 0).toNat
def skipN (s : ByteArray) (at' : Nat) : Nat := spanN notNl (s.data.toList.drop at')
def rest (s : ByteArray) (at' : Nat) : ByteArray := s.extract at' s.size
def wordAt (s : ByteArray) (at' : Nat) : Wd := (fK (rest s at'), (rest s at').extract 0 (fN (rest s at')), fV (rest s at'), at')
def faultAt (s : ByteArray) (at' : Nat) : Flt := (fE (rest s at'), at', (rest s at').extract 0 (fN (rest s at')))

def toks (s : ByteArray) : Nat → Nat → List Wd × Option Flt
  | 0, _ => ([], none)
  | f + 1, at' =>
    if s.size ≤ at' then ([], none)
    else if blan (byteAt s at') then toks s f (at' + 1)
    else if byteAt s at' = 35 then toks s f (at' + skipN s at')
    else if fE (rest s at') ≠ 0 then ([], some (faultAt s at'))
    else (wordAt s at' :: (toks s f (at' + fN (rest s at'))).1, (toks s f (at' + fN (rest s at'))).2)

theorem byteAt_eq (s : ByteArray) (k : Nat) (h : k < s.size) : byteAt s k = ((s[k]).toNat : Int) := by
  unfold byteAt
  have hl : k < s.data.toList.length := by rw [data_len]; exact h
  rw [List.drop_eq_getElem_cons hl, List.headD_cons, get_data s k h hl]

theorem rest_data (s : ByteArray) (k : Nat) : (rest s k).data.toList = s.data.toList.drop k := by
  unfold rest
  rw [Lib.extract_data]
  exact List.take_of_length_le (by simp)
theorem rest_size (s : ByteArray) (k : Nat) : (rest s k).size = s.size - k := by
  unfold rest; simp
theorem hd_rest (s : ByteArray) (k : Nat) : hd (rest s k) = byteAt s k := by
  unfold hd byteAt; rw [rest_data]

theorem skipN_pos (s : ByteArray) (k : Nat) (h : k < s.size) (h35 : byteAt s k = 35) : 1 ≤ skipN s k := by
  have := spanN_pos notNl (rest s k) (by rw [rest_size]; omega) (by rw [hd_rest, h35]; decide)
  rw [rest_data] at this
  exact this
theorem skipN_le (s : ByteArray) (k : Nat) : skipN s k ≤ s.size - k := by
  have := spanN_le notNl (s.data.toList.drop k)
  rw [List.length_drop, data_len] at this
  exact this

theorem fN_pos (s : ByteArray) (h0 : 0 < s.size) : 1 ≤ fN s := by
  unfold fN
  split
  · rename_i h
    exact spanN_pos lord s h0 (by unfold lord; rw [h]; rfl)
  · split
    · rename_i h; exact spanN_pos digi s h0 h
    · split <;> decide

/-- enough fuel is enough -/
theorem toks_fuel (s : ByteArray) : ∀ (f g at' : Nat), s.size < f + at' → s.size < g + at' → toks s f at' = toks s g at' := by
  intro f
  induction f with
  | zero =>
    intro g at' h1 _
    cases g with
    | zero => rfl
    | succ g => unfold toks; rw [if_pos (by omega)]
  | succ f ih =>
    intro g at' h1 h2
    cases g with
    | zero => conv => lhs; unfold toks
              rw [if_pos (by omega)]; rfl
    | succ g =>
      unfold toks
      by_cases h : s.size ≤ at'
      · rw [if_pos h, if_pos h]
      · rw [if_neg h, if_neg h]
        by_cases hb : blan (byteAt s at') = true
        · rw [if_pos hb, if_pos hb]; exact ih g (at' + 1) (by omega) (by omega)
        · rw [if_neg hb, if_neg hb]
          by_cases h35 : byteAt s at' = 35
          · have := skipN_pos s at' (by omega) h35
            rw [if_pos h35, if_pos h35]; exact ih g _ (by omega) (by omega)
          · rw [if_neg h35, if_neg h35]
            have := fN_pos (rest s at') (by rw [rest_size]; omega)
            rw [ih g (at' + fN (rest s at')) (by omega) (by omega)]

def tk (s : ByteArray) (at' : Nat) : List Wd × Option Flt := toks s (s.size + 1) at'

theorem tk_step (s : ByteArray) (at' : Nat) : tk s at' = if s.size ≤ at' then ([], none)
    else if blan (byteAt s at') then tk s (at' + 1)
    else if byteAt s at' = 35 then tk s (at' + skipN s at')
    else if fE (rest s at') ≠ 0 then ([], some (faultAt s at'))
    else (wordAt s at' :: (tk s (at' + fN (rest s at'))).1, (tk s (at' + fN (rest s at'))).2) := by
  unfold tk
  conv => lhs; unfold toks
  by_cases h : s.size ≤ at'
  · rw [if_pos h, if_pos h]
  · rw [if_neg h, if_neg h]
    by_cases hb : blan (byteAt s at') = true
    · rw [if_pos hb, if_pos hb]; exact toks_fuel s _ _ _ (by omega) (by omega)
    · rw [if_neg hb, if_neg hb]
      by_cases h35 : byteAt s at' = 35
      · have := skipN_pos s at' (by omega) h35
        rw [if_pos h35, if_pos h35]; exact toks_fuel s _ _ _ (by omega) (by omega)
      · rw [if_neg h35, if_neg h35]
        have := fN_pos (rest s at') (by rw [rest_size]; omega)
        rw [toks_fuel s s.size (s.size + 1) (at' + fN (rest s at')) (by omega) (by omega)]

theorem tk_end (s : ByteArray) (k : Nat) (h : s.size ≤ k) : tk s k = ([], none) := by rw [tk_step, if_pos h]
theorem tk_blank (s : ByteArray) (k : Nat) (h : k < s.size) (hb : blan (byteAt s k) = true) : tk s k = tk s (k + 1) := by
  rw [tk_step, if_neg (by omega), if_pos hb]
theorem tk_remark (s : ByteArray) (k : Nat) (h : k < s.size) (h35 : byteAt s k = 35) : tk s k = tk s (k + skipN s k) := by
  rw [tk_step, if_neg (by omega), if_neg (by rw [h35]; decide), if_pos h35]
theorem tk_fault (s : ByteArray) (k : Nat) (h : k < s.size) (hb : blan (byteAt s k) = false) (h35 : byteAt s k ≠ 35) (he : fE (rest s k) ≠ 0) : tk s k = ([], some (faultAt s k)) := by
  rw [tk_step, if_neg (by omega), hb, if_neg (by decide), if_neg h35, if_pos he]
theorem tk_word (s : ByteArray) (k : Nat) (h : k < s.size) (hb : blan (byteAt s k) = false) (h35 : byteAt s k ≠ 35) (he : fE (rest s k) = 0) :
    tk s k = (wordAt s k :: (tk s (k + fN (rest s k))).1, (tk s (k + fN (rest s k))).2) := by
  rw [tk_step, if_neg (by omega), hb, if_neg (by decide), if_neg h35, if_neg (by simpa using he)]

/-- from pos on the runes' steps come to past -/
def lands (s : ByteArray) (pos past : Nat) : Prop :=
  pos ≤ past ∧ past ≤ s.size ∧ (past = s.size ∨ (∃ h : past < s.size, (s[past]).toNat < 128) ∨ ∀ j (h : j < s.size), pos ≤ j → j < past → (s[j]).toNat < 128)

theorem lands_step (s : ByteArray) (pos past : Nat) (h : lands s pos past) (hlt : pos < past) : lands s (pos + (Utf8.decode s pos).2) past := by
  obtain ⟨h1, h2, h3⟩ := h
  have hp : pos < s.size := by omega
  by_cases hb : 128 ≤ (s[pos]).toNat
  · obtain ⟨w1, w2⟩ := dec_wide s pos hp hb
    have hle : pos + (Utf8.decode s pos).2 ≤ past := by
      rcases h3 with h3 | ⟨hq, h3⟩ | h3
      · omega
      · rcases Nat.lt_or_ge past (pos + (Utf8.decode s pos).2) with hc | hc
        · have := w2 past hq (by omega) hc; omega
        · exact hc
      · have := h3 pos hp (by omega) hlt; omega
    refine ⟨hle, h2, ?_⟩
    rcases h3 with h3 | h3 | h3
    · exact .inl h3
    · exact .inr (.inl h3)
    · exact .inr (.inr fun j hj a b => h3 j hj (by omega) b)
  · rw [decode_ascii s pos hp (by omega)]
    refine ⟨by omega, h2, ?_⟩
    rcases h3 with h3 | h3 | h3
    · exact .inl h3
    · exact .inr (.inl h3)
    · exact .inr (.inr fun j hj a b => h3 j hj (by omega) b)

theorem lands_remark (s : ByteArray) (pos : Nat) (h : pos < s.size) (h35 : byteAt s pos = 35) : lands s (pos + 1) (pos + skipN s pos) := by
  have h1 := skipN_pos s pos h h35
  have h2 := skipN_le s pos
  refine ⟨by omega, by omega, ?_⟩
  by_cases he : pos + skipN s pos = s.size
  · exact .inl he
  · have hlt : spanN notNl (s.data.toList.drop pos) < (s.data.toList.drop pos).length := by
      rw [List.length_drop, data_len]; show skipN s pos < _; omega
    have := spanN_stop notNl _ hlt
    refine .inr (.inl ⟨by omega, ?_⟩)
    have hlen : pos + skipN s pos < s.data.toList.length := by rw [data_len]; omega
    have e : (s.data.toList.drop pos)[spanN notNl (s.data.toList.drop pos)] = s.data.toList[pos + skipN s pos] := by
      rw [List.getElem_drop]; rfl
    rw [e, get_data s _ (by omega) hlen] at this
    simp [notNl] at this
    omega

theorem ascii_of_lord (r : Int) (h : lord r = true) : r < 128 := by
  simp [lord, lett, digi] at h; omega
theorem ascii_of_digi (r : Int) (h : digi r = true) : r < 128 := by
  simp [digi] at h; omega
theorem ascii_of_sign (r : Int) (h : isSign r = true) : r < 128 := by
  simp [isSign] at h; omega

theorem fN_ascii (s : ByteArray) (_h0 : 0 < s.size) (he : fE s = 0) : ∀ j (h : j < s.size), j < fN s → (s[j]).toNat < 128 := by
  intro j h hj
  have hl : j < s.data.toList.length := by rw [data_len]; exact h
  unfold fN at hj
  split at hj
  · have := ascii_of_lord _ (spanN_get lord _ j hl hj)
    rw [get_data s j h hl] at this; omega
  · split at hj
    · have := ascii_of_digi _ (spanN_get digi _ j hl hj)
      rw [get_data s j h hl] at this; omega
    · rename_i n1 n2
      split at hj
      · rename_i hp
        have e : ∀ (l : List UInt8) (hl : j < l.length), Lib.hasPrefix l [45, 62] = true → j < 2 → (l[j]).toNat < 128 := by
          intro l hl hp hj
          cases l with
          | nil => simp at hl
          | cons a l =>
            cases l with
            | nil => simp [Lib.hasPrefix] at hp
            | cons b l =>
              simp [Lib.hasPrefix] at hp
              obtain ⟨h1, h2⟩ := hp
              cases j with
              | zero => rw [List.getElem_cons_zero, ← h1]; decide
              | succ j =>
                cases j with
                | zero => rw [List.getElem_cons_succ, List.getElem_cons_zero, ← h2]; decide
                | succ j => omega
        have := e _ hl hp hj
        rw [get_data s j h hl] at this; omega
      · rename_i hp
        have hj0 : j = 0 := by omega
        subst hj0
        have hs : isSign (hd s) = true := by
          cases hq : isSign (hd s)
          · exfalso
            unfold fE at he
            simp [n1, n2, hp, hq] at he
          · rfl
        have := ascii_of_sign _ hs
        rw [hd_eq s h] at this
        omega

theorem rest_get (s : ByteArray) (k j : Nat) (h : k + j < s.size) (h' : j < (rest s k).size) : (rest s k)[j] = s[k + j] := by
  have h1 : j < (rest s k).data.toList.length := by rw [data_len]; exact h'
  have h2 : k + j < s.data.toList.length := by rw [data_len]; exact h
  rw [← get_data _ j h' h1, ← get_data s (k + j) h h2]
  simp only [rest_data, List.getElem_drop]

theorem lands_word (s : ByteArray) (pos : Nat) (h : pos < s.size) (he : fE (rest s pos) = 0) : lands s (pos + 1) (pos + fN (rest s pos)) ∧ (s[pos]).toNat < 128 := by
  have hr : 0 < (rest s pos).size := by rw [rest_size]; omega
  have h1 := fN_pos _ hr
  have h2 := fN_le _ hr
  rw [rest_size] at h2
  have ha := fN_ascii _ hr he
  have key : ∀ j (h : j < s.size), pos ≤ j → j < pos + fN (rest s pos) → (s[j]).toNat < 128 := by
    intro j hj a b
    have hj' : j - pos < (rest s pos).size := by rw [rest_size]; omega
    have := ha (j - pos) hj' (by omega)
    rw [rest_get s pos (j - pos) (by omega) hj'] at this
    simpa [show pos + (j - pos) = j by omega] using this
  exact ⟨⟨by omega, by omega, .inr (.inr fun j hj a b => key j hj (by omega) b)⟩, key pos h (Nat.le_refl _) (by omega)⟩

theorem width_pos (s : ByteArray) (pos : Nat) (h : pos < s.size) : 1 ≤ (Utf8.decode s pos).2 := by
  by_cases hb : 128 ≤ (s[pos]).toNat
  · exact (decode_high s pos h hb).2
  · rw [decode_ascii s pos h (by omega)]; exact Nat.le_refl _
/-- a rune's tests are its first byte's -/
theorem rune_blank (s : ByteArray) (pos : Nat) (h : pos < s.size) : blan ((Utf8.decode s pos).1 : Int) = blan (byteAt s pos) := by
  rw [byteAt_eq s pos h]
  by_cases hb : 128 ≤ (s[pos]).toNat
  · have := (decode_high s pos h hb).1
    have e1 : blan ((Utf8.decode s pos).1 : Int) = false := by simp [blan]; omega
    have e2 : blan ((s[pos]).toNat : Int) = false := by simp [blan]; omega
    rw [e1, e2]
  · rw [decode_ascii s pos h (by omega)]
theorem rune_hash (s : ByteArray) (pos : Nat) (h : pos < s.size) : (((Utf8.decode s pos).1 : Int) == 35) = decide (byteAt s pos = 35) := by
  rw [byteAt_eq s pos h]
  by_cases hb : 128 ≤ (s[pos]).toNat
  · have := (decode_high s pos h hb).1
    rw [Bool.eq_iff_iff]; simp; omega
  · rw [decode_ascii s pos h (by omega)]
    rw [Bool.eq_iff_iff]; simp
theorem width_one (s : ByteArray) (pos : Nat) (h : pos < s.size) (hb : byteAt s pos < 128) : (Utf8.decode s pos).2 = 1 := by
  rw [byteAt_eq s pos h] at hb
  rw [decode_ascii s pos h (by omega)]
end Sc
end Go.Proofs.YtkpdddlonmkebaaDoor
namespace Go.Proofs.YtkpdddlonmkebaaDoor
open Go.RowKit

/-- words as cells -/
def Sc.flat (l : List Sc.Wd) : List Value := l.flatMap fun x => [.int .i8 x.1, .string x.2.1, .int .i64 x.2.2.1, .int .i64 x.2.2.2]
theorem Sc.flat_length (l : List Sc.Wd) : (Sc.flat l).length = l.length * 4 := by
  induction l with
  | nil => rfl
  | cons a l ih => unfold Sc.flat at ih ⊢; rw [List.flatMap_cons, List.length_append, ih]; simp; omega
theorem Sc.flat_snoc (l : List Sc.Wd) (x : Sc.Wd) : Sc.flat (l ++ [x]) = Sc.flat l ++ [.int .i8 x.1, .string x.2.1, .int .i64 x.2.2.1, .int .i64 x.2.2.2] := by
  unfold Sc.flat; rw [List.flatMap_append]; simp


theorem remark_any (s : ByteArray) (w : World) :
    Calls Tryd.prog 30 #[.string s] w fun e w' => e = .returned (.int .i64 (Sc.spanN Sc.notNl s.data.toList)) ∧ Below w.heap.size w w' := by
  have hsp := span_notNl s
  generalize Sc.spanN Sc.notNl s.data.toList = n at *
  go_enter Tryd.func30, Tryd.ntmps30
  go_wp2_with (go_at_call 50; refine (hsp _).mono ?_; rintro e w' ⟨rfl, pos, rfl⟩)
  go_ret
  exact ⟨rfl, (Below.refl _ _).alloc (Nat.le_refl _) _⟩

theorem info_Word : (Tryd.prog.info? 26).map (fun i => (i.zero, i.size, i.bytes)) = some (some (.agg #[.int .i8 0, .string ⟨#[]⟩, .int .i64 0, .int .i64 0]), 4, 40) := by kernel_rfl

/-- a round's state: the iterator, the words so far, what the rest gives -/
structure Sc.St (s : ByteArray) (w wr : World) (v4 v5 : Value) (pos past : Nat) (done : List Sc.Wd) : Prop where
  iter : wr.heap[w.heap.size]? = some (.stringIter s pos)
  own : wr.ownsRow (w.heap.size + 1) 26 4 v4 done.length (Sc.flat done)
  below : Below w.heap.size w wr
  past5 : v5 = .int .i64 past
  pos_le : pos ≤ s.size
  past_le : past ≤ s.size
  land : Sc.lands s pos past ∨ past ≤ pos
  tok : Sc.tk s 0 = (done ++ (Sc.tk s (max pos past)).1, (Sc.tk s (max pos past)).2)
  len : done.length ≤ max pos past

/-- what scan.All leaves of a text that has no fault | of one that has -/
def Sc.AllPost (s : ByteArray) (w : World) (e : Ending) (w' : World) : Prop :=
  (∃ v, (Sc.tk s 0).2 = none ∧ e = .returned (.tuple #[v, .nilIface]) ∧ w'.ownsRow (w.heap.size + 1) 26 4 v ((Sc.tk s 0).1.length + 1) (Sc.flat ((Sc.tk s 0).1 ++ [(0, ⟨#[]⟩, 0, s.size)])) ∧ Below w.heap.size w w') ∨
  (∃ f N, (Sc.tk s 0).2 = some f ∧ e = .returned (.tuple #[.slice none 0 0, .iface 53 (.pointer (some ⟨N, 0, none⟩))]) ∧ w.heap.size ≤ N ∧ w'.heap[N]? = some (.cells #[.int .i64 f.1, .int .i64 f.2.1, .string f.2.2] 59) ∧ Below w.heap.size w w')

set_option maxHeartbeats 1000000 in
set_option maxRecDepth 100000 in
theorem all_loop (s : ByteArray) (hs : s.size ≤ 65536) (w : World) (tp : TypeId) (p : Value) (hvar : w.var? Tryd.prog "strconv.ErrRange" = some #[.iface tp p]) :
    Calls Tryd.prog 12 #[.string s] w (Sc.AllPost s w) := by
  have HV := Lib.hid hvar
  clear hvar
  have i1 : (s.size : Int) ≤ 65536 := by omega
  go_enter Tryd.func12, Tryd.ntmps12
  go_wp2_with fail
  go_loopw [4, 5] (fun v4 v5 wr => ∃ (pos past : Nat) (done : List Sc.Wd), Sc.St s w wr v4 v5 pos past done) (fun _ _ wr => s.size - wr.iterPos w.heap.size)
  case atStart =>
    refine ⟨0, 0, [], ⟨World.iter_heap _ _ _, World.ownsRow_nil _ _ _ _, (Below.refl _ _).alloc (Nat.le_refl _) _, rfl, Nat.zero_le _, Nat.zero_le _, .inr (Nat.le_refl _), rfl, Nat.zero_le _⟩⟩
  case round =>
    obtain ⟨pos, past, done, hst⟩ := hrel
    obtain ⟨hI, hO, hB, rfl, hps, hpl, hland, htok, hlen⟩ := hst
    have HT := Lib.hid htok
    clear htok
    have hmu : wr.iterPos w.heap.size = pos := by simp [World.iterPos, hI]
    have HM := Lib.hid hmu
    clear hmu
    have hib : w.heap.size < wr.heap.size := heap_lt hI
    by_cases hp : pos < s.size
    · have hnext : ∀ ty, (Instr.next (.pointer (some ⟨w.heap.size, 0, none⟩)) true ty).run Tryd.prog wr = _ := fun ty => Lib.run_next_any_at wr w.heap.size s pos ty hI hp
      have hI1 := Lib.iterAt_heap wr w.heap.size s pos (pos + (Utf8.decode s pos).2) hI
      have hO1 := ownsRow_iterAt hO (Nat.lt_succ_self _) s (pos + (Utf8.decode s pos).2)
      have hB1 := Lib.below_iterAt hB (Nat.le_refl _) s (pos + (Utf8.decode s pos).2)
      have hwl := decode_le s pos
      generalize wr.iterAt w.heap.size s (pos + (Utf8.decode s pos).2) = W1 at hnext hI1 hO1 hB1
      have hm1 : W1.iterPos w.heap.size = pos + (Utf8.decode s pos).2 := by simp [World.iterPos, hI1]
      have HM1 := Lib.hid hm1
      clear hm1
      have H1 := Lib.hid hI1
      clear hI1 hI
      by_cases hlt : pos < past
      · -- behind the last word's end: nothing
        have hl : Sc.lands s pos past := by rcases hland with h | h; exact h; omega
        have hl2 := Sc.lands_step s pos past hl hlt
        have hwd := Sc.width_pos s pos hp
        go_wp2_with fail
        go_roundw
        case rel =>
          refine ⟨_, past, done, ⟨H1.out, hO1, hB1, rfl, by have := hl2.1; omega, hpl, .inl hl2, ?_, ?_⟩⟩
          · rw [show max (pos + (Utf8.decode s pos).2) past = max pos past by have := hl2.1; omega]; exact HT.out
          · have := hl2.1; omega
        case measure =>
          rw [HM.out, HM1.out]; omega
      · have hge : past ≤ pos := by omega
        have hmax : max pos past = pos := by omega
        rw [hmax] at hlen
        have HMX := Lib.hid hmax
        clear hmax hland
        have hbk := scan_blank_any ((Utf8.decode s pos).1 : Int)
        rw [Sc.rune_blank s pos hp] at hbk
        have hh := Sc.rune_hash s pos hp
        cases hbl : Sc.blan (Sc.byteAt s pos)
        · rw [hbl] at hbk
          by_cases h35 : Sc.byteAt s pos = 35
          · -- a remark
            have hw1 := Sc.width_one s pos hp (by omega)
            have htk := Sc.tk_remark s pos hp h35
            have hln := Sc.lands_remark s pos hp h35
            have hk1 := Sc.skipN_pos s pos hp h35
            have hrm : ∀ w : World, Calls Tryd.prog 30 #[.string (s.extract pos s.size)] w fun e w' => e = .returned (.int .i64 (Sc.skipN s pos)) ∧ Below w.heap.size w w' := by
              intro w
              have := remark_any (Sc.rest s pos) w
              rw [Sc.rest_data] at this
              exact this
            rw [hw1] at HM1 H1
            have hh' : (((Utf8.decode s pos).1 : Int) == 35) = true := by rw [hh, h35]; rfl
            clear hh hw1 h35 hbl
            generalize Sc.skipN s pos = k at *
            have hkl : pos + k ≤ s.size := hln.2.1
            have HTK := Lib.hid htk
            clear htk
            go_wp2_with (first | (go_at_call 29; refine (hbk _).mono ?_; rintro e w' ⟨rfl, rfl⟩) | (go_at_call 30; refine (hrm _).mono ?_; rintro e w2 ⟨rfl, hb2⟩; have hI2 := Lib.hid (heap_below hb2 (heap_lt H1.out) H1.out); have hO2 := ownsRow_below hO1 hb2; have hB2 := hB1.trans (hb2.mono hB1.size)))
            go_roundw
            case rel =>
              refine ⟨pos + 1, pos + k, done, ⟨hI2.out, hO2, hB2, by go_num, by omega, hkl, .inl hln, ?_, by omega⟩⟩
              have := HT.out
              rw [HMX.out, HTK.out] at this
              rw [show max (pos + 1) (pos + k) = pos + k by omega]; exact this
            case measure =>
              have hm2 : w2.iterPos w.heap.size = pos + 1 := by simp [World.iterPos, hI2.out]
              rw [HM.out, hm2]; omega
          · -- a word, or its fault
            have hh' : (((Utf8.decode s pos).1 : Int) == 35) = false := by rw [hh]; simp [h35]
            have hrs : (Sc.rest s pos).size ≤ 281474976710656 := by rw [Sc.rest_size]; omega
            have hr0 : 0 < (Sc.rest s pos).size := by rw [Sc.rest_size]; omega
            have hfst : ∀ w1 : World, Below w.heap.size w w1 → Calls Tryd.prog 31 #[.string (s.extract pos s.size)] w1 fun e w' => e = .returned (.tuple #[.agg #[.int .i8 (Sc.fK (Sc.rest s pos)), .string ((Sc.rest s pos).extract 0 (Sc.fN (Sc.rest s pos))), .int .i64 (Sc.fV (Sc.rest s pos)), .int .i64 0], .int .i64 (Sc.fE (Sc.rest s pos))]) ∧ Below w1.heap.size w1 w' :=
              fun w1 hb => first_any (Sc.rest s pos) hrs hr0 w1 tp p (var_at hb HV.out)
            have hn1 := Sc.fN_pos _ hr0
            have hn2 := Sc.fN_le _ hr0
            rw [Sc.rest_size] at hn2
            have hts : ((Sc.rest s pos).extract 0 (Sc.fN (Sc.rest s pos))).size = Sc.fN (Sc.rest s pos) := by
              have := Sc.fN_le _ hr0
              simp; omega
            by_cases hE : Sc.fE (Sc.rest s pos) = 0
            · have hlw := Sc.lands_word s pos hp hE
              have hw1 := Sc.width_one s pos hp (by rw [Sc.byteAt_eq s pos hp]; have := hlw.2; omega)
              have htk := Sc.tk_word s pos hp hbl h35 hE
              rw [hE] at hfst
              rw [hw1] at HM1 H1
              unfold Sc.wordAt at htk
              generalize hkk : Sc.fK (Sc.rest s pos) = kk at *
              generalize (Sc.rest s pos).extract 0 (Sc.fN (Sc.rest s pos)) = tt at *
              generalize Sc.fV (Sc.rest s pos) = vv at *
              generalize Sc.fN (Sc.rest s pos) = nn at *
              have hln := hlw.1
              have hkl : pos + nn ≤ s.size := hln.2.1
              have HTK := Lib.hid htk
              have hts2 : (tt.size : Int) ≤ 65536 := by omega
              have HTS := Lib.hid hts
              clear htk hts hkk hh hw1 hlw hE h35 hbl hrs hr0
              obtain ⟨i0, hi, hz0, hz1, hz2⟩ := info_parts info_Word
              have hol := hO1.lt
              go_wp2_with (first | (go_at_call 29; refine (hbk _).mono ?_; rintro e w' ⟨rfl, rfl⟩) | (go_at_call 31; refine (hfst _ hB1).mono ?_; rintro e w2 ⟨rfl, hb2⟩; have hI2 := Lib.hid (heap_below hb2 (heap_lt H1.out) H1.out); have hO2 := ownsRow_below hO1 hb2; have hB2 := hB1.trans (hb2.mono hB1.size)) | (at_builtin; refine wpList_append_own _ rfl _ _ 22 rfl (w.heap.size + 1) 26 i0 (.agg #[.int .i8 0, .string ⟨#[]⟩, .int .i64 0, .int .i64 0]) 4 40 Tryd.underlying22 hi hz0 hz1 hz2 rfl (by decide) _ _ _ rfl ((hO2.alloc _).alloc _) ⟨w2.heap.size + 1, 0, none⟩ 1 1 [.int .i8 kk, .string tt, .int .i64 vv, .int .i64 pos] rfl rfl ?d1 ?d2 ?d3 ?d4 ?d5 ?_))
              case d1 => exact cells_of_heap (heap_new2 w2 _ _)
              case d2 =>
                intro u hu
                simp at hu
                rcases hu with rfl | rfl | rfl | rfl <;> rfl
              case d3 => unfold maxLen; omega
              case d4 => omega
              case d5 => have := hB2.size; simp; omega
              intro v' w3 hown hgrow _
              have hBB : Below w.heap.size w ((w2.alloc (.cells #[.int .i8 kk, .string tt, .int .i64 vv, .int .i64 pos] 26)).alloc (.cells #[.int .i8 kk, .string tt, .int .i64 vv, .int .i64 pos] 26)) := (hB2.alloc hB2.size _).alloc (by have := hB2.size; simp; omega) _
              have hlto := hO2.lt
              have hB3 : Below w.heap.size w w3 := hBB.grown hgrow hBB.size fun k hk => by have := (hlto k hk).1; omega
              have hI3 : w3.heap[w.heap.size]? = some (.stringIter s (pos + 1)) := by
                rw [hgrow.block w.heap.size (heap_lt (heap_old (heap_old hI2.out _) _)) (fun hk => by have := (hlto _ hk.symm).1; omega)]
                exact heap_old (heap_old hI2.out _) _
              have HI3 := Lib.hid hI3
              clear hI3
              go_wp2_with fail
              go_roundw
              case rel =>
                refine ⟨pos + 1, pos + nn, done ++ [(kk, tt, vv, pos)], ⟨HI3.out, ?_, hB3, ?_, by omega, hkl, .inl hln, ?_, ?_⟩⟩
                · rw [Sc.flat_snoc, List.length_append]; exact hown
                · rw [← HTS.out]; go_num
                · have := HT.out
                  rw [HMX.out, HTK.out] at this
                  rw [show max (pos + 1) (pos + nn) = pos + nn by omega, this]
                  simp
                · rw [List.length_append]; simp; omega
              case measure =>
                have hm3 : w3.iterPos w.heap.size = pos + 1 := by simp [World.iterPos, HI3.out]
                rw [HM.out, hm3]; omega
            · -- a fault
              have htk := Sc.tk_fault s pos hp hbl h35 hE
              unfold Sc.faultAt at htk
              have hE2 : (Sc.fE (Sc.rest s pos) != 0) = true := by rw [bne_iff_ne]; exact hE
              generalize hkk : Sc.fK (Sc.rest s pos) = kk at *
              generalize (Sc.rest s pos).extract 0 (Sc.fN (Sc.rest s pos)) = tt at *
              generalize Sc.fV (Sc.rest s pos) = vv at *
              generalize Sc.fN (Sc.rest s pos) = nn at *
              generalize Sc.fE (Sc.rest s pos) = ee at *
              have hres : (Sc.tk s 0).2 = some (ee, pos, tt) := by
                have := HT.out
                rw [HMX.out, htk] at this
                rw [this]
              have HR := Lib.hid hres
              clear htk hts hkk hh hE h35 hbl hrs hr0 hres hn1 hn2
              go_wp2_with (first | (go_at_call 29; refine (hbk _).mono ?_; rintro e w' ⟨rfl, rfl⟩) | (go_at_call 31; refine (hfst _ hB1).mono ?_; rintro e w2 ⟨rfl, hb2⟩; have hB2 := hB1.trans (hb2.mono hB1.size)))
              go_region
              go_wp2_with fail
              go_ret2
              refine .inr ⟨(ee, pos, tt), w2.heap.size + 1, HR.out, rfl, by have := hB2.size; omega, ?_, ?_⟩
              · exact heap_new2 w2 _ _
              · exact ((hB2.alloc hB2.size _).alloc (by have := hB2.size; simp; omega) _).drew
        · rw [hbl] at hbk
          have hw1 := Sc.width_one s pos hp (by have := hbl; simp [Sc.blan] at this; omega)
          have htk := Sc.tk_blank s pos hp hbl
          rw [hw1] at HM1 H1
          clear hh hw1
          have HTK := Lib.hid htk
          clear htk hbl
          go_wp2_with (go_at_call 29; refine (hbk _).mono ?_; rintro e w' ⟨rfl, rfl⟩)
          go_roundw
          case rel =>
            refine ⟨pos + 1, past, done, ⟨H1.out, hO1, hB1, rfl, by omega, hpl, .inr (by omega), ?_, by omega⟩⟩
            have := HT.out
            rw [HMX.out, HTK.out] at this
            rw [show max (pos + 1) past = pos + 1 by omega]; exact this
          case measure =>
            rw [HM.out, HM1.out]; omega
    · -- the text's end
      have hnext : ∀ ty, (Instr.next (.pointer (some ⟨w.heap.size, 0, none⟩)) true ty).run Tryd.prog wr = _ := fun ty => Lib.run_next_end_at wr w.heap.size s pos ty hI hp
      have htk := Sc.tk_end s (max pos past) (by omega)
      have hdone := HT.out
      rw [htk, List.append_nil] at hdone
      have HD := Lib.hid hdone
      have hlen2 : done.length ≤ s.size := by omega
      clear htk hdone hlen hland
      obtain ⟨i0, hi, hz0, hz1, hz2⟩ := info_parts info_Word
      go_wp2_with (first | (at_builtin; refine wpList_append_own _ rfl _ _ 22 rfl (w.heap.size + 1) 26 i0 (.agg #[.int .i8 0, .string ⟨#[]⟩, .int .i64 0, .int .i64 0]) 4 40 Tryd.underlying22 hi hz0 hz1 hz2 rfl (by decide) _ _ _ rfl (hO.alloc _) ⟨wr.heap.size, 0, none⟩ 1 1 [.int .i8 0, .string ⟨#[]⟩, .int .i64 0, .int .i64 s.size] rfl rfl ?c1 ?c2 ?c3 ?c4 ?c5 ?_))
      case c2 => exact ⟨rfl, rfl, rfl, rfl⟩
      case c3 => unfold maxLen; omega
      case c4 => omega
      case c5 => exact Nat.le_of_lt hib
      intro v' w1 hown hgrow _
      have hb1 : Below w.heap.size w w1 := (hB.alloc hB.size _).grown hgrow (by simp; omega) fun k hk => by have := (hO.lt k hk).1; omega
      go_wp2_with fail
      go_ret2
      refine .inl ⟨v', by rw [HD.out], rfl, ?_, hb1⟩
      rw [HD.out, Sc.flat_snoc]
      exact hown

set_option maxHeartbeats 400000 in
set_option maxRecDepth 100000 in
theorem all_long (s : ByteArray) (hs : (65536 : Int) < s.size) (w : World) :
    Calls Tryd.prog 12 #[.string s] w fun e w' => ∃ N, e = .returned (.tuple #[.slice none 0 0, .iface 53 (.pointer (some ⟨N, 0, none⟩))]) ∧ w.heap.size ≤ N ∧ w'.heap[N]? = some (.cells #[.int .i64 3, .int .i64 0, .string ⟨#[]⟩] 59) ∧ Below w.heap.size w w' := by
  go_enter Tryd.func12, Tryd.ntmps12
  go_wp2_with fail
  go_ret2
  exact ⟨w.heap.size, rfl, Nat.le_refl _, heap_new w _, (Below.refl _ _).alloc (Nat.le_refl _) _⟩
end Go.Proofs.YtkpdddlonmkebaaDoor
