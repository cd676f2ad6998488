/-
  Plain definitions for layer 1 (scan): letters, digits, blanks as Bools on Int; no program in it. Contracts of layer 1's leaves: what each answers; the world stays as it was. scan.word, strings.Clone. Plain facts on UTF-8 and on the first place where a predicate on runes fails. scan.span over each of the four predicates that the program hands it: how many of the first bytes belong. scan.name: a letter, and letters and digits behind it. Plain facts on numerals. scan.number: digits; too great, with a 0 ahead or a letter behind: an error. strings.ContainsRune of the signs, at a rune of one byte. scan.first: the word that a text begins with. scan.first at every text that is not empty, in one contract; scan.Name.
-/
import Derived.Test.YtocopanencbmeaaGreatDoorRows
import Derived.WalkKit
import Derived.WalkSpells
import Derived.WalkLawsBesides
import Derived.Lib.Hide
import Derived.Deep.QuietTactic
import Derived.BigQuiet
import Derived.Test.YtocopanencbmeaaGreatDoorMem
import Derived.Test.YtocopanencbmeaaGreatDoorShelf
import Derived.Lib.DecodeN
import Derived.Lib.Strings
import Derived.Laws.RangeAny
import Derived.Lib.ParseIntB
import Derived.WalkSmall
import Derived.Laws.Cover4
namespace Go.Proofs.YtocopanencbmeaaGreatDoor
namespace Sc
/-- a letter: A to Z, a to z, the underscore -/
def lett (r : Int) : Bool := decide ((65 ≤ r ∧ r ≤ 90) ∨ (97 ≤ r ∧ r ≤ 122) ∨ r = 95)
def digi (r : Int) : Bool := decide (48 ≤ r ∧ r ≤ 57)
def blan (r : Int) : Bool := decide (r = 32 ∨ r = 9 ∨ r = 10 ∨ r = 13)
def lord (r : Int) : Bool := lett r || digi r
def notNl (r : Int) : Bool := decide (r ≠ 10)
def isKey (s : ByteArray) : Bool := decide (s.toList ∈ ([[108, 101, 116], [105, 110], [105, 102], [116, 104, 101, 110], [101, 108, 115, 101], [114, 101, 99], [99, 97, 115, 101], [111, 102], [102, 115, 116], [115, 110, 100], [105, 110, 108], [105, 110, 114], [116, 114, 117, 101], [102, 97, 108, 115, 101], [105, 110, 116], [98, 111, 111, 108]] : List (List UInt8)))
end Sc
end Go.Proofs.YtocopanencbmeaaGreatDoor
namespace Go.Proofs.YtocopanencbmeaaGreatDoor
open Go.RowKit

theorem ret_b {a b : Bool} (h : b = a) : Ending.returned (.bool b) = .returned (.bool a) := by rw [h]
theorem ret_i {k : IntKind} {a b : Int} (h : b = a) : Ending.returned (.int k a) = .returned (.int k b) := by rw [h]

set_option maxHeartbeats 400000 in
theorem scan_letter_any (r : Int) (w : World) :
    Calls Tryz.prog 70 #[.int .i32 r] w fun e w' => e = .returned (.bool (Sc.lett r)) ∧ w = w' := by
  go_enter Tryz.func70, Tryz.ntmps70
  go_wp2
  all_goals go_ret
  all_goals refine ⟨ret_b ?_, rfl⟩
  all_goals (rw [Bool.eq_iff_iff]; simp [Sc.lett]; try omega)

set_option maxHeartbeats 400000 in
theorem scan_digit_any (r : Int) (w : World) :
    Calls Tryz.prog 72 #[.int .i32 r] w fun e w' => e = .returned (.bool (Sc.digi r)) ∧ w = w' := by
  go_enter Tryz.func72, Tryz.ntmps72
  go_wp2
  all_goals go_ret
  all_goals refine ⟨ret_b ?_, rfl⟩
  all_goals (rw [Bool.eq_iff_iff]; simp [Sc.digi]; try omega)

set_option maxHeartbeats 400000 in
theorem ref_letter_any (r : Int) (w : World) :
    Calls Tryz.prog 59 #[.int .u8 r] w fun e w' => e = .returned (.bool (Sc.lett r)) ∧ w = w' := by
  go_enter Tryz.func59, Tryz.ntmps59
  go_wp2
  all_goals go_ret
  all_goals refine ⟨ret_b ?_, rfl⟩
  all_goals (rw [Bool.eq_iff_iff]; simp [Sc.lett]; try omega)

set_option maxHeartbeats 400000 in
theorem ref_digit_any (r : Int) (w : World) :
    Calls Tryz.prog 60 #[.int .u8 r] w fun e w' => e = .returned (.bool (Sc.digi r)) ∧ w = w' := by
  go_enter Tryz.func60, Tryz.ntmps60
  go_wp2
  all_goals go_ret
  all_goals refine ⟨ret_b ?_, rfl⟩
  all_goals (rw [Bool.eq_iff_iff]; simp [Sc.digi]; try omega)

set_option maxHeartbeats 400000 in
theorem scan_Key_any (s : ByteArray) (w : World) :
    Calls Tryz.prog 80 #[.string s] w fun e w' => e = .returned (.bool (Sc.isKey s)) ∧ w = w' := by
  go_enter Tryz.func80, Tryz.ntmps80
  go_wp2
  all_goals go_ret
  all_goals exact ⟨ret_b (by simp_all [Sc.isKey]), rfl⟩

set_option maxHeartbeats 400000 in
theorem ref_Key_any (s : ByteArray) (w : World) :
    Calls Tryz.prog 58 #[.string s] w fun e w' => e = .returned (.bool (Sc.isKey s)) ∧ w = w' := by
  go_enter Tryz.func58, Tryz.ntmps58
  go_wp2
  all_goals go_ret
  all_goals exact ⟨ret_b (by simp_all [Sc.isKey]), rfl⟩
end Go.Proofs.YtocopanencbmeaaGreatDoor
namespace Go.Proofs.YtocopanencbmeaaGreatDoor
open Go.RowKit


theorem below_set4 {B b : Nat} {w w1 : World} (hb : Below B w w1) (h : B ≤ b) (v0 v1 v2 v3 : Value) :
    Below B w ((((w1.setCell ⟨b, 0, none⟩ v0).setCell ⟨b, 1, none⟩ v1).setCell ⟨b, 2, none⟩ v2).setCell ⟨b, 3, none⟩ v3) :=
  (((hb.setCell h v0).setCell h v1).setCell h v2).setCell h v3


set_option maxHeartbeats 400000 in
theorem clone_any (s : ByteArray) (hs : s.size ≤ 281474976710656) (w : World) :
    Calls Tryz.prog 37 #[.string s] w fun e w' => e = .returned (.string s) ∧ Below w.heap.size w w' := by
  go_enter Tryz.func37, Tryz.ntmps37
  go_wp2_with (go_at_call 54; refine (Tryz.stringslite_Clone s _ hs).mono ?_; rintro e w' ⟨rfl, hb⟩)
  go_ret
  exact ⟨rfl, hb⟩

set_option maxHeartbeats 400000 in
theorem word_any (k : Int) (s : ByteArray) (hs : s.size ≤ 281474976710656) (w : World) :
    Calls Tryz.prog 76 #[.int .i8 k, .string s] w fun e w' => e = .returned (.agg #[.int .i8 k, .string s, .int .i64 0, .int .i64 0]) ∧ Below w.heap.size w w' := by
  go_enter Tryz.func76, Tryz.ntmps76
  go_wp2_with (go_at_call 37; refine (clone_any s hs _).mono ?_; rintro e w' ⟨rfl, hb⟩; obtain ⟨hc, hf⟩ := bcell hb)
  refine bodyPost_ret (v := .agg #[.int .i8 k, .string s, .int .i64 0, .int .i64 0]) (by simp [results, Tryz.results76, go_sem, hc]) rfl ⟨rfl, ?_⟩
  exact below_set4 (((Below.refl _ _).alloc (Nat.le_refl _) _).trans (hb.mono (by simp))) (Nat.le_refl _) _ _ _ _
end Go.Proofs.YtocopanencbmeaaGreatDoor
namespace Go.Proofs.YtocopanencbmeaaGreatDoor
namespace Sc
theorem get!_eq (s : ByteArray) (j : Nat) (h : j < s.size) : s.get! j = s[j] := get_at s j h

theorem dec_wide (s : ByteArray) (pos : Nat) (h : pos < s.size) (hb : 128 ≤ s[pos].toNat) :
    pos + (Utf8.decode s pos).2 ≤ s.size ∧ ∀ j (hj : j < s.size), pos ≤ j → j < pos + (Utf8.decode s pos).2 → 128 ≤ s[j].toNat := by
  have g0 : (s.get! pos).toNat = s[pos].toNat := by rw [get!_eq s pos h]
  have key : pos + (Utf8.decode s pos).2 ≤ s.size ∧ ((Utf8.decode s pos).2 ≤ 1 ∨ (128 ≤ (s.get! (pos + 1)).toNat ∧ ((Utf8.decode s pos).2 ≤ 2 ∨ (128 ≤ (s.get! (pos + 2)).toNat ∧ ((Utf8.decode s pos).2 ≤ 3 ∨ (128 ≤ (s.get! (pos + 3)).toNat ∧ (Utf8.decode s pos).2 ≤ 4)))))) := by
    rw [Lib.decode_at]
    have hb' : 128 ≤ (s.get! pos).toNat := by omega
    generalize (s.get! pos).toNat = b0 at *
    generalize (s.get! (pos + 1)).toNat = b1 at *
    generalize (s.get! (pos + 2)).toNat = b2 at *
    generalize (s.get! (pos + 3)).toNat = b3 at *
    unfold Lib.decodeN
    repeat' split
    all_goals simp only
    all_goals omega
  obtain ⟨k1, k2⟩ := key
  refine ⟨k1, fun j hj h1 h2 => ?_⟩
  have hd : j = pos ∨ j = pos + 1 ∨ j = pos + 2 ∨ j = pos + 3 := by omega
  rw [← get!_eq s j hj]
  rcases hd with rfl | rfl | rfl | rfl <;> omega

/-- how many of s's first bytes meet q -/
def spanN (q : Int → Bool) (l : List UInt8) : Nat := (l.takeWhile fun b => q (b.toNat : Int)).length

theorem spanN_le (q : Int → Bool) (l : List UInt8) : spanN q l ≤ l.length := by
  unfold spanN
  exact (List.takeWhile_sublist _).length_le

theorem spanN_cons (q : Int → Bool) (b : UInt8) (l : List UInt8) : spanN q (b :: l) = if q (b.toNat : Int) then spanN q l + 1 else 0 := by
  unfold spanN
  rw [List.takeWhile_cons]
  split <;> simp

theorem spanN_get (q : Int → Bool) : ∀ (l : List UInt8) (k : Nat) (h : k < l.length), k < spanN q l → q (l[k].toNat : Int) = true := by
  intro l
  induction l with
  | nil => intro k h; simp at h
  | cons b l ih =>
    intro k h hk
    rw [spanN_cons] at hk
    by_cases hq : q (b.toNat : Int) = true
    · rw [if_pos hq] at hk
      cases k with
      | zero => exact hq
      | succ k => exact ih k (by simpa using h) (by omega)
    · rw [if_neg hq] at hk; omega

theorem spanN_stop (q : Int → Bool) : ∀ (l : List UInt8) (h : spanN q l < l.length), q (l[spanN q l].toNat : Int) = false := by
  intro l
  induction l with
  | nil => intro h; simp at h
  | cons b l ih =>
    intro h
    by_cases hq : q (b.toNat : Int) = true
    · have e : spanN q (b :: l) = spanN q l + 1 := by rw [spanN_cons, if_pos hq]
      have h' : spanN q l < l.length := by rw [e] at h; simpa using h
      simp only [e, List.getElem_cons_succ]
      exact ih h'
    · have e : spanN q (b :: l) = 0 := by rw [spanN_cons, if_neg hq]
      simp only [e, List.getElem_cons_zero]
      simpa using hq

/-- one byte more -/
theorem spanN_more (q : Int → Bool) (l : List UInt8) (k : Nat) (h : k < l.length) (hk : k ≤ spanN q l) (hq : q (l[k].toNat : Int) = true) : k + 1 ≤ spanN q l := by
  rcases Nat.lt_or_ge k (spanN q l) with h1 | h1
  · omega
  · have e : spanN q l = k := by omega
    have h2 : spanN q l < l.length := by omega
    have := spanN_stop q l h2
    simp only [e] at this
    rw [hq] at this; cases this

theorem spanN_eq (q : Int → Bool) (l : List UInt8) (k : Nat) (h : k < l.length) (hk : k ≤ spanN q l) (hq : q (l[k].toNat : Int) = false) : spanN q l = k := by
  rcases Nat.lt_or_ge k (spanN q l) with h1 | h1
  · have := spanN_get q l k h h1
    rw [hq] at this; cases this
  · omega

theorem spanN_jump (q : Int → Bool) (l : List UInt8) (k : Nat) (hk : k ≤ spanN q l) : ∀ (d : Nat), k + d ≤ l.length → (∀ j (hj : j < l.length), k ≤ j → j < k + d → q (l[j].toNat : Int) = true) → k + d ≤ spanN q l := by
  intro d
  induction d with
  | zero => intro _ _; omega
  | succ d ih =>
    intro h1 h2
    have := ih (by omega) (fun j hj a b => h2 j hj a (by omega))
    have := spanN_more q l (k + d) (by omega) this (h2 (k + d) (by omega) (by omega) (by omega))
    omega

theorem get_data (s : ByteArray) (k : Nat) (_h : k < s.size) (h' : k < s.data.toList.length) : s.data.toList[k] = s[k] := by
  simp [ByteArray.getElem_eq_getElem_data]
theorem data_len (s : ByteArray) : s.data.toList.length = s.size := by simp
end Sc
end Go.Proofs.YtocopanencbmeaaGreatDoor
namespace Go.Proofs.YtocopanencbmeaaGreatDoor
open Go.RowKit

theorem Sc.lett_high (r : Nat) (h : 128 ≤ r) : Sc.lett (r : Int) = false := by simp [Sc.lett]; omega
theorem Sc.digi_high (r : Nat) (h : 128 ≤ r) : Sc.digi (r : Int) = false := by simp [Sc.digi]; omega
theorem Sc.lord_high (r : Nat) (h : 128 ≤ r) : Sc.lord (r : Int) = false := by simp [Sc.lord, Sc.lett_high r h, Sc.digi_high r h]
theorem Sc.notNl_high (r : Nat) (h : 128 ≤ r) : Sc.notNl (r : Int) = true := by simp [Sc.notNl]; omega

set_option maxHeartbeats 400000 in
theorem scan_lord_any (r : Int) (w : World) :
    Calls Tryz.prog 79 #[.int .i32 r] w fun e w' => e = .returned (.bool (Sc.lord r)) ∧ w = w' := by
  by_cases h : Sc.lett r = true
  · have hc := (scan_letter_any r w)
    rw [h] at hc
    have hl : Sc.lord r = true := by simp [Sc.lord, h]
    rw [hl]
    clear h hl
    go_enter Tryz.func79, Tryz.ntmps79
    go_wp2_with (go_at_call 70; refine hc.mono ?_; rintro e w' ⟨rfl, rfl⟩)
    go_ret
    exact ⟨rfl, rfl⟩
  · have h' : Sc.lett r = false := by simpa using h
    have hc := (scan_letter_any r w)
    rw [h'] at hc
    have hl : Sc.digi r = Sc.lord r := by simp [Sc.lord, h']
    have hd := scan_digit_any r w
    rw [hl] at hd
    clear h h' hl
    go_enter Tryz.func79, Tryz.ntmps79
    go_wp2_with (first | (go_at_call 70; refine hc.mono ?_; rintro e w' ⟨rfl, rfl⟩) | (go_at_call 72; refine hd.mono ?_; rintro e w' ⟨rfl, rfl⟩))
    go_ret
    exact ⟨rfl, rfl⟩

set_option maxHeartbeats 1000000 in
set_option maxRecDepth 100000 in
theorem span_letter (s : ByteArray) (w : World) :
    Calls Tryz.prog 78 #[.string s, .func (.func 70) #[] #[]] w fun e w' => e = .returned (.int .i64 (Sc.spanN Sc.lett s.data.toList)) ∧ ∃ pos, w' = w.iter s pos := by
  go_enter Tryz.func78, Tryz.ntmps78
  go_wp2

  go_loopw [5] (fun _ wr => ∃ pos : Nat, wr = w.iter s pos ∧ pos ≤ s.size ∧ pos ≤ Sc.spanN Sc.lett s.data.toList) (fun _ wr => s.size - wr.iterPos w.heap.size)
  case atStart => exact ⟨0, rfl, Nat.zero_le _, Nat.zero_le _⟩
  case round =>
    obtain ⟨pos, rfl, hps, hk⟩ := hrel
    by_cases hp : pos < s.size
    · have hl : pos < s.data.toList.length := by rw [Sc.data_len]; exact hp
      by_cases hb : 128 ≤ s[pos].toNat
      · have hd := decode_high s pos hp hb
        have hle := decode_le s pos
        have hnx : ∀ ty, (Instr.next (.pointer (some ⟨w.heap.size, 0, none⟩)) true ty).run Tryz.prog (w.iter s pos) = _ := fun ty => run_next_any w s pos ty hp
        have hq : Sc.lett (Utf8.decode s pos).1 = false := Sc.lett_high _ hd.1
        have hst : Sc.spanN Sc.lett s.data.toList = pos := Sc.spanN_eq Sc.lett _ pos hl hk (by rw [Sc.get_data s pos hp hl]; exact Sc.lett_high _ (by omega))
        have HS := Lib.hid hst
        clear hst
        have HQ := Lib.hid hq
        clear hq
        go_wp2_with (go_at_call 70; refine (scan_letter_any _ _).mono ?_; rintro e w' ⟨rfl, rfl⟩; rw [HQ.out])
        go_ret
        exact ⟨ret_i (by rw [HS.out]), _, rfl⟩
      · have hnx : ∀ ty, (Instr.next (.pointer (some ⟨w.heap.size, 0, none⟩)) true ty).run Tryz.prog (w.iter s pos) = _ := fun ty => run_next_ascii w s pos ty hp (by omega)
        have hb256 : s[pos].toNat < 256 := s[pos].toNat_lt
        by_cases hq : Sc.lett (s[pos].toNat : Int) = true
        · have hm : pos + 1 ≤ Sc.spanN Sc.lett s.data.toList := Sc.spanN_more Sc.lett _ pos hl hk (by rw [Sc.get_data s pos hp hl]; exact hq)
          have HQ := Lib.hid hq
          clear hq
          go_wp2_with (go_at_call 70; refine (scan_letter_any _ _).mono ?_; rintro e w' ⟨rfl, rfl⟩; rw [HQ.out])
          go_roundw
          case rel => exact ⟨_, rfl, by omega, hm⟩
          case measure => simp; omega
        · have hq' : Sc.lett (s[pos].toNat : Int) = false := by simpa using hq
          have hst : Sc.spanN Sc.lett s.data.toList = pos := Sc.spanN_eq Sc.lett _ pos hl hk (by rw [Sc.get_data s pos hp hl]; exact hq')
          have HS := Lib.hid hst
          clear hst
          have HQ := Lib.hid hq'
          clear hq' hq
          go_wp2_with (go_at_call 70; refine (scan_letter_any _ _).mono ?_; rintro e w' ⟨rfl, rfl⟩; rw [HQ.out])
          go_ret
          exact ⟨ret_i (by rw [HS.out]), _, rfl⟩
    · have hnx : ∀ ty, (Instr.next (.pointer (some ⟨w.heap.size, 0, none⟩)) true ty).run Tryz.prog (w.iter s pos) = _ := fun ty => run_next_end w s pos ty hp
      have hst : Sc.spanN Sc.lett s.data.toList = s.size := by
        have := Sc.spanN_le Sc.lett s.data.toList
        rw [Sc.data_len] at this
        omega
      have HS := Lib.hid hst
      clear hst
      go_wp2
      go_ret
      exact ⟨ret_i (by rw [HS.out]), _, rfl⟩

set_option maxHeartbeats 1000000 in
set_option maxRecDepth 100000 in
theorem span_digit (s : ByteArray) (w : World) :
    Calls Tryz.prog 78 #[.string s, .func (.func 72) #[] #[]] w fun e w' => e = .returned (.int .i64 (Sc.spanN Sc.digi s.data.toList)) ∧ ∃ pos, w' = w.iter s pos := by
  go_enter Tryz.func78, Tryz.ntmps78
  go_wp2

  go_loopw [5] (fun _ wr => ∃ pos : Nat, wr = w.iter s pos ∧ pos ≤ s.size ∧ pos ≤ Sc.spanN Sc.digi s.data.toList) (fun _ wr => s.size - wr.iterPos w.heap.size)
  case atStart => exact ⟨0, rfl, Nat.zero_le _, Nat.zero_le _⟩
  case round =>
    obtain ⟨pos, rfl, hps, hk⟩ := hrel
    by_cases hp : pos < s.size
    · have hl : pos < s.data.toList.length := by rw [Sc.data_len]; exact hp
      by_cases hb : 128 ≤ s[pos].toNat
      · have hd := decode_high s pos hp hb
        have hle := decode_le s pos
        have hnx : ∀ ty, (Instr.next (.pointer (some ⟨w.heap.size, 0, none⟩)) true ty).run Tryz.prog (w.iter s pos) = _ := fun ty => run_next_any w s pos ty hp
        have hq : Sc.digi (Utf8.decode s pos).1 = false := Sc.digi_high _ hd.1
        have hst : Sc.spanN Sc.digi s.data.toList = pos := Sc.spanN_eq Sc.digi _ pos hl hk (by rw [Sc.get_data s pos hp hl]; exact Sc.digi_high _ (by omega))
        have HS := Lib.hid hst
        clear hst
        have HQ := Lib.hid hq
        clear hq
        go_wp2_with (go_at_call 72; refine (scan_digit_any _ _).mono ?_; rintro e w' ⟨rfl, rfl⟩; rw [HQ.out])
        go_ret
        exact ⟨ret_i (by rw [HS.out]), _, rfl⟩
      · have hnx : ∀ ty, (Instr.next (.pointer (some ⟨w.heap.size, 0, none⟩)) true ty).run Tryz.prog (w.iter s pos) = _ := fun ty => run_next_ascii w s pos ty hp (by omega)
        have hb256 : s[pos].toNat < 256 := s[pos].toNat_lt
        by_cases hq : Sc.digi (s[pos].toNat : Int) = true
        · have hm : pos + 1 ≤ Sc.spanN Sc.digi s.data.toList := Sc.spanN_more Sc.digi _ pos hl hk (by rw [Sc.get_data s pos hp hl]; exact hq)
          have HQ := Lib.hid hq
          clear hq
          go_wp2_with (go_at_call 72; refine (scan_digit_any _ _).mono ?_; rintro e w' ⟨rfl, rfl⟩; rw [HQ.out])
          go_roundw
          case rel => exact ⟨_, rfl, by omega, hm⟩
          case measure => simp; omega
        · have hq' : Sc.digi (s[pos].toNat : Int) = false := by simpa using hq
          have hst : Sc.spanN Sc.digi s.data.toList = pos := Sc.spanN_eq Sc.digi _ pos hl hk (by rw [Sc.get_data s pos hp hl]; exact hq')
          have HS := Lib.hid hst
          clear hst
          have HQ := Lib.hid hq'
          clear hq' hq
          go_wp2_with (go_at_call 72; refine (scan_digit_any _ _).mono ?_; rintro e w' ⟨rfl, rfl⟩; rw [HQ.out])
          go_ret
          exact ⟨ret_i (by rw [HS.out]), _, rfl⟩
    · have hnx : ∀ ty, (Instr.next (.pointer (some ⟨w.heap.size, 0, none⟩)) true ty).run Tryz.prog (w.iter s pos) = _ := fun ty => run_next_end w s pos ty hp
      have hst : Sc.spanN Sc.digi s.data.toList = s.size := by
        have := Sc.spanN_le Sc.digi s.data.toList
        rw [Sc.data_len] at this
        omega
      have HS := Lib.hid hst
      clear hst
      go_wp2
      go_ret
      exact ⟨ret_i (by rw [HS.out]), _, rfl⟩

set_option maxHeartbeats 1000000 in
set_option maxRecDepth 100000 in
theorem span_lord (s : ByteArray) (w : World) :
    Calls Tryz.prog 78 #[.string s, .func (.func 79) #[] #[]] w fun e w' => e = .returned (.int .i64 (Sc.spanN Sc.lord s.data.toList)) ∧ ∃ pos, w' = w.iter s pos := by
  go_enter Tryz.func78, Tryz.ntmps78
  go_wp2

  go_loopw [5] (fun _ wr => ∃ pos : Nat, wr = w.iter s pos ∧ pos ≤ s.size ∧ pos ≤ Sc.spanN Sc.lord s.data.toList) (fun _ wr => s.size - wr.iterPos w.heap.size)
  case atStart => exact ⟨0, rfl, Nat.zero_le _, Nat.zero_le _⟩
  case round =>
    obtain ⟨pos, rfl, hps, hk⟩ := hrel
    by_cases hp : pos < s.size
    · have hl : pos < s.data.toList.length := by rw [Sc.data_len]; exact hp
      by_cases hb : 128 ≤ s[pos].toNat
      · have hd := decode_high s pos hp hb
        have hle := decode_le s pos
        have hnx : ∀ ty, (Instr.next (.pointer (some ⟨w.heap.size, 0, none⟩)) true ty).run Tryz.prog (w.iter s pos) = _ := fun ty => run_next_any w s pos ty hp
        have hq : Sc.lord (Utf8.decode s pos).1 = false := Sc.lord_high _ hd.1
        have hst : Sc.spanN Sc.lord s.data.toList = pos := Sc.spanN_eq Sc.lord _ pos hl hk (by rw [Sc.get_data s pos hp hl]; exact Sc.lord_high _ (by omega))
        have HS := Lib.hid hst
        clear hst
        have HQ := Lib.hid hq
        clear hq
        go_wp2_with (go_at_call 79; refine (scan_lord_any _ _).mono ?_; rintro e w' ⟨rfl, rfl⟩; rw [HQ.out])
        go_ret
        exact ⟨ret_i (by rw [HS.out]), _, rfl⟩
      · have hnx : ∀ ty, (Instr.next (.pointer (some ⟨w.heap.size, 0, none⟩)) true ty).run Tryz.prog (w.iter s pos) = _ := fun ty => run_next_ascii w s pos ty hp (by omega)
        have hb256 : s[pos].toNat < 256 := s[pos].toNat_lt
        by_cases hq : Sc.lord (s[pos].toNat : Int) = true
        · have hm : pos + 1 ≤ Sc.spanN Sc.lord s.data.toList := Sc.spanN_more Sc.lord _ pos hl hk (by rw [Sc.get_data s pos hp hl]; exact hq)
          have HQ := Lib.hid hq
          clear hq
          go_wp2_with (go_at_call 79; refine (scan_lord_any _ _).mono ?_; rintro e w' ⟨rfl, rfl⟩; rw [HQ.out])
          go_roundw
          case rel => exact ⟨_, rfl, by omega, hm⟩
          case measure => simp; omega
        · have hq' : Sc.lord (s[pos].toNat : Int) = false := by simpa using hq
          have hst : Sc.spanN Sc.lord s.data.toList = pos := Sc.spanN_eq Sc.lord _ pos hl hk (by rw [Sc.get_data s pos hp hl]; exact hq')
          have HS := Lib.hid hst
          clear hst
          have HQ := Lib.hid hq'
          clear hq' hq
          go_wp2_with (go_at_call 79; refine (scan_lord_any _ _).mono ?_; rintro e w' ⟨rfl, rfl⟩; rw [HQ.out])
          go_ret
          exact ⟨ret_i (by rw [HS.out]), _, rfl⟩
    · have hnx : ∀ ty, (Instr.next (.pointer (some ⟨w.heap.size, 0, none⟩)) true ty).run Tryz.prog (w.iter s pos) = _ := fun ty => run_next_end w s pos ty hp
      have hst : Sc.spanN Sc.lord s.data.toList = s.size := by
        have := Sc.spanN_le Sc.lord s.data.toList
        rw [Sc.data_len] at this
        omega
      have HS := Lib.hid hst
      clear hst
      go_wp2
      go_ret
      exact ⟨ret_i (by rw [HS.out]), _, rfl⟩

end Go.Proofs.YtocopanencbmeaaGreatDoor
namespace Go.Proofs.YtocopanencbmeaaGreatDoor
open Go.RowKit

/-- what scan.name answers of n letters and digits t: kind, error -/
def Sc.nameKind (t : ByteArray) (n : Nat) : Int := if 64 < n then 1 else if Sc.isKey t then 3 else 1
def Sc.nameErr (n : Nat) : Int := if 64 < n then 3 else 0

theorem ret_we {T : Nat} {k k' e e' : Int} {t : ByteArray} (hk : k = k') (he : e = e') :
    (Value.tuple #[.agg #[.int .i8 k, .string t, .int .i64 0, .int .i64 T], .int .i64 e]) = .tuple #[.agg #[.int .i8 k', .string t, .int .i64 0, .int .i64 T], .int .i64 e'] := by rw [hk, he]

theorem below_iter {w w1 : World} {o : Obj} {s : ByteArray} {pos : Nat} (hb : Below ((w.alloc o).iter s pos).heap.size ((w.alloc o).iter s pos) w1) : Below w.heap.size w w1 :=
  (((Below.refl _ _).alloc (Nat.le_refl _) _).alloc (by simp) _).trans (hb.mono (by simp [World.iter]; omega))

set_option maxHeartbeats 400000 in
theorem name_any (s : ByteArray) (hs : s.size ≤ 281474976710656) (w : World) :
    Calls Tryz.prog 71 #[.string s] w fun e w' => e = .returned (.tuple #[.agg #[.int .i8 (Sc.nameKind (s.extract 0 (Sc.spanN Sc.lord s.data.toList)) (Sc.spanN Sc.lord s.data.toList)), .string (s.extract 0 (Sc.spanN Sc.lord s.data.toList)), .int .i64 0, .int .i64 0], .int .i64 (Sc.nameErr (Sc.spanN Sc.lord s.data.toList))]) ∧ Below w.heap.size w w' := by
  have hle := Sc.spanN_le Sc.lord s.data.toList
  rw [Sc.data_len] at hle
  generalize hn : Sc.spanN Sc.lord s.data.toList = n at *
  have hx : (s.extract 0 n).size = n := by simp; omega
  have HX := Lib.hid hx
  clear hx
  have hsp := span_lord s
  rw [hn] at hsp
  clear hn
  by_cases h64 : 64 < n
  · have hk : Sc.nameKind (s.extract 0 n) n = 1 := by unfold Sc.nameKind; rw [if_pos h64]
    have he : Sc.nameErr n = 3 := by unfold Sc.nameErr; rw [if_pos h64]
    rw [hk, he]
    clear hk he
    go_enter Tryz.func71, Tryz.ntmps71
    go_wp2_with (first | (go_at_call 78; refine (hsp _).mono ?_; rintro e w' ⟨rfl, pos, rfl⟩) | (go_at_call 76; refine (word_any 1 _ (by rw [HX.out]; omega) _).mono ?_; rintro e w' ⟨rfl, hb⟩; obtain ⟨q0, q1, q2, q3, f0, f1, f2, f3, hz⟩ := own4 (heap_below hb (by simp [World.iter]; omega) (heap_old (heap_new w _) _)); have hbw := below_iter hb))
    refine bodyPost_ret (v := .tuple #[.agg #[.int .i8 1, .string (s.extract 0 n), .int .i64 0, .int .i64 0], .int .i64 3]) (by simp [results, Tryz.results71, go_sem, *]) rfl ⟨rfl, ?_⟩
    exact (below_set4 hbw (Nat.le_refl _) _ _ _ _).alloc (by simp; omega) _
  · have he : Sc.nameErr n = 0 := by unfold Sc.nameErr; rw [if_neg h64]
    cases hkey : Sc.isKey (s.extract 0 n)
    · have hk : Sc.nameKind (s.extract 0 n) n = 1 := by unfold Sc.nameKind; rw [if_neg h64, hkey]; rfl
      rw [hk, he]
      clear hk he
      have hkk := scan_Key_any (s.extract 0 n)
      rw [hkey] at hkk
      clear hkey
      go_enter Tryz.func71, Tryz.ntmps71
      go_wp2_with (first | (go_at_call 78; refine (hsp _).mono ?_; rintro e w' ⟨rfl, pos, rfl⟩) | (go_at_call 76; refine (word_any 1 _ (by rw [HX.out]; omega) _).mono ?_; rintro e w' ⟨rfl, hb⟩; obtain ⟨q0, q1, q2, q3, f0, f1, f2, f3, hz⟩ := own4 (heap_below hb (by simp [World.iter]; omega) (heap_old (heap_new w _) _)); have hbw := below_iter hb) | (go_at_call 80; refine (hkk _).mono ?_; rintro e w' ⟨rfl, rfl⟩))
      refine bodyPost_ret (v := .tuple #[.agg #[.int .i8 1, .string (s.extract 0 n), .int .i64 0, .int .i64 0], .int .i64 0]) (by simp [results, Tryz.results71, go_sem, *]) rfl ⟨rfl, ?_⟩
      exact (below_set4 hbw (Nat.le_refl _) _ _ _ _).alloc (by simp; omega) _
    · have hk : Sc.nameKind (s.extract 0 n) n = 3 := by unfold Sc.nameKind; rw [if_neg h64, hkey]; rfl
      rw [hk, he]
      clear hk he
      have hkk := scan_Key_any (s.extract 0 n)
      rw [hkey] at hkk
      clear hkey
      go_enter Tryz.func71, Tryz.ntmps71
      go_wp2_with (first | (go_at_call 78; refine (hsp _).mono ?_; rintro e w' ⟨rfl, pos, rfl⟩) | (go_at_call 76; refine (word_any 1 _ (by rw [HX.out]; omega) _).mono ?_; rintro e w' ⟨rfl, hb⟩; obtain ⟨q0, q1, q2, q3, f0, f1, f2, f3, hz⟩ := own4 (heap_below hb (by simp [World.iter]; omega) (heap_old (heap_new w _) _)); have hbw := below_iter hb) | (go_at_call 80; refine (hkk _).mono ?_; rintro e w' ⟨rfl, rfl⟩))
      refine bodyPost_ret (v := .tuple #[.agg #[.int .i8 3, .string (s.extract 0 n), .int .i64 0, .int .i64 0], .int .i64 0]) (by simp [results, Tryz.results71, go_sem, *]) rfl ⟨rfl, ?_⟩
      exact (below_set4 hbw (Nat.le_refl _) _ _ _ _).alloc (by simp; omega) _
end Go.Proofs.YtocopanencbmeaaGreatDoor
namespace Go.Proofs.YtocopanencbmeaaGreatDoor
namespace Sc
/-- what digits are, behind what is read already -/
def numFrom (acc : Nat) (l : List UInt8) : Nat := l.foldl (fun a c => a * 10 + (c.toNat - 48)) acc
def allDigi (l : List UInt8) : Prop := ∀ c ∈ l, 48 ≤ c.toNat ∧ c.toNat ≤ 57

theorem numFrom_le (l : List UInt8) : ∀ acc, acc ≤ numFrom acc l := by
  induction l with
  | nil => intro acc; exact Nat.le_refl _
  | cons c l ih => intro acc; have := ih (acc * 10 + (c.toNat - 48)); unfold numFrom at this ⊢; rw [List.foldl_cons]; omega

theorem numFrom_cons (c : UInt8) (l : List UInt8) (acc : Nat) : numFrom acc (c :: l) = numFrom (acc * 10 + (c.toNat - 48)) l := by unfold numFrom; rw [List.foldl_cons]

theorem parseM (M : Nat) (hM : M < 18446744073709551620) : ∀ (l : List UInt8) (acc : Nat), allDigi l → acc ≤ M → Lib.parseUintM M acc l = if numFrom acc l ≤ M then .ok (numFrom acc l) else .range := by
  intro l
  induction l with
  | nil => intro acc _ ha; rw [if_pos (show numFrom acc [] ≤ M from ha)]; rfl
  | cons c l ih =>
    intro acc h _
    have hc := h c (by simp)
    have hl : allDigi l := fun x hx => h x (by simp [hx])
    have hmono := numFrom_le l (acc * 10 + (c.toNat - 48))
    rw [numFrom_cons, Lib.parseUintM, if_pos hc]
    have hge : acc * 10 ≤ acc * 10 + (c.toNat - 48) := Nat.le_add_right _ _
    generalize acc * 10 + (c.toNat - 48) = acc2 at hmono hge ⊢
    by_cases h1 : 1844674407370955162 ≤ acc
    · have e : ¬ numFrom acc2 l ≤ M := by omega
      rw [if_pos h1, if_neg e]
    · rw [if_neg h1]
      by_cases h2 : M < acc2
      · have e : ¬ numFrom acc2 l ≤ M := by omega
        rw [if_pos h2, if_neg e]
      · rw [if_neg h2, ih acc2 hl (by omega)]

theorem parse64 (l : List UInt8) (hne : l ≠ []) (h : allDigi l) : Lib.parseIntB 64 l = if numFrom 0 l < 9223372036854775808 then .ok (numFrom 0 l : Int) else .range := by
  cases l with
  | nil => exact absurd rfl hne
  | cons c l =>
    have hc := h c (by simp)
    have h45 : ¬ c.toNat = 45 := by omega
    have h43 : ¬ (c.toNat = 43 ∨ c.toNat = 45) := by omega
    simp only [Lib.parseIntB, if_neg h43, Lib.parseUintB]
    rw [parseM _ (by decide) _ _ h (by decide)]
    by_cases hm : numFrom 0 (c :: l) ≤ 2 ^ 64 - 1
    · simp only [hm, if_true]
      by_cases h2 : numFrom 0 (c :: l) < 9223372036854775808
      · simp [h2, h45]
      · simp [h2, h45]
    · have hm' : ¬ numFrom 0 (c :: l) < 9223372036854775808 := by omega
      simp [hm, hm']

theorem allDigi_take (l : List UInt8) : allDigi (l.take (spanN digi l)) := by
  intro c hc
  obtain ⟨i, hi, rfl⟩ := List.mem_iff_getElem.1 hc
  have h1 : i < spanN digi l := by simp at hi; omega
  have h2 : i < l.length := by simp at hi; omega
  have := spanN_get digi l i h2 h1
  simp [digi] at this
  simp
  omega
end Sc
end Go.Proofs.YtocopanencbmeaaGreatDoor
namespace Go.Proofs.YtocopanencbmeaaGreatDoor
open Go.RowKit

def Sc.numBad (s : ByteArray) (n : Nat) : Bool := (decide (1 < n) && decide (s.data.toList.head? = some 48)) || decide (0 < Sc.spanN Sc.lett (s.data.toList.drop n))
def Sc.numVal (s : ByteArray) (n : Nat) : Nat := Sc.numFrom 0 (s.data.toList.take n)
def Sc.numErr (s : ByteArray) (n : Nat) : Int := if 9223372036854775808 ≤ Sc.numVal s n then 3 else if Sc.numBad s n then 10 else 0
def Sc.numNum (s : ByteArray) (n : Nat) : Int := if Sc.numErr s n = 0 then Sc.numVal s n else 0

theorem below_iterN {w w1 : World} {o : Obj} {s : ByteArray} {pos nq : Nat} (hb : Below (((w.alloc o).iter s pos).drewN nq).heap.size (((w.alloc o).iter s pos).drewN nq) w1) : Below w.heap.size w w1 := by
  have h0 : Below w.heap.size w (((w.alloc o).iter s pos).drewN nq) := by
    have := (((Below.refl w.heap.size w).alloc (Nat.le_refl _) o).alloc (by simp) (.stringIter s pos))
    exact ⟨this.os, this.tape, this.output, this.size, this.block⟩
  exact h0.trans (hb.mono h0.size)

theorem var_at {P : Program} {W W' : World} {n : String} {cs : Array Value} (h : Below W.heap.size W W') (hv : W.var? P n = some cs) : W'.var? P n = some cs := by
  cases hg : P.globalNamed n with
  | none => unfold World.var? at hv; rw [hg] at hv; cases hv
  | some g =>
    refine var?_below h hg ?_ hv
    rcases Nat.lt_or_ge g W.heap.size with h1 | h1
    · exact h1
    · exfalso
      unfold World.var? at hv
      rw [hg] at hv
      simp [Array.getElem?_eq_none h1] at hv

theorem parse_ok (s : ByteArray) (hs : s.size ≤ 281474976710656) (v : Int) (h : Lib.parseIntB 64 s.data.toList = .ok v) (w : World) :
    Calls Tryz.prog 81 #[.string s, .int .i64 10, .int .i64 64] w fun e w' => e = .returned (.tuple #[.int .i64 v, .nilIface]) ∧ Below w.heap.size w w' := by
  refine (Tryz.strconv_ParseInt_10_at64_ok s (by omega) v h w).mono fun e w' => ?_
  rintro ⟨rfl, rfl | ⟨t, rfl⟩⟩
  · exact ⟨rfl, Below.refl _ _⟩
  · exact ⟨rfl, Lib.bytesWorld_below _ _ _⟩

set_option maxHeartbeats 1000000 in
theorem number_err (s : ByteArray) (hs : s.size ≤ 281474976710656) (n : Nat) (hle : n ≤ s.size) (h1 : 1 ≤ n)
    (hsp : ∀ w : World, Calls Tryz.prog 78 #[.string s, .func (.func 72) #[] #[]] w fun e w' => e = .returned (.int .i64 n) ∧ ∃ pos, w' = w.iter s pos)
    (hr : Lib.parseIntB 64 (s.extract 0 n).data.toList = .range) (w : World) (tp : TypeId) (p : Value) (hvar : w.var? Tryz.prog "strconv.ErrRange" = some #[.iface tp p]) :
    Calls Tryz.prog 73 #[.string s] w fun e w' => e = .returned (.tuple #[.agg #[.int .i8 2, .string (s.extract 0 n), .int .i64 0, .int .i64 0], .int .i64 3]) ∧ Below w.heap.size w w' := by
  have hx : (s.extract 0 n).size = n := by simp; omega
  have HX := Lib.hid hx
  clear hx
  have i1 : (n : Int) ≤ s.size := by omega
  have i2 : (0 : Int) ≤ n := by omega
  have HV := Lib.hid hvar
  clear hvar
  go_enter Tryz.func73, Tryz.ntmps73
  go_wp2_with (go_at_call 78; refine (hsp _).mono ?_; rintro e w' ⟨rfl, pos, rfl⟩)
  go_quiet (fail)
  go_wp2_with (first | (go_at_call 76; refine (word_any 2 _ (by rw [HX.out]; omega) _).mono ?_; rintro e w1 ⟨rfl, hb⟩; have H1 := Lib.hid (heap_below hb (by simp [World.iter]; omega) (heap_old (heap_new w _) _)); obtain ⟨q0, q1, q2, q3, f0, f1, f2, f3, hz⟩ := own4 H1.out; have hbw := below_iterN hb) | (go_at_call 81; refine (Tryz.strconv_ParseInt_10_at64_range_var _ (by rw [HX.out]; omega) hr tp p _ (var_at (hbw.alloc hbw.size _) HV.out)).mono ?_; rintro e w2 ⟨N, rfl, _, _, hb2⟩; have hbw2 := (hbw.alloc hbw.size _).trans (hb2.mono (by have := hbw.size; simp; omega)); have H2 := Lib.hid (heap_below hb2 (by simp; omega) (heap_old H1.out _)); have H3 := Lib.hid (heap_below hb2 (by simp) (heap_new w1 _)); obtain ⟨q0, q1, q2, q3, f0, f1, f2, f3, hz⟩ := own4 H2.out; obtain ⟨p0, p1, p2, p3, g0, g1, g2, g3, hy⟩ := own4 H3.out))
  refine bodyPost_ret (v := .tuple #[.agg #[.int .i8 2, .string (s.extract 0 n), .int .i64 0, .int .i64 0], .int .i64 3]) (by simp [results, Tryz.results73, go_sem, *]) rfl ⟨rfl, ?_⟩
  exact (below_set4 hbw2 (Nat.le_refl _) _ _ _ _)

set_option maxHeartbeats 1000000 in
theorem number_zero (s : ByteArray) (hs : s.size ≤ 281474976710656) (n : Nat) (hle : n ≤ s.size) (h1 : 1 ≤ n)
    (hsp : ∀ w : World, Calls Tryz.prog 78 #[.string s, .func (.func 72) #[] #[]] w fun e w' => e = .returned (.int .i64 n) ∧ ∃ pos, w' = w.iter s pos)
    (v : Int) (hr : Lib.parseIntB 64 (s.extract 0 n).data.toList = .ok v) (hx0 : 0 < (s.extract 0 n).size) (hn2 : 1 < n) (hd : ((((s.extract 0 n)[0]'hx0).toNat : Int) == 48) = true) (w : World) (tp : TypeId) (p : Value) (hvar : w.var? Tryz.prog "strconv.ErrRange" = some #[.iface tp p]) :
    Calls Tryz.prog 73 #[.string s] w fun e w' => e = .returned (.tuple #[.agg #[.int .i8 2, .string (s.extract 0 n), .int .i64 0, .int .i64 0], .int .i64 10]) ∧ Below w.heap.size w w' := by
  have hx : (s.extract 0 n).size = n := by simp; omega
  have HX := Lib.hid hx
  clear hx
  have i1 : (n : Int) ≤ s.size := by omega
  have i2 : (0 : Int) ≤ n := by omega
  have HV := Lib.hid hvar
  clear hvar
  go_enter Tryz.func73, Tryz.ntmps73
  go_wp2_with (go_at_call 78; refine (hsp _).mono ?_; rintro e w' ⟨rfl, pos, rfl⟩)
  go_quiet (fail)
  go_wp2_with (first | (go_at_call 76; refine (word_any 2 _ (by rw [HX.out]; omega) _).mono ?_; rintro e w1 ⟨rfl, hb⟩; have H1 := Lib.hid (heap_below hb (by simp [World.iter]; omega) (heap_old (heap_new w _) _)); obtain ⟨q0, q1, q2, q3, f0, f1, f2, f3, hz⟩ := own4 H1.out; have hbw := below_iterN hb) | (go_at_call 81; refine (parse_ok _ (by rw [HX.out]; omega) v hr _).mono ?_; rintro e w2 ⟨rfl, hb2⟩; have hbw2 := (hbw.alloc hbw.size _).trans (hb2.mono (by have := hbw.size; simp; omega)); have H2 := Lib.hid (heap_below hb2 (by simp; omega) (heap_old H1.out _)); have H3 := Lib.hid (heap_below hb2 (by simp) (heap_new w1 _)); obtain ⟨q0, q1, q2, q3, f0, f1, f2, f3, hz⟩ := own4 H2.out; obtain ⟨p0, p1, p2, p3, g0, g1, g2, g3, hy⟩ := own4 H3.out))
  clear hd
  refine bodyPost_ret (v := .tuple #[.agg #[.int .i8 2, .string (s.extract 0 n), .int .i64 0, .int .i64 0], .int .i64 10]) (by simp [results, Tryz.results73, go_sem, *]) rfl ⟨rfl, ?_⟩
  exact (below_set4 hbw2 (Nat.le_refl _) _ _ _ _)

set_option maxHeartbeats 1000000 in
theorem number_letter1 (s : ByteArray) (_hs : s.size ≤ 281474976710656) (n : Nat) (hle : n ≤ s.size) (h1 : 1 ≤ n)
    (hsp : ∀ w : World, Calls Tryz.prog 78 #[.string s, .func (.func 72) #[] #[]] w fun e w' => e = .returned (.int .i64 n) ∧ ∃ pos, w' = w.iter s pos)
    (v : Int) (hr : Lib.parseIntB 64 (s.extract 0 n).data.toList = .ok v) (m : Nat) (hm : 0 < m)
    (hsl : ∀ w : World, Calls Tryz.prog 78 #[.string (s.extract n s.size), .func (.func 70) #[] #[]] w fun e w' => e = .returned (.int .i64 m) ∧ Below w.heap.size w w') (hn2 : ¬ 1 < n) (w : World) (tp : TypeId) (p : Value) (hvar : w.var? Tryz.prog "strconv.ErrRange" = some #[.iface tp p]) :
    Calls Tryz.prog 73 #[.string s] w fun e w' => e = .returned (.tuple #[.agg #[.int .i8 2, .string (s.extract 0 n), .int .i64 0, .int .i64 0], .int .i64 10]) ∧ Below w.heap.size w w' := by
  have hx : (s.extract 0 n).size = n := by simp; omega
  have HX := Lib.hid hx
  clear hx
  have i1 : (n : Int) ≤ s.size := by omega
  have i2 : (0 : Int) ≤ n := by omega
  have HV := Lib.hid hvar
  clear hvar
  go_enter Tryz.func73, Tryz.ntmps73
  go_wp2_with (go_at_call 78; refine (hsp _).mono ?_; rintro e w' ⟨rfl, pos, rfl⟩)
  go_quiet (fail)
  go_wp2_with (first | (go_at_call 76; refine (word_any 2 _ (by rw [HX.out]; omega) _).mono ?_; rintro e w1 ⟨rfl, hb⟩; have H1 := Lib.hid (heap_below hb (by simp [World.iter]; omega) (heap_old (heap_new w _) _)); obtain ⟨q0, q1, q2, q3, f0, f1, f2, f3, hz⟩ := own4 H1.out; have hbw := below_iterN hb) | (go_at_call 81; refine (parse_ok _ (by rw [HX.out]; omega) v hr _).mono ?_; rintro e w2 ⟨rfl, hb2⟩; have hbw2 := (hbw.alloc hbw.size _).trans (hb2.mono (by have := hbw.size; simp; omega)); have H2 := Lib.hid (heap_below hb2 (by simp; omega) (heap_old H1.out _)); have H3 := Lib.hid (heap_below hb2 (by simp) (heap_new w1 _)); obtain ⟨q0, q1, q2, q3, f0, f1, f2, f3, hz⟩ := own4 H2.out; obtain ⟨p0, p1, p2, p3, g0, g1, g2, g3, hy⟩ := own4 H3.out) | (go_at_call 78; refine (hsl _).mono ?_; rintro e w3 ⟨rfl, hb3⟩; have hbw3 := hbw2.trans (hb3.mono hbw2.size); obtain ⟨q0, q1, q2, q3, f0, f1, f2, f3, hz⟩ := own4 (heap_below hb3 hz H2.out); obtain ⟨p0, p1, p2, p3, g0, g1, g2, g3, hy⟩ := own4 (heap_below hb3 hy H3.out)))
  refine bodyPost_ret (v := .tuple #[.agg #[.int .i8 2, .string (s.extract 0 n), .int .i64 0, .int .i64 0], .int .i64 10]) (by simp [results, Tryz.results73, go_sem, *]) rfl ⟨rfl, ?_⟩
  exact (below_set4 hbw3 (Nat.le_refl _) _ _ _ _)

set_option maxHeartbeats 1000000 in
theorem number_letter2 (s : ByteArray) (hs : s.size ≤ 281474976710656) (n : Nat) (hle : n ≤ s.size) (h1 : 1 ≤ n)
    (hsp : ∀ w : World, Calls Tryz.prog 78 #[.string s, .func (.func 72) #[] #[]] w fun e w' => e = .returned (.int .i64 n) ∧ ∃ pos, w' = w.iter s pos)
    (v : Int) (hr : Lib.parseIntB 64 (s.extract 0 n).data.toList = .ok v) (m : Nat) (hm : 0 < m)
    (hsl : ∀ w : World, Calls Tryz.prog 78 #[.string (s.extract n s.size), .func (.func 70) #[] #[]] w fun e w' => e = .returned (.int .i64 m) ∧ Below w.heap.size w w') (hx0 : 0 < (s.extract 0 n).size) (hn2 : 1 < n) (hd : ((((s.extract 0 n)[0]'hx0).toNat : Int) == 48) = false) (w : World) (tp : TypeId) (p : Value) (hvar : w.var? Tryz.prog "strconv.ErrRange" = some #[.iface tp p]) :
    Calls Tryz.prog 73 #[.string s] w fun e w' => e = .returned (.tuple #[.agg #[.int .i8 2, .string (s.extract 0 n), .int .i64 0, .int .i64 0], .int .i64 10]) ∧ Below w.heap.size w w' := by
  have hx : (s.extract 0 n).size = n := by simp; omega
  have HX := Lib.hid hx
  clear hx
  have i1 : (n : Int) ≤ s.size := by omega
  have i2 : (0 : Int) ≤ n := by omega
  have HV := Lib.hid hvar
  clear hvar
  go_enter Tryz.func73, Tryz.ntmps73
  go_wp2_with (go_at_call 78; refine (hsp _).mono ?_; rintro e w' ⟨rfl, pos, rfl⟩)
  go_quiet (fail)
  go_wp2_with (first | (go_at_call 76; refine (word_any 2 _ (by rw [HX.out]; omega) _).mono ?_; rintro e w1 ⟨rfl, hb⟩; have H1 := Lib.hid (heap_below hb (by simp [World.iter]; omega) (heap_old (heap_new w _) _)); obtain ⟨q0, q1, q2, q3, f0, f1, f2, f3, hz⟩ := own4 H1.out; have hbw := below_iterN hb) | (go_at_call 81; refine (parse_ok _ (by rw [HX.out]; omega) v hr _).mono ?_; rintro e w2 ⟨rfl, hb2⟩; have hbw2 := (hbw.alloc hbw.size _).trans (hb2.mono (by have := hbw.size; simp; omega)); have H2 := Lib.hid (heap_below hb2 (by simp; omega) (heap_old H1.out _)); have H3 := Lib.hid (heap_below hb2 (by simp) (heap_new w1 _)); obtain ⟨q0, q1, q2, q3, f0, f1, f2, f3, hz⟩ := own4 H2.out; obtain ⟨p0, p1, p2, p3, g0, g1, g2, g3, hy⟩ := own4 H3.out) | (go_at_call 78; refine (hsl _).mono ?_; rintro e w3 ⟨rfl, hb3⟩; have hbw3 := hbw2.trans (hb3.mono hbw2.size); obtain ⟨q0, q1, q2, q3, f0, f1, f2, f3, hz⟩ := own4 (heap_below hb3 hz H2.out); obtain ⟨p0, p1, p2, p3, g0, g1, g2, g3, hy⟩ := own4 (heap_below hb3 hy H3.out)))
  clear hd
  refine bodyPost_ret (v := .tuple #[.agg #[.int .i8 2, .string (s.extract 0 n), .int .i64 0, .int .i64 0], .int .i64 10]) (by simp [results, Tryz.results73, go_sem, *]) rfl ⟨rfl, ?_⟩
  exact (below_set4 hbw3 (Nat.le_refl _) _ _ _ _)

set_option maxHeartbeats 1000000 in
theorem number_ok1 (s : ByteArray) (_hs : s.size ≤ 281474976710656) (n : Nat) (hle : n ≤ s.size) (h1 : 1 ≤ n)
    (hsp : ∀ w : World, Calls Tryz.prog 78 #[.string s, .func (.func 72) #[] #[]] w fun e w' => e = .returned (.int .i64 n) ∧ ∃ pos, w' = w.iter s pos)
    (v : Int) (hr : Lib.parseIntB 64 (s.extract 0 n).data.toList = .ok v)
    (hsl : ∀ w : World, Calls Tryz.prog 78 #[.string (s.extract n s.size), .func (.func 70) #[] #[]] w fun e w' => e = .returned (.int .i64 0) ∧ Below w.heap.size w w') (hn2 : ¬ 1 < n) (w : World) (tp : TypeId) (p : Value) (hvar : w.var? Tryz.prog "strconv.ErrRange" = some #[.iface tp p]) :
    Calls Tryz.prog 73 #[.string s] w fun e w' => e = .returned (.tuple #[.agg #[.int .i8 2, .string (s.extract 0 n), .int .i64 v, .int .i64 0], .int .i64 0]) ∧ Below w.heap.size w w' := by
  have hx : (s.extract 0 n).size = n := by simp; omega
  have HX := Lib.hid hx
  clear hx
  have i1 : (n : Int) ≤ s.size := by omega
  have i2 : (0 : Int) ≤ n := by omega
  have HV := Lib.hid hvar
  clear hvar
  go_enter Tryz.func73, Tryz.ntmps73
  go_wp2_with (go_at_call 78; refine (hsp _).mono ?_; rintro e w' ⟨rfl, pos, rfl⟩)
  go_quiet (fail)
  go_wp2_with (first | (go_at_call 76; refine (word_any 2 _ (by rw [HX.out]; omega) _).mono ?_; rintro e w1 ⟨rfl, hb⟩; have H1 := Lib.hid (heap_below hb (by simp [World.iter]; omega) (heap_old (heap_new w _) _)); obtain ⟨q0, q1, q2, q3, f0, f1, f2, f3, hz⟩ := own4 H1.out; have hbw := below_iterN hb) | (go_at_call 81; refine (parse_ok _ (by rw [HX.out]; omega) v hr _).mono ?_; rintro e w2 ⟨rfl, hb2⟩; have hbw2 := (hbw.alloc hbw.size _).trans (hb2.mono (by have := hbw.size; simp; omega)); have H2 := Lib.hid (heap_below hb2 (by simp; omega) (heap_old H1.out _)); have H3 := Lib.hid (heap_below hb2 (by simp) (heap_new w1 _)); obtain ⟨q0, q1, q2, q3, f0, f1, f2, f3, hz⟩ := own4 H2.out; obtain ⟨p0, p1, p2, p3, g0, g1, g2, g3, hy⟩ := own4 H3.out) | (go_at_call 78; refine (hsl _).mono ?_; rintro e w3 ⟨rfl, hb3⟩; have hbw3 := hbw2.trans (hb3.mono hbw2.size); obtain ⟨q0, q1, q2, q3, f0, f1, f2, f3, hz⟩ := own4 (heap_below hb3 hz H2.out); obtain ⟨p0, p1, p2, p3, g0, g1, g2, g3, hy⟩ := own4 (heap_below hb3 hy H3.out)))
  refine bodyPost_ret (v := .tuple #[.agg #[.int .i8 2, .string (s.extract 0 n), .int .i64 v, .int .i64 0], .int .i64 0]) (by simp [results, Tryz.results73, go_sem, *]) rfl ⟨rfl, ?_⟩
  exact (below_set4 (hbw3.setCell hbw.size _) (Nat.le_refl _) _ _ _ _)

set_option maxHeartbeats 1000000 in
theorem number_ok2 (s : ByteArray) (hs : s.size ≤ 281474976710656) (n : Nat) (hle : n ≤ s.size) (h1 : 1 ≤ n)
    (hsp : ∀ w : World, Calls Tryz.prog 78 #[.string s, .func (.func 72) #[] #[]] w fun e w' => e = .returned (.int .i64 n) ∧ ∃ pos, w' = w.iter s pos)
    (v : Int) (hr : Lib.parseIntB 64 (s.extract 0 n).data.toList = .ok v)
    (hsl : ∀ w : World, Calls Tryz.prog 78 #[.string (s.extract n s.size), .func (.func 70) #[] #[]] w fun e w' => e = .returned (.int .i64 0) ∧ Below w.heap.size w w') (hx0 : 0 < (s.extract 0 n).size) (hn2 : 1 < n) (hd : ((((s.extract 0 n)[0]'hx0).toNat : Int) == 48) = false) (w : World) (tp : TypeId) (p : Value) (hvar : w.var? Tryz.prog "strconv.ErrRange" = some #[.iface tp p]) :
    Calls Tryz.prog 73 #[.string s] w fun e w' => e = .returned (.tuple #[.agg #[.int .i8 2, .string (s.extract 0 n), .int .i64 v, .int .i64 0], .int .i64 0]) ∧ Below w.heap.size w w' := by
  have hx : (s.extract 0 n).size = n := by simp; omega
  have HX := Lib.hid hx
  clear hx
  have i1 : (n : Int) ≤ s.size := by omega
  have i2 : (0 : Int) ≤ n := by omega
  have HV := Lib.hid hvar
  clear hvar
  go_enter Tryz.func73, Tryz.ntmps73
  go_wp2_with (go_at_call 78; refine (hsp _).mono ?_; rintro e w' ⟨rfl, pos, rfl⟩)
  go_quiet (fail)
  go_wp2_with (first | (go_at_call 76; refine (word_any 2 _ (by rw [HX.out]; omega) _).mono ?_; rintro e w1 ⟨rfl, hb⟩; have H1 := Lib.hid (heap_below hb (by simp [World.iter]; omega) (heap_old (heap_new w _) _)); obtain ⟨q0, q1, q2, q3, f0, f1, f2, f3, hz⟩ := own4 H1.out; have hbw := below_iterN hb) | (go_at_call 81; refine (parse_ok _ (by rw [HX.out]; omega) v hr _).mono ?_; rintro e w2 ⟨rfl, hb2⟩; have hbw2 := (hbw.alloc hbw.size _).trans (hb2.mono (by have := hbw.size; simp; omega)); have H2 := Lib.hid (heap_below hb2 (by simp; omega) (heap_old H1.out _)); have H3 := Lib.hid (heap_below hb2 (by simp) (heap_new w1 _)); obtain ⟨q0, q1, q2, q3, f0, f1, f2, f3, hz⟩ := own4 H2.out; obtain ⟨p0, p1, p2, p3, g0, g1, g2, g3, hy⟩ := own4 H3.out) | (go_at_call 78; refine (hsl _).mono ?_; rintro e w3 ⟨rfl, hb3⟩; have hbw3 := hbw2.trans (hb3.mono hbw2.size); obtain ⟨q0, q1, q2, q3, f0, f1, f2, f3, hz⟩ := own4 (heap_below hb3 hz H2.out); obtain ⟨p0, p1, p2, p3, g0, g1, g2, g3, hy⟩ := own4 (heap_below hb3 hy H3.out)))
  clear hd
  refine bodyPost_ret (v := .tuple #[.agg #[.int .i8 2, .string (s.extract 0 n), .int .i64 v, .int .i64 0], .int .i64 0]) (by simp [results, Tryz.results73, go_sem, *]) rfl ⟨rfl, ?_⟩
  exact (below_set4 (hbw3.setCell hbw.size _) (Nat.le_refl _) _ _ _ _)

theorem Sc.extract_head (s : ByteArray) (n : Nat) (h : 1 ≤ n) (hle : n ≤ s.size) (hx0 : 0 < (s.extract 0 n).size) : s.data.toList.head? = some ((s.extract 0 n)[0]'hx0) := by
  have h0 : 0 < s.size := by omega
  have e : (s.extract 0 n)[0]'hx0 = s[0]'h0 := by rw [ByteArray.getElem_extract]
  rw [e, ← Sc.get_data s 0 h0 (by rw [Sc.data_len]; exact h0)]
  rw [List.head?_eq_getElem?, List.getElem?_eq_getElem]

theorem number_any (s : ByteArray) (hs : s.size ≤ 281474976710656) (h1 : 1 ≤ Sc.spanN Sc.digi s.data.toList) (w : World) (tp : TypeId) (p : Value) (hvar : w.var? Tryz.prog "strconv.ErrRange" = some #[.iface tp p]) :
    Calls Tryz.prog 73 #[.string s] w fun e w' => e = .returned (.tuple #[.agg #[.int .i8 2, .string (s.extract 0 (Sc.spanN Sc.digi s.data.toList)), .int .i64 (Sc.numNum s (Sc.spanN Sc.digi s.data.toList)), .int .i64 0], .int .i64 (Sc.numErr s (Sc.spanN Sc.digi s.data.toList))]) ∧ Below w.heap.size w w' := by
  have hle := Sc.spanN_le Sc.digi s.data.toList
  rw [Sc.data_len] at hle
  have hsp := span_digit s
  have hall := Sc.allDigi_take s.data.toList
  generalize hn : Sc.spanN Sc.digi s.data.toList = n at *
  have hx : (s.extract 0 n).size = n := by simp; omega
  have hx0 : 0 < (s.extract 0 n).size := by omega
  have hxd : (s.extract 0 n).data.toList = s.data.toList.take n := by rw [Lib.extract_data]; simp
  have hlen : (s.data.toList.take n).length = n := by simp; omega
  have hp := Sc.parse64 (s.data.toList.take n) (by intro h; rw [h] at hlen; simp at hlen; omega) hall
  rw [← hxd] at hp
  have hv : Sc.numFrom 0 (s.extract 0 n).data.toList = Sc.numVal s n := by rw [hxd]; rfl
  rw [hv] at hp
  by_cases hb : Sc.numVal s n < 9223372036854775808
  · rw [if_pos hb] at hp
    have hb' : ¬ 9223372036854775808 ≤ Sc.numVal s n := by omega
    have hdl : (s.extract n s.size).data.toList = s.data.toList.drop n := by rw [Lib.extract_data]; exact List.take_of_length_le (by simp)
    have hsl : ∀ w : World, Calls Tryz.prog 78 #[.string (s.extract n s.size), .func (.func 70) #[] #[]] w fun e w' => e = .returned (.int .i64 (Sc.spanN Sc.lett (s.data.toList.drop n))) ∧ Below w.heap.size w w' := by
      intro w
      rw [← hdl]
      refine (span_letter _ w).mono fun e w' => ?_
      rintro ⟨rfl, pos, rfl⟩
      exact ⟨rfl, (Below.refl _ _).alloc (Nat.le_refl _) _⟩
    have hh := Sc.extract_head s n h1 hle hx0
    have bad_of : ∀ b, Sc.numBad s n = b → Sc.numErr s n = (if b then 10 else 0) ∧ Sc.numNum s n = if b then 0 else (Sc.numVal s n : Int) := by
      intro b hbb
      have : Sc.numErr s n = (if b then 10 else 0) := by unfold Sc.numErr; rw [if_neg hb', hbb]
      refine ⟨this, ?_⟩
      unfold Sc.numNum
      rw [this]
      cases b <;> simp
    by_cases hm : 0 < Sc.spanN Sc.lett (s.data.toList.drop n)
    · have hbad : Sc.numBad s n = true := by unfold Sc.numBad; simp [hm]
      obtain ⟨e1, e2⟩ := bad_of true hbad
      rw [e1, e2]
      by_cases h2 : 1 < n
      · cases h48 : ((((s.extract 0 n)[0]'hx0).toNat : Int) == 48)
        · exact number_letter2 s hs n hle h1 hsp _ hp _ hm hsl hx0 h2 h48 w tp p hvar
        · exact number_zero s hs n hle h1 hsp _ hp hx0 h2 h48 w tp p hvar
      · exact number_letter1 s hs n hle h1 hsp _ hp _ hm hsl h2 w tp p hvar
    · have hm0 : Sc.spanN Sc.lett (s.data.toList.drop n) = 0 := by omega
      rw [hm0] at hsl
      by_cases h2 : 1 < n
      · cases h48 : ((((s.extract 0 n)[0]'hx0).toNat : Int) == 48)
        · have hbad : Sc.numBad s n = false := by
            unfold Sc.numBad
            have : ¬ s.data.toList.head? = some 48 := by
              rw [hh]; intro h; injection h with h; rw [h] at h48; simp at h48
            simp [hm0, this]
          obtain ⟨e1, e2⟩ := bad_of false hbad
          rw [e1, e2]
          exact number_ok2 s hs n hle h1 hsp _ hp hsl hx0 h2 h48 w tp p hvar
        · have hbad : Sc.numBad s n = true := by
            unfold Sc.numBad
            have : s.data.toList.head? = some 48 := by
              rw [hh]; congr 1; apply UInt8.toNat_inj.1; have := beq_iff_eq.1 h48; show _ = 48; omega
            simp [this, h2]
          obtain ⟨e1, e2⟩ := bad_of true hbad
          rw [e1, e2]
          exact number_zero s hs n hle h1 hsp _ hp hx0 h2 h48 w tp p hvar
      · have hbad : Sc.numBad s n = false := by unfold Sc.numBad; simp [hm0, h2]
        obtain ⟨e1, e2⟩ := bad_of false hbad
        rw [e1, e2]
        exact number_ok1 s hs n hle h1 hsp _ hp hsl h2 w tp p hvar
  · rw [if_neg hb] at hp
    have e1 : Sc.numErr s n = 3 := by unfold Sc.numErr; rw [if_pos (by omega)]
    have e2 : Sc.numNum s n = 0 := by unfold Sc.numNum; rw [e1]; rfl
    rw [e1, e2]
    exact number_err s hs n hle h1 hsp hp w tp p hvar
end Go.Proofs.YtocopanencbmeaaGreatDoor
namespace Go.Proofs.YtocopanencbmeaaGreatDoor
open Go.RowKit

def Sc.signs : ByteArray := ⟨#[92, 46, 58, 61, 40, 41, 91, 93, 123, 125, 44, 124, 43, 45, 42, 47, 60, 62, 63, 59]⟩

theorem enc_two (r : Int) (h : 128 ≤ r) (h2 : r ≤ 255) : ∃ b0 b1 : UInt8, Utf8.encode r = ⟨#[b0, b1]⟩ ∧ 128 ≤ b1.toNat := by
  unfold Utf8.encode
  have hv : Utf8.valid r = true := by unfold Utf8.valid; simp; omega
  simp only [hv, if_true]
  have h3 : ¬ r.toNat < 0x80 := by omega
  have h4 : r.toNat < 0x800 := by omega
  rw [if_neg h3, if_pos h4]
  refine ⟨_, _, rfl, ?_⟩
  simp
  omega

theorem indexByte_none (l : List UInt8) (c : UInt8) (h : ∀ b ∈ l, (b == c) = false) : Lib.indexByte l c = -1 := by
  induction l with
  | nil => rfl
  | cons b l ih =>
    unfold Lib.indexByte
    rw [ih fun x hx => h x (by simp [hx]), h b (by simp)]
    rfl
theorem below_drw (w : World) (n : Nat) : Below w.heap.size w (w.drewN n) := ⟨rfl, rfl, rfl, Nat.le_refl _, fun _ _ => rfl⟩
theorem below_drwr {B : Nat} {a w : World} (h : Below B a w) (n : Nat) : Below B a (w.drewN n) := ⟨h.os, h.tape, h.output, h.size, h.block⟩

set_option maxHeartbeats 1000000 in
set_option maxRecDepth 100000 in
theorem indexRune_high (r : Int) (h : 128 ≤ r) (h2 : r ≤ 255) (w : World) :
    Calls Tryz.prog 83 #[.string Sc.signs, .int .i32 r] w fun e w' => e = .returned (.int .i64 (-1)) ∧ Below w.heap.size w w' := by
  obtain ⟨b0, b1, he, hb⟩ := enc_two r h h2
  have hval : Lib.validRune r = true := by unfold Lib.validRune; simp; omega
  have hc1 : (r == 65533) = false := by simp; omega
  have hV : ∀ w : World, Calls Tryz.prog 87 #[.int .i32 r] w fun e w' => e = .returned (.bool true) ∧ w = w' := fun w => (Tryz.utf8_ValidRune r w).mono fun e w' h => ⟨by rw [h.1, hval], h.2.symm⟩
  clear hval
  have hne : (((Sc.signs[1]'(by decide)).toNat : Int) != (((⟨#[b0, b1]⟩ : ByteArray)[1]'(by show 1 < 2; decide)).toNat : Int)) = true := by
    show ((46 : Int) != (b1.toNat : Int)) = true
    rw [bne_iff_ne]; omega
  unfold Sc.signs at *
  have hIB : ∀ (t : ByteArray) (ht : ∀ b ∈ t.data.toList, b.toNat < 128) (w : World), Calls Tryz.prog 86 #[.string t, .int .u8 b1.toNat] w fun e w' => e = .returned (.int .i64 (-1)) ∧ w' = w := by
    intro t ht w
    refine (Tryz.strings_IndexByte t b1.toNat w).mono fun e w' h => ⟨?_, h.2⟩
    rw [h.1, indexByte_none _ _ fun b hb' => ?_]
    have := ht b hb'
    simp at this ⊢
    intro hcon
    rw [hcon] at this
    omega
  go_enter Tryz.func83, Tryz.ntmps83
  go_wp2_with (go_at_call 87; refine (hV _).mono ?_; rintro e w' ⟨rfl, rfl⟩)
  go_step3
  go_wp2_with fail
  refine wp_loop_rounds 1 ?_
  rw [rounds_succ]
  go_wp2_with fail
  go_step3
  go_wp2_with fail
  go_quiet (fail)
  have hbw := below_drw w nq
  generalize w.drewN nq = W at hbw ⊢
  go_wp2_with fail
  go_quiet ((go_at_call 86; exact Calls.quiet_of_same (hIB _ (by decide) _)))
  go_wp2_with fail
  rw [Exit.noGoto_ret]
  go_wp2_with fail
  rw [Exit.noGoto_ret]
  go_wp2_with fail
  go_ret
  exact ⟨rfl, below_drwr hbw _⟩
def Sc.isSign (r : Int) : Bool := decide (r ∈ ([92, 46, 58, 61, 40, 41, 91, 93, 123, 125, 44, 124, 43, 45, 42, 47, 60, 62, 63, 59] : List Int))

theorem sign_ascii : ∀ n : Nat, n < 128 → decide (0 ≤ Lib.indexByte Sc.signs.data.toList n.toUInt8) = Sc.isSign (n : Int) := by decide +kernel

theorem contains_any (r : Int) (h0 : 0 ≤ r) (h1 : r < 256) (w : World) :
    Calls Tryz.prog 75 #[.string Sc.signs, .int .i32 r] w fun e w' => e = .returned (.bool (Sc.isSign r)) ∧ Below w.heap.size w w' := by
  by_cases h : r < 128
  · refine (Tryz.strings_ContainsRune_ascii Sc.signs r w h0 h).mono fun e w' h2 => ?_
    obtain ⟨rfl, rfl⟩ := h2
    obtain ⟨n, rfl⟩ := Int.eq_ofNat_of_zero_le h0
    rw [show (n : Int).toNat.toUInt8 = n.toUInt8 from rfl, sign_ascii n (by omega)]
    exact ⟨rfl, Below.refl _ _⟩
  · have hs : Sc.isSign r = false := by unfold Sc.isSign; simp; omega
    rw [hs]
    have hc := indexRune_high r (by omega) (by omega)
    go_enter Tryz.func75, Tryz.ntmps75
    go_wp2_with (go_at_call 83; refine (hc _).mono ?_; rintro e w' ⟨rfl, hb⟩)
    go_ret
    exact ⟨rfl, hb⟩
end Go.Proofs.YtocopanencbmeaaGreatDoor
namespace Go.Proofs.YtocopanencbmeaaGreatDoor
open Go.RowKit

def Sc.hd (s : ByteArray) : Int := ((s.data.toList.headD 0).toNat : Int)
def Sc.fN (s : ByteArray) : Nat := if Sc.lett (Sc.hd s) then Sc.spanN Sc.lord s.data.toList else if Sc.digi (Sc.hd s) then Sc.spanN Sc.digi s.data.toList else if Lib.hasPrefix s.data.toList [45, 62] then 2 else 1
def Sc.fK (s : ByteArray) : Int := if Sc.lett (Sc.hd s) then Sc.nameKind (s.extract 0 (Sc.fN s)) (Sc.fN s) else if Sc.digi (Sc.hd s) then 2 else if Lib.hasPrefix s.data.toList [45, 62] || Sc.isSign (Sc.hd s) then 4 else 0
def Sc.fE (s : ByteArray) : Int := if Sc.lett (Sc.hd s) then Sc.nameErr (Sc.fN s) else if Sc.digi (Sc.hd s) then Sc.numErr s (Sc.fN s) else if Lib.hasPrefix s.data.toList [45, 62] || Sc.isSign (Sc.hd s) then 0 else 10
def Sc.fV (s : ByteArray) : Int := if Sc.lett (Sc.hd s) then 0 else if Sc.digi (Sc.hd s) then Sc.numNum s (Sc.fN s) else 0

theorem Sc.hd_eq (s : ByteArray) (h : 0 < s.size) : Sc.hd s = ((s[0]'h).toNat : Int) := by
  have hl : 0 < s.data.toList.length := by rw [Sc.data_len]; exact h
  have e := Sc.get_data s 0 h hl
  unfold Sc.hd
  rw [List.headD_eq_head?_getD, List.head?_eq_getElem?, List.getElem?_eq_getElem hl, e]
  rfl

theorem hasPrefix_flip (s p : ByteArray) (w : World) :
    Calls Tryz.prog 74 #[.string s, .string p] w fun e w' => e = .returned (.bool (Lib.hasPrefix s.data.toList p.data.toList)) ∧ w = w' :=
  (Tryz.strings_HasPrefix s p w).mono fun _ _ h => ⟨h.1, h.2.symm⟩

theorem tup4 {k k' v v' e e' : Int} {n n' : Nat} {s : ByteArray} (hk : k = k') (hn : n = n') (hv : v = v') (he : e = e') :
    Ending.returned (.tuple #[.agg #[.int .i8 k, .string (s.extract 0 n), .int .i64 v, .int .i64 0], .int .i64 e]) = .returned (.tuple #[.agg #[.int .i8 k', .string (s.extract 0 n'), .int .i64 v', .int .i64 0], .int .i64 e']) := by rw [hk, hn, hv, he]

/-- the result cell of a function: its own block, the first that it made -/
theorem res_facts {w w1 : World} {v0 v1 v2 v3 : Value} {t : TypeId} (hb : Below (w.alloc (.cells #[v0, v1, v2, v3] t)).heap.size (w.alloc (.cells #[v0, v1, v2, v3] t)) w1) :
    w1.heap[w.heap.size]? = some (.cells #[v0, v1, v2, v3] t) ∧ Below w.heap.size w w1 :=
  ⟨heap_below hb (by simp) (heap_new w _), ((Below.refl _ _).alloc (Nat.le_refl _) _).trans (hb.mono (by simp))⟩

set_option maxHeartbeats 1000000 in
set_option maxRecDepth 100000 in
theorem first_name (s : ByteArray) (h0 : 0 < s.size) (w : World) (k v er : Int) (n : Nat)
    (hL : ∀ w : World, Calls Tryz.prog 70 #[.int .i32 ((s[0]).toNat : Int)] w fun e w' => e = .returned (.bool true) ∧ w = w')
    (hF : ∀ w1 : World, Below w.heap.size w w1 → Calls Tryz.prog 71 #[.string s] w1 fun e w' => e = .returned (.tuple #[.agg #[.int .i8 k, .string (s.extract 0 n), .int .i64 v, .int .i64 0], .int .i64 er]) ∧ Below w1.heap.size w1 w')
    :
    Calls Tryz.prog 63 #[.string s] w fun e w' => e = .returned (.tuple #[.agg #[.int .i8 (k), .string (s.extract 0 (n)), .int .i64 (v), .int .i64 0], .int .i64 (er)]) ∧ Below w.heap.size w w' := by
  have i0 : (0 : Int) < s.size := by omega
  have hw32 : wrap32 ((s[0]).toNat : Int) = ((s[0]).toNat : Int) := by have := (s[0]).toNat_lt; exact IntWalk.wrap32_in _ ⟨by omega, by omega⟩
  go_enter Tryz.func63, Tryz.ntmps63
  go_wp2_with (first | (go_at_call 70; refine (hL _).mono ?_; rintro e w1 ⟨rfl, rfl⟩) | (go_at_call 71; refine (hF _ ((Below.refl _ _).alloc (Nat.le_refl _) _)).mono ?_; rintro e w1 ⟨rfl, hb⟩; have hbw := (res_facts hb).2; obtain ⟨q0, q1, q2, q3, f0, f1, f2, f3, hz⟩ := own4 (res_facts hb).1))
  refine bodyPost_ret (v := .tuple #[.agg #[.int .i8 (k), .string (s.extract 0 (n)), .int .i64 (v), .int .i64 0], .int .i64 (er)]) (by simp [results, Tryz.results63, go_sem, *]) rfl ⟨rfl, ?_⟩
  exact below_set4 hbw (Nat.le_refl _) _ _ _ _

set_option maxHeartbeats 1000000 in
set_option maxRecDepth 100000 in
theorem first_number (s : ByteArray) (h0 : 0 < s.size) (w : World) (k v er : Int) (n : Nat)
    (hL : ∀ w : World, Calls Tryz.prog 70 #[.int .i32 ((s[0]).toNat : Int)] w fun e w' => e = .returned (.bool false) ∧ w = w')
    (hD : ∀ w : World, Calls Tryz.prog 72 #[.int .i32 ((s[0]).toNat : Int)] w fun e w' => e = .returned (.bool true) ∧ w = w')
    (hF : ∀ w1 : World, Below w.heap.size w w1 → Calls Tryz.prog 73 #[.string s] w1 fun e w' => e = .returned (.tuple #[.agg #[.int .i8 k, .string (s.extract 0 n), .int .i64 v, .int .i64 0], .int .i64 er]) ∧ Below w1.heap.size w1 w')
    :
    Calls Tryz.prog 63 #[.string s] w fun e w' => e = .returned (.tuple #[.agg #[.int .i8 (k), .string (s.extract 0 (n)), .int .i64 (v), .int .i64 0], .int .i64 (er)]) ∧ Below w.heap.size w w' := by
  have i0 : (0 : Int) < s.size := by omega
  have hw32 : wrap32 ((s[0]).toNat : Int) = ((s[0]).toNat : Int) := by have := (s[0]).toNat_lt; exact IntWalk.wrap32_in _ ⟨by omega, by omega⟩
  go_enter Tryz.func63, Tryz.ntmps63
  go_wp2_with (first | (go_at_call 70; refine (hL _).mono ?_; rintro e w1 ⟨rfl, rfl⟩) | (go_at_call 72; refine (hD _).mono ?_; rintro e w1 ⟨rfl, rfl⟩) | (go_at_call 73; refine (hF _ ((Below.refl _ _).alloc (Nat.le_refl _) _)).mono ?_; rintro e w1 ⟨rfl, hb⟩; have hbw := (res_facts hb).2; obtain ⟨q0, q1, q2, q3, f0, f1, f2, f3, hz⟩ := own4 (res_facts hb).1))
  refine bodyPost_ret (v := .tuple #[.agg #[.int .i8 (k), .string (s.extract 0 (n)), .int .i64 (v), .int .i64 0], .int .i64 (er)]) (by simp [results, Tryz.results63, go_sem, *]) rfl ⟨rfl, ?_⟩
  exact below_set4 hbw (Nat.le_refl _) _ _ _ _

set_option maxHeartbeats 1000000 in
set_option maxRecDepth 100000 in
theorem first_arrow (s : ByteArray) (hs : s.size ≤ 281474976710656) (h0 : 0 < s.size)
    (hL : ∀ w : World, Calls Tryz.prog 70 #[.int .i32 ((s[0]).toNat : Int)] w fun e w' => e = .returned (.bool false) ∧ w = w')
    (hD : ∀ w : World, Calls Tryz.prog 72 #[.int .i32 ((s[0]).toNat : Int)] w fun e w' => e = .returned (.bool false) ∧ w = w')
    (hH : ∀ w : World, Calls Tryz.prog 74 #[.string s, .string ⟨#[45, 62]⟩] w fun e w' => e = .returned (.bool true) ∧ w = w')
    (h2 : 2 ≤ s.size) (w : World) :
    Calls Tryz.prog 63 #[.string s] w fun e w' => e = .returned (.tuple #[.agg #[.int .i8 (4), .string (s.extract 0 (2)), .int .i64 (0), .int .i64 0], .int .i64 (0)]) ∧ Below w.heap.size w w' := by
  have i0 : (0 : Int) < s.size := by omega
  have hw32 : wrap32 ((s[0]).toNat : Int) = ((s[0]).toNat : Int) := by have := (s[0]).toNat_lt; exact IntWalk.wrap32_in _ ⟨by omega, by omega⟩
  have hx : (s.extract 0 2).size = 2 := by simp; omega
  have HX := Lib.hid hx
  clear hx
  have i2 : (2 : Int) ≤ s.size := by omega
  go_enter Tryz.func63, Tryz.ntmps63
  go_wp2_with (first | (go_at_call 70; refine (hL _).mono ?_; rintro e w1 ⟨rfl, rfl⟩) | (go_at_call 72; refine (hD _).mono ?_; rintro e w1 ⟨rfl, rfl⟩) | (go_at_call 74; refine (hH _).mono ?_; rintro e w1 ⟨rfl, rfl⟩) | (go_at_call 76; refine (word_any 4 _ (by rw [HX.out]; omega) _).mono ?_; rintro e w1 ⟨rfl, hb⟩; have hbw := (res_facts hb).2; obtain ⟨q0, q1, q2, q3, f0, f1, f2, f3, hz⟩ := own4 (res_facts hb).1))
  refine bodyPost_ret (v := .tuple #[.agg #[.int .i8 (4), .string (s.extract 0 (2)), .int .i64 (0), .int .i64 0], .int .i64 (0)]) (by simp [results, Tryz.results63, go_sem, *]) rfl ⟨rfl, ?_⟩
  exact below_set4 hbw (Nat.le_refl _) _ _ _ _

set_option maxHeartbeats 1000000 in
set_option maxRecDepth 100000 in
theorem first_sign (s : ByteArray) (hs : s.size ≤ 281474976710656) (h0 : 0 < s.size)
    (hL : ∀ w : World, Calls Tryz.prog 70 #[.int .i32 ((s[0]).toNat : Int)] w fun e w' => e = .returned (.bool false) ∧ w = w')
    (hD : ∀ w : World, Calls Tryz.prog 72 #[.int .i32 ((s[0]).toNat : Int)] w fun e w' => e = .returned (.bool false) ∧ w = w')
    (hH : ∀ w : World, Calls Tryz.prog 74 #[.string s, .string ⟨#[45, 62]⟩] w fun e w' => e = .returned (.bool false) ∧ w = w')
    (hR : ∀ w : World, Calls Tryz.prog 75 #[.string ⟨#[92, 46, 58, 61, 40, 41, 91, 93, 123, 125, 44, 124, 43, 45, 42, 47, 60, 62, 63, 59]⟩, .int .i32 ((s[0]).toNat : Int)] w fun e w' => e = .returned (.bool true) ∧ Below w.heap.size w w')
     (w : World) :
    Calls Tryz.prog 63 #[.string s] w fun e w' => e = .returned (.tuple #[.agg #[.int .i8 (4), .string (s.extract 0 (1)), .int .i64 (0), .int .i64 0], .int .i64 (0)]) ∧ Below w.heap.size w w' := by
  have i0 : (0 : Int) < s.size := by omega
  have hw32 : wrap32 ((s[0]).toNat : Int) = ((s[0]).toNat : Int) := by have := (s[0]).toNat_lt; exact IntWalk.wrap32_in _ ⟨by omega, by omega⟩
  have hx : (s.extract 0 1).size = 1 := by simp; omega
  have HX := Lib.hid hx
  clear hx
  have i2 : (1 : Int) ≤ s.size := by omega
  go_enter Tryz.func63, Tryz.ntmps63
  go_wp2_with (first | (go_at_call 70; refine (hL _).mono ?_; rintro e w1 ⟨rfl, rfl⟩) | (go_at_call 72; refine (hD _).mono ?_; rintro e w1 ⟨rfl, rfl⟩) | (go_at_call 74; refine (hH _).mono ?_; rintro e w1 ⟨rfl, rfl⟩) | (go_at_call 75; refine (hR _).mono ?_; rintro e w1 ⟨rfl, hb⟩; have hbw := (res_facts hb).2; have HH := Lib.hid (res_facts hb).1; obtain ⟨q0, q1, q2, q3, f0, f1, f2, f3, hz⟩ := own4 HH.out) | (go_at_call 76; refine (word_any 4 _ (by rw [HX.out]; omega) _).mono ?_; rintro e w2 ⟨rfl, hb2⟩; have hbw2 := hbw.trans (hb2.mono hbw.size); obtain ⟨q0, q1, q2, q3, f0, f1, f2, f3, hz⟩ := own4 (heap_below hb2 hz HH.out)))
  refine bodyPost_ret (v := .tuple #[.agg #[.int .i8 (4), .string (s.extract 0 (1)), .int .i64 (0), .int .i64 0], .int .i64 (0)]) (by simp [results, Tryz.results63, go_sem, *]) rfl ⟨rfl, ?_⟩
  exact below_set4 hbw2 (Nat.le_refl _) _ _ _ _

set_option maxHeartbeats 1000000 in
set_option maxRecDepth 100000 in
theorem first_none (s : ByteArray) (hs : s.size ≤ 281474976710656) (h0 : 0 < s.size)
    (hL : ∀ w : World, Calls Tryz.prog 70 #[.int .i32 ((s[0]).toNat : Int)] w fun e w' => e = .returned (.bool false) ∧ w = w')
    (hD : ∀ w : World, Calls Tryz.prog 72 #[.int .i32 ((s[0]).toNat : Int)] w fun e w' => e = .returned (.bool false) ∧ w = w')
    (hH : ∀ w : World, Calls Tryz.prog 74 #[.string s, .string ⟨#[45, 62]⟩] w fun e w' => e = .returned (.bool false) ∧ w = w')
    (hR : ∀ w : World, Calls Tryz.prog 75 #[.string ⟨#[92, 46, 58, 61, 40, 41, 91, 93, 123, 125, 44, 124, 43, 45, 42, 47, 60, 62, 63, 59]⟩, .int .i32 ((s[0]).toNat : Int)] w fun e w' => e = .returned (.bool false) ∧ Below w.heap.size w w')
     (w : World) :
    Calls Tryz.prog 63 #[.string s] w fun e w' => e = .returned (.tuple #[.agg #[.int .i8 (0), .string (s.extract 0 (1)), .int .i64 (0), .int .i64 0], .int .i64 (10)]) ∧ Below w.heap.size w w' := by
  have i0 : (0 : Int) < s.size := by omega
  have hw32 : wrap32 ((s[0]).toNat : Int) = ((s[0]).toNat : Int) := by have := (s[0]).toNat_lt; exact IntWalk.wrap32_in _ ⟨by omega, by omega⟩
  have hx : (s.extract 0 1).size = 1 := by simp; omega
  have HX := Lib.hid hx
  clear hx
  have i2 : (1 : Int) ≤ s.size := by omega
  go_enter Tryz.func63, Tryz.ntmps63
  go_wp2_with (first | (go_at_call 70; refine (hL _).mono ?_; rintro e w1 ⟨rfl, rfl⟩) | (go_at_call 72; refine (hD _).mono ?_; rintro e w1 ⟨rfl, rfl⟩) | (go_at_call 74; refine (hH _).mono ?_; rintro e w1 ⟨rfl, rfl⟩) | (go_at_call 75; refine (hR _).mono ?_; rintro e w1 ⟨rfl, hb⟩; have hbw := (res_facts hb).2; have HH := Lib.hid (res_facts hb).1; obtain ⟨q0, q1, q2, q3, f0, f1, f2, f3, hz⟩ := own4 HH.out) | (go_at_call 76; refine (word_any 0 _ (by rw [HX.out]; omega) _).mono ?_; rintro e w2 ⟨rfl, hb2⟩; have hbw2 := hbw.trans (hb2.mono hbw.size); obtain ⟨q0, q1, q2, q3, f0, f1, f2, f3, hz⟩ := own4 (heap_below hb2 hz HH.out)))
  refine bodyPost_ret (v := .tuple #[.agg #[.int .i8 (0), .string (s.extract 0 (1)), .int .i64 (0), .int .i64 0], .int .i64 (10)]) (by simp [results, Tryz.results63, go_sem, *]) rfl ⟨rfl, ?_⟩
  exact below_set4 hbw2 (Nat.le_refl _) _ _ _ _
end Go.Proofs.YtocopanencbmeaaGreatDoor
namespace Go.Proofs.YtocopanencbmeaaGreatDoor
open Go.RowKit

theorem Sc.spanN_pos (q : Int → Bool) (s : ByteArray) (h : 0 < s.size) (hq : q (Sc.hd s) = true) : 1 ≤ Sc.spanN q s.data.toList := by
  have hl : 0 < s.data.toList.length := by rw [Sc.data_len]; exact h
  refine Sc.spanN_more q _ 0 hl (Nat.zero_le _) ?_
  rw [Sc.get_data s 0 h hl, ← Sc.hd_eq s h]
  exact hq

theorem Sc.hasPrefix_two (l : List UInt8) (h : Lib.hasPrefix l [45, 62] = true) : 2 ≤ l.length := by
  match l with
  | [] => simp [Lib.hasPrefix] at h
  | [a] => simp [Lib.hasPrefix] at h
  | a :: b :: l => simp

theorem first_any (s : ByteArray) (hs : s.size ≤ 281474976710656) (h0 : 0 < s.size) (w : World) (tp : TypeId) (p : Value) (hvar : w.var? Tryz.prog "strconv.ErrRange" = some #[.iface tp p]) :
    Calls Tryz.prog 63 #[.string s] w fun e w' => e = .returned (.tuple #[.agg #[.int .i8 (Sc.fK s), .string (s.extract 0 (Sc.fN s)), .int .i64 (Sc.fV s), .int .i64 0], .int .i64 (Sc.fE s)]) ∧ Below w.heap.size w w' := by
  have hd := Sc.hd_eq s h0
  have hb : (s[0]).toNat < 256 := (s[0]).toNat_lt
  have hL := scan_letter_any ((s[0]).toNat : Int)
  have hD := scan_digit_any ((s[0]).toNat : Int)
  have hH := hasPrefix_flip s ⟨#[45, 62]⟩
  have hR := contains_any ((s[0]).toNat : Int) (by omega) (by omega)
  rw [← hd] at hL hD hR
  by_cases c1 : Sc.lett (Sc.hd s) = true
  · have e1 : Sc.fN s = Sc.spanN Sc.lord s.data.toList := by unfold Sc.fN; rw [if_pos c1]
    have e2 : Sc.fK s = Sc.nameKind (s.extract 0 (Sc.fN s)) (Sc.fN s) := by unfold Sc.fK; rw [if_pos c1]
    have e3 : Sc.fE s = Sc.nameErr (Sc.fN s) := by unfold Sc.fE; rw [if_pos c1]
    have e4 : Sc.fV s = 0 := by unfold Sc.fV; rw [if_pos c1]
    rw [e2, e3, e4, e1]
    rw [c1] at hL
    rw [hd] at hL
    exact first_name s h0 w _ _ _ _ hL fun w1 _ => name_any s hs w1
  · rw [Bool.not_eq_true] at c1
    by_cases c2 : Sc.digi (Sc.hd s) = true
    · have e1 : Sc.fN s = Sc.spanN Sc.digi s.data.toList := by unfold Sc.fN; rw [c1, if_neg (by decide), if_pos c2]
      have e2 : Sc.fK s = 2 := by unfold Sc.fK; rw [c1, if_neg (by decide), if_pos c2]
      have e3 : Sc.fE s = Sc.numErr s (Sc.fN s) := by unfold Sc.fE; rw [c1, if_neg (by decide), if_pos c2]
      have e4 : Sc.fV s = Sc.numNum s (Sc.fN s) := by unfold Sc.fV; rw [c1, if_neg (by decide), if_pos c2]
      rw [e2, e3, e4, e1]
      rw [c1, hd] at hL
      rw [c2, hd] at hD
      exact first_number s h0 w _ _ _ _ hL hD fun w1 hb => number_any s hs (Sc.spanN_pos _ s h0 c2) w1 tp p (var_at hb hvar)
    · rw [Bool.not_eq_true] at c2
      rw [c1, hd] at hL
      rw [c2, hd] at hD
      by_cases c3 : Lib.hasPrefix s.data.toList [45, 62] = true
      · have e1 : Sc.fN s = 2 := by unfold Sc.fN; rw [c1, c2, c3]; rfl
        have e2 : Sc.fK s = 4 := by unfold Sc.fK; rw [c1, c2, c3]; rfl
        have e3 : Sc.fE s = 0 := by unfold Sc.fE; rw [c1, c2, c3]; rfl
        have e4 : Sc.fV s = 0 := by unfold Sc.fV; rw [c1, c2]; rfl
        rw [e2, e3, e4, e1]
        have hH' : ∀ w : World, Calls Tryz.prog 74 #[.string s, .string ⟨#[45, 62]⟩] w fun e w' => e = .returned (.bool true) ∧ w = w' := by
          intro w
          have := hH w
          rw [show (⟨#[45, 62]⟩ : ByteArray).data.toList = [45, 62] from rfl, c3] at this
          exact this
        have h2 := Sc.hasPrefix_two _ c3
        rw [Sc.data_len] at h2
        exact first_arrow s hs h0 hL hD hH' h2 w
      · rw [Bool.not_eq_true] at c3
        have hH' : ∀ w : World, Calls Tryz.prog 74 #[.string s, .string ⟨#[45, 62]⟩] w fun e w' => e = .returned (.bool false) ∧ w = w' := by
          intro w
          have := hH w
          rw [show (⟨#[45, 62]⟩ : ByteArray).data.toList = [45, 62] from rfl, c3] at this
          exact this
        have e1 : Sc.fN s = 1 := by unfold Sc.fN; rw [c1, c2, c3]; rfl
        have e4 : Sc.fV s = 0 := by unfold Sc.fV; rw [c1, c2]; rfl
        by_cases c4 : Sc.isSign (Sc.hd s) = true
        · have e2 : Sc.fK s = 4 := by unfold Sc.fK; rw [c1, c2, c3, c4]; rfl
          have e3 : Sc.fE s = 0 := by unfold Sc.fE; rw [c1, c2, c3, c4]; rfl
          rw [e2, e3, e4, e1]
          rw [c4, hd] at hR
          exact first_sign s hs h0 hL hD hH' hR w
        · rw [Bool.not_eq_true] at c4
          have e2 : Sc.fK s = 0 := by unfold Sc.fK; rw [c1, c2, c3, c4]; rfl
          have e3 : Sc.fE s = 10 := by unfold Sc.fE; rw [c1, c2, c3, c4]; rfl
          rw [e2, e3, e4, e1]
          rw [c4, hd] at hR
          exact first_none s hs h0 hL hD hH' hR w

/-- whether a text is one name -/
def Sc.isName (s : ByteArray) : Bool := if s.size = 0 then false else decide (Sc.fE s = 0) && decide (Sc.fK s = 1) && decide (Sc.fN s = s.size)

theorem Sc.fN_le (s : ByteArray) (h0 : 0 < s.size) : Sc.fN s ≤ s.size := by
  have h1 := Sc.spanN_le Sc.lord s.data.toList
  have h2 := Sc.spanN_le Sc.digi s.data.toList
  rw [Sc.data_len] at h1 h2
  unfold Sc.fN
  split
  · exact h1
  · split
    · exact h2
    · split
      · rename_i h; have := Sc.hasPrefix_two _ h; rw [Sc.data_len] at this; exact this
      · omega

theorem Sc.extract_beq (s : ByteArray) (n : Nat) (h : n ≤ s.size) : ((s.extract 0 n).toList == s.toList) = decide (n = s.size) := by
  rw [Bool.eq_iff_iff, beq_iff_eq, decide_eq_true_iff, Lib.extract_toList, Lib.toList_data]
  have hl := Sc.data_len s
  constructor
  · intro h1
    have := congrArg List.length h1
    simp at this
    omega
  · rintro rfl
    simp [List.take_of_length_le]
end Go.Proofs.YtocopanencbmeaaGreatDoor
