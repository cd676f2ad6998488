/-
  The words of a text, as a plain function: what scan.All answers.
-/
import Derived.Test.YtjngdhbaobbaeaaDoorFirstAny
namespace Go.Proofs.YtjngdhbaobbaeaaDoor
namespace Sc
/-- a word: kind, text, number, place -/
abbrev Wd := Int × ByteArray × Int × Nat
/-- a fault: code, place, text -/
abbrev Flt := Int × Nat × ByteArray
def byteAt (s : ByteArray) (at' : Nat) : Int := ((s.data.toList.drop at').headD 0).toNat
def skipN (s : ByteArray) (at' : Nat) : Nat := spanN notNl (s.data.toList.drop at')
def rest (s : ByteArray) (at' : Nat) : ByteArray := s.extract at' s.size
def wordAt (s : ByteArray) (at' : Nat) : Wd := (fK (rest s at'), (rest s at').extract 0 (fN (rest s at')), fV (rest s at'), at')
def faultAt (s : ByteArray) (at' : Nat) : Flt := (fE (rest s at'), at', (rest s at').extract 0 (fN (rest s at')))

def toks (s : ByteArray) : Nat → Nat → List Wd × Option Flt
  | 0, _ => ([], none)
  | f + 1, at' =>
    if s.size ≤ at' then ([], none)
    else if blan (byteAt s at') then toks s f (at' + 1)
    else if byteAt s at' = 35 then toks s f (at' + skipN s at')
    else if fE (rest s at') ≠ 0 then ([], some (faultAt s at'))
    else (wordAt s at' :: (toks s f (at' + fN (rest s at'))).1, (toks s f (at' + fN (rest s at'))).2)

theorem byteAt_eq (s : ByteArray) (k : Nat) (h : k < s.size) : byteAt s k = ((s[k]).toNat : Int) := by
  unfold byteAt
  have hl : k < s.data.toList.length := by rw [data_len]; exact h
  rw [List.drop_eq_getElem_cons hl, List.headD_cons, get_data s k h hl]

theorem rest_data (s : ByteArray) (k : Nat) : (rest s k).data.toList = s.data.toList.drop k := by
  unfold rest
  rw [Lib.extract_data]
  exact List.take_of_length_le (by simp)
theorem rest_size (s : ByteArray) (k : Nat) : (rest s k).size = s.size - k := by
  unfold rest; simp
theorem hd_rest (s : ByteArray) (k : Nat) : hd (rest s k) = byteAt s k := by
  unfold hd byteAt; rw [rest_data]

theorem skipN_pos (s : ByteArray) (k : Nat) (h : k < s.size) (h35 : byteAt s k = 35) : 1 ≤ skipN s k := by
  have := spanN_pos notNl (rest s k) (by rw [rest_size]; omega) (by rw [hd_rest, h35]; decide)
  rw [rest_data] at this
  exact this
theorem skipN_le (s : ByteArray) (k : Nat) : skipN s k ≤ s.size - k := by
  have := spanN_le notNl (s.data.toList.drop k)
  rw [List.length_drop, data_len] at this
  exact this

theorem fN_pos (s : ByteArray) (h0 : 0 < s.size) : 1 ≤ fN s := by
  unfold fN
  split
  · rename_i h
    exact spanN_pos lord s h0 (by unfold lord; rw [h]; rfl)
  · split
    · rename_i h; exact spanN_pos digi s h0 h
    · split <;> decide

/-- enough fuel is enough -/
theorem toks_fuel (s : ByteArray) : ∀ (f g at' : Nat), s.size < f + at' → s.size < g + at' → toks s f at' = toks s g at' := by
  intro f
  induction f with
  | zero =>
    intro g at' h1 _
    cases g with
    | zero => rfl
    | succ g => unfold toks; rw [if_pos (by omega)]
  | succ f ih =>
    intro g at' h1 h2
    cases g with
    | zero => conv => lhs; unfold toks
              rw [if_pos (by omega)]; rfl
    | succ g =>
      unfold toks
      by_cases h : s.size ≤ at'
      · rw [if_pos h, if_pos h]
      · rw [if_neg h, if_neg h]
        by_cases hb : blan (byteAt s at') = true
        · rw [if_pos hb, if_pos hb]; exact ih g (at' + 1) (by omega) (by omega)
        · rw [if_neg hb, if_neg hb]
          by_cases h35 : byteAt s at' = 35
          · have := skipN_pos s at' (by omega) h35
            rw [if_pos h35, if_pos h35]; exact ih g _ (by omega) (by omega)
          · rw [if_neg h35, if_neg h35]
            have := fN_pos (rest s at') (by rw [rest_size]; omega)
            rw [ih g (at' + fN (rest s at')) (by omega) (by omega)]

def tk (s : ByteArray) (at' : Nat) : List Wd × Option Flt := toks s (s.size + 1) at'

theorem tk_step (s : ByteArray) (at' : Nat) : tk s at' = if s.size ≤ at' then ([], none)
    else if blan (byteAt s at') then tk s (at' + 1)
    else if byteAt s at' = 35 then tk s (at' + skipN s at')
    else if fE (rest s at') ≠ 0 then ([], some (faultAt s at'))
    else (wordAt s at' :: (tk s (at' + fN (rest s at'))).1, (tk s (at' + fN (rest s at'))).2) := by
  unfold tk
  conv => lhs; unfold toks
  by_cases h : s.size ≤ at'
  · rw [if_pos h, if_pos h]
  · rw [if_neg h, if_neg h]
    by_cases hb : blan (byteAt s at') = true
    · rw [if_pos hb, if_pos hb]; exact toks_fuel s _ _ _ (by omega) (by omega)
    · rw [if_neg hb, if_neg hb]
      by_cases h35 : byteAt s at' = 35
      · have := skipN_pos s at' (by omega) h35
        rw [if_pos h35, if_pos h35]; exact toks_fuel s _ _ _ (by omega) (by omega)
      · rw [if_neg h35, if_neg h35]
        have := fN_pos (rest s at') (by rw [rest_size]; omega)
        rw [toks_fuel s s.size (s.size + 1) (at' + fN (rest s at')) (by omega) (by omega)]

theorem tk_end (s : ByteArray) (k : Nat) (h : s.size ≤ k) : tk s k = ([], none) := by rw [tk_step, if_pos h]
theorem tk_blank (s : ByteArray) (k : Nat) (h : k < s.size) (hb : blan (byteAt s k) = true) : tk s k = tk s (k + 1) := by
  rw [tk_step, if_neg (by omega), if_pos hb]
theorem tk_remark (s : ByteArray) (k : Nat) (h : k < s.size) (h35 : byteAt s k = 35) : tk s k = tk s (k + skipN s k) := by
  rw [tk_step, if_neg (by omega), if_neg (by rw [h35]; decide), if_pos h35]
theorem tk_fault (s : ByteArray) (k : Nat) (h : k < s.size) (hb : blan (byteAt s k) = false) (h35 : byteAt s k ≠ 35) (he : fE (rest s k) ≠ 0) : tk s k = ([], some (faultAt s k)) := by
  rw [tk_step, if_neg (by omega), hb, if_neg (by decide), if_neg h35, if_pos he]
theorem tk_word (s : ByteArray) (k : Nat) (h : k < s.size) (hb : blan (byteAt s k) = false) (h35 : byteAt s k ≠ 35) (he : fE (rest s k) = 0) :
    tk s k = (wordAt s k :: (tk s (k + fN (rest s k))).1, (tk s (k + fN (rest s k))).2) := by
  rw [tk_step, if_neg (by omega), hb, if_neg (by decide), if_neg h35, if_neg (by simpa using he)]

/-- from pos on the runes' steps come to past -/
def lands (s : ByteArray) (pos past : Nat) : Prop :=
  pos ≤ past ∧ past ≤ s.size ∧ (past = s.size ∨ (∃ h : past < s.size, (s[past]).toNat < 128) ∨ ∀ j (h : j < s.size), pos ≤ j → j < past → (s[j]).toNat < 128)

theorem lands_step (s : ByteArray) (pos past : Nat) (h : lands s pos past) (hlt : pos < past) : lands s (pos + (Utf8.decode s pos).2) past := by
  obtain ⟨h1, h2, h3⟩ := h
  have hp : pos < s.size := by omega
  by_cases hb : 128 ≤ (s[pos]).toNat
  · obtain ⟨w1, w2⟩ := dec_wide s pos hp hb
    have hle : pos + (Utf8.decode s pos).2 ≤ past := by
      rcases h3 with h3 | ⟨hq, h3⟩ | h3
      · omega
      · rcases Nat.lt_or_ge past (pos + (Utf8.decode s pos).2) with hc | hc
        · have := w2 past hq (by omega) hc; omega
        · exact hc
      · have := h3 pos hp (by omega) hlt; omega
    refine ⟨hle, h2, ?_⟩
    rcases h3 with h3 | h3 | h3
    · exact .inl h3
    · exact .inr (.inl h3)
    · exact .inr (.inr fun j hj a b => h3 j hj (by omega) b)
  · rw [decode_ascii s pos hp (by omega)]
    refine ⟨by omega, h2, ?_⟩
    rcases h3 with h3 | h3 | h3
    · exact .inl h3
    · exact .inr (.inl h3)
    · exact .inr (.inr fun j hj a b => h3 j hj (by omega) b)

theorem lands_remark (s : ByteArray) (pos : Nat) (h : pos < s.size) (h35 : byteAt s pos = 35) : lands s (pos + 1) (pos + skipN s pos) := by
  have h1 := skipN_pos s pos h h35
  have h2 := skipN_le s pos
  refine ⟨by omega, by omega, ?_⟩
  by_cases he : pos + skipN s pos = s.size
  · exact .inl he
  · have hlt : spanN notNl (s.data.toList.drop pos) < (s.data.toList.drop pos).length := by
      rw [List.length_drop, data_len]; show skipN s pos < _; omega
    have := spanN_stop notNl _ hlt
    refine .inr (.inl ⟨by omega, ?_⟩)
    have hlen : pos + skipN s pos < s.data.toList.length := by rw [data_len]; omega
    have e : (s.data.toList.drop pos)[spanN notNl (s.data.toList.drop pos)] = s.data.toList[pos + skipN s pos] := by
      rw [List.getElem_drop]; rfl
    rw [e, get_data s _ (by omega) hlen] at this
    simp [notNl] at this
    omega

theorem ascii_of_lord (r : Int) (h : lord r = true) : r < 128 := by
  simp [lord, lett, digi] at h; omega
theorem ascii_of_digi (r : Int) (h : digi r = true) : r < 128 := by
  simp [digi] at h; omega
theorem ascii_of_sign (r : Int) (h : isSign r = true) : r < 128 := by
  simp [isSign] at h; omega

theorem fN_ascii (s : ByteArray) (_h0 : 0 < s.size) (he : fE s = 0) : ∀ j (h : j < s.size), j < fN s → (s[j]).toNat < 128 := by
  intro j h hj
  have hl : j < s.data.toList.length := by rw [data_len]; exact h
  unfold fN at hj
  split at hj
  · have := ascii_of_lord _ (spanN_get lord _ j hl hj)
    rw [get_data s j h hl] at this; omega
  · split at hj
    · have := ascii_of_digi _ (spanN_get digi _ j hl hj)
      rw [get_data s j h hl] at this; omega
    · rename_i n1 n2
      split at hj
      · rename_i hp
        have e : ∀ (l : List UInt8) (hl : j < l.length), Lib.hasPrefix l [45, 62] = true → j < 2 → (l[j]).toNat < 128 := by
          intro l hl hp hj
          cases l with
          | nil => simp at hl
          | cons a l =>
            cases l with
            | nil => simp [Lib.hasPrefix] at hp
            | cons b l =>
              simp [Lib.hasPrefix] at hp
              obtain ⟨h1, h2⟩ := hp
              cases j with
              | zero => rw [List.getElem_cons_zero, ← h1]; decide
              | succ j =>
                cases j with
                | zero => rw [List.getElem_cons_succ, List.getElem_cons_zero, ← h2]; decide
                | succ j => omega
        have := e _ hl hp hj
        rw [get_data s j h hl] at this; omega
      · rename_i hp
        have hj0 : j = 0 := by omega
        subst hj0
        have hs : isSign (hd s) = true := by
          cases hq : isSign (hd s)
          · exfalso
            unfold fE at he
            simp [n1, n2, hp, hq] at he
          · rfl
        have := ascii_of_sign _ hs
        rw [hd_eq s h] at this
        omega

theorem rest_get (s : ByteArray) (k j : Nat) (h : k + j < s.size) (h' : j < (rest s k).size) : (rest s k)[j] = s[k + j] := by
  have h1 : j < (rest s k).data.toList.length := by rw [data_len]; exact h'
  have h2 : k + j < s.data.toList.length := by rw [data_len]; exact h
  rw [← get_data _ j h' h1, ← get_data s (k + j) h h2]
  simp only [rest_data, List.getElem_drop]

theorem lands_word (s : ByteArray) (pos : Nat) (h : pos < s.size) (he : fE (rest s pos) = 0) : lands s (pos + 1) (pos + fN (rest s pos)) ∧ (s[pos]).toNat < 128 := by
  have hr : 0 < (rest s pos).size := by rw [rest_size]; omega
  have h1 := fN_pos _ hr
  have h2 := fN_le _ hr
  rw [rest_size] at h2
  have ha := fN_ascii _ hr he
  have key : ∀ j (h : j < s.size), pos ≤ j → j < pos + fN (rest s pos) → (s[j]).toNat < 128 := by
    intro j hj a b
    have hj' : j - pos < (rest s pos).size := by rw [rest_size]; omega
    have := ha (j - pos) hj' (by omega)
    rw [rest_get s pos (j - pos) (by omega) hj'] at this
    simpa [show pos + (j - pos) = j by omega] using this
  exact ⟨⟨by omega, by omega, .inr (.inr fun j hj a b => key j hj (by omega) b)⟩, key pos h (Nat.le_refl _) (by omega)⟩

theorem width_pos (s : ByteArray) (pos : Nat) (h : pos < s.size) : 1 ≤ (Utf8.decode s pos).2 := by
  by_cases hb : 128 ≤ (s[pos]).toNat
  · exact (decode_high s pos h hb).2
  · rw [decode_ascii s pos h (by omega)]; exact Nat.le_refl _
/-- a rune's tests are its first byte's -/
theorem rune_blank (s : ByteArray) (pos : Nat) (h : pos < s.size) : blan ((Utf8.decode s pos).1 : Int) = blan (byteAt s pos) := by
  rw [byteAt_eq s pos h]
  by_cases hb : 128 ≤ (s[pos]).toNat
  · have := (decode_high s pos h hb).1
    have e1 : blan ((Utf8.decode s pos).1 : Int) = false := by simp [blan]; omega
    have e2 : blan ((s[pos]).toNat : Int) = false := by simp [blan]; omega
    rw [e1, e2]
  · rw [decode_ascii s pos h (by omega)]
theorem rune_hash (s : ByteArray) (pos : Nat) (h : pos < s.size) : (((Utf8.decode s pos).1 : Int) == 35) = decide (byteAt s pos = 35) := by
  rw [byteAt_eq s pos h]
  by_cases hb : 128 ≤ (s[pos]).toNat
  · have := (decode_high s pos h hb).1
    rw [Bool.eq_iff_iff]; simp; omega
  · rw [decode_ascii s pos h (by omega)]
    rw [Bool.eq_iff_iff]; simp
theorem width_one (s : ByteArray) (pos : Nat) (h : pos < s.size) (hb : byteAt s pos < 128) : (Utf8.decode s pos).2 = 1 := by
  rw [byteAt_eq s pos h] at hb
  rw [decode_ascii s pos h (by omega)]
end Sc
end Go.Proofs.YtjngdhbaobbaeaaDoor
