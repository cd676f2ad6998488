import Derived.Test.YtepmjknljbafgaaGreatDoorM2
import Derived.Lib.OthersKept
import Derived.Deep.DeepMust
namespace Go.Proofs.YtepmjknljbafgaaGreatDoor
open Go.RowKit
set_option maxHeartbeats 1000000 in
set_option maxRecDepth 100000 in
theorem uN (s : ByteArray) (k v er : Int) (n : Nat) (w : World) (b1 b2 b3 : Bool) (h1 : (er == 0) = b1) (h2 : (k == 1) = b2) (h3 : ((s.extract 0 n).toList == s.toList) = b3)
    (he : s.toList.isEmpty = false)
    (hF : ∀ w1 : World, Below w.heap.size w w1 -> Calls Tryz.prog 30 #[.string s] w1 fun e w' => e = .returned (.tuple #[.agg #[.int .i8 k, .string (s.extract 0 n), .int .i64 v, .int .i64 0], .int .i64 er]) /\ Below w1.heap.size w1 w') :
    Calls Tryz.prog 120 #[.string s] w fun e w' => e = .returned (.bool (b1 && b2 && b3)) /\ Below w.heap.size w w' := by
  have he2 : (s.toList == []) = false := by cases hq : s.toList <;> simp_all
  cases b1 <;> cases b2 <;> cases b3
  all_goals
    go_enter Tryz.func120, Tryz.ntmps120
    go_wp2_with (go_at_call 30; refine (hF _ (Below.refl _ _)).mono ?_; rintro e w1 ⟨rfl, hb⟩)
    go_ret
    exact ⟨rfl, hb.alloc hb.size _⟩
theorem jS (s : ByteArray) (hs : s.size <= 281474976710656) (w : World) (tp : TypeId) (p : Value) (hvar : w.var? Tryz.prog "strconv.ErrRange" = some #[.iface tp p]) :
    Calls Tryz.prog 120 #[.string s] w fun e w' => e = .returned (.bool (Sc.isName s)) /\ Below w.heap.size w w' := by
  by_cases h0 : s.size = 0
  · have hn : Sc.isName s = false := by unfold Sc.isName; rw [if_pos h0]
    have he : s.toList = [] := by rw [Lib.toList_data]; apply List.eq_nil_of_length_eq_zero; rw [Sc.zZ]; exact h0
    rw [hn];clear h0 hn;have he1 : s.toList.isEmpty = true := by rw [he]; rfl
    clear he
    go_enter Tryz.func120, Tryz.ntmps120
    go_wp2_with fail
    go_ret
    exact ⟨rfl, Below.refl _ _⟩
  · have h1 : 0 < s.size := by omega
    have he : s.toList.isEmpty = false := by
      rw [Lib.toList_data];have := Sc.zZ s
      cases hq : s.data.toList with
      | nil => rw [hq] at this; simp at this; omega
      | cons a l => rfl
    have hle := Sc.wy s h1;have := uN s (Sc.fK s) (Sc.fV s) (Sc.fE s) (Sc.fN s) w _ _ _ rfl rfl rfl he fun w1 hb => ww s hs h1 w1 tp p (jY hb hvar)
    have e : Sc.isName s = ((Sc.fE s == 0) && (Sc.fK s == 1) && ((s.extract 0 (Sc.fN s)).toList == s.toList)) := by
      unfold Sc.isName;rw [if_neg h0, Sc.zAi s _ hle]
      rfl
    rw [e];exact this
end Go.Proofs.YtepmjknljbafgaaGreatDoor
namespace Go.Proofs.YtepmjknljbafgaaGreatDoor
namespace Sc
abbrev Wd := Int × ByteArray × Int × Nat
abbrev Flt := Int × Nat × ByteArray
def byteAt (s : ByteArray) (at' : Nat) : Int := ((s.data.toList.drop at').headD 0).toNat
def skipN (s : ByteArray) (at' : Nat) : Nat := spanN notNl (s.data.toList.drop at')
def rest (s : ByteArray) (at' : Nat) : ByteArray := s.extract at' s.size
def wordAt (s : ByteArray) (at' : Nat) : Wd := (fK (rest s at'), (rest s at').extract 0 (fN (rest s at')), fV (rest s at'), at')
def faultAt (s : ByteArray) (at' : Nat) : Flt := (fE (rest s at'), at', (rest s at').extract 0 (fN (rest s at')))
def toks (s : ByteArray) : Nat -> Nat -> List Wd × Option Flt
  | 0, _ => ([], none)
  | f + 1, at' =>
    if s.size <= at' then ([], none)
    else if blan (byteAt s at') then toks s f (at' + 1)
    else if byteAt s at' = 35 then toks s f (at' + skipN s at')
    else if fE (rest s at') ≠ 0 then ([], some (faultAt s at'))
    else (wordAt s at' :: (toks s f (at' + fN (rest s at'))).1, (toks s f (at' + fN (rest s at'))).2)
theorem vM (s : ByteArray) (k : Nat) (h : k < s.size) : byteAt s k = ((s[k]).toNat : Int) := by
  unfold byteAt;have hl : k < s.data.toList.length := by rw [zZ]; exact h
  rw [List.drop_eq_getElem_cons hl, List.headD_cons, zi s k h hl]
theorem jU (s : ByteArray) (k : Nat) : (rest s k).data.toList = s.data.toList.drop k := by
  unfold rest;rw [Lib.extract_data];exact List.take_of_length_le (by simp)
theorem qH (s : ByteArray) (k : Nat) : (rest s k).size = s.size - k := by
  unfold rest; simp
theorem ug (s : ByteArray) (k : Nat) : hd (rest s k) = byteAt s k := by
  unfold hd byteAt; rw [jU]
theorem jT (s : ByteArray) (k : Nat) (h : k < s.size) (h35 : byteAt s k = 35) : 1 <= skipN s k := by
  have := vG notNl (rest s k) (by rw [qH]; omega) (by rw [ug, h35]; decide);rw [jU] at this;exact this
theorem zE8 (s : ByteArray) (k : Nat) : skipN s k <= s.size - k := by
  have := qg notNl (s.data.toList.drop k);rw [List.length_drop, zZ] at this;exact this
theorem kZ (s : ByteArray) (h0 : 0 < s.size) : 1 <= fN s := by
  unfold fN
  split
  · rename_i h
    exact vG lord s h0 (by unfold lord; rw [h]; rfl)
  · split
    · rename_i h; exact vG digi s h0 h
    · split <;> decide
theorem kS (s : ByteArray) : ∀ (f g at' : Nat), s.size < f + at' -> s.size < g + at' -> toks s f at' = toks s g at' := by
  intro f
  induction f with
  | zero =>
    intro g at' h1 _
    cases g with
    | zero => rfl
    | succ g => unfold toks; rw [if_pos (by omega)]
  | succ f ih =>
    intro g at' h1 h2
    cases g with
    | zero => conv => lhs; unfold toks
              rw [if_pos (by omega)]; rfl
    | succ g =>
      unfold toks
      by_cases h : s.size <= at'
      · rw [if_pos h, if_pos h]
      · rw [if_neg h, if_neg h]
        by_cases hb : blan (byteAt s at') = true
        · rw [if_pos hb, if_pos hb]; exact ih g (at' + 1) (by omega) (by omega)
        · rw [if_neg hb, if_neg hb]
          by_cases h35 : byteAt s at' = 35
          · have := jT s at' (by omega) h35
            rw [if_pos h35, if_pos h35]; exact ih g _ (by omega) (by omega)
          · rw [if_neg h35, if_neg h35]
            have := kZ (rest s at') (by rw [qH]; omega);rw [ih g (at' + fN (rest s at')) (by omega) (by omega)]
def tk (s : ByteArray) (at' : Nat) : List Wd × Option Flt := toks s (s.size + 1) at'
theorem vz (s : ByteArray) (at' : Nat) : tk s at' = if s.size <= at' then ([], none)
    else if blan (byteAt s at') then tk s (at' + 1)
    else if byteAt s at' = 35 then tk s (at' + skipN s at')
    else if fE (rest s at') ≠ 0 then ([], some (faultAt s at'))
    else (wordAt s at' :: (tk s (at' + fN (rest s at'))).1, (tk s (at' + fN (rest s at'))).2) := by
  unfold tk
  conv => lhs; unfold toks
  by_cases h : s.size <= at'
  · rw [if_pos h, if_pos h]
  · rw [if_neg h, if_neg h]
    by_cases hb : blan (byteAt s at') = true
    · rw [if_pos hb, if_pos hb]; exact kS s _ _ _ (by omega) (by omega)
    · rw [if_neg hb, if_neg hb]
      by_cases h35 : byteAt s at' = 35
      · have := jT s at' (by omega) h35
        rw [if_pos h35, if_pos h35]; exact kS s _ _ _ (by omega) (by omega)
      · rw [if_neg h35, if_neg h35]
        have := kZ (rest s at') (by rw [qH]; omega);rw [kS s s.size (s.size + 1) (at' + fN (rest s at')) (by omega) (by omega)]
theorem zBD (s : ByteArray) (k : Nat) (h : s.size <= k) : tk s k = ([], none) := by rw [vz, if_pos h]
theorem zAF (s : ByteArray) (k : Nat) (h : k < s.size) (hb : blan (byteAt s k) = true) : tk s k = tk s (k + 1) := by
  rw [vz, if_neg (by omega), if_pos hb]
theorem wG (s : ByteArray) (k : Nat) (h : k < s.size) (h35 : byteAt s k = 35) : tk s k = tk s (k + skipN s k) := by
  rw [vz, if_neg (by omega), if_neg (by rw [h35]; decide), if_pos h35]
theorem zAE (s : ByteArray) (k : Nat) (h : k < s.size) (hb : blan (byteAt s k) = false) (h35 : byteAt s k ≠ 35) (he : fE (rest s k) ≠ 0) : tk s k = ([], some (faultAt s k)) := by
  rw [vz, if_neg (by omega), hb, if_neg (by decide), if_neg h35, if_pos he]
theorem zCI (s : ByteArray) (k : Nat) (h : k < s.size) (hb : blan (byteAt s k) = false) (h35 : byteAt s k ≠ 35) (he : fE (rest s k) = 0) :
    tk s k = (wordAt s k :: (tk s (k + fN (rest s k))).1, (tk s (k + fN (rest s k))).2) := by
  rw [vz, if_neg (by omega), hb, if_neg (by decide), if_neg h35, if_neg (by simpa using he)]
def lands (s : ByteArray) (pos past : Nat) : Prop :=
  pos <= past /\ past <= s.size /\ (past = s.size \/ (∃ h : past < s.size, (s[past]).toNat < 128) \/ ∀ j (h : j < s.size), pos <= j -> j < past -> (s[j]).toNat < 128)
theorem zBf (s : ByteArray) (pos past : Nat) (h : lands s pos past) (hlt : pos < past) : lands s (pos + (Utf8.decode s pos).2) past := by
  obtain ⟨h1, h2, h3⟩ := h;have hp : pos < s.size := by omega
  by_cases hb : 128 <= (s[pos]).toNat
  · obtain ⟨w1, w2⟩ := zAk s pos hp hb
    have hle : pos + (Utf8.decode s pos).2 <= past := by
      rcases h3 with h3 | ⟨hq, h3⟩ | h3
      · omega
      · rcases Nat.lt_or_ge past (pos + (Utf8.decode s pos).2) with hc | hc
        · have := w2 past hq (by omega) hc; omega
        · exact hc
      · have := h3 pos hp (by omega) hlt; omega
    refine ⟨hle, h2, ?_⟩;rcases h3 with h3 | h3 | h3
    · exact .inl h3
    · exact .inr (.inl h3)
    · exact .inr (.inr fun j hj a b => h3 j hj (by omega) b)
  · rw [decode_ascii s pos hp (by omega)]
    refine ⟨by omega, h2, ?_⟩;rcases h3 with h3 | h3 | h3
    · exact .inl h3
    · exact .inr (.inl h3)
    · exact .inr (.inr fun j hj a b => h3 j hj (by omega) b)
theorem uY (s : ByteArray) (pos : Nat) (h : pos < s.size) (h35 : byteAt s pos = 35) : lands s (pos + 1) (pos + skipN s pos) := by
  have h1 := jT s pos h h35;have h2 := zE8 s pos;refine ⟨by omega, by omega, ?_⟩
  by_cases he : pos + skipN s pos = s.size
  · exact .inl he
  · have hlt : spanN notNl (s.data.toList.drop pos) < (s.data.toList.drop pos).length := by
      rw [List.length_drop, zZ]; show skipN s pos < _; omega
    have := yZ notNl _ hlt;refine .inr (.inl ⟨by omega, ?_⟩);have hlen : pos + skipN s pos < s.data.toList.length := by rw [zZ]; omega
    have e : (s.data.toList.drop pos)[spanN notNl (s.data.toList.drop pos)] = s.data.toList[pos + skipN s pos] := by
      rw [List.getElem_drop]; rfl
    rw [e, zi s _ (by omega) hlen] at this
    simp [notNl] at this
    omega
theorem wC (r : Int) (h : lord r = true) : r < 128 := by
  simp [lord, lett, digi] at h; omega
theorem wD (r : Int) (h : digi r = true) : r < 128 := by
  simp [digi] at h; omega
theorem wB (r : Int) (h : isSign r = true) : r < 128 := by
  simp [isSign] at h; omega
theorem zEs (s : ByteArray) (_h0 : 0 < s.size) (he : fE s = 0) : ∀ j (h : j < s.size), j < fN s -> (s[j]).toNat < 128 := by
  intro j h hj;have hl : j < s.data.toList.length := by rw [zZ]; exact h
  unfold fN at hj
  split at hj
  · have := wC _ (vH lord _ j hl hj)
    rw [zi s j h hl] at this; omega
  · split at hj
    · have := wD _ (vH digi _ j hl hj)
      rw [zi s j h hl] at this; omega
    · rename_i n1 n2
      split at hj
      · rename_i hp
        have e : ∀ (l : List UInt8) (hl : j < l.length), Lib.hasPrefix l [45, 62] = true -> j < 2 -> (l[j]).toNat < 128 := by
          intro l hl hp hj
          cases l with
          | nil => simp at hl
          | cons a l =>
            cases l with
            | nil => simp [Lib.hasPrefix] at hp
            | cons b l =>
              simp [Lib.hasPrefix] at hp
              obtain ⟨h1, h2⟩ := hp
              cases j with
              | zero => rw [List.getElem_cons_zero, ← h1]; decide
              | succ j =>
                cases j with
                | zero => rw [List.getElem_cons_succ, List.getElem_cons_zero, ← h2]; decide
                | succ j => omega
        have := e _ hl hp hj;rw [zi s j h hl] at this; omega
      · rename_i hp
        have hj0 : j = 0 := by omega
        subst hj0
        have hs : isSign (hd s) = true := by
          cases hq : isSign (hd s)
          · exfalso
            unfold fE at he
            simp [n1, n2, hp, hq] at he
          · rfl
        have := wB _ hs;rw [zEn s h] at this
        omega
theorem zED (s : ByteArray) (k j : Nat) (h : k + j < s.size) (h' : j < (rest s k).size) : (rest s k)[j] = s[k + j] := by
  have h1 : j < (rest s k).data.toList.length := by rw [zZ]; exact h'
  have h2 : k + j < s.data.toList.length := by rw [zZ]; exact h
  rw [← zi _ j h' h1, ← zi s (k + j) h h2];simp only [jU, List.getElem_drop]
theorem zBe (s : ByteArray) (pos : Nat) (h : pos < s.size) (he : fE (rest s pos) = 0) : lands s (pos + 1) (pos + fN (rest s pos)) /\ (s[pos]).toNat < 128 := by
  have hr : 0 < (rest s pos).size := by rw [qH]; omega
  have h1 := kZ _ hr;have h2 := wy _ hr;rw [qH] at h2;have ha := zEs _ hr he
  have key : ∀ j (h : j < s.size), pos <= j -> j < pos + fN (rest s pos) -> (s[j]).toNat < 128 := by
    intro j hj a b;have hj' : j - pos < (rest s pos).size := by rw [qH]; omega
    have := ha (j - pos) hj' (by omega);rw [zED s pos (j - pos) (by omega) hj'] at this
    simpa [show pos + (j - pos) = j by omega] using this
  exact ⟨⟨by omega, by omega, .inr (.inr fun j hj a b => key j hj (by omega) b)⟩, key pos h (Nat.le_refl _) (by omega)⟩
theorem width_pos (s : ByteArray) (pos : Nat) (h : pos < s.size) : 1 <= (Utf8.decode s pos).2 := by
  by_cases hb : 128 <= (s[pos]).toNat
  · exact (decode_high s pos h hb).2
  · rw [decode_ascii s pos h (by omega)]; exact Nat.le_refl _
theorem zBK (s : ByteArray) (pos : Nat) (h : pos < s.size) : blan ((Utf8.decode s pos).1 : Int) = blan (byteAt s pos) := by
  rw [vM s pos h]
  by_cases hb : 128 <= (s[pos]).toNat
  · have := (decode_high s pos h hb).1
    have e1 : blan ((Utf8.decode s pos).1 : Int) = false := by simp [blan]; omega
    have e2 : blan ((s[pos]).toNat : Int) = false := by simp [blan]; omega
    rw [e1, e2]
  · rw [decode_ascii s pos h (by omega)]
theorem zCr (s : ByteArray) (pos : Nat) (h : pos < s.size) : (((Utf8.decode s pos).1 : Int) == 35) = decide (byteAt s pos = 35) := by
  rw [vM s pos h]
  by_cases hb : 128 <= (s[pos]).toNat
  · have := (decode_high s pos h hb).1
    rw [Bool.eq_iff_iff]; simp; omega
  · rw [decode_ascii s pos h (by omega)]
    rw [Bool.eq_iff_iff]; simp
theorem kM (s : ByteArray) (pos : Nat) (h : pos < s.size) (hb : byteAt s pos < 128) : (Utf8.decode s pos).2 = 1 := by
  rw [vM s pos h] at hb;rw [decode_ascii s pos h (by omega)]
end Sc
namespace Sc
theorem yY (q : Int -> Bool) (l : List UInt8) : spanN q (l.take (spanN q l)) = spanN q l := by
  induction l with
  | nil => rfl
  | cons a l ih =>
    rw [jM]
    by_cases h : q (a.toNat : Int) = true
    · rw [if_pos h, List.take_succ_cons, jM, if_pos h, ih]
    · rw [if_neg h, List.take_zero]; rfl
theorem zCl (s : ByteArray) (n : Nat) : (s.extract 0 n).data.toList = s.data.toList.take n := by rw [Lib.extract_data]; simp
theorem alone (r : ByteArray) (h0 : 0 < r.size) (he : fE r = 0) (t : ByteArray) (ht : t = r.extract 0 (fN r)) :
    fN t = fN r /\ fK t = fK r /\ fE t = 0 /\ fV t = fV r /\ t.size = fN r /\ hd t = hd r := by
  have hn1 := kZ r h0;have hn2 := wy r h0;have hd1 : t.data.toList = r.data.toList.take (fN r) := by rw [ht, zCl]
  have hsz : t.size = fN r := by rw [← zZ, hd1, List.length_take, zZ]; omega
  have hhd : hd t = hd r := by
    unfold hd;rw [hd1];exact zI9
  have hfull : t.extract 0 (fN r) = t := by rw [← hsz]; simp
  by_cases c1 : lett (hd r) = true
  · have e1 : fN r = spanN lord r.data.toList := by unfold fN; rw [if_pos c1]
    have eN : fN t = fN r := by
      conv => lhs; unfold fN
      rw [hhd, if_pos c1, hd1, e1, yY]
    have eK : fK t = fK r := by
      unfold fK;rw [hhd, if_pos c1, if_pos c1, eN, hfull, ← ht]
    have eE : fE t = 0 := by
      rw [← he]; unfold fE; rw [hhd, if_pos c1, if_pos c1, eN]
    have eV : fV t = fV r := by unfold fV; rw [hhd, if_pos c1, if_pos c1]
    exact ⟨eN, eK, eE, eV, hsz, hhd⟩
  · by_cases c2 : digi (hd r) = true
    · have e1 : fN r = spanN digi r.data.toList := by unfold fN; rw [if_neg c1, if_pos c2]
      have eN : fN t = fN r := by
        conv => lhs; unfold fN
        rw [hhd, if_neg c1, if_pos c2, hd1, e1, yY]
      have eK : fK t = fK r := by unfold fK; rw [hhd, if_neg c1, if_pos c2, if_neg c1, if_pos c2]
      have eval : numVal t (fN r) = numVal r (fN r) := by unfold numVal; rw [hd1, List.take_take, Nat.min_self]
      have her : numErr r (fN r) = 0 := by have := he; unfold fE at this; rw [if_neg c1, if_pos c2] at this; exact this
      have hbad : numBad t (fN r) = false := by
        unfold numErr at her
        split at her
        · cases her
        · split at her
          · cases her
          · rename_i hb
            rw [Bool.not_eq_true] at hb;unfold numBad at hb ⊢;rw [Bool.or_eq_false_iff] at hb ⊢;refine ⟨?_, ?_⟩
            · rw [← hb.1, hd1]
              exact zI9
            · rw [hd1, List.drop_eq_nil_of_le (by rw [List.length_take]; omega)]; rfl
      have eE : fE t = 0 := by
        unfold fE;rw [hhd, if_neg c1, if_pos c2, eN];unfold numErr at her ⊢;rw [eval, hbad]
        split at her
        · cases her
        · rename_i h9; rw [if_neg h9]; rfl
      have eV : fV t = fV r := by
        have h1 : numErr t (fN r) = 0 := by have := eE; unfold fE at this; rw [hhd, if_neg c1, if_pos c2, eN] at this; exact this
        unfold fV;rw [hhd, if_neg c1, if_pos c2, if_neg c1, if_pos c2, eN];unfold numNum;rw [h1, her, eval]
      exact ⟨eN, eK, eE, eV, hsz, hhd⟩
    · have hpre : Lib.hasPrefix t.data.toList [45, 62] = Lib.hasPrefix r.data.toList [45, 62] := by
        have e1 : fN r = if Lib.hasPrefix r.data.toList [45, 62] then 2 else 1 := by unfold fN; rw [if_neg c1, if_neg c2]
        rw [hd1];cases hp : Lib.hasPrefix r.data.toList [45, 62]
        · rw [hp] at e1
          rw [e1]
          cases r.data.toList with
          | nil => rfl
          | cons a l => simp [Lib.hasPrefix, List.isPrefixOf]
        · rw [hp] at e1
          rw [e1]
          match hl : r.data.toList, hp with
          | a :: b :: l, hp => simpa [Lib.hasPrefix, List.isPrefixOf] using hp
          | [a], hp => simp [Lib.hasPrefix] at hp
          | [], hp => simp [Lib.hasPrefix] at hp
      have eN : fN t = fN r := by unfold fN; rw [hhd, hpre]; simp only [c1, c2, if_false, Bool.false_eq_true]
      have eK : fK t = fK r := by unfold fK; rw [hhd, hpre]; simp only [c1, c2, if_false, Bool.false_eq_true]
      have eE : fE t = 0 := by rw [← he]; unfold fE; rw [hhd, hpre]; simp only [c1, c2, if_false, Bool.false_eq_true]
      have eV : fV t = fV r := by unfold fV; rw [hhd, if_neg c1, if_neg c2, if_neg c1, if_neg c2]
      exact ⟨eN, eK, eE, eV, hsz, hhd⟩
end Sc
namespace Sc
structure OkW (x : Wd) : Prop where
  n : fN x.2.1 = x.2.1.size
  k : fK x.2.1 = x.1
  e : fE x.2.1 = 0
  v : fV x.2.1 = x.2.2.1
  pos : 0 < x.2.1.size
  blank : blan (hd x.2.1) = false
  hash : hd x.2.1 ≠ 35
def Chain (s : ByteArray) : Nat -> List Wd -> Prop
  | _, [] => True
  | lo, x :: l => lo <= x.2.2.2 /\ x.2.2.2 + x.2.1.size <= s.size /\ s.extract x.2.2.2 (x.2.2.2 + x.2.1.size) = x.2.1 /\ OkW x /\ Chain s (x.2.2.2 + x.2.1.size) l
theorem Chain.weaken {s : ByteArray} {lo lo' : Nat} {l : List Wd} (h : Chain s lo l) (hl : lo' <= lo) : Chain s lo' l := by
  cases l with
  | nil => trivial
  | cons x l => exact ⟨by have := h.1; omega, h.2⟩
theorem zAs (s : ByteArray) : ∀ (d k : Nat), d + k = s.size + 1 -> (tk s k).2 = none -> Chain s k (tk s k).1 := by
  intro d
  induction d using Nat.strongRecOn with
  | _ d ih =>
    intro k hk hn
    by_cases hz : s.size <= k
    · rw [zBD s k hz]; trivial
    · have hks : k < s.size := by omega
      cases c1 : blan (byteAt s k)
      · by_cases c2 : byteAt s k = 35
        · have hp := jT s k hks c2
          rw [wG s k hks c2] at hn ⊢
          by_cases hd0 : k + skipN s k <= s.size
          · exact (ih (d - skipN s k) (by omega) _ (by omega) hn).weaken (by omega)
          · rw [zBD s _ (by omega)]; trivial
        · have hE : fE (rest s k) = 0 := by
            by_cases hq : fE (rest s k) = 0
            · exact hq
            · rw [zAE s k hks c1 c2 hq] at hn; cases hn
          have hr : 0 < (rest s k).size := by rw [qH]; omega
          have hp := kZ (rest s k) hr;have hle := wy (rest s k) hr;rw [qH] at hle;rw [zCI s k hks c1 c2 hE] at hn ⊢;obtain ⟨a1, a2, a3, a4, a5, a6⟩ := alone (rest s k) hr hE _ rfl;have hc := ih (d - fN (rest s k)) (by omega) (k + fN (rest s k)) (by omega) hn;refine ⟨Nat.le_refl _, ?_, ?_, ⟨?_, a2, a3, a4, ?_, ?_, ?_⟩, ?_⟩
          · show k + ((rest s k).extract 0 (fN (rest s k))).size <= s.size
            rw [a5]; omega
          · show s.extract k (k + ((rest s k).extract 0 (fN (rest s k))).size) = (rest s k).extract 0 (fN (rest s k))
            rw [a5, Lib.extract_eq, Lib.extract_eq, jU]
            simp
          · show fN ((rest s k).extract 0 (fN (rest s k))) = ((rest s k).extract 0 (fN (rest s k))).size
            rw [a1, a5]
          · show 0 < ((rest s k).extract 0 (fN (rest s k))).size
            rw [a5]; omega
          · show blan (hd ((rest s k).extract 0 (fN (rest s k)))) = false
            rw [a6, ug, c1]
          · show hd ((rest s k).extract 0 (fN (rest s k))) ≠ 35
            rw [a6, ug]; exact c2
          · show Chain s (k + ((rest s k).extract 0 (fN (rest s k))).size) _
            rw [a5]; exact hc
      · rw [zAF s k hks c1] at hn ⊢
        exact (ih (d - 1) (by omega) (k + 1) (by omega) hn).weaken (by omega)
theorem zFy (t : ByteArray) (h : 0 < t.size) : t.data.toList ≠ [] := by
  intro h0;have := zZ t;rw [h0] at this
  simp at this; omega
theorem zF1 {s : ByteArray} : ∀ {l : List Wd} {lo : Nat}, Chain s lo l -> ∀ x ∈ l, OkW x := by
  intro l
  induction l with
  | nil => intro lo _ x hx; simp at hx
  | cons a l ih =>
    intro lo h x hx;rcases List.mem_cons.1 hx with rfl | hx
    · exact h.2.2.2.1
    · exact ih h.2.2.2.2 x hx
end Sc
namespace Sc
end Sc
set_option maxHeartbeats 1000000
set_option maxRecDepth 100000
open Go.RowKit
def Sc.flat (l : List Sc.Wd) : List Value := l.flatMap fun x => [.int .i8 x.1, .string x.2.1, .int .i64 x.2.2.1, .int .i64 x.2.2.2]
theorem Sc.wu (l : List Sc.Wd) (x : Sc.Wd) : Sc.flat (l ++ [x]) = Sc.flat l ++ [.int .i8 x.1, .string x.2.1, .int .i64 x.2.2.1, .int .i64 x.2.2.2] := by
  unfold Sc.flat; rw [List.flatMap_append]; simp
theorem zBR (s : ByteArray) (w : World) :
    Calls Tryz.prog 29 #[.string s] w fun e w' => e = .returned (.int .i64 (Sc.spanN Sc.notNl s.data.toList)) /\ Below w.heap.size w w' := by
  have hsp := zBF s;generalize Sc.spanN Sc.notNl s.data.toList = n at *
  go_enter Tryz.func29, Tryz.ntmps29
  go_wp2_with (go_at_call 52; refine (hsp _).mono ?_; rintro e w' ⟨rfl, pos, rfl⟩)
  go_ret
  exact ⟨rfl, (Below.refl _ _).alloc (Nat.le_refl _) _⟩
theorem wW : (Tryz.prog.info? 63).map (fun i => (i.zero, i.size, i.bytes)) = some (some (.agg #[.int .i8 0, .string ⟨#[]⟩, .int .i64 0, .int .i64 0]), 4, 40) := by kernel_rfl
structure Sc.St (s : ByteArray) (w wr : World) (v4 v5 : Value) (pos past : Nat) (done : List Sc.Wd) : Prop where
  iter : wr.heap[w.heap.size]? = some (.stringIter s pos)
  own : wr.ownsRow (w.heap.size + 1) 63 4 v4 done.length (Sc.flat done)
  below : Below w.heap.size w wr
  past5 : v5 = .int .i64 past
  pos_le : pos <= s.size
  past_le : past <= s.size
  land : Sc.lands s pos past \/ past <= pos
  tok : Sc.tk s 0 = (done ++ (Sc.tk s (max pos past)).1, (Sc.tk s (max pos past)).2)
  len : done.length <= max pos past
def Sc.AllPost (s : ByteArray) (w : World) (e : Ending) (w' : World) : Prop :=
  (∃ v, (Sc.tk s 0).2 = none /\ e = .returned (.tuple #[v, .nilIface]) /\ w'.ownsRow (w.heap.size + 1) 63 4 v ((Sc.tk s 0).1.length + 1) (Sc.flat ((Sc.tk s 0).1 ++ [(0, ⟨#[]⟩, 0, s.size)])) /\ Below w.heap.size w w') \/
  (∃ f N, (Sc.tk s 0).2 = some f /\ e = .returned (.tuple #[.slice none 0 0, .iface 44 (.pointer (some ⟨N, 0, none⟩))]) /\ w.heap.size <= N /\ w'.heap[N]? = some (.cells #[.int .i64 f.1, .int .i64 f.2.1, .string f.2.2] 95) /\ Below w.heap.size w w')
theorem zB1 (s : ByteArray) (hs : s.size <= 65536) (w : World) (tp : TypeId) (p : Value) (hvar : w.var? Tryz.prog "strconv.ErrRange" = some #[.iface tp p]) :
    Calls Tryz.prog 14 #[.string s] w (Sc.AllPost s w) := by
  have HV := k0_ hvar;clear hvar;have i1 : (s.size : Int) <= 65536 := by omega
  go_enter Tryz.func14, Tryz.ntmps14
  go_wp2_with fail
  go_loopw [4, 5] (fun v4 v5 wr => ∃ (pos past : Nat) (done : List Sc.Wd), Sc.St s w wr v4 v5 pos past done) (fun _ _ wr => s.size - wr.iterPos w.heap.size)
  case atStart =>
    refine ⟨0, 0, [], ⟨World.iter_heap _ _ _, World.ownsRow_nil _ _ _ _, (Below.refl _ _).alloc (Nat.le_refl _) _, rfl, Nat.zero_le _, Nat.zero_le _, .inr (Nat.le_refl _), rfl, Nat.zero_le _⟩⟩
  case round =>
    obtain ⟨pos, past, done, hst⟩ := hrel;obtain ⟨hI, hO, hB, rfl, hps, hpl, hland, htok, hlen⟩ := hst;have HT := k0_ htok;clear htok;have hmu : wr.iterPos w.heap.size = pos := by simp [World.iterPos, hI]
    have HM := k0_ hmu;clear hmu;have hib : w.heap.size < wr.heap.size := zD hI
    by_cases hp : pos < s.size
    · have hnext : ∀ ty, (Instr.next (.pointer (some ⟨w.heap.size, 0, none⟩)) true ty).run Tryz.prog wr = _ := fun ty => Lib.run_next_any_at wr w.heap.size s pos ty hI hp
      have hI1 := Lib.iterAt_heap wr w.heap.size s pos (pos + (Utf8.decode s pos).2) hI;have hO1 := ownsRow_iterAt hO (Nat.lt_succ_self _) s (pos + (Utf8.decode s pos).2);have hB1 := Lib.below_iterAt hB (Nat.le_refl _) s (pos + (Utf8.decode s pos).2);have hwl := decode_le s pos;generalize wr.iterAt w.heap.size s (pos + (Utf8.decode s pos).2) = W1 at hnext hI1 hO1 hB1;have hm1 : W1.iterPos w.heap.size = pos + (Utf8.decode s pos).2 := by simp [World.iterPos, hI1]
      have HM1 := k0_ hm1;clear hm1;have H1 := k0_ hI1;clear hI1 hI
      by_cases hlt : pos < past
      · -- behind the last word's end: nothing
        have hl : Sc.lands s pos past := by rcases hland with h | h; exact h; omega
        have hl2 := Sc.zBf s pos past hl hlt;have hwd := Sc.width_pos s pos hp
        go_wp2_with fail
        go_roundw
        case rel =>
          refine ⟨_, past, done, ⟨H1.out, hO1, hB1, rfl, by have := hl2.1; omega, hpl, .inl hl2, ?_, ?_⟩⟩
          · rw [show max (pos + (Utf8.decode s pos).2) past = max pos past by have := hl2.1; omega]; exact HT.out
          · have := hl2.1; omega
        case measure =>
          rw [HM.out, HM1.out]; omega
      · have hge : past <= pos := by omega
        have hmax : max pos past = pos := by omega
        rw [hmax] at hlen;have HMX := k0_ hmax;clear hmax hland;have hbk := yf ((Utf8.decode s pos).1 : Int);rw [Sc.zBK s pos hp] at hbk;have hh := Sc.zCr s pos hp;cases hbl : Sc.blan (Sc.byteAt s pos)
        · rw [hbl] at hbk
          by_cases h35 : Sc.byteAt s pos = 35
          · -- a remark
            have hw1 := Sc.kM s pos hp (by omega);have htk := Sc.wG s pos hp h35;have hln := Sc.uY s pos hp h35;have hk1 := Sc.jT s pos hp h35
            have hrm : ∀ w : World, Calls Tryz.prog 29 #[.string (s.extract pos s.size)] w fun e w' => e = .returned (.int .i64 (Sc.skipN s pos)) /\ Below w.heap.size w w' := by
              intro w;have := zBR (Sc.rest s pos) w;rw [Sc.jU] at this;exact this
            rw [hw1] at HM1 H1;have hh' : (((Utf8.decode s pos).1 : Int) == 35) = true := by rw [hh, h35]; rfl
            clear hh hw1 h35 hbl;generalize Sc.skipN s pos = k at *;have hkl : pos + k <= s.size := hln.2.1;have HTK := k0_ htk;clear htk
            go_wp2_with (first | (go_at_call 28; refine (hbk _).mono ?_; rintro e w' ⟨rfl, rfl⟩) | (go_at_call 29; refine (hrm _).mono ?_; rintro e w2 ⟨rfl, hb2⟩; have hI2 := kp_ hb2 H1; have hO2 := ownsRow_below hO1 hb2; have hB2 := hB1.trans (hb2.mono hB1.size)))
            go_roundw
            case rel =>
              refine ⟨pos + 1, pos + k, done, ⟨hI2.out, hO2, hB2, by go_num, by omega, hkl, .inl hln, ?_, by omega⟩⟩;have := HT.out;rw [HMX.out, HTK.out] at this;rw [show max (pos + 1) (pos + k) = pos + k by omega]; exact this
            case measure =>
              have hm2 : w2.iterPos w.heap.size = pos + 1 := by simp [World.iterPos, hI2.out]
              rw [HM.out, hm2]; omega
          · -- a word, or its fault
            have hh' : (((Utf8.decode s pos).1 : Int) == 35) = false := by rw [hh]; simp [h35]
            have hrs : (Sc.rest s pos).size <= 281474976710656 := by rw [Sc.qH]; omega
            have hr0 : 0 < (Sc.rest s pos).size := by rw [Sc.qH]; omega
            have hfst : ∀ w1 : World, Below w.heap.size w w1 -> Calls Tryz.prog 30 #[.string (s.extract pos s.size)] w1 fun e w' => e = .returned (.tuple #[.agg #[.int .i8 (Sc.fK (Sc.rest s pos)), .string ((Sc.rest s pos).extract 0 (Sc.fN (Sc.rest s pos))), .int .i64 (Sc.fV (Sc.rest s pos)), .int .i64 0], .int .i64 (Sc.fE (Sc.rest s pos))]) /\ Below w1.heap.size w1 w' :=
              fun w1 hb => ww (Sc.rest s pos) hrs hr0 w1 tp p (jY hb HV.out)
            have hn1 := Sc.kZ _ hr0;have hn2 := Sc.wy _ hr0;rw [Sc.qH] at hn2
            have hts : ((Sc.rest s pos).extract 0 (Sc.fN (Sc.rest s pos))).size = Sc.fN (Sc.rest s pos) := by
              have := Sc.wy _ hr0
              simp; omega
            by_cases hE : Sc.fE (Sc.rest s pos) = 0
            · have hlw := Sc.zBe s pos hp hE
              have hw1 := Sc.kM s pos hp (by rw [Sc.vM s pos hp]; have := hlw.2; omega);have htk := Sc.zCI s pos hp hbl h35 hE;rw [hE] at hfst;rw [hw1] at HM1 H1;unfold Sc.wordAt at htk;generalize hkk : Sc.fK (Sc.rest s pos) = kk at *;generalize (Sc.rest s pos).extract 0 (Sc.fN (Sc.rest s pos)) = tt at *;generalize Sc.fV (Sc.rest s pos) = vv at *;generalize Sc.fN (Sc.rest s pos) = nn at *;have hln := hlw.1;have hkl : pos + nn <= s.size := hln.2.1;have HTK := k0_ htk;have hts2 : (tt.size : Int) <= 65536 := by omega
              have HTS := k0_ hts;clear htk hts hkk hh hw1 hlw hE h35 hbl hrs hr0;obtain ⟨i0, hi, hz0, hz1, hz2⟩ := info_parts wW;have hol := hO1.lt
              go_wp2_with (first | (go_at_call 28; refine (hbk _).mono ?_; rintro e w' ⟨rfl, rfl⟩) | (go_at_call 30; refine (hfst _ hB1).mono ?_; rintro e w2 ⟨rfl, hb2⟩; have hI2 := kp_ hb2 H1; have hO2 := ownsRow_below hO1 hb2; have hB2 := hB1.trans (hb2.mono hB1.size)) | (at_builtin; refine wpList_append_own _ rfl _ _ 57 rfl (w.heap.size + 1) 63 i0 (.agg #[.int .i8 0, .string ⟨#[]⟩, .int .i64 0, .int .i64 0]) 4 40 Tryz.underlying57 hi hz0 hz1 hz2 rfl (by decide) _ _ _ rfl ((hO2.alloc _).alloc _) ⟨w2.heap.size + 1, 0, none⟩ 1 1 [.int .i8 kk, .string tt, .int .i64 vv, .int .i64 pos] rfl rfl ?d1 ?d2 ?d3 ?d4 ?d5 ?_))
              case d1 => exact qP (qV w2 _ _)
              case d2 =>
                intro u hu
                simp at hu
                rcases hu with rfl | rfl | rfl | rfl <;> rfl
              case d3 => unfold maxLen; omega
              case d4 => omega
              case d5 => have := hB2.size; simp; omega
              intro v' w3 hown hgrow _;have hBB : Below w.heap.size w ((w2.alloc (.cells #[.int .i8 kk, .string tt, .int .i64 vv, .int .i64 pos] 63)).alloc (.cells #[.int .i8 kk, .string tt, .int .i64 vv, .int .i64 pos] 63)) := (hB2.alloc hB2.size _).alloc (by have := hB2.size; simp; omega) _;have hlto := hO2.lt;have hB3 : Below w.heap.size w w3 := hBB.grown hgrow hBB.size fun k hk => by have := (hlto k hk).1; omega
              have hI3 : w3.heap[w.heap.size]? = some (.stringIter s (pos + 1)) := by
                rw [hgrow.block w.heap.size (zD (zG (zG hI2.out _) _)) (fun hk => by have := (hlto _ hk.symm).1; omega)];exact zG (zG hI2.out _) _
              have HI3 := k0_ hI3;clear hI3
              go_wp2_with fail
              go_roundw
              case rel =>
                refine ⟨pos + 1, pos + nn, done ++ [(kk, tt, vv, pos)], ⟨HI3.out, ?_, hB3, ?_, by omega, hkl, .inl hln, ?_, ?_⟩⟩
                · rw [Sc.wu, List.length_append]; exact hown
                · rw [← HTS.out]; go_num
                · have := HT.out
                  rw [HMX.out, HTK.out] at this;rw [show max (pos + 1) (pos + nn) = pos + nn by omega, this]
                  simp
                · rw [List.length_append]; simp; omega
              case measure =>
                have hm3 : w3.iterPos w.heap.size = pos + 1 := by simp [World.iterPos, HI3.out]
                rw [HM.out, hm3]; omega
            · -- a fault
              have htk := Sc.zAE s pos hp hbl h35 hE;unfold Sc.faultAt at htk;have hE2 : (Sc.fE (Sc.rest s pos) != 0) = true := by rw [bne_iff_ne]; exact hE
              generalize hkk : Sc.fK (Sc.rest s pos) = kk at *;generalize (Sc.rest s pos).extract 0 (Sc.fN (Sc.rest s pos)) = tt at *;generalize Sc.fV (Sc.rest s pos) = vv at *;generalize Sc.fN (Sc.rest s pos) = nn at *;generalize Sc.fE (Sc.rest s pos) = ee at *
              have hres : (Sc.tk s 0).2 = some (ee, pos, tt) := by
                have := HT.out;rw [HMX.out, htk] at this;rw [this]
              have HR := k0_ hres;clear htk hts hkk hh hE h35 hbl hrs hr0 hres hn1 hn2
              go_wp2_with (first | (go_at_call 28; refine (hbk _).mono ?_; rintro e w' ⟨rfl, rfl⟩) | (go_at_call 30; refine (hfst _ hB1).mono ?_; rintro e w2 ⟨rfl, hb2⟩; have hB2 := hB1.trans (hb2.mono hB1.size)))
              go_region
              go_wp2_with fail
              go_ret2
              refine .inr ⟨(ee, pos, tt), w2.heap.size + 1, HR.out, rfl, by have := hB2.size; omega, ?_, ?_⟩
              · exact qV w2 _ _
              · exact ((hB2.alloc hB2.size _).alloc (by have := hB2.size; simp; omega) _).drew
        · rw [hbl] at hbk
          have hw1 := Sc.kM s pos hp (by have := hbl; simp [Sc.blan] at this; omega);have htk := Sc.zAF s pos hp hbl;rw [hw1] at HM1 H1;clear hh hw1;have HTK := k0_ htk;clear htk hbl
          go_wp2_with (go_at_call 28; refine (hbk _).mono ?_; rintro e w' ⟨rfl, rfl⟩)
          go_roundw
          case rel =>
            refine ⟨pos + 1, past, done, ⟨H1.out, hO1, hB1, rfl, by omega, hpl, .inr (by omega), ?_, by omega⟩⟩;have := HT.out;rw [HMX.out, HTK.out] at this;rw [show max (pos + 1) past = pos + 1 by omega]; exact this
          case measure =>
            rw [HM.out, HM1.out]; omega
    · -- the text's end
      have hnext : ∀ ty, (Instr.next (.pointer (some ⟨w.heap.size, 0, none⟩)) true ty).run Tryz.prog wr = _ := fun ty => Lib.run_next_end_at wr w.heap.size s pos ty hI hp
      have htk := Sc.zBD s (max pos past) (by omega);have hdone := HT.out;rw [htk, List.append_nil] at hdone;have HD := k0_ hdone;have hlen2 : done.length <= s.size := by omega
      clear htk hdone hlen hland;obtain ⟨i0, hi, hz0, hz1, hz2⟩ := info_parts wW
      go_wp2_with (first | (at_builtin; refine wpList_append_own _ rfl _ _ 57 rfl (w.heap.size + 1) 63 i0 (.agg #[.int .i8 0, .string ⟨#[]⟩, .int .i64 0, .int .i64 0]) 4 40 Tryz.underlying57 hi hz0 hz1 hz2 rfl (by decide) _ _ _ rfl (hO.alloc _) ⟨wr.heap.size, 0, none⟩ 1 1 [.int .i8 0, .string ⟨#[]⟩, .int .i64 0, .int .i64 s.size] rfl rfl ?c1 ?c2 ?c3 ?c4 ?c5 ?_))
      case c2 => exact ⟨rfl, rfl, rfl, rfl⟩
      case c3 => unfold maxLen; omega
      case c4 => omega
      case c5 => exact Nat.le_of_lt hib
      intro v' w1 hown hgrow _;have hb1 : Below w.heap.size w w1 := (hB.alloc hB.size _).grown hgrow (by simp; omega) fun k hk => by have := (hO.lt k hk).1; omega
      go_wp2_with fail
      go_ret2
      refine .inl ⟨v', by rw [HD.out], rfl, ?_, hb1⟩;rw [HD.out, Sc.wu];exact hown
theorem zFC (s : ByteArray) (hs : (65536 : Int) < s.size) (w : World) :
    Calls Tryz.prog 14 #[.string s] w fun e w' => ∃ N, e = .returned (.tuple #[.slice none 0 0, .iface 44 (.pointer (some ⟨N, 0, none⟩))]) /\ w.heap.size <= N /\ w'.heap[N]? = some (.cells #[.int .i64 3, .int .i64 0, .string ⟨#[]⟩] 95) /\ Below w.heap.size w w' := by
  go_enter Tryz.func14, Tryz.ntmps14
  go_wp2_with fail
  go_ret2
  exact ⟨w.heap.size, rfl, Nat.le_refl _, zF w _, (Below.refl _ _).alloc (Nat.le_refl _) _⟩
end Go.Proofs.YtepmjknljbafgaaGreatDoor
namespace Go.Proofs.YtepmjknljbafgaaGreatDoor
open Go.RowKit
def Sc.HasWords (w : World) (g : Nat) (l : List Sc.Wd) (n : Nat) : Prop :=
  ∀ k x, k < n -> l[k]? = some x -> w.cell? ⟨g, k * 4, none⟩ = some (.int .i8 x.1) /\ w.cell? ⟨g, k * 4 + 1, none⟩ = some (.string x.2.1) /\ w.cell? ⟨g, k * 4 + 2, none⟩ = some (.int .i64 x.2.2.1) /\ w.cell? ⟨g, k * 4 + 3, none⟩ = some (.int .i64 x.2.2.2)
theorem Sc.flat_get (l : List Sc.Wd) (X : List Value) : ∀ (k : Nat) (x : Sc.Wd), l[k]? = some x -> (Sc.flat l ++ X)[k * 4]? = some (.int .i8 x.1) /\ (Sc.flat l ++ X)[k * 4 + 1]? = some (.string x.2.1) /\ (Sc.flat l ++ X)[k * 4 + 2]? = some (.int .i64 x.2.2.1) /\ (Sc.flat l ++ X)[k * 4 + 3]? = some (.int .i64 x.2.2.2) := by
  induction l with
  | nil => intro k x h; simp at h
  | cons a l ih =>
    intro k x h
    have e : Sc.flat (a :: l) ++ X = [.int .i8 a.1, .string a.2.1, .int .i64 a.2.2.1, .int .i64 a.2.2.2] ++ (Sc.flat l ++ X) := by
      unfold Sc.flat; rw [List.flatMap_cons, List.append_assoc]
    rw [e]
    cases k with
    | zero => simp at h; subst h; simp
    | succ k =>
      have := ih k x (by simpa using h);rw [show (k + 1) * 4 = k * 4 + 4 by omega]
      simpa using this
theorem Sc.zAd {w : World} {base : Nat} {e : TypeId} {g m cap : Nat} {l : List Sc.Wd} {X : List Value} (h : w.ownsRow base e 4 (.slice (some ⟨g, 0, none⟩) m cap) m (Sc.flat l ++ X)) (hm : l.length <= m) : Sc.HasWords w g l l.length := by
  intro k x hk hx;obtain ⟨a0, a1, a2, a3⟩ := Sc.flat_get l X k x hx;exact ⟨by rw [h.cellAt _ (by omega), a0], by rw [h.cellAt _ (by omega), a1], by rw [h.cellAt _ (by omega), a2], by rw [h.cellAt _ (by omega), a3]⟩
theorem zCs {w : World} {base : Nat} {e : TypeId} {v : Value} {m : Nat} {xs : List Value} (h : w.ownsRow base e 4 v m xs) (hm : 0 < m) : ∃ g cap, v = .slice (some ⟨g, 0, none⟩) m cap /\ m <= cap /\ cap <= maxLen := by
  obtain ⟨_, h⟩ := h;rcases h with ⟨_, h0⟩ | ⟨g, cap, cur, hv, _, _, h1, h2, _⟩
  · omega
  · exact ⟨g, cap, hv, h1, h2⟩
theorem zDr (s : ByteArray) (hs : s.size <= 65536) (h : (Sc.tk s 0).2 = none) (w : World) (tp : TypeId) (p : Value) (hvar : w.var? Tryz.prog "strconv.ErrRange" = some #[.iface tp p]) :
    Calls Tryz.prog 14 #[.string s] w fun e w' => ∃ g cap, e = .returned (.tuple #[.slice (some ⟨g, 0, none⟩) ((Sc.tk s 0).1.length + 1) cap, .nilIface]) /\ w'.ownsRow (w.heap.size + 1) 63 4 (.slice (some ⟨g, 0, none⟩) ((Sc.tk s 0).1.length + 1) cap) ((Sc.tk s 0).1.length + 1) (Sc.flat ((Sc.tk s 0).1 ++ [(0, ⟨#[]⟩, 0, s.size)])) /\ (Sc.tk s 0).1.length + 1 <= cap /\ cap <= maxLen /\ Below w.heap.size w w' := by
  refine (zB1 s hs w tp p hvar).mono fun e w' h1 => ?_
  rcases h1 with ⟨v, _, rfl, ho, hb⟩ | ⟨f, N, h2, _⟩
  · obtain ⟨g, cap, rfl, h3, h4⟩ := zCs ho (by omega)
    exact ⟨g, cap, rfl, ho, h3, h4, hb⟩
  · rw [h] at h2; cases h2
theorem Sc.HasWords.keep {w w1 : World} {g n : Nat} {l : List Sc.Wd} (h : Sc.HasWords w g l n) (hg : g < w.heap.size) (hb : Below w.heap.size w w1) : Sc.HasWords w1 g l n := by
  intro k x hk hx;obtain ⟨a0, a1, a2, a3⟩ := h k x hk hx;exact ⟨by rw [hb.cell (p := ⟨g, _, none⟩) hg, a0], by rw [hb.cell (p := ⟨g, _, none⟩) hg, a1], by rw [hb.cell (p := ⟨g, _, none⟩) hg, a2], by rw [hb.cell (p := ⟨g, _, none⟩) hg, a3]⟩
end Go.Proofs.YtepmjknljbafgaaGreatDoor
