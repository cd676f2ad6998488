/-
  scan.name: a letter, and letters and digits behind it. scan.number: digits; too great, with a 0 ahead or a letter behind: an error. scan.first: the word that a text begins with. scan.first at every text that is not empty, in one contract; scan.Name. scan.Name. The words of a text, as a plain function: what scan.All answers. The reference's Name. Plain facts: a blank ends every word; a word taken alone is the same word. Plain facts for P1.3: words stand where they say; the same words again, with blanks between. Plain facts for P1.4: what stands behind a blank changes nothing of the words ahead of it. scan.All: the words of a text, or its fault. The law's Words: two rows of the same words are the same. P1.4: what stands behind a blank changes nothing of the words ahead of it. The law's walk. P1.3: words stand where they say; the same words again, with blanks between. The law's walk.
-/
import Derived.Test.YtocehfklacjgbaaGreatDoorWord
import Derived.Test.YtocehfklacjgbaaGreatDoorM2
import Derived.Test.YtocehfklacjgbaaGreatDoorNum
import Derived.WalkSmall
import Derived.Test.YtocehfklacjgbaaGreatDoorRune
import Derived.Lib.OthersKept
import Derived.Deep.DeepMust
namespace Go.Proofs.YtocehfklacjgbaaGreatDoor
open Go.RowKit

/-- what scan.name answers of n letters and digits t: kind, error -/
def Sc.nameKind (t : ByteArray) (n : Nat) : Int := if 64 < n then 1 else if Sc.isKey t then 3 else 1
def Sc.nameErr (n : Nat) : Int := if 64 < n then 3 else 0

theorem below_iter {w w1 : World} {o : Obj} {s : ByteArray} {pos : Nat} (hb : Below ((w.alloc o).iter s pos).heap.size ((w.alloc o).iter s pos) w1) : Below w.heap.size w w1 :=
  (((Below.refl _ _).alloc (Nat.le_refl _) _).alloc (by simp) _).trans (hb.mono (by simp [World.iter]; omega))

set_option maxHeartbeats 400000 in
theorem name_any (s : ByteArray) (hs : s.size ≤ 281474976710656) (w : World) :
    Calls Tryz.prog 65 #[.string s] w fun e w' => e = .returned (.tuple #[.agg #[.int .i8 (Sc.nameKind (s.extract 0 (Sc.spanN Sc.lord s.data.toList)) (Sc.spanN Sc.lord s.data.toList)), .string (s.extract 0 (Sc.spanN Sc.lord s.data.toList)), .int .i64 0, .int .i64 0], .int .i64 (Sc.nameErr (Sc.spanN Sc.lord s.data.toList))]) ∧ Below w.heap.size w w' := by
  have hle := Sc.spanN_le Sc.lord s.data.toList
  rw [Sc.data_len] at hle
  generalize hn : Sc.spanN Sc.lord s.data.toList = n at *
  have hx : (s.extract 0 n).size = n := by simp; omega
  have HX := Lib.hid hx
  clear hx
  have hsp := span_lord s
  rw [hn] at hsp
  clear hn
  by_cases h64 : 64 < n
  · have hk : Sc.nameKind (s.extract 0 n) n = 1 := by unfold Sc.nameKind; rw [if_pos h64]
    have he : Sc.nameErr n = 3 := by unfold Sc.nameErr; rw [if_pos h64]
    rw [hk, he]
    clear hk he
    go_enter Tryz.func65, Tryz.ntmps65
    go_wp2_with (first | (go_at_call 62; refine (hsp _).mono ?_; rintro e w' ⟨rfl, pos, rfl⟩) | (go_at_call 70; refine (word_any 1 _ (by rw [HX.out]; omega) _).mono ?_; rintro e w' ⟨rfl, hb⟩; obtain ⟨q0, q1, q2, q3, f0, f1, f2, f3, hz⟩ := own4 (heap_below hb (by simp [World.iter]; omega) (heap_old (heap_new w _) _)); have hbw := below_iter hb))
    refine bodyPost_ret (v := .tuple #[.agg #[.int .i8 1, .string (s.extract 0 n), .int .i64 0, .int .i64 0], .int .i64 3]) (by simp [results, Tryz.results65, go_sem, *]) rfl ⟨rfl, ?_⟩
    exact (below_set4 hbw (Nat.le_refl _) _ _ _ _).alloc (by simp; omega) _
  · have he : Sc.nameErr n = 0 := by unfold Sc.nameErr; rw [if_neg h64]
    cases hkey : Sc.isKey (s.extract 0 n)
    · have hk : Sc.nameKind (s.extract 0 n) n = 1 := by unfold Sc.nameKind; rw [if_neg h64, hkey]; rfl
      rw [hk, he]
      clear hk he
      have hkk := scan_Key_any (s.extract 0 n)
      rw [hkey] at hkk
      clear hkey
      go_enter Tryz.func65, Tryz.ntmps65
      go_wp2_with (first | (go_at_call 62; refine (hsp _).mono ?_; rintro e w' ⟨rfl, pos, rfl⟩) | (go_at_call 70; refine (word_any 1 _ (by rw [HX.out]; omega) _).mono ?_; rintro e w' ⟨rfl, hb⟩; obtain ⟨q0, q1, q2, q3, f0, f1, f2, f3, hz⟩ := own4 (heap_below hb (by simp [World.iter]; omega) (heap_old (heap_new w _) _)); have hbw := below_iter hb) | (go_at_call 113; refine (hkk _).mono ?_; rintro e w' ⟨rfl, rfl⟩))
      refine bodyPost_ret (v := .tuple #[.agg #[.int .i8 1, .string (s.extract 0 n), .int .i64 0, .int .i64 0], .int .i64 0]) (by simp [results, Tryz.results65, go_sem, *]) rfl ⟨rfl, ?_⟩
      exact (below_set4 hbw (Nat.le_refl _) _ _ _ _).alloc (by simp; omega) _
    · have hk : Sc.nameKind (s.extract 0 n) n = 3 := by unfold Sc.nameKind; rw [if_neg h64, hkey]; rfl
      rw [hk, he]
      clear hk he
      have hkk := scan_Key_any (s.extract 0 n)
      rw [hkey] at hkk
      clear hkey
      go_enter Tryz.func65, Tryz.ntmps65
      go_wp2_with (first | (go_at_call 62; refine (hsp _).mono ?_; rintro e w' ⟨rfl, pos, rfl⟩) | (go_at_call 70; refine (word_any 1 _ (by rw [HX.out]; omega) _).mono ?_; rintro e w' ⟨rfl, hb⟩; obtain ⟨q0, q1, q2, q3, f0, f1, f2, f3, hz⟩ := own4 (heap_below hb (by simp [World.iter]; omega) (heap_old (heap_new w _) _)); have hbw := below_iter hb) | (go_at_call 113; refine (hkk _).mono ?_; rintro e w' ⟨rfl, rfl⟩))
      refine bodyPost_ret (v := .tuple #[.agg #[.int .i8 3, .string (s.extract 0 n), .int .i64 0, .int .i64 0], .int .i64 0]) (by simp [results, Tryz.results65, go_sem, *]) rfl ⟨rfl, ?_⟩
      exact (below_set4 hbw (Nat.le_refl _) _ _ _ _).alloc (by simp; omega) _
end Go.Proofs.YtocehfklacjgbaaGreatDoor
namespace Go.Proofs.YtocehfklacjgbaaGreatDoor
open Go.RowKit

def Sc.numBad (s : ByteArray) (n : Nat) : Bool := (decide (1 < n) && decide (s.data.toList.head? = some 48)) || decide (0 < Sc.spanN Sc.lett (s.data.toList.drop n))
def Sc.numVal (s : ByteArray) (n : Nat) : Nat := Sc.numFrom 0 (s.data.toList.take n)
def Sc.numErr (s : ByteArray) (n : Nat) : Int := if 9223372036854775808 ≤ Sc.numVal s n then 3 else if Sc.numBad s n then 10 else 0
def Sc.numNum (s : ByteArray) (n : Nat) : Int := if Sc.numErr s n = 0 then Sc.numVal s n else 0

theorem below_iterN {w w1 : World} {o : Obj} {s : ByteArray} {pos nq : Nat} (hb : Below (((w.alloc o).iter s pos).drewN nq).heap.size (((w.alloc o).iter s pos).drewN nq) w1) : Below w.heap.size w w1 := by
  have h0 : Below w.heap.size w (((w.alloc o).iter s pos).drewN nq) := by
    have := (((Below.refl w.heap.size w).alloc (Nat.le_refl _) o).alloc (by simp) (.stringIter s pos))
    exact ⟨this.os, this.tape, this.output, this.size, this.block⟩
  exact h0.trans (hb.mono h0.size)

theorem var_at {P : Program} {W W' : World} {n : String} {cs : Array Value} (h : Below W.heap.size W W') (hv : W.var? P n = some cs) : W'.var? P n = some cs := by
  cases hg : P.globalNamed n with
  | none => unfold World.var? at hv; rw [hg] at hv; cases hv
  | some g =>
    refine var?_below h hg ?_ hv
    rcases Nat.lt_or_ge g W.heap.size with h1 | h1
    · exact h1
    · exfalso
      unfold World.var? at hv
      rw [hg] at hv
      simp [Array.getElem?_eq_none h1] at hv

theorem parse_ok (s : ByteArray) (hs : s.size ≤ 281474976710656) (v : Int) (h : Lib.parseIntB 64 s.data.toList = .ok v) (w : World) :
    Calls Tryz.prog 114 #[.string s, .int .i64 10, .int .i64 64] w fun e w' => e = .returned (.tuple #[.int .i64 v, .nilIface]) ∧ Below w.heap.size w w' := by
  refine (Tryz.strconv_ParseInt_10_at64_ok s (by omega) v h w).mono fun e w' => ?_
  rintro ⟨rfl, rfl | ⟨t, rfl⟩⟩
  · exact ⟨rfl, Below.refl _ _⟩
  · exact ⟨rfl, Lib.bytesWorld_below _ _ _⟩

set_option maxHeartbeats 1000000 in
theorem number_err (s : ByteArray) (hs : s.size ≤ 281474976710656) (n : Nat) (hle : n ≤ s.size) (h1 : 1 ≤ n)
    (hsp : ∀ w : World, Calls Tryz.prog 62 #[.string s, .func (.func 66) #[] #[]] w fun e w' => e = .returned (.int .i64 n) ∧ ∃ pos, w' = w.iter s pos)
    (hr : Lib.parseIntB 64 (s.extract 0 n).data.toList = .range) (w : World) (tp : TypeId) (p : Value) (hvar : w.var? Tryz.prog "strconv.ErrRange" = some #[.iface tp p]) :
    Calls Tryz.prog 67 #[.string s] w fun e w' => e = .returned (.tuple #[.agg #[.int .i8 2, .string (s.extract 0 n), .int .i64 0, .int .i64 0], .int .i64 3]) ∧ Below w.heap.size w w' := by
  have hx : (s.extract 0 n).size = n := by simp; omega
  have HX := Lib.hid hx
  clear hx
  have i1 : (n : Int) ≤ s.size := by omega
  have i2 : (0 : Int) ≤ n := by omega
  have HV := Lib.hid hvar
  clear hvar
  go_enter Tryz.func67, Tryz.ntmps67
  go_wp2_with (go_at_call 62; refine (hsp _).mono ?_; rintro e w' ⟨rfl, pos, rfl⟩)
  go_quiet (fail)
  go_wp2_with (first | (go_at_call 70; refine (word_any 2 _ (by rw [HX.out]; omega) _).mono ?_; rintro e w1 ⟨rfl, hb⟩; have H1 := Lib.hid (heap_below hb (by simp [World.iter]; omega) (heap_old (heap_new w _) _)); obtain ⟨q0, q1, q2, q3, f0, f1, f2, f3, hz⟩ := own4 H1.out; have hbw := below_iterN hb) | (go_at_call 114; refine (Tryz.strconv_ParseInt_10_at64_range_var _ (by rw [HX.out]; omega) hr tp p _ (var_at (hbw.alloc hbw.size _) HV.out)).mono ?_; rintro e w2 ⟨N, rfl, _, _, hb2⟩; have hbw2 := (hbw.alloc hbw.size _).trans (hb2.mono (by have := hbw.size; simp; omega)); have H2 := Lib.hid (heap_below hb2 (by simp; omega) (heap_old H1.out _)); have H3 := Lib.hid (heap_below hb2 (by simp) (heap_new w1 _)); obtain ⟨q0, q1, q2, q3, f0, f1, f2, f3, hz⟩ := own4 H2.out; obtain ⟨p0, p1, p2, p3, g0, g1, g2, g3, hy⟩ := own4 H3.out))
  refine bodyPost_ret (v := .tuple #[.agg #[.int .i8 2, .string (s.extract 0 n), .int .i64 0, .int .i64 0], .int .i64 3]) (by simp [results, Tryz.results67, go_sem, *]) rfl ⟨rfl, ?_⟩
  exact (below_set4 hbw2 (Nat.le_refl _) _ _ _ _)

set_option maxHeartbeats 1000000 in
theorem number_zero (s : ByteArray) (hs : s.size ≤ 281474976710656) (n : Nat) (hle : n ≤ s.size) (h1 : 1 ≤ n)
    (hsp : ∀ w : World, Calls Tryz.prog 62 #[.string s, .func (.func 66) #[] #[]] w fun e w' => e = .returned (.int .i64 n) ∧ ∃ pos, w' = w.iter s pos)
    (v : Int) (hr : Lib.parseIntB 64 (s.extract 0 n).data.toList = .ok v) (hx0 : 0 < (s.extract 0 n).size) (hn2 : 1 < n) (hd : ((((s.extract 0 n)[0]'hx0).toNat : Int) == 48) = true) (w : World) (tp : TypeId) (p : Value) (hvar : w.var? Tryz.prog "strconv.ErrRange" = some #[.iface tp p]) :
    Calls Tryz.prog 67 #[.string s] w fun e w' => e = .returned (.tuple #[.agg #[.int .i8 2, .string (s.extract 0 n), .int .i64 0, .int .i64 0], .int .i64 10]) ∧ Below w.heap.size w w' := by
  have hx : (s.extract 0 n).size = n := by simp; omega
  have HX := Lib.hid hx
  clear hx
  have i1 : (n : Int) ≤ s.size := by omega
  have i2 : (0 : Int) ≤ n := by omega
  have HV := Lib.hid hvar
  clear hvar
  go_enter Tryz.func67, Tryz.ntmps67
  go_wp2_with (go_at_call 62; refine (hsp _).mono ?_; rintro e w' ⟨rfl, pos, rfl⟩)
  go_quiet (fail)
  go_wp2_with (first | (go_at_call 70; refine (word_any 2 _ (by rw [HX.out]; omega) _).mono ?_; rintro e w1 ⟨rfl, hb⟩; have H1 := Lib.hid (heap_below hb (by simp [World.iter]; omega) (heap_old (heap_new w _) _)); obtain ⟨q0, q1, q2, q3, f0, f1, f2, f3, hz⟩ := own4 H1.out; have hbw := below_iterN hb) | (go_at_call 114; refine (parse_ok _ (by rw [HX.out]; omega) v hr _).mono ?_; rintro e w2 ⟨rfl, hb2⟩; have hbw2 := (hbw.alloc hbw.size _).trans (hb2.mono (by have := hbw.size; simp; omega)); have H2 := Lib.hid (heap_below hb2 (by simp; omega) (heap_old H1.out _)); have H3 := Lib.hid (heap_below hb2 (by simp) (heap_new w1 _)); obtain ⟨q0, q1, q2, q3, f0, f1, f2, f3, hz⟩ := own4 H2.out; obtain ⟨p0, p1, p2, p3, g0, g1, g2, g3, hy⟩ := own4 H3.out))
  clear hd
  refine bodyPost_ret (v := .tuple #[.agg #[.int .i8 2, .string (s.extract 0 n), .int .i64 0, .int .i64 0], .int .i64 10]) (by simp [results, Tryz.results67, go_sem, *]) rfl ⟨rfl, ?_⟩
  exact (below_set4 hbw2 (Nat.le_refl _) _ _ _ _)

set_option maxHeartbeats 1000000 in
theorem number_letter1 (s : ByteArray) (_hs : s.size ≤ 281474976710656) (n : Nat) (hle : n ≤ s.size) (h1 : 1 ≤ n)
    (hsp : ∀ w : World, Calls Tryz.prog 62 #[.string s, .func (.func 66) #[] #[]] w fun e w' => e = .returned (.int .i64 n) ∧ ∃ pos, w' = w.iter s pos)
    (v : Int) (hr : Lib.parseIntB 64 (s.extract 0 n).data.toList = .ok v) (m : Nat) (hm : 0 < m)
    (hsl : ∀ w : World, Calls Tryz.prog 62 #[.string (s.extract n s.size), .func (.func 64) #[] #[]] w fun e w' => e = .returned (.int .i64 m) ∧ Below w.heap.size w w') (hn2 : ¬ 1 < n) (w : World) (tp : TypeId) (p : Value) (hvar : w.var? Tryz.prog "strconv.ErrRange" = some #[.iface tp p]) :
    Calls Tryz.prog 67 #[.string s] w fun e w' => e = .returned (.tuple #[.agg #[.int .i8 2, .string (s.extract 0 n), .int .i64 0, .int .i64 0], .int .i64 10]) ∧ Below w.heap.size w w' := by
  have hx : (s.extract 0 n).size = n := by simp; omega
  have HX := Lib.hid hx
  clear hx
  have i1 : (n : Int) ≤ s.size := by omega
  have i2 : (0 : Int) ≤ n := by omega
  have HV := Lib.hid hvar
  clear hvar
  go_enter Tryz.func67, Tryz.ntmps67
  go_wp2_with (go_at_call 62; refine (hsp _).mono ?_; rintro e w' ⟨rfl, pos, rfl⟩)
  go_quiet (fail)
  go_wp2_with (first | (go_at_call 70; refine (word_any 2 _ (by rw [HX.out]; omega) _).mono ?_; rintro e w1 ⟨rfl, hb⟩; have H1 := Lib.hid (heap_below hb (by simp [World.iter]; omega) (heap_old (heap_new w _) _)); obtain ⟨q0, q1, q2, q3, f0, f1, f2, f3, hz⟩ := own4 H1.out; have hbw := below_iterN hb) | (go_at_call 114; refine (parse_ok _ (by rw [HX.out]; omega) v hr _).mono ?_; rintro e w2 ⟨rfl, hb2⟩; have hbw2 := (hbw.alloc hbw.size _).trans (hb2.mono (by have := hbw.size; simp; omega)); have H2 := Lib.hid (heap_below hb2 (by simp; omega) (heap_old H1.out _)); have H3 := Lib.hid (heap_below hb2 (by simp) (heap_new w1 _)); obtain ⟨q0, q1, q2, q3, f0, f1, f2, f3, hz⟩ := own4 H2.out; obtain ⟨p0, p1, p2, p3, g0, g1, g2, g3, hy⟩ := own4 H3.out) | (go_at_call 62; refine (hsl _).mono ?_; rintro e w3 ⟨rfl, hb3⟩; have hbw3 := hbw2.trans (hb3.mono hbw2.size); obtain ⟨q0, q1, q2, q3, f0, f1, f2, f3, hz⟩ := own4 (heap_below hb3 hz H2.out); obtain ⟨p0, p1, p2, p3, g0, g1, g2, g3, hy⟩ := own4 (heap_below hb3 hy H3.out)))
  refine bodyPost_ret (v := .tuple #[.agg #[.int .i8 2, .string (s.extract 0 n), .int .i64 0, .int .i64 0], .int .i64 10]) (by simp [results, Tryz.results67, go_sem, *]) rfl ⟨rfl, ?_⟩
  exact (below_set4 hbw3 (Nat.le_refl _) _ _ _ _)

set_option maxHeartbeats 1000000 in
theorem number_letter2 (s : ByteArray) (hs : s.size ≤ 281474976710656) (n : Nat) (hle : n ≤ s.size) (h1 : 1 ≤ n)
    (hsp : ∀ w : World, Calls Tryz.prog 62 #[.string s, .func (.func 66) #[] #[]] w fun e w' => e = .returned (.int .i64 n) ∧ ∃ pos, w' = w.iter s pos)
    (v : Int) (hr : Lib.parseIntB 64 (s.extract 0 n).data.toList = .ok v) (m : Nat) (hm : 0 < m)
    (hsl : ∀ w : World, Calls Tryz.prog 62 #[.string (s.extract n s.size), .func (.func 64) #[] #[]] w fun e w' => e = .returned (.int .i64 m) ∧ Below w.heap.size w w') (hx0 : 0 < (s.extract 0 n).size) (hn2 : 1 < n) (hd : ((((s.extract 0 n)[0]'hx0).toNat : Int) == 48) = false) (w : World) (tp : TypeId) (p : Value) (hvar : w.var? Tryz.prog "strconv.ErrRange" = some #[.iface tp p]) :
    Calls Tryz.prog 67 #[.string s] w fun e w' => e = .returned (.tuple #[.agg #[.int .i8 2, .string (s.extract 0 n), .int .i64 0, .int .i64 0], .int .i64 10]) ∧ Below w.heap.size w w' := by
  have hx : (s.extract 0 n).size = n := by simp; omega
  have HX := Lib.hid hx
  clear hx
  have i1 : (n : Int) ≤ s.size := by omega
  have i2 : (0 : Int) ≤ n := by omega
  have HV := Lib.hid hvar
  clear hvar
  go_enter Tryz.func67, Tryz.ntmps67
  go_wp2_with (go_at_call 62; refine (hsp _).mono ?_; rintro e w' ⟨rfl, pos, rfl⟩)
  go_quiet (fail)
  go_wp2_with (first | (go_at_call 70; refine (word_any 2 _ (by rw [HX.out]; omega) _).mono ?_; rintro e w1 ⟨rfl, hb⟩; have H1 := Lib.hid (heap_below hb (by simp [World.iter]; omega) (heap_old (heap_new w _) _)); obtain ⟨q0, q1, q2, q3, f0, f1, f2, f3, hz⟩ := own4 H1.out; have hbw := below_iterN hb) | (go_at_call 114; refine (parse_ok _ (by rw [HX.out]; omega) v hr _).mono ?_; rintro e w2 ⟨rfl, hb2⟩; have hbw2 := (hbw.alloc hbw.size _).trans (hb2.mono (by have := hbw.size; simp; omega)); have H2 := Lib.hid (heap_below hb2 (by simp; omega) (heap_old H1.out _)); have H3 := Lib.hid (heap_below hb2 (by simp) (heap_new w1 _)); obtain ⟨q0, q1, q2, q3, f0, f1, f2, f3, hz⟩ := own4 H2.out; obtain ⟨p0, p1, p2, p3, g0, g1, g2, g3, hy⟩ := own4 H3.out) | (go_at_call 62; refine (hsl _).mono ?_; rintro e w3 ⟨rfl, hb3⟩; have hbw3 := hbw2.trans (hb3.mono hbw2.size); obtain ⟨q0, q1, q2, q3, f0, f1, f2, f3, hz⟩ := own4 (heap_below hb3 hz H2.out); obtain ⟨p0, p1, p2, p3, g0, g1, g2, g3, hy⟩ := own4 (heap_below hb3 hy H3.out)))
  clear hd
  refine bodyPost_ret (v := .tuple #[.agg #[.int .i8 2, .string (s.extract 0 n), .int .i64 0, .int .i64 0], .int .i64 10]) (by simp [results, Tryz.results67, go_sem, *]) rfl ⟨rfl, ?_⟩
  exact (below_set4 hbw3 (Nat.le_refl _) _ _ _ _)

set_option maxHeartbeats 1000000 in
theorem number_ok1 (s : ByteArray) (_hs : s.size ≤ 281474976710656) (n : Nat) (hle : n ≤ s.size) (h1 : 1 ≤ n)
    (hsp : ∀ w : World, Calls Tryz.prog 62 #[.string s, .func (.func 66) #[] #[]] w fun e w' => e = .returned (.int .i64 n) ∧ ∃ pos, w' = w.iter s pos)
    (v : Int) (hr : Lib.parseIntB 64 (s.extract 0 n).data.toList = .ok v)
    (hsl : ∀ w : World, Calls Tryz.prog 62 #[.string (s.extract n s.size), .func (.func 64) #[] #[]] w fun e w' => e = .returned (.int .i64 0) ∧ Below w.heap.size w w') (hn2 : ¬ 1 < n) (w : World) (tp : TypeId) (p : Value) (hvar : w.var? Tryz.prog "strconv.ErrRange" = some #[.iface tp p]) :
    Calls Tryz.prog 67 #[.string s] w fun e w' => e = .returned (.tuple #[.agg #[.int .i8 2, .string (s.extract 0 n), .int .i64 v, .int .i64 0], .int .i64 0]) ∧ Below w.heap.size w w' := by
  have hx : (s.extract 0 n).size = n := by simp; omega
  have HX := Lib.hid hx
  clear hx
  have i1 : (n : Int) ≤ s.size := by omega
  have i2 : (0 : Int) ≤ n := by omega
  have HV := Lib.hid hvar
  clear hvar
  go_enter Tryz.func67, Tryz.ntmps67
  go_wp2_with (go_at_call 62; refine (hsp _).mono ?_; rintro e w' ⟨rfl, pos, rfl⟩)
  go_quiet (fail)
  go_wp2_with (first | (go_at_call 70; refine (word_any 2 _ (by rw [HX.out]; omega) _).mono ?_; rintro e w1 ⟨rfl, hb⟩; have H1 := Lib.hid (heap_below hb (by simp [World.iter]; omega) (heap_old (heap_new w _) _)); obtain ⟨q0, q1, q2, q3, f0, f1, f2, f3, hz⟩ := own4 H1.out; have hbw := below_iterN hb) | (go_at_call 114; refine (parse_ok _ (by rw [HX.out]; omega) v hr _).mono ?_; rintro e w2 ⟨rfl, hb2⟩; have hbw2 := (hbw.alloc hbw.size _).trans (hb2.mono (by have := hbw.size; simp; omega)); have H2 := Lib.hid (heap_below hb2 (by simp; omega) (heap_old H1.out _)); have H3 := Lib.hid (heap_below hb2 (by simp) (heap_new w1 _)); obtain ⟨q0, q1, q2, q3, f0, f1, f2, f3, hz⟩ := own4 H2.out; obtain ⟨p0, p1, p2, p3, g0, g1, g2, g3, hy⟩ := own4 H3.out) | (go_at_call 62; refine (hsl _).mono ?_; rintro e w3 ⟨rfl, hb3⟩; have hbw3 := hbw2.trans (hb3.mono hbw2.size); obtain ⟨q0, q1, q2, q3, f0, f1, f2, f3, hz⟩ := own4 (heap_below hb3 hz H2.out); obtain ⟨p0, p1, p2, p3, g0, g1, g2, g3, hy⟩ := own4 (heap_below hb3 hy H3.out)))
  refine bodyPost_ret (v := .tuple #[.agg #[.int .i8 2, .string (s.extract 0 n), .int .i64 v, .int .i64 0], .int .i64 0]) (by simp [results, Tryz.results67, go_sem, *]) rfl ⟨rfl, ?_⟩
  exact (below_set4 (hbw3.setCell hbw.size _) (Nat.le_refl _) _ _ _ _)

set_option maxHeartbeats 1000000 in
theorem number_ok2 (s : ByteArray) (hs : s.size ≤ 281474976710656) (n : Nat) (hle : n ≤ s.size) (h1 : 1 ≤ n)
    (hsp : ∀ w : World, Calls Tryz.prog 62 #[.string s, .func (.func 66) #[] #[]] w fun e w' => e = .returned (.int .i64 n) ∧ ∃ pos, w' = w.iter s pos)
    (v : Int) (hr : Lib.parseIntB 64 (s.extract 0 n).data.toList = .ok v)
    (hsl : ∀ w : World, Calls Tryz.prog 62 #[.string (s.extract n s.size), .func (.func 64) #[] #[]] w fun e w' => e = .returned (.int .i64 0) ∧ Below w.heap.size w w') (hx0 : 0 < (s.extract 0 n).size) (hn2 : 1 < n) (hd : ((((s.extract 0 n)[0]'hx0).toNat : Int) == 48) = false) (w : World) (tp : TypeId) (p : Value) (hvar : w.var? Tryz.prog "strconv.ErrRange" = some #[.iface tp p]) :
    Calls Tryz.prog 67 #[.string s] w fun e w' => e = .returned (.tuple #[.agg #[.int .i8 2, .string (s.extract 0 n), .int .i64 v, .int .i64 0], .int .i64 0]) ∧ Below w.heap.size w w' := by
  have hx : (s.extract 0 n).size = n := by simp; omega
  have HX := Lib.hid hx
  clear hx
  have i1 : (n : Int) ≤ s.size := by omega
  have i2 : (0 : Int) ≤ n := by omega
  have HV := Lib.hid hvar
  clear hvar
  go_enter Tryz.func67, Tryz.ntmps67
  go_wp2_with (go_at_call 62; refine (hsp _).mono ?_; rintro e w' ⟨rfl, pos, rfl⟩)
  go_quiet (fail)
  go_wp2_with (first | (go_at_call 70; refine (word_any 2 _ (by rw [HX.out]; omega) _).mono ?_; rintro e w1 ⟨rfl, hb⟩; have H1 := Lib.hid (heap_below hb (by simp [World.iter]; omega) (heap_old (heap_new w _) _)); obtain ⟨q0, q1, q2, q3, f0, f1, f2, f3, hz⟩ := own4 H1.out; have hbw := below_iterN hb) | (go_at_call 114; refine (parse_ok _ (by rw [HX.out]; omega) v hr _).mono ?_; rintro e w2 ⟨rfl, hb2⟩; have hbw2 := (hbw.alloc hbw.size _).trans (hb2.mono (by have := hbw.size; simp; omega)); have H2 := Lib.hid (heap_below hb2 (by simp; omega) (heap_old H1.out _)); have H3 := Lib.hid (heap_below hb2 (by simp) (heap_new w1 _)); obtain ⟨q0, q1, q2, q3, f0, f1, f2, f3, hz⟩ := own4 H2.out; obtain ⟨p0, p1, p2, p3, g0, g1, g2, g3, hy⟩ := own4 H3.out) | (go_at_call 62; refine (hsl _).mono ?_; rintro e w3 ⟨rfl, hb3⟩; have hbw3 := hbw2.trans (hb3.mono hbw2.size); obtain ⟨q0, q1, q2, q3, f0, f1, f2, f3, hz⟩ := own4 (heap_below hb3 hz H2.out); obtain ⟨p0, p1, p2, p3, g0, g1, g2, g3, hy⟩ := own4 (heap_below hb3 hy H3.out)))
  clear hd
  refine bodyPost_ret (v := .tuple #[.agg #[.int .i8 2, .string (s.extract 0 n), .int .i64 v, .int .i64 0], .int .i64 0]) (by simp [results, Tryz.results67, go_sem, *]) rfl ⟨rfl, ?_⟩
  exact (below_set4 (hbw3.setCell hbw.size _) (Nat.le_refl _) _ _ _ _)

theorem Sc.extract_head (s : ByteArray) (n : Nat) (h : 1 ≤ n) (hle : n ≤ s.size) (hx0 : 0 < (s.extract 0 n).size) : s.data.toList.head? = some ((s.extract 0 n)[0]'hx0) := by
  have h0 : 0 < s.size := by omega
  have e : (s.extract 0 n)[0]'hx0 = s[0]'h0 := by rw [ByteArray.getElem_extract]
  rw [e, ← Sc.get_data s 0 h0 (by rw [Sc.data_len]; exact h0)]
  rw [List.head?_eq_getElem?, List.getElem?_eq_getElem]

theorem number_any (s : ByteArray) (hs : s.size ≤ 281474976710656) (h1 : 1 ≤ Sc.spanN Sc.digi s.data.toList) (w : World) (tp : TypeId) (p : Value) (hvar : w.var? Tryz.prog "strconv.ErrRange" = some #[.iface tp p]) :
    Calls Tryz.prog 67 #[.string s] w fun e w' => e = .returned (.tuple #[.agg #[.int .i8 2, .string (s.extract 0 (Sc.spanN Sc.digi s.data.toList)), .int .i64 (Sc.numNum s (Sc.spanN Sc.digi s.data.toList)), .int .i64 0], .int .i64 (Sc.numErr s (Sc.spanN Sc.digi s.data.toList))]) ∧ Below w.heap.size w w' := by
  have hle := Sc.spanN_le Sc.digi s.data.toList
  rw [Sc.data_len] at hle
  have hsp := span_digit s
  have hall := Sc.allDigi_take s.data.toList
  generalize hn : Sc.spanN Sc.digi s.data.toList = n at *
  have hx : (s.extract 0 n).size = n := by simp; omega
  have hx0 : 0 < (s.extract 0 n).size := by omega
  have hxd : (s.extract 0 n).data.toList = s.data.toList.take n := by rw [Lib.extract_data]; simp
  have hlen : (s.data.toList.take n).length = n := by simp; omega
  have hp := Sc.parse64 (s.data.toList.take n) (by intro h; rw [h] at hlen; simp at hlen; omega) hall
  rw [← hxd] at hp
  have hv : Sc.numFrom 0 (s.extract 0 n).data.toList = Sc.numVal s n := by rw [hxd]; rfl
  rw [hv] at hp
  by_cases hb : Sc.numVal s n < 9223372036854775808
  · rw [if_pos hb] at hp
    have hb' : ¬ 9223372036854775808 ≤ Sc.numVal s n := by omega
    have hdl : (s.extract n s.size).data.toList = s.data.toList.drop n := by rw [Lib.extract_data]; exact List.take_of_length_le (by simp)
    have hsl : ∀ w : World, Calls Tryz.prog 62 #[.string (s.extract n s.size), .func (.func 64) #[] #[]] w fun e w' => e = .returned (.int .i64 (Sc.spanN Sc.lett (s.data.toList.drop n))) ∧ Below w.heap.size w w' := by
      intro w
      rw [← hdl]
      refine (span_letter _ w).mono fun e w' => ?_
      rintro ⟨rfl, pos, rfl⟩
      exact ⟨rfl, (Below.refl _ _).alloc (Nat.le_refl _) _⟩
    have hh := Sc.extract_head s n h1 hle hx0
    have bad_of : ∀ b, Sc.numBad s n = b → Sc.numErr s n = (if b then 10 else 0) ∧ Sc.numNum s n = if b then 0 else (Sc.numVal s n : Int) := by
      intro b hbb
      have : Sc.numErr s n = (if b then 10 else 0) := by unfold Sc.numErr; rw [if_neg hb', hbb]
      refine ⟨this, ?_⟩
      unfold Sc.numNum
      rw [this]
      cases b <;> simp
    by_cases hm : 0 < Sc.spanN Sc.lett (s.data.toList.drop n)
    · have hbad : Sc.numBad s n = true := by unfold Sc.numBad; simp [hm]
      obtain ⟨e1, e2⟩ := bad_of true hbad
      rw [e1, e2]
      by_cases h2 : 1 < n
      · cases h48 : ((((s.extract 0 n)[0]'hx0).toNat : Int) == 48)
        · exact number_letter2 s hs n hle h1 hsp _ hp _ hm hsl hx0 h2 h48 w tp p hvar
        · exact number_zero s hs n hle h1 hsp _ hp hx0 h2 h48 w tp p hvar
      · exact number_letter1 s hs n hle h1 hsp _ hp _ hm hsl h2 w tp p hvar
    · have hm0 : Sc.spanN Sc.lett (s.data.toList.drop n) = 0 := by omega
      rw [hm0] at hsl
      by_cases h2 : 1 < n
      · cases h48 : ((((s.extract 0 n)[0]'hx0).toNat : Int) == 48)
        · have hbad : Sc.numBad s n = false := by
            unfold Sc.numBad
            have : ¬ s.data.toList.head? = some 48 := by
              rw [hh]; intro h; injection h with h; rw [h] at h48; simp at h48
            simp [hm0, this]
          obtain ⟨e1, e2⟩ := bad_of false hbad
          rw [e1, e2]
          exact number_ok2 s hs n hle h1 hsp _ hp hsl hx0 h2 h48 w tp p hvar
        · have hbad : Sc.numBad s n = true := by
            unfold Sc.numBad
            have : s.data.toList.head? = some 48 := by
              rw [hh]; congr 1; apply UInt8.toNat_inj.1; have := beq_iff_eq.1 h48; show _ = 48; omega
            simp [this, h2]
          obtain ⟨e1, e2⟩ := bad_of true hbad
          rw [e1, e2]
          exact number_zero s hs n hle h1 hsp _ hp hx0 h2 h48 w tp p hvar
      · have hbad : Sc.numBad s n = false := by unfold Sc.numBad; simp [hm0, h2]
        obtain ⟨e1, e2⟩ := bad_of false hbad
        rw [e1, e2]
        exact number_ok1 s hs n hle h1 hsp _ hp hsl h2 w tp p hvar
  · rw [if_neg hb] at hp
    have e1 : Sc.numErr s n = 3 := by unfold Sc.numErr; rw [if_pos (by omega)]
    have e2 : Sc.numNum s n = 0 := by unfold Sc.numNum; rw [e1]; rfl
    rw [e1, e2]
    exact number_err s hs n hle h1 hsp hp w tp p hvar
end Go.Proofs.YtocehfklacjgbaaGreatDoor
namespace Go.Proofs.YtocehfklacjgbaaGreatDoor
open Go.RowKit

def Sc.hd (s : ByteArray) : Int := ((s.data.toList.headD 0).toNat : Int)
def Sc.fN (s : ByteArray) : Nat := if Sc.lett (Sc.hd s) then Sc.spanN Sc.lord s.data.toList else if Sc.digi (Sc.hd s) then Sc.spanN Sc.digi s.data.toList else if Lib.hasPrefix s.data.toList [45, 62] then 2 else 1
def Sc.fK (s : ByteArray) : Int := if Sc.lett (Sc.hd s) then Sc.nameKind (s.extract 0 (Sc.fN s)) (Sc.fN s) else if Sc.digi (Sc.hd s) then 2 else if Lib.hasPrefix s.data.toList [45, 62] || Sc.isSign (Sc.hd s) then 4 else 0
def Sc.fE (s : ByteArray) : Int := if Sc.lett (Sc.hd s) then Sc.nameErr (Sc.fN s) else if Sc.digi (Sc.hd s) then Sc.numErr s (Sc.fN s) else if Lib.hasPrefix s.data.toList [45, 62] || Sc.isSign (Sc.hd s) then 0 else 10
def Sc.fV (s : ByteArray) : Int := if Sc.lett (Sc.hd s) then 0 else if Sc.digi (Sc.hd s) then Sc.numNum s (Sc.fN s) else 0

theorem Sc.hd_eq (s : ByteArray) (h : 0 < s.size) : Sc.hd s = ((s[0]'h).toNat : Int) := by
  have hl : 0 < s.data.toList.length := by rw [Sc.data_len]; exact h
  have e := Sc.get_data s 0 h hl
  unfold Sc.hd
  rw [List.headD_eq_head?_getD, List.head?_eq_getElem?, List.getElem?_eq_getElem hl, e]
  rfl

theorem hasPrefix_flip (s p : ByteArray) (w : World) :
    Calls Tryz.prog 68 #[.string s, .string p] w fun e w' => e = .returned (.bool (Lib.hasPrefix s.data.toList p.data.toList)) ∧ w = w' :=
  (Tryz.strings_HasPrefix s p w).mono fun _ _ h => ⟨h.1, h.2.symm⟩

/-- the result cell of a function: its own block, the first that it made -/
theorem res_facts {w w1 : World} {v0 v1 v2 v3 : Value} {t : TypeId} (hb : Below (w.alloc (.cells #[v0, v1, v2, v3] t)).heap.size (w.alloc (.cells #[v0, v1, v2, v3] t)) w1) :
    w1.heap[w.heap.size]? = some (.cells #[v0, v1, v2, v3] t) ∧ Below w.heap.size w w1 :=
  ⟨heap_below hb (by simp) (heap_new w _), ((Below.refl _ _).alloc (Nat.le_refl _) _).trans (hb.mono (by simp))⟩

set_option maxHeartbeats 1000000 in
set_option maxRecDepth 100000 in
theorem first_name (s : ByteArray) (h0 : 0 < s.size) (w : World) (k v er : Int) (n : Nat)
    (hL : ∀ w : World, Calls Tryz.prog 64 #[.int .i32 ((s[0]).toNat : Int)] w fun e w' => e = .returned (.bool true) ∧ w = w')
    (hF : ∀ w1 : World, Below w.heap.size w w1 → Calls Tryz.prog 65 #[.string s] w1 fun e w' => e = .returned (.tuple #[.agg #[.int .i8 k, .string (s.extract 0 n), .int .i64 v, .int .i64 0], .int .i64 er]) ∧ Below w1.heap.size w1 w')
    :
    Calls Tryz.prog 36 #[.string s] w fun e w' => e = .returned (.tuple #[.agg #[.int .i8 (k), .string (s.extract 0 (n)), .int .i64 (v), .int .i64 0], .int .i64 (er)]) ∧ Below w.heap.size w w' := by
  have i0 : (0 : Int) < s.size := by omega
  have hw32 : wrap32 ((s[0]).toNat : Int) = ((s[0]).toNat : Int) := by have := (s[0]).toNat_lt; exact IntWalk.wrap32_in _ ⟨by omega, by omega⟩
  go_enter Tryz.func36, Tryz.ntmps36
  go_wp2_with (first | (go_at_call 64; refine (hL _).mono ?_; rintro e w1 ⟨rfl, rfl⟩) | (go_at_call 65; refine (hF _ ((Below.refl _ _).alloc (Nat.le_refl _) _)).mono ?_; rintro e w1 ⟨rfl, hb⟩; have hbw := (res_facts hb).2; obtain ⟨q0, q1, q2, q3, f0, f1, f2, f3, hz⟩ := own4 (res_facts hb).1))
  refine bodyPost_ret (v := .tuple #[.agg #[.int .i8 (k), .string (s.extract 0 (n)), .int .i64 (v), .int .i64 0], .int .i64 (er)]) (by simp [results, Tryz.results36, go_sem, *]) rfl ⟨rfl, ?_⟩
  exact below_set4 hbw (Nat.le_refl _) _ _ _ _

set_option maxHeartbeats 1000000 in
set_option maxRecDepth 100000 in
theorem first_number (s : ByteArray) (h0 : 0 < s.size) (w : World) (k v er : Int) (n : Nat)
    (hL : ∀ w : World, Calls Tryz.prog 64 #[.int .i32 ((s[0]).toNat : Int)] w fun e w' => e = .returned (.bool false) ∧ w = w')
    (hD : ∀ w : World, Calls Tryz.prog 66 #[.int .i32 ((s[0]).toNat : Int)] w fun e w' => e = .returned (.bool true) ∧ w = w')
    (hF : ∀ w1 : World, Below w.heap.size w w1 → Calls Tryz.prog 67 #[.string s] w1 fun e w' => e = .returned (.tuple #[.agg #[.int .i8 k, .string (s.extract 0 n), .int .i64 v, .int .i64 0], .int .i64 er]) ∧ Below w1.heap.size w1 w')
    :
    Calls Tryz.prog 36 #[.string s] w fun e w' => e = .returned (.tuple #[.agg #[.int .i8 (k), .string (s.extract 0 (n)), .int .i64 (v), .int .i64 0], .int .i64 (er)]) ∧ Below w.heap.size w w' := by
  have i0 : (0 : Int) < s.size := by omega
  have hw32 : wrap32 ((s[0]).toNat : Int) = ((s[0]).toNat : Int) := by have := (s[0]).toNat_lt; exact IntWalk.wrap32_in _ ⟨by omega, by omega⟩
  go_enter Tryz.func36, Tryz.ntmps36
  go_wp2_with (first | (go_at_call 64; refine (hL _).mono ?_; rintro e w1 ⟨rfl, rfl⟩) | (go_at_call 66; refine (hD _).mono ?_; rintro e w1 ⟨rfl, rfl⟩) | (go_at_call 67; refine (hF _ ((Below.refl _ _).alloc (Nat.le_refl _) _)).mono ?_; rintro e w1 ⟨rfl, hb⟩; have hbw := (res_facts hb).2; obtain ⟨q0, q1, q2, q3, f0, f1, f2, f3, hz⟩ := own4 (res_facts hb).1))
  refine bodyPost_ret (v := .tuple #[.agg #[.int .i8 (k), .string (s.extract 0 (n)), .int .i64 (v), .int .i64 0], .int .i64 (er)]) (by simp [results, Tryz.results36, go_sem, *]) rfl ⟨rfl, ?_⟩
  exact below_set4 hbw (Nat.le_refl _) _ _ _ _

set_option maxHeartbeats 1000000 in
set_option maxRecDepth 100000 in
theorem first_arrow (s : ByteArray) (hs : s.size ≤ 281474976710656) (h0 : 0 < s.size)
    (hL : ∀ w : World, Calls Tryz.prog 64 #[.int .i32 ((s[0]).toNat : Int)] w fun e w' => e = .returned (.bool false) ∧ w = w')
    (hD : ∀ w : World, Calls Tryz.prog 66 #[.int .i32 ((s[0]).toNat : Int)] w fun e w' => e = .returned (.bool false) ∧ w = w')
    (hH : ∀ w : World, Calls Tryz.prog 68 #[.string s, .string ⟨#[45, 62]⟩] w fun e w' => e = .returned (.bool true) ∧ w = w')
    (h2 : 2 ≤ s.size) (w : World) :
    Calls Tryz.prog 36 #[.string s] w fun e w' => e = .returned (.tuple #[.agg #[.int .i8 (4), .string (s.extract 0 (2)), .int .i64 (0), .int .i64 0], .int .i64 (0)]) ∧ Below w.heap.size w w' := by
  have i0 : (0 : Int) < s.size := by omega
  have hw32 : wrap32 ((s[0]).toNat : Int) = ((s[0]).toNat : Int) := by have := (s[0]).toNat_lt; exact IntWalk.wrap32_in _ ⟨by omega, by omega⟩
  have hx : (s.extract 0 2).size = 2 := by simp; omega
  have HX := Lib.hid hx
  clear hx
  have i2 : (2 : Int) ≤ s.size := by omega
  go_enter Tryz.func36, Tryz.ntmps36
  go_wp2_with (first | (go_at_call 64; refine (hL _).mono ?_; rintro e w1 ⟨rfl, rfl⟩) | (go_at_call 66; refine (hD _).mono ?_; rintro e w1 ⟨rfl, rfl⟩) | (go_at_call 68; refine (hH _).mono ?_; rintro e w1 ⟨rfl, rfl⟩) | (go_at_call 70; refine (word_any 4 _ (by rw [HX.out]; omega) _).mono ?_; rintro e w1 ⟨rfl, hb⟩; have hbw := (res_facts hb).2; obtain ⟨q0, q1, q2, q3, f0, f1, f2, f3, hz⟩ := own4 (res_facts hb).1))
  refine bodyPost_ret (v := .tuple #[.agg #[.int .i8 (4), .string (s.extract 0 (2)), .int .i64 (0), .int .i64 0], .int .i64 (0)]) (by simp [results, Tryz.results36, go_sem, *]) rfl ⟨rfl, ?_⟩
  exact below_set4 hbw (Nat.le_refl _) _ _ _ _

set_option maxHeartbeats 1000000 in
set_option maxRecDepth 100000 in
theorem first_sign (s : ByteArray) (hs : s.size ≤ 281474976710656) (h0 : 0 < s.size)
    (hL : ∀ w : World, Calls Tryz.prog 64 #[.int .i32 ((s[0]).toNat : Int)] w fun e w' => e = .returned (.bool false) ∧ w = w')
    (hD : ∀ w : World, Calls Tryz.prog 66 #[.int .i32 ((s[0]).toNat : Int)] w fun e w' => e = .returned (.bool false) ∧ w = w')
    (hH : ∀ w : World, Calls Tryz.prog 68 #[.string s, .string ⟨#[45, 62]⟩] w fun e w' => e = .returned (.bool false) ∧ w = w')
    (hR : ∀ w : World, Calls Tryz.prog 69 #[.string ⟨#[92, 46, 58, 61, 40, 41, 91, 93, 123, 125, 44, 124, 43, 45, 42, 47, 60, 62, 63, 59]⟩, .int .i32 ((s[0]).toNat : Int)] w fun e w' => e = .returned (.bool true) ∧ Below w.heap.size w w')
     (w : World) :
    Calls Tryz.prog 36 #[.string s] w fun e w' => e = .returned (.tuple #[.agg #[.int .i8 (4), .string (s.extract 0 (1)), .int .i64 (0), .int .i64 0], .int .i64 (0)]) ∧ Below w.heap.size w w' := by
  have i0 : (0 : Int) < s.size := by omega
  have hw32 : wrap32 ((s[0]).toNat : Int) = ((s[0]).toNat : Int) := by have := (s[0]).toNat_lt; exact IntWalk.wrap32_in _ ⟨by omega, by omega⟩
  have hx : (s.extract 0 1).size = 1 := by simp; omega
  have HX := Lib.hid hx
  clear hx
  have i2 : (1 : Int) ≤ s.size := by omega
  go_enter Tryz.func36, Tryz.ntmps36
  go_wp2_with (first | (go_at_call 64; refine (hL _).mono ?_; rintro e w1 ⟨rfl, rfl⟩) | (go_at_call 66; refine (hD _).mono ?_; rintro e w1 ⟨rfl, rfl⟩) | (go_at_call 68; refine (hH _).mono ?_; rintro e w1 ⟨rfl, rfl⟩) | (go_at_call 69; refine (hR _).mono ?_; rintro e w1 ⟨rfl, hb⟩; have hbw := (res_facts hb).2; have HH := Lib.hid (res_facts hb).1; obtain ⟨q0, q1, q2, q3, f0, f1, f2, f3, hz⟩ := own4 HH.out) | (go_at_call 70; refine (word_any 4 _ (by rw [HX.out]; omega) _).mono ?_; rintro e w2 ⟨rfl, hb2⟩; have hbw2 := hbw.trans (hb2.mono hbw.size); obtain ⟨q0, q1, q2, q3, f0, f1, f2, f3, hz⟩ := own4 (heap_below hb2 hz HH.out)))
  refine bodyPost_ret (v := .tuple #[.agg #[.int .i8 (4), .string (s.extract 0 (1)), .int .i64 (0), .int .i64 0], .int .i64 (0)]) (by simp [results, Tryz.results36, go_sem, *]) rfl ⟨rfl, ?_⟩
  exact below_set4 hbw2 (Nat.le_refl _) _ _ _ _

set_option maxHeartbeats 1000000 in
set_option maxRecDepth 100000 in
theorem first_none (s : ByteArray) (hs : s.size ≤ 281474976710656) (h0 : 0 < s.size)
    (hL : ∀ w : World, Calls Tryz.prog 64 #[.int .i32 ((s[0]).toNat : Int)] w fun e w' => e = .returned (.bool false) ∧ w = w')
    (hD : ∀ w : World, Calls Tryz.prog 66 #[.int .i32 ((s[0]).toNat : Int)] w fun e w' => e = .returned (.bool false) ∧ w = w')
    (hH : ∀ w : World, Calls Tryz.prog 68 #[.string s, .string ⟨#[45, 62]⟩] w fun e w' => e = .returned (.bool false) ∧ w = w')
    (hR : ∀ w : World, Calls Tryz.prog 69 #[.string ⟨#[92, 46, 58, 61, 40, 41, 91, 93, 123, 125, 44, 124, 43, 45, 42, 47, 60, 62, 63, 59]⟩, .int .i32 ((s[0]).toNat : Int)] w fun e w' => e = .returned (.bool false) ∧ Below w.heap.size w w')
     (w : World) :
    Calls Tryz.prog 36 #[.string s] w fun e w' => e = .returned (.tuple #[.agg #[.int .i8 (0), .string (s.extract 0 (1)), .int .i64 (0), .int .i64 0], .int .i64 (10)]) ∧ Below w.heap.size w w' := by
  have i0 : (0 : Int) < s.size := by omega
  have hw32 : wrap32 ((s[0]).toNat : Int) = ((s[0]).toNat : Int) := by have := (s[0]).toNat_lt; exact IntWalk.wrap32_in _ ⟨by omega, by omega⟩
  have hx : (s.extract 0 1).size = 1 := by simp; omega
  have HX := Lib.hid hx
  clear hx
  have i2 : (1 : Int) ≤ s.size := by omega
  go_enter Tryz.func36, Tryz.ntmps36
  go_wp2_with (first | (go_at_call 64; refine (hL _).mono ?_; rintro e w1 ⟨rfl, rfl⟩) | (go_at_call 66; refine (hD _).mono ?_; rintro e w1 ⟨rfl, rfl⟩) | (go_at_call 68; refine (hH _).mono ?_; rintro e w1 ⟨rfl, rfl⟩) | (go_at_call 69; refine (hR _).mono ?_; rintro e w1 ⟨rfl, hb⟩; have hbw := (res_facts hb).2; have HH := Lib.hid (res_facts hb).1; obtain ⟨q0, q1, q2, q3, f0, f1, f2, f3, hz⟩ := own4 HH.out) | (go_at_call 70; refine (word_any 0 _ (by rw [HX.out]; omega) _).mono ?_; rintro e w2 ⟨rfl, hb2⟩; have hbw2 := hbw.trans (hb2.mono hbw.size); obtain ⟨q0, q1, q2, q3, f0, f1, f2, f3, hz⟩ := own4 (heap_below hb2 hz HH.out)))
  refine bodyPost_ret (v := .tuple #[.agg #[.int .i8 (0), .string (s.extract 0 (1)), .int .i64 (0), .int .i64 0], .int .i64 (10)]) (by simp [results, Tryz.results36, go_sem, *]) rfl ⟨rfl, ?_⟩
  exact below_set4 hbw2 (Nat.le_refl _) _ _ _ _
end Go.Proofs.YtocehfklacjgbaaGreatDoor
namespace Go.Proofs.YtocehfklacjgbaaGreatDoor
open Go.RowKit

theorem Sc.spanN_pos (q : Int → Bool) (s : ByteArray) (h : 0 < s.size) (hq : q (Sc.hd s) = true) : 1 ≤ Sc.spanN q s.data.toList := by
  have hl : 0 < s.data.toList.length := by rw [Sc.data_len]; exact h
  refine Sc.spanN_more q _ 0 hl (Nat.zero_le _) ?_
  rw [Sc.get_data s 0 h hl, ← Sc.hd_eq s h]
  exact hq

theorem Sc.hasPrefix_two (l : List UInt8) (h : Lib.hasPrefix l [45, 62] = true) : 2 ≤ l.length := by
  match l with
  | [] => simp [Lib.hasPrefix] at h
  | [a] => simp [Lib.hasPrefix] at h
  | a :: b :: l => simp

theorem first_any (s : ByteArray) (hs : s.size ≤ 281474976710656) (h0 : 0 < s.size) (w : World) (tp : TypeId) (p : Value) (hvar : w.var? Tryz.prog "strconv.ErrRange" = some #[.iface tp p]) :
    Calls Tryz.prog 36 #[.string s] w fun e w' => e = .returned (.tuple #[.agg #[.int .i8 (Sc.fK s), .string (s.extract 0 (Sc.fN s)), .int .i64 (Sc.fV s), .int .i64 0], .int .i64 (Sc.fE s)]) ∧ Below w.heap.size w w' := by
  have hd := Sc.hd_eq s h0
  have hb : (s[0]).toNat < 256 := (s[0]).toNat_lt
  have hL := scan_letter_any ((s[0]).toNat : Int)
  have hD := scan_digit_any ((s[0]).toNat : Int)
  have hH := hasPrefix_flip s ⟨#[45, 62]⟩
  have hR := contains_any ((s[0]).toNat : Int) (by omega) (by omega)
  rw [← hd] at hL hD hR
  by_cases c1 : Sc.lett (Sc.hd s) = true
  · have e1 : Sc.fN s = Sc.spanN Sc.lord s.data.toList := by unfold Sc.fN; rw [if_pos c1]
    have e2 : Sc.fK s = Sc.nameKind (s.extract 0 (Sc.fN s)) (Sc.fN s) := by unfold Sc.fK; rw [if_pos c1]
    have e3 : Sc.fE s = Sc.nameErr (Sc.fN s) := by unfold Sc.fE; rw [if_pos c1]
    have e4 : Sc.fV s = 0 := by unfold Sc.fV; rw [if_pos c1]
    rw [e2, e3, e4, e1]
    rw [c1] at hL
    rw [hd] at hL
    exact first_name s h0 w _ _ _ _ hL fun w1 _ => name_any s hs w1
  · rw [Bool.not_eq_true] at c1
    by_cases c2 : Sc.digi (Sc.hd s) = true
    · have e1 : Sc.fN s = Sc.spanN Sc.digi s.data.toList := by unfold Sc.fN; rw [c1, if_neg (by decide), if_pos c2]
      have e2 : Sc.fK s = 2 := by unfold Sc.fK; rw [c1, if_neg (by decide), if_pos c2]
      have e3 : Sc.fE s = Sc.numErr s (Sc.fN s) := by unfold Sc.fE; rw [c1, if_neg (by decide), if_pos c2]
      have e4 : Sc.fV s = Sc.numNum s (Sc.fN s) := by unfold Sc.fV; rw [c1, if_neg (by decide), if_pos c2]
      rw [e2, e3, e4, e1]
      rw [c1, hd] at hL
      rw [c2, hd] at hD
      exact first_number s h0 w _ _ _ _ hL hD fun w1 hb => number_any s hs (Sc.spanN_pos _ s h0 c2) w1 tp p (var_at hb hvar)
    · rw [Bool.not_eq_true] at c2
      rw [c1, hd] at hL
      rw [c2, hd] at hD
      by_cases c3 : Lib.hasPrefix s.data.toList [45, 62] = true
      · have e1 : Sc.fN s = 2 := by unfold Sc.fN; rw [c1, c2, c3]; rfl
        have e2 : Sc.fK s = 4 := by unfold Sc.fK; rw [c1, c2, c3]; rfl
        have e3 : Sc.fE s = 0 := by unfold Sc.fE; rw [c1, c2, c3]; rfl
        have e4 : Sc.fV s = 0 := by unfold Sc.fV; rw [c1, c2]; rfl
        rw [e2, e3, e4, e1]
        have hH' : ∀ w : World, Calls Tryz.prog 68 #[.string s, .string ⟨#[45, 62]⟩] w fun e w' => e = .returned (.bool true) ∧ w = w' := by
          intro w
          have := hH w
          rw [show (⟨#[45, 62]⟩ : ByteArray).data.toList = [45, 62] from rfl, c3] at this
          exact this
        have h2 := Sc.hasPrefix_two _ c3
        rw [Sc.data_len] at h2
        exact first_arrow s hs h0 hL hD hH' h2 w
      · rw [Bool.not_eq_true] at c3
        have hH' : ∀ w : World, Calls Tryz.prog 68 #[.string s, .string ⟨#[45, 62]⟩] w fun e w' => e = .returned (.bool false) ∧ w = w' := by
          intro w
          have := hH w
          rw [show (⟨#[45, 62]⟩ : ByteArray).data.toList = [45, 62] from rfl, c3] at this
          exact this
        have e1 : Sc.fN s = 1 := by unfold Sc.fN; rw [c1, c2, c3]; rfl
        have e4 : Sc.fV s = 0 := by unfold Sc.fV; rw [c1, c2]; rfl
        by_cases c4 : Sc.isSign (Sc.hd s) = true
        · have e2 : Sc.fK s = 4 := by unfold Sc.fK; rw [c1, c2, c3, c4]; rfl
          have e3 : Sc.fE s = 0 := by unfold Sc.fE; rw [c1, c2, c3, c4]; rfl
          rw [e2, e3, e4, e1]
          rw [c4, hd] at hR
          exact first_sign s hs h0 hL hD hH' hR w
        · rw [Bool.not_eq_true] at c4
          have e2 : Sc.fK s = 0 := by unfold Sc.fK; rw [c1, c2, c3, c4]; rfl
          have e3 : Sc.fE s = 10 := by unfold Sc.fE; rw [c1, c2, c3, c4]; rfl
          rw [e2, e3, e4, e1]
          rw [c4, hd] at hR
          exact first_none s hs h0 hL hD hH' hR w

/-- whether a text is one name -/
def Sc.isName (s : ByteArray) : Bool := if s.size = 0 then false else decide (Sc.fE s = 0) && decide (Sc.fK s = 1) && decide (Sc.fN s = s.size)

theorem Sc.fN_le (s : ByteArray) (h0 : 0 < s.size) : Sc.fN s ≤ s.size := by
  have h1 := Sc.spanN_le Sc.lord s.data.toList
  have h2 := Sc.spanN_le Sc.digi s.data.toList
  rw [Sc.data_len] at h1 h2
  unfold Sc.fN
  split
  · exact h1
  · split
    · exact h2
    · split
      · rename_i h; have := Sc.hasPrefix_two _ h; rw [Sc.data_len] at this; exact this
      · omega

theorem Sc.extract_beq (s : ByteArray) (n : Nat) (h : n ≤ s.size) : ((s.extract 0 n).toList == s.toList) = decide (n = s.size) := by
  rw [Bool.eq_iff_iff, beq_iff_eq, decide_eq_true_iff, Lib.extract_toList, Lib.toList_data]
  have hl := Sc.data_len s
  constructor
  · intro h1
    have := congrArg List.length h1
    simp at this
    omega
  · rintro rfl
    simp [List.take_of_length_le]
end Go.Proofs.YtocehfklacjgbaaGreatDoor
namespace Go.Proofs.YtocehfklacjgbaaGreatDoor
open Go.RowKit

set_option maxHeartbeats 1000000 in
set_option maxRecDepth 100000 in
theorem scan_Name_of (s : ByteArray) (k v er : Int) (n : Nat) (w : World) (b1 b2 b3 : Bool) (h1 : (er == 0) = b1) (h2 : (k == 1) = b2) (h3 : ((s.extract 0 n).toList == s.toList) = b3)
    (he : s.toList.isEmpty = false)
    (hF : ∀ w1 : World, Below w.heap.size w w1 → Calls Tryz.prog 36 #[.string s] w1 fun e w' => e = .returned (.tuple #[.agg #[.int .i8 k, .string (s.extract 0 n), .int .i64 v, .int .i64 0], .int .i64 er]) ∧ Below w1.heap.size w1 w') :
    Calls Tryz.prog 110 #[.string s] w fun e w' => e = .returned (.bool (b1 && b2 && b3)) ∧ Below w.heap.size w w' := by
  have he2 : (s.toList == []) = false := by cases hq : s.toList <;> simp_all
  cases b1 <;> cases b2 <;> cases b3
  all_goals
    go_enter Tryz.func110, Tryz.ntmps110
    go_wp2_with (go_at_call 36; refine (hF _ (Below.refl _ _)).mono ?_; rintro e w1 ⟨rfl, hb⟩)
    go_ret
    exact ⟨rfl, hb.alloc hb.size _⟩

theorem scan_Name_any (s : ByteArray) (hs : s.size ≤ 281474976710656) (w : World) (tp : TypeId) (p : Value) (hvar : w.var? Tryz.prog "strconv.ErrRange" = some #[.iface tp p]) :
    Calls Tryz.prog 110 #[.string s] w fun e w' => e = .returned (.bool (Sc.isName s)) ∧ Below w.heap.size w w' := by
  by_cases h0 : s.size = 0
  · have hn : Sc.isName s = false := by unfold Sc.isName; rw [if_pos h0]
    have he : s.toList = [] := by rw [Lib.toList_data]; apply List.eq_nil_of_length_eq_zero; rw [Sc.data_len]; exact h0
    rw [hn]
    clear h0 hn
    have he1 : s.toList.isEmpty = true := by rw [he]; rfl
    clear he
    go_enter Tryz.func110, Tryz.ntmps110
    go_wp2_with fail
    go_ret
    exact ⟨rfl, Below.refl _ _⟩
  · have h1 : 0 < s.size := by omega
    have he : s.toList.isEmpty = false := by
      rw [Lib.toList_data]
      have := Sc.data_len s
      cases hq : s.data.toList with
      | nil => rw [hq] at this; simp at this; omega
      | cons a l => rfl
    have hle := Sc.fN_le s h1
    have := scan_Name_of s (Sc.fK s) (Sc.fV s) (Sc.fE s) (Sc.fN s) w _ _ _ rfl rfl rfl he fun w1 hb => first_any s hs h1 w1 tp p (var_at hb hvar)
    have e : Sc.isName s = ((Sc.fE s == 0) && (Sc.fK s == 1) && ((s.extract 0 (Sc.fN s)).toList == s.toList)) := by
      unfold Sc.isName
      rw [if_neg h0, Sc.extract_beq s _ hle]
      rfl
    rw [e]
    exact this
end Go.Proofs.YtocehfklacjgbaaGreatDoor
namespace Go.Proofs.YtocehfklacjgbaaGreatDoor
namespace Sc
/-- a word: kind, text, number, place -/
abbrev Wd := Int × ByteArray × Int × Nat
/-- a fault: code, place, text -/
abbrev Flt := Int × Nat × ByteArray
def byteAt (s : ByteArray) (at' : Nat) : Int := ((s.data.toList.drop at').headD 0).toNat
def skipN (s : ByteArray) (at' : Nat) : Nat := spanN notNl (s.data.toList.drop at')
def rest (s : ByteArray) (at' : Nat) : ByteArray := s.extract at' s.size
def wordAt (s : ByteArray) (at' : Nat) : Wd := (fK (rest s at'), (rest s at').extract 0 (fN (rest s at')), fV (rest s at'), at')
def faultAt (s : ByteArray) (at' : Nat) : Flt := (fE (rest s at'), at', (rest s at').extract 0 (fN (rest s at')))

def toks (s : ByteArray) : Nat → Nat → List Wd × Option Flt
  | 0, _ => ([], none)
  | f + 1, at' =>
    if s.size ≤ at' then ([], none)
    else if blan (byteAt s at') then toks s f (at' + 1)
    else if byteAt s at' = 35 then toks s f (at' + skipN s at')
    else if fE (rest s at') ≠ 0 then ([], some (faultAt s at'))
    else (wordAt s at' :: (toks s f (at' + fN (rest s at'))).1, (toks s f (at' + fN (rest s at'))).2)

theorem byteAt_eq (s : ByteArray) (k : Nat) (h : k < s.size) : byteAt s k = ((s[k]).toNat : Int) := by
  unfold byteAt
  have hl : k < s.data.toList.length := by rw [data_len]; exact h
  rw [List.drop_eq_getElem_cons hl, List.headD_cons, get_data s k h hl]

theorem rest_data (s : ByteArray) (k : Nat) : (rest s k).data.toList = s.data.toList.drop k := by
  unfold rest
  rw [Lib.extract_data]
  exact List.take_of_length_le (by simp)
theorem rest_size (s : ByteArray) (k : Nat) : (rest s k).size = s.size - k := by
  unfold rest; simp
theorem hd_rest (s : ByteArray) (k : Nat) : hd (rest s k) = byteAt s k := by
  unfold hd byteAt; rw [rest_data]

theorem skipN_pos (s : ByteArray) (k : Nat) (h : k < s.size) (h35 : byteAt s k = 35) : 1 ≤ skipN s k := by
  have := spanN_pos notNl (rest s k) (by rw [rest_size]; omega) (by rw [hd_rest, h35]; decide)
  rw [rest_data] at this
  exact this
theorem skipN_le (s : ByteArray) (k : Nat) : skipN s k ≤ s.size - k := by
  have := spanN_le notNl (s.data.toList.drop k)
  rw [List.length_drop, data_len] at this
  exact this

theorem fN_pos (s : ByteArray) (h0 : 0 < s.size) : 1 ≤ fN s := by
  unfold fN
  split
  · rename_i h
    exact spanN_pos lord s h0 (by unfold lord; rw [h]; rfl)
  · split
    · rename_i h; exact spanN_pos digi s h0 h
    · split <;> decide

/-- enough fuel is enough -/
theorem toks_fuel (s : ByteArray) : ∀ (f g at' : Nat), s.size < f + at' → s.size < g + at' → toks s f at' = toks s g at' := by
  intro f
  induction f with
  | zero =>
    intro g at' h1 _
    cases g with
    | zero => rfl
    | succ g => unfold toks; rw [if_pos (by omega)]
  | succ f ih =>
    intro g at' h1 h2
    cases g with
    | zero => conv => lhs; unfold toks
              rw [if_pos (by omega)]; rfl
    | succ g =>
      unfold toks
      by_cases h : s.size ≤ at'
      · rw [if_pos h, if_pos h]
      · rw [if_neg h, if_neg h]
        by_cases hb : blan (byteAt s at') = true
        · rw [if_pos hb, if_pos hb]; exact ih g (at' + 1) (by omega) (by omega)
        · rw [if_neg hb, if_neg hb]
          by_cases h35 : byteAt s at' = 35
          · have := skipN_pos s at' (by omega) h35
            rw [if_pos h35, if_pos h35]; exact ih g _ (by omega) (by omega)
          · rw [if_neg h35, if_neg h35]
            have := fN_pos (rest s at') (by rw [rest_size]; omega)
            rw [ih g (at' + fN (rest s at')) (by omega) (by omega)]

def tk (s : ByteArray) (at' : Nat) : List Wd × Option Flt := toks s (s.size + 1) at'

theorem tk_step (s : ByteArray) (at' : Nat) : tk s at' = if s.size ≤ at' then ([], none)
    else if blan (byteAt s at') then tk s (at' + 1)
    else if byteAt s at' = 35 then tk s (at' + skipN s at')
    else if fE (rest s at') ≠ 0 then ([], some (faultAt s at'))
    else (wordAt s at' :: (tk s (at' + fN (rest s at'))).1, (tk s (at' + fN (rest s at'))).2) := by
  unfold tk
  conv => lhs; unfold toks
  by_cases h : s.size ≤ at'
  · rw [if_pos h, if_pos h]
  · rw [if_neg h, if_neg h]
    by_cases hb : blan (byteAt s at') = true
    · rw [if_pos hb, if_pos hb]; exact toks_fuel s _ _ _ (by omega) (by omega)
    · rw [if_neg hb, if_neg hb]
      by_cases h35 : byteAt s at' = 35
      · have := skipN_pos s at' (by omega) h35
        rw [if_pos h35, if_pos h35]; exact toks_fuel s _ _ _ (by omega) (by omega)
      · rw [if_neg h35, if_neg h35]
        have := fN_pos (rest s at') (by rw [rest_size]; omega)
        rw [toks_fuel s s.size (s.size + 1) (at' + fN (rest s at')) (by omega) (by omega)]

theorem tk_end (s : ByteArray) (k : Nat) (h : s.size ≤ k) : tk s k = ([], none) := by rw [tk_step, if_pos h]
theorem tk_blank (s : ByteArray) (k : Nat) (h : k < s.size) (hb : blan (byteAt s k) = true) : tk s k = tk s (k + 1) := by
  rw [tk_step, if_neg (by omega), if_pos hb]
theorem tk_remark (s : ByteArray) (k : Nat) (h : k < s.size) (h35 : byteAt s k = 35) : tk s k = tk s (k + skipN s k) := by
  rw [tk_step, if_neg (by omega), if_neg (by rw [h35]; decide), if_pos h35]
theorem tk_fault (s : ByteArray) (k : Nat) (h : k < s.size) (hb : blan (byteAt s k) = false) (h35 : byteAt s k ≠ 35) (he : fE (rest s k) ≠ 0) : tk s k = ([], some (faultAt s k)) := by
  rw [tk_step, if_neg (by omega), hb, if_neg (by decide), if_neg h35, if_pos he]
theorem tk_word (s : ByteArray) (k : Nat) (h : k < s.size) (hb : blan (byteAt s k) = false) (h35 : byteAt s k ≠ 35) (he : fE (rest s k) = 0) :
    tk s k = (wordAt s k :: (tk s (k + fN (rest s k))).1, (tk s (k + fN (rest s k))).2) := by
  rw [tk_step, if_neg (by omega), hb, if_neg (by decide), if_neg h35, if_neg (by simpa using he)]

/-- from pos on the runes' steps come to past -/
def lands (s : ByteArray) (pos past : Nat) : Prop :=
  pos ≤ past ∧ past ≤ s.size ∧ (past = s.size ∨ (∃ h : past < s.size, (s[past]).toNat < 128) ∨ ∀ j (h : j < s.size), pos ≤ j → j < past → (s[j]).toNat < 128)

theorem lands_step (s : ByteArray) (pos past : Nat) (h : lands s pos past) (hlt : pos < past) : lands s (pos + (Utf8.decode s pos).2) past := by
  obtain ⟨h1, h2, h3⟩ := h
  have hp : pos < s.size := by omega
  by_cases hb : 128 ≤ (s[pos]).toNat
  · obtain ⟨w1, w2⟩ := dec_wide s pos hp hb
    have hle : pos + (Utf8.decode s pos).2 ≤ past := by
      rcases h3 with h3 | ⟨hq, h3⟩ | h3
      · omega
      · rcases Nat.lt_or_ge past (pos + (Utf8.decode s pos).2) with hc | hc
        · have := w2 past hq (by omega) hc; omega
        · exact hc
      · have := h3 pos hp (by omega) hlt; omega
    refine ⟨hle, h2, ?_⟩
    rcases h3 with h3 | h3 | h3
    · exact .inl h3
    · exact .inr (.inl h3)
    · exact .inr (.inr fun j hj a b => h3 j hj (by omega) b)
  · rw [decode_ascii s pos hp (by omega)]
    refine ⟨by omega, h2, ?_⟩
    rcases h3 with h3 | h3 | h3
    · exact .inl h3
    · exact .inr (.inl h3)
    · exact .inr (.inr fun j hj a b => h3 j hj (by omega) b)

theorem lands_remark (s : ByteArray) (pos : Nat) (h : pos < s.size) (h35 : byteAt s pos = 35) : lands s (pos + 1) (pos + skipN s pos) := by
  have h1 := skipN_pos s pos h h35
  have h2 := skipN_le s pos
  refine ⟨by omega, by omega, ?_⟩
  by_cases he : pos + skipN s pos = s.size
  · exact .inl he
  · have hlt : spanN notNl (s.data.toList.drop pos) < (s.data.toList.drop pos).length := by
      rw [List.length_drop, data_len]; show skipN s pos < _; omega
    have := spanN_stop notNl _ hlt
    refine .inr (.inl ⟨by omega, ?_⟩)
    have hlen : pos + skipN s pos < s.data.toList.length := by rw [data_len]; omega
    have e : (s.data.toList.drop pos)[spanN notNl (s.data.toList.drop pos)] = s.data.toList[pos + skipN s pos] := by
      rw [List.getElem_drop]; rfl
    rw [e, get_data s _ (by omega) hlen] at this
    simp [notNl] at this
    omega

theorem ascii_of_lord (r : Int) (h : lord r = true) : r < 128 := by
  simp [lord, lett, digi] at h; omega
theorem ascii_of_digi (r : Int) (h : digi r = true) : r < 128 := by
  simp [digi] at h; omega
theorem ascii_of_sign (r : Int) (h : isSign r = true) : r < 128 := by
  simp [isSign] at h; omega

theorem fN_ascii (s : ByteArray) (_h0 : 0 < s.size) (he : fE s = 0) : ∀ j (h : j < s.size), j < fN s → (s[j]).toNat < 128 := by
  intro j h hj
  have hl : j < s.data.toList.length := by rw [data_len]; exact h
  unfold fN at hj
  split at hj
  · have := ascii_of_lord _ (spanN_get lord _ j hl hj)
    rw [get_data s j h hl] at this; omega
  · split at hj
    · have := ascii_of_digi _ (spanN_get digi _ j hl hj)
      rw [get_data s j h hl] at this; omega
    · rename_i n1 n2
      split at hj
      · rename_i hp
        have e : ∀ (l : List UInt8) (hl : j < l.length), Lib.hasPrefix l [45, 62] = true → j < 2 → (l[j]).toNat < 128 := by
          intro l hl hp hj
          cases l with
          | nil => simp at hl
          | cons a l =>
            cases l with
            | nil => simp [Lib.hasPrefix] at hp
            | cons b l =>
              simp [Lib.hasPrefix] at hp
              obtain ⟨h1, h2⟩ := hp
              cases j with
              | zero => rw [List.getElem_cons_zero, ← h1]; decide
              | succ j =>
                cases j with
                | zero => rw [List.getElem_cons_succ, List.getElem_cons_zero, ← h2]; decide
                | succ j => omega
        have := e _ hl hp hj
        rw [get_data s j h hl] at this; omega
      · rename_i hp
        have hj0 : j = 0 := by omega
        subst hj0
        have hs : isSign (hd s) = true := by
          cases hq : isSign (hd s)
          · exfalso
            unfold fE at he
            simp [n1, n2, hp, hq] at he
          · rfl
        have := ascii_of_sign _ hs
        rw [hd_eq s h] at this
        omega

theorem rest_get (s : ByteArray) (k j : Nat) (h : k + j < s.size) (h' : j < (rest s k).size) : (rest s k)[j] = s[k + j] := by
  have h1 : j < (rest s k).data.toList.length := by rw [data_len]; exact h'
  have h2 : k + j < s.data.toList.length := by rw [data_len]; exact h
  rw [← get_data _ j h' h1, ← get_data s (k + j) h h2]
  simp only [rest_data, List.getElem_drop]

theorem lands_word (s : ByteArray) (pos : Nat) (h : pos < s.size) (he : fE (rest s pos) = 0) : lands s (pos + 1) (pos + fN (rest s pos)) ∧ (s[pos]).toNat < 128 := by
  have hr : 0 < (rest s pos).size := by rw [rest_size]; omega
  have h1 := fN_pos _ hr
  have h2 := fN_le _ hr
  rw [rest_size] at h2
  have ha := fN_ascii _ hr he
  have key : ∀ j (h : j < s.size), pos ≤ j → j < pos + fN (rest s pos) → (s[j]).toNat < 128 := by
    intro j hj a b
    have hj' : j - pos < (rest s pos).size := by rw [rest_size]; omega
    have := ha (j - pos) hj' (by omega)
    rw [rest_get s pos (j - pos) (by omega) hj'] at this
    simpa [show pos + (j - pos) = j by omega] using this
  exact ⟨⟨by omega, by omega, .inr (.inr fun j hj a b => key j hj (by omega) b)⟩, key pos h (Nat.le_refl _) (by omega)⟩

theorem width_pos (s : ByteArray) (pos : Nat) (h : pos < s.size) : 1 ≤ (Utf8.decode s pos).2 := by
  by_cases hb : 128 ≤ (s[pos]).toNat
  · exact (decode_high s pos h hb).2
  · rw [decode_ascii s pos h (by omega)]; exact Nat.le_refl _
/-- a rune's tests are its first byte's -/
theorem rune_blank (s : ByteArray) (pos : Nat) (h : pos < s.size) : blan ((Utf8.decode s pos).1 : Int) = blan (byteAt s pos) := by
  rw [byteAt_eq s pos h]
  by_cases hb : 128 ≤ (s[pos]).toNat
  · have := (decode_high s pos h hb).1
    have e1 : blan ((Utf8.decode s pos).1 : Int) = false := by simp [blan]; omega
    have e2 : blan ((s[pos]).toNat : Int) = false := by simp [blan]; omega
    rw [e1, e2]
  · rw [decode_ascii s pos h (by omega)]
theorem rune_hash (s : ByteArray) (pos : Nat) (h : pos < s.size) : (((Utf8.decode s pos).1 : Int) == 35) = decide (byteAt s pos = 35) := by
  rw [byteAt_eq s pos h]
  by_cases hb : 128 ≤ (s[pos]).toNat
  · have := (decode_high s pos h hb).1
    rw [Bool.eq_iff_iff]; simp; omega
  · rw [decode_ascii s pos h (by omega)]
    rw [Bool.eq_iff_iff]; simp
theorem width_one (s : ByteArray) (pos : Nat) (h : pos < s.size) (hb : byteAt s pos < 128) : (Utf8.decode s pos).2 = 1 := by
  rw [byteAt_eq s pos h] at hb
  rw [decode_ascii s pos h (by omega)]
end Sc
end Go.Proofs.YtocehfklacjgbaaGreatDoor
namespace Go.Proofs.YtocehfklacjgbaaGreatDoor
open Go.RowKit

end Go.Proofs.YtocehfklacjgbaaGreatDoor
namespace Go.Proofs.YtocehfklacjgbaaGreatDoor
namespace Sc
theorem spanN_app (q : Int → Bool) (hq : q 32 = false) (D B : List UInt8) : spanN q (D ++ 32 :: B) = spanN q D := by
  induction D with
  | nil => rw [List.nil_append, spanN_cons, show ((32 : UInt8).toNat : Int) = 32 from rfl, hq]; rfl
  | cons a D ih => rw [List.cons_append, spanN_cons, spanN_cons, ih]

theorem spanN_take (q : Int → Bool) (l : List UInt8) : spanN q (l.take (spanN q l)) = spanN q l := by
  induction l with
  | nil => rfl
  | cons a l ih =>
    rw [spanN_cons]
    by_cases h : q (a.toNat : Int) = true
    · rw [if_pos h, List.take_succ_cons, spanN_cons, if_pos h, ih]
    · rw [if_neg h, List.take_zero]; rfl

theorem hasPrefix_app (D B : List UInt8) (h : D ≠ []) : Lib.hasPrefix (D ++ 32 :: B) [45, 62] = Lib.hasPrefix D [45, 62] := by
  cases D with
  | nil => exact absurd rfl h
  | cons a D =>
    cases D with
    | nil => simp [Lib.hasPrefix, List.isPrefixOf]
    | cons b D => simp [Lib.hasPrefix, List.isPrefixOf]

def ofL (D : List UInt8) : ByteArray := ⟨D.toArray⟩
theorem ofL_data (D : List UInt8) : (ofL D).data.toList = D := rfl
theorem ofL_size (D : List UInt8) : (ofL D).size = D.length := by rw [← data_len, ofL_data]
theorem hd_app (s : ByteArray) (D B : List UInt8) (hD : D ≠ []) (h : s.data.toList = D ++ B) : hd s = hd (ofL D) := by
  unfold hd
  rw [h, ofL_data]
  cases D with
  | nil => exact absurd rfl hD
  | cons a D => rfl

theorem extract_app (s : ByteArray) (D B : List UInt8) (n : Nat) (hn : n ≤ D.length) (h : s.data.toList = D ++ B) : s.extract 0 n = (ofL D).extract 0 n := by
  rw [Lib.extract_eq, Lib.extract_eq, h, ofL_data]
  simp only [List.drop_zero, Nat.sub_zero]
  rw [List.take_append_of_le_length hn]

/-- a blank behind D: the first word is D's own -/
theorem local_fN (s : ByteArray) (D B : List UInt8) (hD : D ≠ []) (h : s.data.toList = D ++ 32 :: B) : fN s = fN (ofL D) := by
  unfold fN
  rw [hd_app s D _ hD h, h, ofL_data, spanN_app lord (by decide), spanN_app digi (by decide), hasPrefix_app D B hD]

theorem local_le (D : List UInt8) (hD : D ≠ []) : fN (ofL D) ≤ D.length := by
  have := fN_le (ofL D) (by rw [ofL_size]; exact List.length_pos_iff.2 hD)
  rw [ofL_size] at this
  exact this

theorem local_ext (s : ByteArray) (D B : List UInt8) (hD : D ≠ []) (h : s.data.toList = D ++ 32 :: B) : s.extract 0 (fN s) = (ofL D).extract 0 (fN (ofL D)) := by
  rw [local_fN s D B hD h]
  exact extract_app s D _ _ (local_le D hD) h

theorem local_num (s : ByteArray) (D B : List UInt8) (hD : D ≠ []) (h : s.data.toList = D ++ 32 :: B) (n : Nat) (hn : n ≤ D.length) : numErr s n = numErr (ofL D) n ∧ numNum s n = numNum (ofL D) n := by
  have e1 : numVal s n = numVal (ofL D) n := by
    unfold numVal
    rw [h, ofL_data, List.take_append_of_le_length hn]
  have e2 : numBad s n = numBad (ofL D) n := by
    unfold numBad
    rw [h, ofL_data, List.drop_append_of_le_length hn, spanN_app lett (by decide)]
    cases D with
    | nil => exact absurd rfl hD
    | cons a D => rfl
  have e3 : numErr s n = numErr (ofL D) n := by unfold numErr; rw [e1, e2]
  exact ⟨e3, by unfold numNum; rw [e3, e1]⟩

theorem local_all (s : ByteArray) (D B : List UInt8) (hD : D ≠ []) (h : s.data.toList = D ++ 32 :: B) : fK s = fK (ofL D) ∧ fE s = fE (ofL D) ∧ fV s = fV (ofL D) := by
  have hn := local_fN s D B hD h
  have hx := local_ext s D B hD h
  have hle := local_le D hD
  obtain ⟨n1, n2⟩ := local_num s D B hD h (fN (ofL D)) hle
  have hh := hd_app s D _ hD h
  refine ⟨?_, ?_, ?_⟩
  · unfold fK
    rw [hx, hn, hh, h, ofL_data, hasPrefix_app D B hD]
  · unfold fE
    rw [hn, hh, n1, h, ofL_data, hasPrefix_app D B hD]
  · unfold fV
    rw [hn, hh, n2]

theorem take_data (s : ByteArray) (n : Nat) : (s.extract 0 n).data.toList = s.data.toList.take n := by rw [Lib.extract_data]; simp

/-- a word taken alone is the same word -/
theorem alone (r : ByteArray) (h0 : 0 < r.size) (he : fE r = 0) (t : ByteArray) (ht : t = r.extract 0 (fN r)) :
    fN t = fN r ∧ fK t = fK r ∧ fE t = 0 ∧ fV t = fV r ∧ t.size = fN r ∧ hd t = hd r := by
  have hn1 := fN_pos r h0
  have hn2 := fN_le r h0
  have hd1 : t.data.toList = r.data.toList.take (fN r) := by rw [ht, take_data]
  have hsz : t.size = fN r := by rw [← data_len, hd1, List.length_take, data_len]; omega
  have hhd : hd t = hd r := by
    unfold hd
    rw [hd1]
    have : 0 < r.data.toList.length := by rw [data_len]; exact h0
    cases hl : r.data.toList with
    | nil => rw [hl] at this; simp at this
    | cons a l => rw [show fN r = (fN r - 1) + 1 by omega, List.take_succ_cons]; rfl
  have hfull : t.extract 0 (fN r) = t := by rw [← hsz]; simp
  by_cases c1 : lett (hd r) = true
  · have e1 : fN r = spanN lord r.data.toList := by unfold fN; rw [if_pos c1]
    have eN : fN t = fN r := by
      conv => lhs; unfold fN
      rw [hhd, if_pos c1, hd1, e1, spanN_take]
    have eK : fK t = fK r := by
      unfold fK
      rw [hhd, if_pos c1, if_pos c1, eN, hfull, ← ht]
    have eE : fE t = 0 := by
      rw [← he]; unfold fE; rw [hhd, if_pos c1, if_pos c1, eN]
    have eV : fV t = fV r := by unfold fV; rw [hhd, if_pos c1, if_pos c1]
    exact ⟨eN, eK, eE, eV, hsz, hhd⟩
  · by_cases c2 : digi (hd r) = true
    · have e1 : fN r = spanN digi r.data.toList := by unfold fN; rw [if_neg c1, if_pos c2]
      have eN : fN t = fN r := by
        conv => lhs; unfold fN
        rw [hhd, if_neg c1, if_pos c2, hd1, e1, spanN_take]
      have eK : fK t = fK r := by unfold fK; rw [hhd, if_neg c1, if_pos c2, if_neg c1, if_pos c2]
      have eval : numVal t (fN r) = numVal r (fN r) := by unfold numVal; rw [hd1, List.take_take, Nat.min_self]
      have her : numErr r (fN r) = 0 := by have := he; unfold fE at this; rw [if_neg c1, if_pos c2] at this; exact this
      have hbad : numBad t (fN r) = false := by
        unfold numErr at her
        split at her
        · cases her
        · split at her
          · cases her
          · rename_i hb
            rw [Bool.not_eq_true] at hb
            unfold numBad at hb ⊢
            rw [Bool.or_eq_false_iff] at hb ⊢
            refine ⟨?_, ?_⟩
            · rw [← hb.1, hd1]
              have : 0 < r.data.toList.length := by rw [data_len]; exact h0
              cases hl : r.data.toList with
              | nil => rw [hl] at this; simp at this
              | cons a l => rw [show fN r = (fN r - 1) + 1 by omega, List.take_succ_cons]; rfl
            · rw [hd1, List.drop_eq_nil_of_le (by rw [List.length_take]; omega)]; rfl
      have eE : fE t = 0 := by
        unfold fE
        rw [hhd, if_neg c1, if_pos c2, eN]
        unfold numErr at her ⊢
        rw [eval, hbad]
        split at her
        · cases her
        · rename_i h9; rw [if_neg h9]; rfl
      have eV : fV t = fV r := by
        have h1 : numErr t (fN r) = 0 := by have := eE; unfold fE at this; rw [hhd, if_neg c1, if_pos c2, eN] at this; exact this
        unfold fV
        rw [hhd, if_neg c1, if_pos c2, if_neg c1, if_pos c2, eN]
        unfold numNum
        rw [h1, her, eval]
      exact ⟨eN, eK, eE, eV, hsz, hhd⟩
    · have hpre : Lib.hasPrefix t.data.toList [45, 62] = Lib.hasPrefix r.data.toList [45, 62] := by
        have e1 : fN r = if Lib.hasPrefix r.data.toList [45, 62] then 2 else 1 := by unfold fN; rw [if_neg c1, if_neg c2]
        rw [hd1]
        cases hp : Lib.hasPrefix r.data.toList [45, 62]
        · rw [hp] at e1
          rw [e1]
          cases r.data.toList with
          | nil => rfl
          | cons a l => simp [Lib.hasPrefix, List.isPrefixOf]
        · rw [hp] at e1
          rw [e1]
          match hl : r.data.toList, hp with
          | a :: b :: l, hp => simpa [Lib.hasPrefix, List.isPrefixOf] using hp
          | [a], hp => simp [Lib.hasPrefix] at hp
          | [], hp => simp [Lib.hasPrefix] at hp
      have eN : fN t = fN r := by unfold fN; rw [hhd, hpre]; simp only [c1, c2, if_false, Bool.false_eq_true]
      have eK : fK t = fK r := by unfold fK; rw [hhd, hpre]; simp only [c1, c2, if_false, Bool.false_eq_true]
      have eE : fE t = 0 := by rw [← he]; unfold fE; rw [hhd, hpre]; simp only [c1, c2, if_false, Bool.false_eq_true]
      have eV : fV t = fV r := by unfold fV; rw [hhd, if_neg c1, if_neg c2, if_neg c1, if_neg c2]
      exact ⟨eN, eK, eE, eV, hsz, hhd⟩
end Sc
end Go.Proofs.YtocehfklacjgbaaGreatDoor
namespace Go.Proofs.YtocehfklacjgbaaGreatDoor
namespace Sc
/-- the word's text taken alone is that word -/
structure OkW (x : Wd) : Prop where
  n : fN x.2.1 = x.2.1.size
  k : fK x.2.1 = x.1
  e : fE x.2.1 = 0
  v : fV x.2.1 = x.2.2.1
  pos : 0 < x.2.1.size
  blank : blan (hd x.2.1) = false
  hash : hd x.2.1 ≠ 35

def Chain (s : ByteArray) : Nat → List Wd → Prop
  | _, [] => True
  | lo, x :: l => lo ≤ x.2.2.2 ∧ x.2.2.2 + x.2.1.size ≤ s.size ∧ s.extract x.2.2.2 (x.2.2.2 + x.2.1.size) = x.2.1 ∧ OkW x ∧ Chain s (x.2.2.2 + x.2.1.size) l

theorem Chain.weaken {s : ByteArray} {lo lo' : Nat} {l : List Wd} (h : Chain s lo l) (hl : lo' ≤ lo) : Chain s lo' l := by
  cases l with
  | nil => trivial
  | cons x l => exact ⟨by have := h.1; omega, h.2⟩

theorem chain_of (s : ByteArray) : ∀ (d k : Nat), d + k = s.size + 1 → (tk s k).2 = none → Chain s k (tk s k).1 := by
  intro d
  induction d using Nat.strongRecOn with
  | _ d ih =>
    intro k hk hn
    by_cases hz : s.size ≤ k
    · rw [tk_end s k hz]; trivial
    · have hks : k < s.size := by omega
      cases c1 : blan (byteAt s k)
      · by_cases c2 : byteAt s k = 35
        · have hp := skipN_pos s k hks c2
          rw [tk_remark s k hks c2] at hn ⊢
          by_cases hd0 : k + skipN s k ≤ s.size
          · exact (ih (d - skipN s k) (by omega) _ (by omega) hn).weaken (by omega)
          · rw [tk_end s _ (by omega)]; trivial
        · have hE : fE (rest s k) = 0 := by
            by_cases hq : fE (rest s k) = 0
            · exact hq
            · rw [tk_fault s k hks c1 c2 hq] at hn; cases hn
          have hr : 0 < (rest s k).size := by rw [rest_size]; omega
          have hp := fN_pos (rest s k) hr
          have hle := fN_le (rest s k) hr
          rw [rest_size] at hle
          rw [tk_word s k hks c1 c2 hE] at hn ⊢
          obtain ⟨a1, a2, a3, a4, a5, a6⟩ := alone (rest s k) hr hE _ rfl
          have hc := ih (d - fN (rest s k)) (by omega) (k + fN (rest s k)) (by omega) hn
          refine ⟨Nat.le_refl _, ?_, ?_, ⟨?_, a2, a3, a4, ?_, ?_, ?_⟩, ?_⟩
          · show k + ((rest s k).extract 0 (fN (rest s k))).size ≤ s.size
            rw [a5]; omega
          · show s.extract k (k + ((rest s k).extract 0 (fN (rest s k))).size) = (rest s k).extract 0 (fN (rest s k))
            rw [a5, Lib.extract_eq, Lib.extract_eq, rest_data]
            simp
          · show fN ((rest s k).extract 0 (fN (rest s k))) = ((rest s k).extract 0 (fN (rest s k))).size
            rw [a1, a5]
          · show 0 < ((rest s k).extract 0 (fN (rest s k))).size
            rw [a5]; omega
          · show blan (hd ((rest s k).extract 0 (fN (rest s k)))) = false
            rw [a6, hd_rest, c1]
          · show hd ((rest s k).extract 0 (fN (rest s k))) ≠ 35
            rw [a6, hd_rest]; exact c2
          · show Chain s (k + ((rest s k).extract 0 (fN (rest s k))).size) _
            rw [a5]; exact hc
      · rw [tk_blank s k hks c1] at hn ⊢
        exact (ih (d - 1) (by omega) (k + 1) (by omega) hn).weaken (by omega)

theorem data_ne (t : ByteArray) (h : 0 < t.size) : t.data.toList ≠ [] := by
  intro h0
  have := data_len t
  rw [h0] at this
  simp at this; omega

theorem chain_ok {s : ByteArray} : ∀ {l : List Wd} {lo : Nat}, Chain s lo l → ∀ x ∈ l, OkW x := by
  intro l
  induction l with
  | nil => intro lo _ x hx; simp at hx
  | cons a l ih =>
    intro lo h x hx
    rcases List.mem_cons.1 hx with rfl | hx
    · exact h.2.2.2.1
    · exact ih h.2.2.2.2 x hx
end Sc
end Go.Proofs.YtocehfklacjgbaaGreatDoor
namespace Go.Proofs.YtocehfklacjgbaaGreatDoor
namespace Sc

theorem byteAt_app (s : ByteArray) (D X : List UInt8) (h : s.data.toList = D ++ X) (k : Nat) (hk : k < D.length) : byteAt s k = ((D.drop k).headD 0).toNat := by
  unfold byteAt
  rw [h, List.drop_append_of_le_length (by omega)]
  cases hd : D.drop k with
  | nil => have := congrArg List.length hd; simp at this; omega
  | cons a l => rfl

theorem rest_app (s : ByteArray) (D X : List UInt8) (h : s.data.toList = D ++ X) (k : Nat) (hk : k ≤ D.length) : (rest s k).data.toList = D.drop k ++ X := by
  rw [rest_data, h, List.drop_append_of_le_length hk]

theorem drop_ne (D : List UInt8) (k : Nat) (hk : k < D.length) : D.drop k ≠ [] := by
  intro h
  have := congrArg List.length h
  simp at this; omega

/-- the first newline is in D, or there is none in D -/
theorem spanN_or (q : Int → Bool) (D X : List UInt8) : (spanN q (D ++ X) = spanN q D ∧ spanN q D < D.length) ∨ (spanN q D = D.length ∧ D.length ≤ spanN q (D ++ X)) := by
  induction D with
  | nil => right; exact ⟨rfl, Nat.zero_le _⟩
  | cons a D ih =>
    rw [List.cons_append, spanN_cons, spanN_cons]
    by_cases h : q (a.toNat : Int) = true
    · rw [if_pos h, if_pos h]
      rcases ih with ⟨h1, h2⟩ | ⟨h1, h2⟩
      · left; exact ⟨by omega, by simp; omega⟩
      · right; exact ⟨by simp; omega, by simp; omega⟩
    · rw [if_neg h, if_neg h]
      left; exact ⟨rfl, by simp⟩

theorem ahead (s1 s2 : ByteArray) (A B : List UInt8) (h1 : s1.data.toList = A ++ [32]) (h2 : s2.data.toList = A ++ 32 :: B) :
    ∀ (d k : Nat), d + k = A.length + 1 → (tk s2 k).2 = none → (tk s1 k).2 = none ∧ ∃ r, (tk s2 k).1 = (tk s1 k).1 ++ r := by
  have z1 : s1.size = A.length + 1 := by rw [← data_len, h1]; simp
  have z2 : s2.size = A.length + 1 + B.length := by rw [← data_len, h2]; simp; omega
  intro d
  induction d using Nat.strongRecOn with
  | _ d ih =>
    intro k hk hn
    by_cases hd0 : d = 0
    · rw [tk_end s1 k (by omega)]
      exact ⟨rfl, _, rfl⟩
    · have hks1 : k < s1.size := by omega
      have hks2 : k < s2.size := by omega
      by_cases hkA : k = A.length
      · have b1 : blan (byteAt s1 k) = true := by
          unfold byteAt; rw [h1, hkA, List.drop_left]; decide
        rw [tk_blank s1 k hks1 b1]
        rw [tk_end s1 (k + 1) (by omega)]
        exact ⟨rfl, _, rfl⟩
      · have hkl : k < A.length := by omega
        have hb : byteAt s1 k = byteAt s2 k := by rw [byteAt_app s1 A _ h1 k hkl, byteAt_app s2 A _ h2 k hkl]
        have r1 := rest_app s1 A _ h1 k (by omega)
        have r2 := rest_app s2 A _ h2 k (by omega)
        have hne := drop_ne A k hkl
        by_cases c1 : blan (byteAt s1 k) = true
        · rw [tk_blank s1 k hks1 c1]
          rw [tk_blank s2 k hks2 (by rw [← hb]; exact c1)] at hn ⊢
          exact ih (d - 1) (by omega) (k + 1) (by omega) hn
        · rw [Bool.not_eq_true] at c1
          have c1' : blan (byteAt s2 k) = false := by rw [← hb]; exact c1
          by_cases c2 : byteAt s1 k = 35
          · have c2' : byteAt s2 k = 35 := by rw [← hb]; exact c2
            rw [tk_remark s1 k hks1 c2]
            rw [tk_remark s2 k hks2 c2'] at hn ⊢
            have p2 := skipN_pos s2 k hks2 c2'
            have hs1 : skipN s1 k = spanN notNl (A.drop k ++ [32]) := by unfold skipN; rw [← rest_data, r1]
            have hs2 : skipN s2 k = spanN notNl (A.drop k ++ 32 :: B) := by unfold skipN; rw [← rest_data, r2]
            have hl : (A.drop k).length = A.length - k := by simp
            rcases spanN_or notNl (A.drop k) [32] with ⟨e1, e2⟩ | ⟨e1, e2⟩
            · rcases spanN_or notNl (A.drop k) (32 :: B) with ⟨f1, f2⟩ | ⟨f1, f2⟩
              · have e : skipN s1 k = skipN s2 k := by omega
                rw [e]
                exact ih (d - skipN s2 k) (by omega) _ (by omega) hn
              · omega
            · have : spanN notNl (A.drop k ++ [32]) = (A.drop k).length + 1 := by
                have h3 := spanN_jump notNl (A.drop k ++ [32]) (A.drop k).length e2 1 (by simp) (fun j hj a b => by
                  have : j = (A.drop k).length := by omega
                  subst this
                  rw [List.getElem_append_right (Nat.le_refl _)]
                  simp; decide)
                have h4 := spanN_le notNl (A.drop k ++ [32])
                rw [List.length_append] at h4
                simp at h4
                simp at h3 ⊢
                omega
              rw [tk_end s1 _ (by omega)]
              exact ⟨rfl, _, rfl⟩
          · have c2' : byteAt s2 k ≠ 35 := by rw [← hb]; exact c2
            have n1 := local_fN (rest s1 k) (A.drop k) [] hne r1
            have n2 := local_fN (rest s2 k) (A.drop k) B hne r2
            obtain ⟨k1, e1, v1⟩ := local_all (rest s1 k) (A.drop k) [] hne r1
            obtain ⟨k2, e2, v2⟩ := local_all (rest s2 k) (A.drop k) B hne r2
            have x1 := local_ext (rest s1 k) (A.drop k) [] hne r1
            have x2 := local_ext (rest s2 k) (A.drop k) B hne r2
            have hle := local_le (A.drop k) hne
            have hl : (A.drop k).length = A.length - k := by simp
            have hE2 : fE (rest s2 k) = 0 := by
              by_cases hq : fE (rest s2 k) = 0
              · exact hq
              · rw [tk_fault s2 k hks2 c1' c2' hq] at hn; cases hn
            have hE1 : fE (rest s1 k) = 0 := by rw [e1, ← e2]; exact hE2
            have hp := fN_pos (rest s1 k) (by rw [rest_size]; omega)
            rw [tk_word s1 k hks1 c1 c2 hE1]
            rw [tk_word s2 k hks2 c1' c2' hE2] at hn ⊢
            have hw : wordAt s1 k = wordAt s2 k := by unfold wordAt; rw [x1, x2, k1, k2, v1, v2]
            have hN : fN (rest s2 k) = fN (rest s1 k) := by rw [n1, n2]
            rw [hN] at hn ⊢
            obtain ⟨i1, r, i2⟩ := ih (d - fN (rest s1 k)) (by omega) _ (by omega) hn
            exact ⟨i1, r, by rw [hw]; show _ :: _ = _ :: _; rw [i2]; rfl⟩
end Sc
end Go.Proofs.YtocehfklacjgbaaGreatDoor
namespace Go.Proofs.YtocehfklacjgbaaGreatDoor
open Go.RowKit

/-- words as cells -/
def Sc.flat (l : List Sc.Wd) : List Value := l.flatMap fun x => [.int .i8 x.1, .string x.2.1, .int .i64 x.2.2.1, .int .i64 x.2.2.2]
theorem Sc.flat_snoc (l : List Sc.Wd) (x : Sc.Wd) : Sc.flat (l ++ [x]) = Sc.flat l ++ [.int .i8 x.1, .string x.2.1, .int .i64 x.2.2.1, .int .i64 x.2.2.2] := by
  unfold Sc.flat; rw [List.flatMap_append]; simp


theorem remark_any (s : ByteArray) (w : World) :
    Calls Tryz.prog 35 #[.string s] w fun e w' => e = .returned (.int .i64 (Sc.spanN Sc.notNl s.data.toList)) ∧ Below w.heap.size w w' := by
  have hsp := span_notNl s
  generalize Sc.spanN Sc.notNl s.data.toList = n at *
  go_enter Tryz.func35, Tryz.ntmps35
  go_wp2_with (go_at_call 62; refine (hsp _).mono ?_; rintro e w' ⟨rfl, pos, rfl⟩)
  go_ret
  exact ⟨rfl, (Below.refl _ _).alloc (Nat.le_refl _) _⟩

theorem info_Word : (Tryz.prog.info? 50).map (fun i => (i.zero, i.size, i.bytes)) = some (some (.agg #[.int .i8 0, .string ⟨#[]⟩, .int .i64 0, .int .i64 0]), 4, 40) := by kernel_rfl

/-- a round's state: the iterator, the words so far, what the rest gives -/
structure Sc.St (s : ByteArray) (w wr : World) (v4 v5 : Value) (pos past : Nat) (done : List Sc.Wd) : Prop where
  iter : wr.heap[w.heap.size]? = some (.stringIter s pos)
  own : wr.ownsRow (w.heap.size + 1) 50 4 v4 done.length (Sc.flat done)
  below : Below w.heap.size w wr
  past5 : v5 = .int .i64 past
  pos_le : pos ≤ s.size
  past_le : past ≤ s.size
  land : Sc.lands s pos past ∨ past ≤ pos
  tok : Sc.tk s 0 = (done ++ (Sc.tk s (max pos past)).1, (Sc.tk s (max pos past)).2)
  len : done.length ≤ max pos past

/-- what scan.All leaves of a text that has no fault | of one that has -/
def Sc.AllPost (s : ByteArray) (w : World) (e : Ending) (w' : World) : Prop :=
  (∃ v, (Sc.tk s 0).2 = none ∧ e = .returned (.tuple #[v, .nilIface]) ∧ w'.ownsRow (w.heap.size + 1) 50 4 v ((Sc.tk s 0).1.length + 1) (Sc.flat ((Sc.tk s 0).1 ++ [(0, ⟨#[]⟩, 0, s.size)])) ∧ Below w.heap.size w w') ∨
  (∃ f N, (Sc.tk s 0).2 = some f ∧ e = .returned (.tuple #[.slice none 0 0, .iface 65 (.pointer (some ⟨N, 0, none⟩))]) ∧ w.heap.size ≤ N ∧ w'.heap[N]? = some (.cells #[.int .i64 f.1, .int .i64 f.2.1, .string f.2.2] 84) ∧ Below w.heap.size w w')

set_option maxHeartbeats 1000000 in
set_option maxRecDepth 100000 in
theorem all_loop (s : ByteArray) (hs : s.size ≤ 65536) (w : World) (tp : TypeId) (p : Value) (hvar : w.var? Tryz.prog "strconv.ErrRange" = some #[.iface tp p]) :
    Calls Tryz.prog 16 #[.string s] w (Sc.AllPost s w) := by
  have HV := Lib.hid hvar
  clear hvar
  have i1 : (s.size : Int) ≤ 65536 := by omega
  go_enter Tryz.func16, Tryz.ntmps16
  go_wp2_with fail
  go_loopw [4, 5] (fun v4 v5 wr => ∃ (pos past : Nat) (done : List Sc.Wd), Sc.St s w wr v4 v5 pos past done) (fun _ _ wr => s.size - wr.iterPos w.heap.size)
  case atStart =>
    refine ⟨0, 0, [], ⟨World.iter_heap _ _ _, World.ownsRow_nil _ _ _ _, (Below.refl _ _).alloc (Nat.le_refl _) _, rfl, Nat.zero_le _, Nat.zero_le _, .inr (Nat.le_refl _), rfl, Nat.zero_le _⟩⟩
  case round =>
    obtain ⟨pos, past, done, hst⟩ := hrel
    obtain ⟨hI, hO, hB, rfl, hps, hpl, hland, htok, hlen⟩ := hst
    have HT := Lib.hid htok
    clear htok
    have hmu : wr.iterPos w.heap.size = pos := by simp [World.iterPos, hI]
    have HM := Lib.hid hmu
    clear hmu
    have hib : w.heap.size < wr.heap.size := heap_lt hI
    by_cases hp : pos < s.size
    · have hnext : ∀ ty, (Instr.next (.pointer (some ⟨w.heap.size, 0, none⟩)) true ty).run Tryz.prog wr = _ := fun ty => Lib.run_next_any_at wr w.heap.size s pos ty hI hp
      have hI1 := Lib.iterAt_heap wr w.heap.size s pos (pos + (Utf8.decode s pos).2) hI
      have hO1 := ownsRow_iterAt hO (Nat.lt_succ_self _) s (pos + (Utf8.decode s pos).2)
      have hB1 := Lib.below_iterAt hB (Nat.le_refl _) s (pos + (Utf8.decode s pos).2)
      have hwl := decode_le s pos
      generalize wr.iterAt w.heap.size s (pos + (Utf8.decode s pos).2) = W1 at hnext hI1 hO1 hB1
      have hm1 : W1.iterPos w.heap.size = pos + (Utf8.decode s pos).2 := by simp [World.iterPos, hI1]
      have HM1 := Lib.hid hm1
      clear hm1
      have H1 := Lib.hid hI1
      clear hI1 hI
      by_cases hlt : pos < past
      · -- behind the last word's end: nothing
        have hl : Sc.lands s pos past := by rcases hland with h | h; exact h; omega
        have hl2 := Sc.lands_step s pos past hl hlt
        have hwd := Sc.width_pos s pos hp
        go_wp2_with fail
        go_roundw
        case rel =>
          refine ⟨_, past, done, ⟨H1.out, hO1, hB1, rfl, by have := hl2.1; omega, hpl, .inl hl2, ?_, ?_⟩⟩
          · rw [show max (pos + (Utf8.decode s pos).2) past = max pos past by have := hl2.1; omega]; exact HT.out
          · have := hl2.1; omega
        case measure =>
          rw [HM.out, HM1.out]; omega
      · have hge : past ≤ pos := by omega
        have hmax : max pos past = pos := by omega
        rw [hmax] at hlen
        have HMX := Lib.hid hmax
        clear hmax hland
        have hbk := scan_blank_any ((Utf8.decode s pos).1 : Int)
        rw [Sc.rune_blank s pos hp] at hbk
        have hh := Sc.rune_hash s pos hp
        cases hbl : Sc.blan (Sc.byteAt s pos)
        · rw [hbl] at hbk
          by_cases h35 : Sc.byteAt s pos = 35
          · -- a remark
            have hw1 := Sc.width_one s pos hp (by omega)
            have htk := Sc.tk_remark s pos hp h35
            have hln := Sc.lands_remark s pos hp h35
            have hk1 := Sc.skipN_pos s pos hp h35
            have hrm : ∀ w : World, Calls Tryz.prog 35 #[.string (s.extract pos s.size)] w fun e w' => e = .returned (.int .i64 (Sc.skipN s pos)) ∧ Below w.heap.size w w' := by
              intro w
              have := remark_any (Sc.rest s pos) w
              rw [Sc.rest_data] at this
              exact this
            rw [hw1] at HM1 H1
            have hh' : (((Utf8.decode s pos).1 : Int) == 35) = true := by rw [hh, h35]; rfl
            clear hh hw1 h35 hbl
            generalize Sc.skipN s pos = k at *
            have hkl : pos + k ≤ s.size := hln.2.1
            have HTK := Lib.hid htk
            clear htk
            go_wp2_with (first | (go_at_call 34; refine (hbk _).mono ?_; rintro e w' ⟨rfl, rfl⟩) | (go_at_call 35; refine (hrm _).mono ?_; rintro e w2 ⟨rfl, hb2⟩; have hI2 := Lib.hid (heap_below hb2 (heap_lt H1.out) H1.out); have hO2 := ownsRow_below hO1 hb2; have hB2 := hB1.trans (hb2.mono hB1.size)))
            go_roundw
            case rel =>
              refine ⟨pos + 1, pos + k, done, ⟨hI2.out, hO2, hB2, by go_num, by omega, hkl, .inl hln, ?_, by omega⟩⟩
              have := HT.out
              rw [HMX.out, HTK.out] at this
              rw [show max (pos + 1) (pos + k) = pos + k by omega]; exact this
            case measure =>
              have hm2 : w2.iterPos w.heap.size = pos + 1 := by simp [World.iterPos, hI2.out]
              rw [HM.out, hm2]; omega
          · -- a word, or its fault
            have hh' : (((Utf8.decode s pos).1 : Int) == 35) = false := by rw [hh]; simp [h35]
            have hrs : (Sc.rest s pos).size ≤ 281474976710656 := by rw [Sc.rest_size]; omega
            have hr0 : 0 < (Sc.rest s pos).size := by rw [Sc.rest_size]; omega
            have hfst : ∀ w1 : World, Below w.heap.size w w1 → Calls Tryz.prog 36 #[.string (s.extract pos s.size)] w1 fun e w' => e = .returned (.tuple #[.agg #[.int .i8 (Sc.fK (Sc.rest s pos)), .string ((Sc.rest s pos).extract 0 (Sc.fN (Sc.rest s pos))), .int .i64 (Sc.fV (Sc.rest s pos)), .int .i64 0], .int .i64 (Sc.fE (Sc.rest s pos))]) ∧ Below w1.heap.size w1 w' :=
              fun w1 hb => first_any (Sc.rest s pos) hrs hr0 w1 tp p (var_at hb HV.out)
            have hn1 := Sc.fN_pos _ hr0
            have hn2 := Sc.fN_le _ hr0
            rw [Sc.rest_size] at hn2
            have hts : ((Sc.rest s pos).extract 0 (Sc.fN (Sc.rest s pos))).size = Sc.fN (Sc.rest s pos) := by
              have := Sc.fN_le _ hr0
              simp; omega
            by_cases hE : Sc.fE (Sc.rest s pos) = 0
            · have hlw := Sc.lands_word s pos hp hE
              have hw1 := Sc.width_one s pos hp (by rw [Sc.byteAt_eq s pos hp]; have := hlw.2; omega)
              have htk := Sc.tk_word s pos hp hbl h35 hE
              rw [hE] at hfst
              rw [hw1] at HM1 H1
              unfold Sc.wordAt at htk
              generalize hkk : Sc.fK (Sc.rest s pos) = kk at *
              generalize (Sc.rest s pos).extract 0 (Sc.fN (Sc.rest s pos)) = tt at *
              generalize Sc.fV (Sc.rest s pos) = vv at *
              generalize Sc.fN (Sc.rest s pos) = nn at *
              have hln := hlw.1
              have hkl : pos + nn ≤ s.size := hln.2.1
              have HTK := Lib.hid htk
              have hts2 : (tt.size : Int) ≤ 65536 := by omega
              have HTS := Lib.hid hts
              clear htk hts hkk hh hw1 hlw hE h35 hbl hrs hr0
              obtain ⟨i0, hi, hz0, hz1, hz2⟩ := info_parts info_Word
              have hol := hO1.lt
              go_wp2_with (first | (go_at_call 34; refine (hbk _).mono ?_; rintro e w' ⟨rfl, rfl⟩) | (go_at_call 36; refine (hfst _ hB1).mono ?_; rintro e w2 ⟨rfl, hb2⟩; have hI2 := Lib.hid (heap_below hb2 (heap_lt H1.out) H1.out); have hO2 := ownsRow_below hO1 hb2; have hB2 := hB1.trans (hb2.mono hB1.size)) | (at_builtin; refine wpList_append_own _ rfl _ _ 46 rfl (w.heap.size + 1) 50 i0 (.agg #[.int .i8 0, .string ⟨#[]⟩, .int .i64 0, .int .i64 0]) 4 40 Tryz.underlying46 hi hz0 hz1 hz2 rfl (by decide) _ _ _ rfl ((hO2.alloc _).alloc _) ⟨w2.heap.size + 1, 0, none⟩ 1 1 [.int .i8 kk, .string tt, .int .i64 vv, .int .i64 pos] rfl rfl ?d1 ?d2 ?d3 ?d4 ?d5 ?_))
              case d1 => exact cells_of_heap (heap_new2 w2 _ _)
              case d2 =>
                intro u hu
                simp at hu
                rcases hu with rfl | rfl | rfl | rfl <;> rfl
              case d3 => unfold maxLen; omega
              case d4 => omega
              case d5 => have := hB2.size; simp; omega
              intro v' w3 hown hgrow _
              have hBB : Below w.heap.size w ((w2.alloc (.cells #[.int .i8 kk, .string tt, .int .i64 vv, .int .i64 pos] 50)).alloc (.cells #[.int .i8 kk, .string tt, .int .i64 vv, .int .i64 pos] 50)) := (hB2.alloc hB2.size _).alloc (by have := hB2.size; simp; omega) _
              have hlto := hO2.lt
              have hB3 : Below w.heap.size w w3 := hBB.grown hgrow hBB.size fun k hk => by have := (hlto k hk).1; omega
              have hI3 : w3.heap[w.heap.size]? = some (.stringIter s (pos + 1)) := by
                rw [hgrow.block w.heap.size (heap_lt (heap_old (heap_old hI2.out _) _)) (fun hk => by have := (hlto _ hk.symm).1; omega)]
                exact heap_old (heap_old hI2.out _) _
              have HI3 := Lib.hid hI3
              clear hI3
              go_wp2_with fail
              go_roundw
              case rel =>
                refine ⟨pos + 1, pos + nn, done ++ [(kk, tt, vv, pos)], ⟨HI3.out, ?_, hB3, ?_, by omega, hkl, .inl hln, ?_, ?_⟩⟩
                · rw [Sc.flat_snoc, List.length_append]; exact hown
                · rw [← HTS.out]; go_num
                · have := HT.out
                  rw [HMX.out, HTK.out] at this
                  rw [show max (pos + 1) (pos + nn) = pos + nn by omega, this]
                  simp
                · rw [List.length_append]; simp; omega
              case measure =>
                have hm3 : w3.iterPos w.heap.size = pos + 1 := by simp [World.iterPos, HI3.out]
                rw [HM.out, hm3]; omega
            · -- a fault
              have htk := Sc.tk_fault s pos hp hbl h35 hE
              unfold Sc.faultAt at htk
              have hE2 : (Sc.fE (Sc.rest s pos) != 0) = true := by rw [bne_iff_ne]; exact hE
              generalize hkk : Sc.fK (Sc.rest s pos) = kk at *
              generalize (Sc.rest s pos).extract 0 (Sc.fN (Sc.rest s pos)) = tt at *
              generalize Sc.fV (Sc.rest s pos) = vv at *
              generalize Sc.fN (Sc.rest s pos) = nn at *
              generalize Sc.fE (Sc.rest s pos) = ee at *
              have hres : (Sc.tk s 0).2 = some (ee, pos, tt) := by
                have := HT.out
                rw [HMX.out, htk] at this
                rw [this]
              have HR := Lib.hid hres
              clear htk hts hkk hh hE h35 hbl hrs hr0 hres hn1 hn2
              go_wp2_with (first | (go_at_call 34; refine (hbk _).mono ?_; rintro e w' ⟨rfl, rfl⟩) | (go_at_call 36; refine (hfst _ hB1).mono ?_; rintro e w2 ⟨rfl, hb2⟩; have hB2 := hB1.trans (hb2.mono hB1.size)))
              go_region
              go_wp2_with fail
              go_ret2
              refine .inr ⟨(ee, pos, tt), w2.heap.size + 1, HR.out, rfl, by have := hB2.size; omega, ?_, ?_⟩
              · exact heap_new2 w2 _ _
              · exact ((hB2.alloc hB2.size _).alloc (by have := hB2.size; simp; omega) _).drew
        · rw [hbl] at hbk
          have hw1 := Sc.width_one s pos hp (by have := hbl; simp [Sc.blan] at this; omega)
          have htk := Sc.tk_blank s pos hp hbl
          rw [hw1] at HM1 H1
          clear hh hw1
          have HTK := Lib.hid htk
          clear htk hbl
          go_wp2_with (go_at_call 34; refine (hbk _).mono ?_; rintro e w' ⟨rfl, rfl⟩)
          go_roundw
          case rel =>
            refine ⟨pos + 1, past, done, ⟨H1.out, hO1, hB1, rfl, by omega, hpl, .inr (by omega), ?_, by omega⟩⟩
            have := HT.out
            rw [HMX.out, HTK.out] at this
            rw [show max (pos + 1) past = pos + 1 by omega]; exact this
          case measure =>
            rw [HM.out, HM1.out]; omega
    · -- the text's end
      have hnext : ∀ ty, (Instr.next (.pointer (some ⟨w.heap.size, 0, none⟩)) true ty).run Tryz.prog wr = _ := fun ty => Lib.run_next_end_at wr w.heap.size s pos ty hI hp
      have htk := Sc.tk_end s (max pos past) (by omega)
      have hdone := HT.out
      rw [htk, List.append_nil] at hdone
      have HD := Lib.hid hdone
      have hlen2 : done.length ≤ s.size := by omega
      clear htk hdone hlen hland
      obtain ⟨i0, hi, hz0, hz1, hz2⟩ := info_parts info_Word
      go_wp2_with (first | (at_builtin; refine wpList_append_own _ rfl _ _ 46 rfl (w.heap.size + 1) 50 i0 (.agg #[.int .i8 0, .string ⟨#[]⟩, .int .i64 0, .int .i64 0]) 4 40 Tryz.underlying46 hi hz0 hz1 hz2 rfl (by decide) _ _ _ rfl (hO.alloc _) ⟨wr.heap.size, 0, none⟩ 1 1 [.int .i8 0, .string ⟨#[]⟩, .int .i64 0, .int .i64 s.size] rfl rfl ?c1 ?c2 ?c3 ?c4 ?c5 ?_))
      case c2 => exact ⟨rfl, rfl, rfl, rfl⟩
      case c3 => unfold maxLen; omega
      case c4 => omega
      case c5 => exact Nat.le_of_lt hib
      intro v' w1 hown hgrow _
      have hb1 : Below w.heap.size w w1 := (hB.alloc hB.size _).grown hgrow (by simp; omega) fun k hk => by have := (hO.lt k hk).1; omega
      go_wp2_with fail
      go_ret2
      refine .inl ⟨v', by rw [HD.out], rfl, ?_, hb1⟩
      rw [HD.out, Sc.flat_snoc]
      exact hown

set_option maxHeartbeats 400000 in
set_option maxRecDepth 100000 in
theorem all_long (s : ByteArray) (hs : (65536 : Int) < s.size) (w : World) :
    Calls Tryz.prog 16 #[.string s] w fun e w' => ∃ N, e = .returned (.tuple #[.slice none 0 0, .iface 65 (.pointer (some ⟨N, 0, none⟩))]) ∧ w.heap.size ≤ N ∧ w'.heap[N]? = some (.cells #[.int .i64 3, .int .i64 0, .string ⟨#[]⟩] 84) ∧ Below w.heap.size w w' := by
  go_enter Tryz.func16, Tryz.ntmps16
  go_wp2_with fail
  go_ret2
  exact ⟨w.heap.size, rfl, Nat.le_refl _, heap_new w _, (Below.refl _ _).alloc (Nat.le_refl _) _⟩
end Go.Proofs.YtocehfklacjgbaaGreatDoor
namespace Go.Proofs.YtocehfklacjgbaaGreatDoor
open Go.RowKit

/-- the four cells of word k stand at block g from cell 4k on -/
def Sc.HasWords (w : World) (g : Nat) (l : List Sc.Wd) (n : Nat) : Prop :=
  ∀ k x, k < n → l[k]? = some x → w.cell? ⟨g, k * 4, none⟩ = some (.int .i8 x.1) ∧ w.cell? ⟨g, k * 4 + 1, none⟩ = some (.string x.2.1) ∧ w.cell? ⟨g, k * 4 + 2, none⟩ = some (.int .i64 x.2.2.1) ∧ w.cell? ⟨g, k * 4 + 3, none⟩ = some (.int .i64 x.2.2.2)

end Go.Proofs.YtocehfklacjgbaaGreatDoor
namespace Go.Proofs.YtocehfklacjgbaaGreatDoor
open Go.RowKit

theorem Sc.flat_get (l : List Sc.Wd) (X : List Value) : ∀ (k : Nat) (x : Sc.Wd), l[k]? = some x → (Sc.flat l ++ X)[k * 4]? = some (.int .i8 x.1) ∧ (Sc.flat l ++ X)[k * 4 + 1]? = some (.string x.2.1) ∧ (Sc.flat l ++ X)[k * 4 + 2]? = some (.int .i64 x.2.2.1) ∧ (Sc.flat l ++ X)[k * 4 + 3]? = some (.int .i64 x.2.2.2) := by
  induction l with
  | nil => intro k x h; simp at h
  | cons a l ih =>
    intro k x h
    have e : Sc.flat (a :: l) ++ X = [.int .i8 a.1, .string a.2.1, .int .i64 a.2.2.1, .int .i64 a.2.2.2] ++ (Sc.flat l ++ X) := by
      unfold Sc.flat; rw [List.flatMap_cons, List.append_assoc]
    rw [e]
    cases k with
    | zero => simp at h; subst h; simp
    | succ k =>
      have := ih k x (by simpa using h)
      rw [show (k + 1) * 4 = k * 4 + 4 by omega]
      simpa using this

theorem Sc.hasWords_of {w : World} {base : Nat} {e : TypeId} {g m cap : Nat} {l : List Sc.Wd} {X : List Value} (h : w.ownsRow base e 4 (.slice (some ⟨g, 0, none⟩) m cap) m (Sc.flat l ++ X)) (hm : l.length ≤ m) : Sc.HasWords w g l l.length := by
  intro k x hk hx
  obtain ⟨a0, a1, a2, a3⟩ := Sc.flat_get l X k x hx
  exact ⟨by rw [h.cellAt _ (by omega), a0], by rw [h.cellAt _ (by omega), a1], by rw [h.cellAt _ (by omega), a2], by rw [h.cellAt _ (by omega), a3]⟩

theorem row_slice {w : World} {base : Nat} {e : TypeId} {v : Value} {m : Nat} {xs : List Value} (h : w.ownsRow base e 4 v m xs) (hm : 0 < m) : ∃ g cap, v = .slice (some ⟨g, 0, none⟩) m cap ∧ m ≤ cap ∧ cap ≤ maxLen := by
  obtain ⟨_, h⟩ := h
  rcases h with ⟨_, h0⟩ | ⟨g, cap, cur, hv, _, _, h1, h2, _⟩
  · omega
  · exact ⟨g, cap, hv, h1, h2⟩

/-- .. of a text without a fault: its words -/
theorem all_words (s : ByteArray) (hs : s.size ≤ 65536) (h : (Sc.tk s 0).2 = none) (w : World) (tp : TypeId) (p : Value) (hvar : w.var? Tryz.prog "strconv.ErrRange" = some #[.iface tp p]) :
    Calls Tryz.prog 16 #[.string s] w fun e w' => ∃ g cap, e = .returned (.tuple #[.slice (some ⟨g, 0, none⟩) ((Sc.tk s 0).1.length + 1) cap, .nilIface]) ∧ w'.ownsRow (w.heap.size + 1) 50 4 (.slice (some ⟨g, 0, none⟩) ((Sc.tk s 0).1.length + 1) cap) ((Sc.tk s 0).1.length + 1) (Sc.flat ((Sc.tk s 0).1 ++ [(0, ⟨#[]⟩, 0, s.size)])) ∧ (Sc.tk s 0).1.length + 1 ≤ cap ∧ cap ≤ maxLen ∧ Below w.heap.size w w' := by
  refine (all_loop s hs w tp p hvar).mono fun e w' h1 => ?_
  rcases h1 with ⟨v, _, rfl, ho, hb⟩ | ⟨f, N, h2, _⟩
  · obtain ⟨g, cap, rfl, h3, h4⟩ := row_slice ho (by omega)
    exact ⟨g, cap, rfl, ho, h3, h4, hb⟩
  · rw [h] at h2; cases h2

end Go.Proofs.YtocehfklacjgbaaGreatDoor
namespace Go.Proofs.YtocehfklacjgbaaGreatDoor
open Go.RowKit

theorem Sc.HasWords.keep {w w1 : World} {g n : Nat} {l : List Sc.Wd} (h : Sc.HasWords w g l n) (hg : g < w.heap.size) (hb : Below w.heap.size w w1) : Sc.HasWords w1 g l n := by
  intro k x hk hx
  obtain ⟨a0, a1, a2, a3⟩ := h k x hk hx
  exact ⟨by rw [hb.cell (p := ⟨g, _, none⟩) hg, a0], by rw [hb.cell (p := ⟨g, _, none⟩) hg, a1], by rw [hb.cell (p := ⟨g, _, none⟩) hg, a2], by rw [hb.cell (p := ⟨g, _, none⟩) hg, a3]⟩

end Go.Proofs.YtocehfklacjgbaaGreatDoor
