/-
  scan.name: a letter, and letters and digits behind it. scan.number: digits; too great, with a 0 ahead or a letter behind: an error. scan.first: the word that a text begins with. scan.first at every text that is not empty, in one contract; scan.Name. scan.Name.
-/
import Derived.Test.YtknhoagicdfikaaGreatDoorWord
import Derived.Test.YtknhoagicdfikaaGreatDoorSpan
import Derived.Test.YtknhoagicdfikaaGreatDoorNum
import Derived.WalkSmall
import Derived.Test.YtknhoagicdfikaaGreatDoorRune
namespace Go.Proofs.YtknhoagicdfikaaGreatDoor
open Go.RowKit

/-- what scan.name answers of n letters and digits t: kind, error -/
def Sc.nameKind (t : ByteArray) (n : Nat) : Int := if 64 < n then 1 else if Sc.isKey t then 3 else 1
def Sc.nameErr (n : Nat) : Int := if 64 < n then 3 else 0

theorem below_iter {w w1 : World} {o : Obj} {s : ByteArray} {pos : Nat} (hb : Below ((w.alloc o).iter s pos).heap.size ((w.alloc o).iter s pos) w1) : Below w.heap.size w w1 :=
  (((Below.refl _ _).alloc (Nat.le_refl _) _).alloc (by simp) _).trans (hb.mono (by simp [World.iter]; omega))

set_option maxHeartbeats 400000 in
theorem name_any (s : ByteArray) (hs : s.size ≤ 281474976710656) (w : World) :
    Calls Tryz.prog 96 #[.string s] w fun e w' => e = .returned (.tuple #[.agg #[.int .i8 (Sc.nameKind (s.extract 0 (Sc.spanN Sc.lord s.data.toList)) (Sc.spanN Sc.lord s.data.toList)), .string (s.extract 0 (Sc.spanN Sc.lord s.data.toList)), .int .i64 0, .int .i64 0], .int .i64 (Sc.nameErr (Sc.spanN Sc.lord s.data.toList))]) ∧ Below w.heap.size w w' := by
  have hle := Sc.spanN_le Sc.lord s.data.toList
  rw [Sc.data_len] at hle
  generalize hn : Sc.spanN Sc.lord s.data.toList = n at *
  have hx : (s.extract 0 n).size = n := by simp; omega
  have HX := Lib.hid hx
  clear hx
  have hsp := span_lord s
  rw [hn] at hsp
  clear hn
  by_cases h64 : 64 < n
  · have hk : Sc.nameKind (s.extract 0 n) n = 1 := by unfold Sc.nameKind; rw [if_pos h64]
    have he : Sc.nameErr n = 3 := by unfold Sc.nameErr; rw [if_pos h64]
    rw [hk, he]
    clear hk he
    go_enter Tryz.func96, Tryz.ntmps96
    go_wp2_with (first | (go_at_call 102; refine (hsp _).mono ?_; rintro e w' ⟨rfl, pos, rfl⟩) | (go_at_call 101; refine (word_any 1 _ (by rw [HX.out]; omega) _).mono ?_; rintro e w' ⟨rfl, hb⟩; obtain ⟨q0, q1, q2, q3, f0, f1, f2, f3, hz⟩ := own4 (heap_below hb (by simp [World.iter]; omega) (heap_old (heap_new w _) _)); have hbw := below_iter hb))
    refine bodyPost_ret (v := .tuple #[.agg #[.int .i8 1, .string (s.extract 0 n), .int .i64 0, .int .i64 0], .int .i64 3]) (by simp [results, Tryz.results96, go_sem, *]) rfl ⟨rfl, ?_⟩
    exact (below_set4 hbw (Nat.le_refl _) _ _ _ _).alloc (by simp; omega) _
  · have he : Sc.nameErr n = 0 := by unfold Sc.nameErr; rw [if_neg h64]
    cases hkey : Sc.isKey (s.extract 0 n)
    · have hk : Sc.nameKind (s.extract 0 n) n = 1 := by unfold Sc.nameKind; rw [if_neg h64, hkey]; rfl
      rw [hk, he]
      clear hk he
      have hkk := scan_Key_any (s.extract 0 n)
      rw [hkey] at hkk
      clear hkey
      go_enter Tryz.func96, Tryz.ntmps96
      go_wp2_with (first | (go_at_call 102; refine (hsp _).mono ?_; rintro e w' ⟨rfl, pos, rfl⟩) | (go_at_call 101; refine (word_any 1 _ (by rw [HX.out]; omega) _).mono ?_; rintro e w' ⟨rfl, hb⟩; obtain ⟨q0, q1, q2, q3, f0, f1, f2, f3, hz⟩ := own4 (heap_below hb (by simp [World.iter]; omega) (heap_old (heap_new w _) _)); have hbw := below_iter hb) | (go_at_call 104; refine (hkk _).mono ?_; rintro e w' ⟨rfl, rfl⟩))
      refine bodyPost_ret (v := .tuple #[.agg #[.int .i8 1, .string (s.extract 0 n), .int .i64 0, .int .i64 0], .int .i64 0]) (by simp [results, Tryz.results96, go_sem, *]) rfl ⟨rfl, ?_⟩
      exact (below_set4 hbw (Nat.le_refl _) _ _ _ _).alloc (by simp; omega) _
    · have hk : Sc.nameKind (s.extract 0 n) n = 3 := by unfold Sc.nameKind; rw [if_neg h64, hkey]; rfl
      rw [hk, he]
      clear hk he
      have hkk := scan_Key_any (s.extract 0 n)
      rw [hkey] at hkk
      clear hkey
      go_enter Tryz.func96, Tryz.ntmps96
      go_wp2_with (first | (go_at_call 102; refine (hsp _).mono ?_; rintro e w' ⟨rfl, pos, rfl⟩) | (go_at_call 101; refine (word_any 1 _ (by rw [HX.out]; omega) _).mono ?_; rintro e w' ⟨rfl, hb⟩; obtain ⟨q0, q1, q2, q3, f0, f1, f2, f3, hz⟩ := own4 (heap_below hb (by simp [World.iter]; omega) (heap_old (heap_new w _) _)); have hbw := below_iter hb) | (go_at_call 104; refine (hkk _).mono ?_; rintro e w' ⟨rfl, rfl⟩))
      refine bodyPost_ret (v := .tuple #[.agg #[.int .i8 3, .string (s.extract 0 n), .int .i64 0, .int .i64 0], .int .i64 0]) (by simp [results, Tryz.results96, go_sem, *]) rfl ⟨rfl, ?_⟩
      exact (below_set4 hbw (Nat.le_refl _) _ _ _ _).alloc (by simp; omega) _
end Go.Proofs.YtknhoagicdfikaaGreatDoor
namespace Go.Proofs.YtknhoagicdfikaaGreatDoor
open Go.RowKit

def Sc.numBad (s : ByteArray) (n : Nat) : Bool := (decide (1 < n) && decide (s.data.toList.head? = some 48)) || decide (0 < Sc.spanN Sc.lett (s.data.toList.drop n))
def Sc.numVal (s : ByteArray) (n : Nat) : Nat := Sc.numFrom 0 (s.data.toList.take n)
def Sc.numErr (s : ByteArray) (n : Nat) : Int := if 9223372036854775808 ≤ Sc.numVal s n then 3 else if Sc.numBad s n then 10 else 0
def Sc.numNum (s : ByteArray) (n : Nat) : Int := if Sc.numErr s n = 0 then Sc.numVal s n else 0

theorem below_iterN {w w1 : World} {o : Obj} {s : ByteArray} {pos nq : Nat} (hb : Below (((w.alloc o).iter s pos).drewN nq).heap.size (((w.alloc o).iter s pos).drewN nq) w1) : Below w.heap.size w w1 := by
  have h0 : Below w.heap.size w (((w.alloc o).iter s pos).drewN nq) := by
    have := (((Below.refl w.heap.size w).alloc (Nat.le_refl _) o).alloc (by simp) (.stringIter s pos))
    exact ⟨this.os, this.tape, this.output, this.size, this.block⟩
  exact h0.trans (hb.mono h0.size)

theorem var_at {P : Program} {W W' : World} {n : String} {cs : Array Value} (h : Below W.heap.size W W') (hv : W.var? P n = some cs) : W'.var? P n = some cs := by
  cases hg : P.globalNamed n with
  | none => unfold World.var? at hv; rw [hg] at hv; cases hv
  | some g =>
    refine var?_below h hg ?_ hv
    rcases Nat.lt_or_ge g W.heap.size with h1 | h1
    · exact h1
    · exfalso
      unfold World.var? at hv
      rw [hg] at hv
      simp [Array.getElem?_eq_none h1] at hv

theorem parse_ok (s : ByteArray) (hs : s.size ≤ 281474976710656) (v : Int) (h : Lib.parseIntB 64 s.data.toList = .ok v) (w : World) :
    Calls Tryz.prog 105 #[.string s, .int .i64 10, .int .i64 64] w fun e w' => e = .returned (.tuple #[.int .i64 v, .nilIface]) ∧ Below w.heap.size w w' := by
  refine (Tryz.strconv_ParseInt_10_at64_ok s (by omega) v h w).mono fun e w' => ?_
  rintro ⟨rfl, rfl | ⟨t, rfl⟩⟩
  · exact ⟨rfl, Below.refl _ _⟩
  · exact ⟨rfl, Lib.bytesWorld_below _ _ _⟩

set_option maxHeartbeats 1000000 in
theorem number_err (s : ByteArray) (hs : s.size ≤ 281474976710656) (n : Nat) (hle : n ≤ s.size) (h1 : 1 ≤ n)
    (hsp : ∀ w : World, Calls Tryz.prog 102 #[.string s, .func (.func 97) #[] #[]] w fun e w' => e = .returned (.int .i64 n) ∧ ∃ pos, w' = w.iter s pos)
    (hr : Lib.parseIntB 64 (s.extract 0 n).data.toList = .range) (w : World) (tp : TypeId) (p : Value) (hvar : w.var? Tryz.prog "strconv.ErrRange" = some #[.iface tp p]) :
    Calls Tryz.prog 98 #[.string s] w fun e w' => e = .returned (.tuple #[.agg #[.int .i8 2, .string (s.extract 0 n), .int .i64 0, .int .i64 0], .int .i64 3]) ∧ Below w.heap.size w w' := by
  have hx : (s.extract 0 n).size = n := by simp; omega
  have HX := Lib.hid hx
  clear hx
  have i1 : (n : Int) ≤ s.size := by omega
  have i2 : (0 : Int) ≤ n := by omega
  have HV := Lib.hid hvar
  clear hvar
  go_enter Tryz.func98, Tryz.ntmps98
  go_wp2_with (go_at_call 102; refine (hsp _).mono ?_; rintro e w' ⟨rfl, pos, rfl⟩)
  go_quiet (fail)
  go_wp2_with (first | (go_at_call 101; refine (word_any 2 _ (by rw [HX.out]; omega) _).mono ?_; rintro e w1 ⟨rfl, hb⟩; have H1 := Lib.hid (heap_below hb (by simp [World.iter]; omega) (heap_old (heap_new w _) _)); obtain ⟨q0, q1, q2, q3, f0, f1, f2, f3, hz⟩ := own4 H1.out; have hbw := below_iterN hb) | (go_at_call 105; refine (Tryz.strconv_ParseInt_10_at64_range_var _ (by rw [HX.out]; omega) hr tp p _ (var_at (hbw.alloc hbw.size _) HV.out)).mono ?_; rintro e w2 ⟨N, rfl, _, _, hb2⟩; have hbw2 := (hbw.alloc hbw.size _).trans (hb2.mono (by have := hbw.size; simp; omega)); have H2 := Lib.hid (heap_below hb2 (by simp; omega) (heap_old H1.out _)); have H3 := Lib.hid (heap_below hb2 (by simp) (heap_new w1 _)); obtain ⟨q0, q1, q2, q3, f0, f1, f2, f3, hz⟩ := own4 H2.out; obtain ⟨p0, p1, p2, p3, g0, g1, g2, g3, hy⟩ := own4 H3.out))
  refine bodyPost_ret (v := .tuple #[.agg #[.int .i8 2, .string (s.extract 0 n), .int .i64 0, .int .i64 0], .int .i64 3]) (by simp [results, Tryz.results98, go_sem, *]) rfl ⟨rfl, ?_⟩
  exact (below_set4 hbw2 (Nat.le_refl _) _ _ _ _)

set_option maxHeartbeats 1000000 in
theorem number_zero (s : ByteArray) (hs : s.size ≤ 281474976710656) (n : Nat) (hle : n ≤ s.size) (h1 : 1 ≤ n)
    (hsp : ∀ w : World, Calls Tryz.prog 102 #[.string s, .func (.func 97) #[] #[]] w fun e w' => e = .returned (.int .i64 n) ∧ ∃ pos, w' = w.iter s pos)
    (v : Int) (hr : Lib.parseIntB 64 (s.extract 0 n).data.toList = .ok v) (hx0 : 0 < (s.extract 0 n).size) (hn2 : 1 < n) (hd : ((((s.extract 0 n)[0]'hx0).toNat : Int) == 48) = true) (w : World) (tp : TypeId) (p : Value) (hvar : w.var? Tryz.prog "strconv.ErrRange" = some #[.iface tp p]) :
    Calls Tryz.prog 98 #[.string s] w fun e w' => e = .returned (.tuple #[.agg #[.int .i8 2, .string (s.extract 0 n), .int .i64 0, .int .i64 0], .int .i64 10]) ∧ Below w.heap.size w w' := by
  have hx : (s.extract 0 n).size = n := by simp; omega
  have HX := Lib.hid hx
  clear hx
  have i1 : (n : Int) ≤ s.size := by omega
  have i2 : (0 : Int) ≤ n := by omega
  have HV := Lib.hid hvar
  clear hvar
  go_enter Tryz.func98, Tryz.ntmps98
  go_wp2_with (go_at_call 102; refine (hsp _).mono ?_; rintro e w' ⟨rfl, pos, rfl⟩)
  go_quiet (fail)
  go_wp2_with (first | (go_at_call 101; refine (word_any 2 _ (by rw [HX.out]; omega) _).mono ?_; rintro e w1 ⟨rfl, hb⟩; have H1 := Lib.hid (heap_below hb (by simp [World.iter]; omega) (heap_old (heap_new w _) _)); obtain ⟨q0, q1, q2, q3, f0, f1, f2, f3, hz⟩ := own4 H1.out; have hbw := below_iterN hb) | (go_at_call 105; refine (parse_ok _ (by rw [HX.out]; omega) v hr _).mono ?_; rintro e w2 ⟨rfl, hb2⟩; have hbw2 := (hbw.alloc hbw.size _).trans (hb2.mono (by have := hbw.size; simp; omega)); have H2 := Lib.hid (heap_below hb2 (by simp; omega) (heap_old H1.out _)); have H3 := Lib.hid (heap_below hb2 (by simp) (heap_new w1 _)); obtain ⟨q0, q1, q2, q3, f0, f1, f2, f3, hz⟩ := own4 H2.out; obtain ⟨p0, p1, p2, p3, g0, g1, g2, g3, hy⟩ := own4 H3.out))
  clear hd
  refine bodyPost_ret (v := .tuple #[.agg #[.int .i8 2, .string (s.extract 0 n), .int .i64 0, .int .i64 0], .int .i64 10]) (by simp [results, Tryz.results98, go_sem, *]) rfl ⟨rfl, ?_⟩
  exact (below_set4 hbw2 (Nat.le_refl _) _ _ _ _)

set_option maxHeartbeats 1000000 in
theorem number_letter1 (s : ByteArray) (_hs : s.size ≤ 281474976710656) (n : Nat) (hle : n ≤ s.size) (h1 : 1 ≤ n)
    (hsp : ∀ w : World, Calls Tryz.prog 102 #[.string s, .func (.func 97) #[] #[]] w fun e w' => e = .returned (.int .i64 n) ∧ ∃ pos, w' = w.iter s pos)
    (v : Int) (hr : Lib.parseIntB 64 (s.extract 0 n).data.toList = .ok v) (m : Nat) (hm : 0 < m)
    (hsl : ∀ w : World, Calls Tryz.prog 102 #[.string (s.extract n s.size), .func (.func 95) #[] #[]] w fun e w' => e = .returned (.int .i64 m) ∧ Below w.heap.size w w') (hn2 : ¬ 1 < n) (w : World) (tp : TypeId) (p : Value) (hvar : w.var? Tryz.prog "strconv.ErrRange" = some #[.iface tp p]) :
    Calls Tryz.prog 98 #[.string s] w fun e w' => e = .returned (.tuple #[.agg #[.int .i8 2, .string (s.extract 0 n), .int .i64 0, .int .i64 0], .int .i64 10]) ∧ Below w.heap.size w w' := by
  have hx : (s.extract 0 n).size = n := by simp; omega
  have HX := Lib.hid hx
  clear hx
  have i1 : (n : Int) ≤ s.size := by omega
  have i2 : (0 : Int) ≤ n := by omega
  have HV := Lib.hid hvar
  clear hvar
  go_enter Tryz.func98, Tryz.ntmps98
  go_wp2_with (go_at_call 102; refine (hsp _).mono ?_; rintro e w' ⟨rfl, pos, rfl⟩)
  go_quiet (fail)
  go_wp2_with (first | (go_at_call 101; refine (word_any 2 _ (by rw [HX.out]; omega) _).mono ?_; rintro e w1 ⟨rfl, hb⟩; have H1 := Lib.hid (heap_below hb (by simp [World.iter]; omega) (heap_old (heap_new w _) _)); obtain ⟨q0, q1, q2, q3, f0, f1, f2, f3, hz⟩ := own4 H1.out; have hbw := below_iterN hb) | (go_at_call 105; refine (parse_ok _ (by rw [HX.out]; omega) v hr _).mono ?_; rintro e w2 ⟨rfl, hb2⟩; have hbw2 := (hbw.alloc hbw.size _).trans (hb2.mono (by have := hbw.size; simp; omega)); have H2 := Lib.hid (heap_below hb2 (by simp; omega) (heap_old H1.out _)); have H3 := Lib.hid (heap_below hb2 (by simp) (heap_new w1 _)); obtain ⟨q0, q1, q2, q3, f0, f1, f2, f3, hz⟩ := own4 H2.out; obtain ⟨p0, p1, p2, p3, g0, g1, g2, g3, hy⟩ := own4 H3.out) | (go_at_call 102; refine (hsl _).mono ?_; rintro e w3 ⟨rfl, hb3⟩; have hbw3 := hbw2.trans (hb3.mono hbw2.size); obtain ⟨q0, q1, q2, q3, f0, f1, f2, f3, hz⟩ := own4 (heap_below hb3 hz H2.out); obtain ⟨p0, p1, p2, p3, g0, g1, g2, g3, hy⟩ := own4 (heap_below hb3 hy H3.out)))
  refine bodyPost_ret (v := .tuple #[.agg #[.int .i8 2, .string (s.extract 0 n), .int .i64 0, .int .i64 0], .int .i64 10]) (by simp [results, Tryz.results98, go_sem, *]) rfl ⟨rfl, ?_⟩
  exact (below_set4 hbw3 (Nat.le_refl _) _ _ _ _)

set_option maxHeartbeats 1000000 in
theorem number_letter2 (s : ByteArray) (hs : s.size ≤ 281474976710656) (n : Nat) (hle : n ≤ s.size) (h1 : 1 ≤ n)
    (hsp : ∀ w : World, Calls Tryz.prog 102 #[.string s, .func (.func 97) #[] #[]] w fun e w' => e = .returned (.int .i64 n) ∧ ∃ pos, w' = w.iter s pos)
    (v : Int) (hr : Lib.parseIntB 64 (s.extract 0 n).data.toList = .ok v) (m : Nat) (hm : 0 < m)
    (hsl : ∀ w : World, Calls Tryz.prog 102 #[.string (s.extract n s.size), .func (.func 95) #[] #[]] w fun e w' => e = .returned (.int .i64 m) ∧ Below w.heap.size w w') (hx0 : 0 < (s.extract 0 n).size) (hn2 : 1 < n) (hd : ((((s.extract 0 n)[0]'hx0).toNat : Int) == 48) = false) (w : World) (tp : TypeId) (p : Value) (hvar : w.var? Tryz.prog "strconv.ErrRange" = some #[.iface tp p]) :
    Calls Tryz.prog 98 #[.string s] w fun e w' => e = .returned (.tuple #[.agg #[.int .i8 2, .string (s.extract 0 n), .int .i64 0, .int .i64 0], .int .i64 10]) ∧ Below w.heap.size w w' := by
  have hx : (s.extract 0 n).size = n := by simp; omega
  have HX := Lib.hid hx
  clear hx
  have i1 : (n : Int) ≤ s.size := by omega
  have i2 : (0 : Int) ≤ n := by omega
  have HV := Lib.hid hvar
  clear hvar
  go_enter Tryz.func98, Tryz.ntmps98
  go_wp2_with (go_at_call 102; refine (hsp _).mono ?_; rintro e w' ⟨rfl, pos, rfl⟩)
  go_quiet (fail)
  go_wp2_with (first | (go_at_call 101; refine (word_any 2 _ (by rw [HX.out]; omega) _).mono ?_; rintro e w1 ⟨rfl, hb⟩; have H1 := Lib.hid (heap_below hb (by simp [World.iter]; omega) (heap_old (heap_new w _) _)); obtain ⟨q0, q1, q2, q3, f0, f1, f2, f3, hz⟩ := own4 H1.out; have hbw := below_iterN hb) | (go_at_call 105; refine (parse_ok _ (by rw [HX.out]; omega) v hr _).mono ?_; rintro e w2 ⟨rfl, hb2⟩; have hbw2 := (hbw.alloc hbw.size _).trans (hb2.mono (by have := hbw.size; simp; omega)); have H2 := Lib.hid (heap_below hb2 (by simp; omega) (heap_old H1.out _)); have H3 := Lib.hid (heap_below hb2 (by simp) (heap_new w1 _)); obtain ⟨q0, q1, q2, q3, f0, f1, f2, f3, hz⟩ := own4 H2.out; obtain ⟨p0, p1, p2, p3, g0, g1, g2, g3, hy⟩ := own4 H3.out) | (go_at_call 102; refine (hsl _).mono ?_; rintro e w3 ⟨rfl, hb3⟩; have hbw3 := hbw2.trans (hb3.mono hbw2.size); obtain ⟨q0, q1, q2, q3, f0, f1, f2, f3, hz⟩ := own4 (heap_below hb3 hz H2.out); obtain ⟨p0, p1, p2, p3, g0, g1, g2, g3, hy⟩ := own4 (heap_below hb3 hy H3.out)))
  clear hd
  refine bodyPost_ret (v := .tuple #[.agg #[.int .i8 2, .string (s.extract 0 n), .int .i64 0, .int .i64 0], .int .i64 10]) (by simp [results, Tryz.results98, go_sem, *]) rfl ⟨rfl, ?_⟩
  exact (below_set4 hbw3 (Nat.le_refl _) _ _ _ _)

set_option maxHeartbeats 1000000 in
theorem number_ok1 (s : ByteArray) (_hs : s.size ≤ 281474976710656) (n : Nat) (hle : n ≤ s.size) (h1 : 1 ≤ n)
    (hsp : ∀ w : World, Calls Tryz.prog 102 #[.string s, .func (.func 97) #[] #[]] w fun e w' => e = .returned (.int .i64 n) ∧ ∃ pos, w' = w.iter s pos)
    (v : Int) (hr : Lib.parseIntB 64 (s.extract 0 n).data.toList = .ok v)
    (hsl : ∀ w : World, Calls Tryz.prog 102 #[.string (s.extract n s.size), .func (.func 95) #[] #[]] w fun e w' => e = .returned (.int .i64 0) ∧ Below w.heap.size w w') (hn2 : ¬ 1 < n) (w : World) (tp : TypeId) (p : Value) (hvar : w.var? Tryz.prog "strconv.ErrRange" = some #[.iface tp p]) :
    Calls Tryz.prog 98 #[.string s] w fun e w' => e = .returned (.tuple #[.agg #[.int .i8 2, .string (s.extract 0 n), .int .i64 v, .int .i64 0], .int .i64 0]) ∧ Below w.heap.size w w' := by
  have hx : (s.extract 0 n).size = n := by simp; omega
  have HX := Lib.hid hx
  clear hx
  have i1 : (n : Int) ≤ s.size := by omega
  have i2 : (0 : Int) ≤ n := by omega
  have HV := Lib.hid hvar
  clear hvar
  go_enter Tryz.func98, Tryz.ntmps98
  go_wp2_with (go_at_call 102; refine (hsp _).mono ?_; rintro e w' ⟨rfl, pos, rfl⟩)
  go_quiet (fail)
  go_wp2_with (first | (go_at_call 101; refine (word_any 2 _ (by rw [HX.out]; omega) _).mono ?_; rintro e w1 ⟨rfl, hb⟩; have H1 := Lib.hid (heap_below hb (by simp [World.iter]; omega) (heap_old (heap_new w _) _)); obtain ⟨q0, q1, q2, q3, f0, f1, f2, f3, hz⟩ := own4 H1.out; have hbw := below_iterN hb) | (go_at_call 105; refine (parse_ok _ (by rw [HX.out]; omega) v hr _).mono ?_; rintro e w2 ⟨rfl, hb2⟩; have hbw2 := (hbw.alloc hbw.size _).trans (hb2.mono (by have := hbw.size; simp; omega)); have H2 := Lib.hid (heap_below hb2 (by simp; omega) (heap_old H1.out _)); have H3 := Lib.hid (heap_below hb2 (by simp) (heap_new w1 _)); obtain ⟨q0, q1, q2, q3, f0, f1, f2, f3, hz⟩ := own4 H2.out; obtain ⟨p0, p1, p2, p3, g0, g1, g2, g3, hy⟩ := own4 H3.out) | (go_at_call 102; refine (hsl _).mono ?_; rintro e w3 ⟨rfl, hb3⟩; have hbw3 := hbw2.trans (hb3.mono hbw2.size); obtain ⟨q0, q1, q2, q3, f0, f1, f2, f3, hz⟩ := own4 (heap_below hb3 hz H2.out); obtain ⟨p0, p1, p2, p3, g0, g1, g2, g3, hy⟩ := own4 (heap_below hb3 hy H3.out)))
  refine bodyPost_ret (v := .tuple #[.agg #[.int .i8 2, .string (s.extract 0 n), .int .i64 v, .int .i64 0], .int .i64 0]) (by simp [results, Tryz.results98, go_sem, *]) rfl ⟨rfl, ?_⟩
  exact (below_set4 (hbw3.setCell hbw.size _) (Nat.le_refl _) _ _ _ _)

set_option maxHeartbeats 1000000 in
theorem number_ok2 (s : ByteArray) (hs : s.size ≤ 281474976710656) (n : Nat) (hle : n ≤ s.size) (h1 : 1 ≤ n)
    (hsp : ∀ w : World, Calls Tryz.prog 102 #[.string s, .func (.func 97) #[] #[]] w fun e w' => e = .returned (.int .i64 n) ∧ ∃ pos, w' = w.iter s pos)
    (v : Int) (hr : Lib.parseIntB 64 (s.extract 0 n).data.toList = .ok v)
    (hsl : ∀ w : World, Calls Tryz.prog 102 #[.string (s.extract n s.size), .func (.func 95) #[] #[]] w fun e w' => e = .returned (.int .i64 0) ∧ Below w.heap.size w w') (hx0 : 0 < (s.extract 0 n).size) (hn2 : 1 < n) (hd : ((((s.extract 0 n)[0]'hx0).toNat : Int) == 48) = false) (w : World) (tp : TypeId) (p : Value) (hvar : w.var? Tryz.prog "strconv.ErrRange" = some #[.iface tp p]) :
    Calls Tryz.prog 98 #[.string s] w fun e w' => e = .returned (.tuple #[.agg #[.int .i8 2, .string (s.extract 0 n), .int .i64 v, .int .i64 0], .int .i64 0]) ∧ Below w.heap.size w w' := by
  have hx : (s.extract 0 n).size = n := by simp; omega
  have HX := Lib.hid hx
  clear hx
  have i1 : (n : Int) ≤ s.size := by omega
  have i2 : (0 : Int) ≤ n := by omega
  have HV := Lib.hid hvar
  clear hvar
  go_enter Tryz.func98, Tryz.ntmps98
  go_wp2_with (go_at_call 102; refine (hsp _).mono ?_; rintro e w' ⟨rfl, pos, rfl⟩)
  go_quiet (fail)
  go_wp2_with (first | (go_at_call 101; refine (word_any 2 _ (by rw [HX.out]; omega) _).mono ?_; rintro e w1 ⟨rfl, hb⟩; have H1 := Lib.hid (heap_below hb (by simp [World.iter]; omega) (heap_old (heap_new w _) _)); obtain ⟨q0, q1, q2, q3, f0, f1, f2, f3, hz⟩ := own4 H1.out; have hbw := below_iterN hb) | (go_at_call 105; refine (parse_ok _ (by rw [HX.out]; omega) v hr _).mono ?_; rintro e w2 ⟨rfl, hb2⟩; have hbw2 := (hbw.alloc hbw.size _).trans (hb2.mono (by have := hbw.size; simp; omega)); have H2 := Lib.hid (heap_below hb2 (by simp; omega) (heap_old H1.out _)); have H3 := Lib.hid (heap_below hb2 (by simp) (heap_new w1 _)); obtain ⟨q0, q1, q2, q3, f0, f1, f2, f3, hz⟩ := own4 H2.out; obtain ⟨p0, p1, p2, p3, g0, g1, g2, g3, hy⟩ := own4 H3.out) | (go_at_call 102; refine (hsl _).mono ?_; rintro e w3 ⟨rfl, hb3⟩; have hbw3 := hbw2.trans (hb3.mono hbw2.size); obtain ⟨q0, q1, q2, q3, f0, f1, f2, f3, hz⟩ := own4 (heap_below hb3 hz H2.out); obtain ⟨p0, p1, p2, p3, g0, g1, g2, g3, hy⟩ := own4 (heap_below hb3 hy H3.out)))
  clear hd
  refine bodyPost_ret (v := .tuple #[.agg #[.int .i8 2, .string (s.extract 0 n), .int .i64 v, .int .i64 0], .int .i64 0]) (by simp [results, Tryz.results98, go_sem, *]) rfl ⟨rfl, ?_⟩
  exact (below_set4 (hbw3.setCell hbw.size _) (Nat.le_refl _) _ _ _ _)

theorem Sc.extract_head (s : ByteArray) (n : Nat) (h : 1 ≤ n) (hle : n ≤ s.size) (hx0 : 0 < (s.extract 0 n).size) : s.data.toList.head? = some ((s.extract 0 n)[0]'hx0) := by
  have h0 : 0 < s.size := by omega
  have e : (s.extract 0 n)[0]'hx0 = s[0]'h0 := by rw [ByteArray.getElem_extract]
  rw [e, ← Sc.get_data s 0 h0 (by rw [Sc.data_len]; exact h0)]
  rw [List.head?_eq_getElem?, List.getElem?_eq_getElem]

theorem number_any (s : ByteArray) (hs : s.size ≤ 281474976710656) (h1 : 1 ≤ Sc.spanN Sc.digi s.data.toList) (w : World) (tp : TypeId) (p : Value) (hvar : w.var? Tryz.prog "strconv.ErrRange" = some #[.iface tp p]) :
    Calls Tryz.prog 98 #[.string s] w fun e w' => e = .returned (.tuple #[.agg #[.int .i8 2, .string (s.extract 0 (Sc.spanN Sc.digi s.data.toList)), .int .i64 (Sc.numNum s (Sc.spanN Sc.digi s.data.toList)), .int .i64 0], .int .i64 (Sc.numErr s (Sc.spanN Sc.digi s.data.toList))]) ∧ Below w.heap.size w w' := by
  have hle := Sc.spanN_le Sc.digi s.data.toList
  rw [Sc.data_len] at hle
  have hsp := span_digit s
  have hall := Sc.allDigi_take s.data.toList
  generalize hn : Sc.spanN Sc.digi s.data.toList = n at *
  have hx : (s.extract 0 n).size = n := by simp; omega
  have hx0 : 0 < (s.extract 0 n).size := by omega
  have hxd : (s.extract 0 n).data.toList = s.data.toList.take n := by rw [Lib.extract_data]; simp
  have hlen : (s.data.toList.take n).length = n := by simp; omega
  have hp := Sc.parse64 (s.data.toList.take n) (by intro h; rw [h] at hlen; simp at hlen; omega) hall
  rw [← hxd] at hp
  have hv : Sc.numFrom 0 (s.extract 0 n).data.toList = Sc.numVal s n := by rw [hxd]; rfl
  rw [hv] at hp
  by_cases hb : Sc.numVal s n < 9223372036854775808
  · rw [if_pos hb] at hp
    have hb' : ¬ 9223372036854775808 ≤ Sc.numVal s n := by omega
    have hdl : (s.extract n s.size).data.toList = s.data.toList.drop n := by rw [Lib.extract_data]; exact List.take_of_length_le (by simp)
    have hsl : ∀ w : World, Calls Tryz.prog 102 #[.string (s.extract n s.size), .func (.func 95) #[] #[]] w fun e w' => e = .returned (.int .i64 (Sc.spanN Sc.lett (s.data.toList.drop n))) ∧ Below w.heap.size w w' := by
      intro w
      rw [← hdl]
      refine (span_letter _ w).mono fun e w' => ?_
      rintro ⟨rfl, pos, rfl⟩
      exact ⟨rfl, (Below.refl _ _).alloc (Nat.le_refl _) _⟩
    have hh := Sc.extract_head s n h1 hle hx0
    have bad_of : ∀ b, Sc.numBad s n = b → Sc.numErr s n = (if b then 10 else 0) ∧ Sc.numNum s n = if b then 0 else (Sc.numVal s n : Int) := by
      intro b hbb
      have : Sc.numErr s n = (if b then 10 else 0) := by unfold Sc.numErr; rw [if_neg hb', hbb]
      refine ⟨this, ?_⟩
      unfold Sc.numNum
      rw [this]
      cases b <;> simp
    by_cases hm : 0 < Sc.spanN Sc.lett (s.data.toList.drop n)
    · have hbad : Sc.numBad s n = true := by unfold Sc.numBad; simp [hm]
      obtain ⟨e1, e2⟩ := bad_of true hbad
      rw [e1, e2]
      by_cases h2 : 1 < n
      · cases h48 : ((((s.extract 0 n)[0]'hx0).toNat : Int) == 48)
        · exact number_letter2 s hs n hle h1 hsp _ hp _ hm hsl hx0 h2 h48 w tp p hvar
        · exact number_zero s hs n hle h1 hsp _ hp hx0 h2 h48 w tp p hvar
      · exact number_letter1 s hs n hle h1 hsp _ hp _ hm hsl h2 w tp p hvar
    · have hm0 : Sc.spanN Sc.lett (s.data.toList.drop n) = 0 := by omega
      rw [hm0] at hsl
      by_cases h2 : 1 < n
      · cases h48 : ((((s.extract 0 n)[0]'hx0).toNat : Int) == 48)
        · have hbad : Sc.numBad s n = false := by
            unfold Sc.numBad
            have : ¬ s.data.toList.head? = some 48 := by
              rw [hh]; intro h; injection h with h; rw [h] at h48; simp at h48
            simp [hm0, this]
          obtain ⟨e1, e2⟩ := bad_of false hbad
          rw [e1, e2]
          exact number_ok2 s hs n hle h1 hsp _ hp hsl hx0 h2 h48 w tp p hvar
        · have hbad : Sc.numBad s n = true := by
            unfold Sc.numBad
            have : s.data.toList.head? = some 48 := by
              rw [hh]; congr 1; apply UInt8.toNat_inj.1; have := beq_iff_eq.1 h48; show _ = 48; omega
            simp [this, h2]
          obtain ⟨e1, e2⟩ := bad_of true hbad
          rw [e1, e2]
          exact number_zero s hs n hle h1 hsp _ hp hx0 h2 h48 w tp p hvar
      · have hbad : Sc.numBad s n = false := by unfold Sc.numBad; simp [hm0, h2]
        obtain ⟨e1, e2⟩ := bad_of false hbad
        rw [e1, e2]
        exact number_ok1 s hs n hle h1 hsp _ hp hsl h2 w tp p hvar
  · rw [if_neg hb] at hp
    have e1 : Sc.numErr s n = 3 := by unfold Sc.numErr; rw [if_pos (by omega)]
    have e2 : Sc.numNum s n = 0 := by unfold Sc.numNum; rw [e1]; rfl
    rw [e1, e2]
    exact number_err s hs n hle h1 hsp hp w tp p hvar
end Go.Proofs.YtknhoagicdfikaaGreatDoor
namespace Go.Proofs.YtknhoagicdfikaaGreatDoor
open Go.RowKit

def Sc.hd (s : ByteArray) : Int := ((s.data.toList.headD 0).toNat : Int)
def Sc.fN (s : ByteArray) : Nat := if Sc.lett (Sc.hd s) then Sc.spanN Sc.lord s.data.toList else if Sc.digi (Sc.hd s) then Sc.spanN Sc.digi s.data.toList else if Lib.hasPrefix s.data.toList [45, 62] then 2 else 1
def Sc.fK (s : ByteArray) : Int := if Sc.lett (Sc.hd s) then Sc.nameKind (s.extract 0 (Sc.fN s)) (Sc.fN s) else if Sc.digi (Sc.hd s) then 2 else if Lib.hasPrefix s.data.toList [45, 62] || Sc.isSign (Sc.hd s) then 4 else 0
def Sc.fE (s : ByteArray) : Int := if Sc.lett (Sc.hd s) then Sc.nameErr (Sc.fN s) else if Sc.digi (Sc.hd s) then Sc.numErr s (Sc.fN s) else if Lib.hasPrefix s.data.toList [45, 62] || Sc.isSign (Sc.hd s) then 0 else 10
def Sc.fV (s : ByteArray) : Int := if Sc.lett (Sc.hd s) then 0 else if Sc.digi (Sc.hd s) then Sc.numNum s (Sc.fN s) else 0

theorem Sc.hd_eq (s : ByteArray) (h : 0 < s.size) : Sc.hd s = ((s[0]'h).toNat : Int) := by
  have hl : 0 < s.data.toList.length := by rw [Sc.data_len]; exact h
  have e := Sc.get_data s 0 h hl
  unfold Sc.hd
  rw [List.headD_eq_head?_getD, List.head?_eq_getElem?, List.getElem?_eq_getElem hl, e]
  rfl

theorem hasPrefix_flip (s p : ByteArray) (w : World) :
    Calls Tryz.prog 99 #[.string s, .string p] w fun e w' => e = .returned (.bool (Lib.hasPrefix s.data.toList p.data.toList)) ∧ w = w' :=
  (Tryz.strings_HasPrefix s p w).mono fun _ _ h => ⟨h.1, h.2.symm⟩

/-- the result cell of a function: its own block, the first that it made -/
theorem res_facts {w w1 : World} {v0 v1 v2 v3 : Value} {t : TypeId} (hb : Below (w.alloc (.cells #[v0, v1, v2, v3] t)).heap.size (w.alloc (.cells #[v0, v1, v2, v3] t)) w1) :
    w1.heap[w.heap.size]? = some (.cells #[v0, v1, v2, v3] t) ∧ Below w.heap.size w w1 :=
  ⟨heap_below hb (by simp) (heap_new w _), ((Below.refl _ _).alloc (Nat.le_refl _) _).trans (hb.mono (by simp))⟩

set_option maxHeartbeats 1000000 in
set_option maxRecDepth 100000 in
theorem first_name (s : ByteArray) (h0 : 0 < s.size) (w : World) (k v er : Int) (n : Nat)
    (hL : ∀ w : World, Calls Tryz.prog 95 #[.int .i32 ((s[0]).toNat : Int)] w fun e w' => e = .returned (.bool true) ∧ w = w')
    (hF : ∀ w1 : World, Below w.heap.size w w1 → Calls Tryz.prog 96 #[.string s] w1 fun e w' => e = .returned (.tuple #[.agg #[.int .i8 k, .string (s.extract 0 n), .int .i64 v, .int .i64 0], .int .i64 er]) ∧ Below w1.heap.size w1 w')
    :
    Calls Tryz.prog 93 #[.string s] w fun e w' => e = .returned (.tuple #[.agg #[.int .i8 (k), .string (s.extract 0 (n)), .int .i64 (v), .int .i64 0], .int .i64 (er)]) ∧ Below w.heap.size w w' := by
  have i0 : (0 : Int) < s.size := by omega
  have hw32 : wrap32 ((s[0]).toNat : Int) = ((s[0]).toNat : Int) := by have := (s[0]).toNat_lt; exact IntWalk.wrap32_in _ ⟨by omega, by omega⟩
  go_enter Tryz.func93, Tryz.ntmps93
  go_wp2_with (first | (go_at_call 95; refine (hL _).mono ?_; rintro e w1 ⟨rfl, rfl⟩) | (go_at_call 96; refine (hF _ ((Below.refl _ _).alloc (Nat.le_refl _) _)).mono ?_; rintro e w1 ⟨rfl, hb⟩; have hbw := (res_facts hb).2; obtain ⟨q0, q1, q2, q3, f0, f1, f2, f3, hz⟩ := own4 (res_facts hb).1))
  refine bodyPost_ret (v := .tuple #[.agg #[.int .i8 (k), .string (s.extract 0 (n)), .int .i64 (v), .int .i64 0], .int .i64 (er)]) (by simp [results, Tryz.results93, go_sem, *]) rfl ⟨rfl, ?_⟩
  exact below_set4 hbw (Nat.le_refl _) _ _ _ _

set_option maxHeartbeats 1000000 in
set_option maxRecDepth 100000 in
theorem first_number (s : ByteArray) (h0 : 0 < s.size) (w : World) (k v er : Int) (n : Nat)
    (hL : ∀ w : World, Calls Tryz.prog 95 #[.int .i32 ((s[0]).toNat : Int)] w fun e w' => e = .returned (.bool false) ∧ w = w')
    (hD : ∀ w : World, Calls Tryz.prog 97 #[.int .i32 ((s[0]).toNat : Int)] w fun e w' => e = .returned (.bool true) ∧ w = w')
    (hF : ∀ w1 : World, Below w.heap.size w w1 → Calls Tryz.prog 98 #[.string s] w1 fun e w' => e = .returned (.tuple #[.agg #[.int .i8 k, .string (s.extract 0 n), .int .i64 v, .int .i64 0], .int .i64 er]) ∧ Below w1.heap.size w1 w')
    :
    Calls Tryz.prog 93 #[.string s] w fun e w' => e = .returned (.tuple #[.agg #[.int .i8 (k), .string (s.extract 0 (n)), .int .i64 (v), .int .i64 0], .int .i64 (er)]) ∧ Below w.heap.size w w' := by
  have i0 : (0 : Int) < s.size := by omega
  have hw32 : wrap32 ((s[0]).toNat : Int) = ((s[0]).toNat : Int) := by have := (s[0]).toNat_lt; exact IntWalk.wrap32_in _ ⟨by omega, by omega⟩
  go_enter Tryz.func93, Tryz.ntmps93
  go_wp2_with (first | (go_at_call 95; refine (hL _).mono ?_; rintro e w1 ⟨rfl, rfl⟩) | (go_at_call 97; refine (hD _).mono ?_; rintro e w1 ⟨rfl, rfl⟩) | (go_at_call 98; refine (hF _ ((Below.refl _ _).alloc (Nat.le_refl _) _)).mono ?_; rintro e w1 ⟨rfl, hb⟩; have hbw := (res_facts hb).2; obtain ⟨q0, q1, q2, q3, f0, f1, f2, f3, hz⟩ := own4 (res_facts hb).1))
  refine bodyPost_ret (v := .tuple #[.agg #[.int .i8 (k), .string (s.extract 0 (n)), .int .i64 (v), .int .i64 0], .int .i64 (er)]) (by simp [results, Tryz.results93, go_sem, *]) rfl ⟨rfl, ?_⟩
  exact below_set4 hbw (Nat.le_refl _) _ _ _ _

set_option maxHeartbeats 1000000 in
set_option maxRecDepth 100000 in
theorem first_arrow (s : ByteArray) (hs : s.size ≤ 281474976710656) (h0 : 0 < s.size)
    (hL : ∀ w : World, Calls Tryz.prog 95 #[.int .i32 ((s[0]).toNat : Int)] w fun e w' => e = .returned (.bool false) ∧ w = w')
    (hD : ∀ w : World, Calls Tryz.prog 97 #[.int .i32 ((s[0]).toNat : Int)] w fun e w' => e = .returned (.bool false) ∧ w = w')
    (hH : ∀ w : World, Calls Tryz.prog 99 #[.string s, .string ⟨#[45, 62]⟩] w fun e w' => e = .returned (.bool true) ∧ w = w')
    (h2 : 2 ≤ s.size) (w : World) :
    Calls Tryz.prog 93 #[.string s] w fun e w' => e = .returned (.tuple #[.agg #[.int .i8 (4), .string (s.extract 0 (2)), .int .i64 (0), .int .i64 0], .int .i64 (0)]) ∧ Below w.heap.size w w' := by
  have i0 : (0 : Int) < s.size := by omega
  have hw32 : wrap32 ((s[0]).toNat : Int) = ((s[0]).toNat : Int) := by have := (s[0]).toNat_lt; exact IntWalk.wrap32_in _ ⟨by omega, by omega⟩
  have hx : (s.extract 0 2).size = 2 := by simp; omega
  have HX := Lib.hid hx
  clear hx
  have i2 : (2 : Int) ≤ s.size := by omega
  go_enter Tryz.func93, Tryz.ntmps93
  go_wp2_with (first | (go_at_call 95; refine (hL _).mono ?_; rintro e w1 ⟨rfl, rfl⟩) | (go_at_call 97; refine (hD _).mono ?_; rintro e w1 ⟨rfl, rfl⟩) | (go_at_call 99; refine (hH _).mono ?_; rintro e w1 ⟨rfl, rfl⟩) | (go_at_call 101; refine (word_any 4 _ (by rw [HX.out]; omega) _).mono ?_; rintro e w1 ⟨rfl, hb⟩; have hbw := (res_facts hb).2; obtain ⟨q0, q1, q2, q3, f0, f1, f2, f3, hz⟩ := own4 (res_facts hb).1))
  refine bodyPost_ret (v := .tuple #[.agg #[.int .i8 (4), .string (s.extract 0 (2)), .int .i64 (0), .int .i64 0], .int .i64 (0)]) (by simp [results, Tryz.results93, go_sem, *]) rfl ⟨rfl, ?_⟩
  exact below_set4 hbw (Nat.le_refl _) _ _ _ _

set_option maxHeartbeats 1000000 in
set_option maxRecDepth 100000 in
theorem first_sign (s : ByteArray) (hs : s.size ≤ 281474976710656) (h0 : 0 < s.size)
    (hL : ∀ w : World, Calls Tryz.prog 95 #[.int .i32 ((s[0]).toNat : Int)] w fun e w' => e = .returned (.bool false) ∧ w = w')
    (hD : ∀ w : World, Calls Tryz.prog 97 #[.int .i32 ((s[0]).toNat : Int)] w fun e w' => e = .returned (.bool false) ∧ w = w')
    (hH : ∀ w : World, Calls Tryz.prog 99 #[.string s, .string ⟨#[45, 62]⟩] w fun e w' => e = .returned (.bool false) ∧ w = w')
    (hR : ∀ w : World, Calls Tryz.prog 100 #[.string ⟨#[92, 46, 58, 61, 40, 41, 91, 93, 123, 125, 44, 124, 43, 45, 42, 47, 60, 62, 63, 59]⟩, .int .i32 ((s[0]).toNat : Int)] w fun e w' => e = .returned (.bool true) ∧ Below w.heap.size w w')
     (w : World) :
    Calls Tryz.prog 93 #[.string s] w fun e w' => e = .returned (.tuple #[.agg #[.int .i8 (4), .string (s.extract 0 (1)), .int .i64 (0), .int .i64 0], .int .i64 (0)]) ∧ Below w.heap.size w w' := by
  have i0 : (0 : Int) < s.size := by omega
  have hw32 : wrap32 ((s[0]).toNat : Int) = ((s[0]).toNat : Int) := by have := (s[0]).toNat_lt; exact IntWalk.wrap32_in _ ⟨by omega, by omega⟩
  have hx : (s.extract 0 1).size = 1 := by simp; omega
  have HX := Lib.hid hx
  clear hx
  have i2 : (1 : Int) ≤ s.size := by omega
  go_enter Tryz.func93, Tryz.ntmps93
  go_wp2_with (first | (go_at_call 95; refine (hL _).mono ?_; rintro e w1 ⟨rfl, rfl⟩) | (go_at_call 97; refine (hD _).mono ?_; rintro e w1 ⟨rfl, rfl⟩) | (go_at_call 99; refine (hH _).mono ?_; rintro e w1 ⟨rfl, rfl⟩) | (go_at_call 100; refine (hR _).mono ?_; rintro e w1 ⟨rfl, hb⟩; have hbw := (res_facts hb).2; have HH := Lib.hid (res_facts hb).1; obtain ⟨q0, q1, q2, q3, f0, f1, f2, f3, hz⟩ := own4 HH.out) | (go_at_call 101; refine (word_any 4 _ (by rw [HX.out]; omega) _).mono ?_; rintro e w2 ⟨rfl, hb2⟩; have hbw2 := hbw.trans (hb2.mono hbw.size); obtain ⟨q0, q1, q2, q3, f0, f1, f2, f3, hz⟩ := own4 (heap_below hb2 hz HH.out)))
  refine bodyPost_ret (v := .tuple #[.agg #[.int .i8 (4), .string (s.extract 0 (1)), .int .i64 (0), .int .i64 0], .int .i64 (0)]) (by simp [results, Tryz.results93, go_sem, *]) rfl ⟨rfl, ?_⟩
  exact below_set4 hbw2 (Nat.le_refl _) _ _ _ _

set_option maxHeartbeats 1000000 in
set_option maxRecDepth 100000 in
theorem first_none (s : ByteArray) (hs : s.size ≤ 281474976710656) (h0 : 0 < s.size)
    (hL : ∀ w : World, Calls Tryz.prog 95 #[.int .i32 ((s[0]).toNat : Int)] w fun e w' => e = .returned (.bool false) ∧ w = w')
    (hD : ∀ w : World, Calls Tryz.prog 97 #[.int .i32 ((s[0]).toNat : Int)] w fun e w' => e = .returned (.bool false) ∧ w = w')
    (hH : ∀ w : World, Calls Tryz.prog 99 #[.string s, .string ⟨#[45, 62]⟩] w fun e w' => e = .returned (.bool false) ∧ w = w')
    (hR : ∀ w : World, Calls Tryz.prog 100 #[.string ⟨#[92, 46, 58, 61, 40, 41, 91, 93, 123, 125, 44, 124, 43, 45, 42, 47, 60, 62, 63, 59]⟩, .int .i32 ((s[0]).toNat : Int)] w fun e w' => e = .returned (.bool false) ∧ Below w.heap.size w w')
     (w : World) :
    Calls Tryz.prog 93 #[.string s] w fun e w' => e = .returned (.tuple #[.agg #[.int .i8 (0), .string (s.extract 0 (1)), .int .i64 (0), .int .i64 0], .int .i64 (10)]) ∧ Below w.heap.size w w' := by
  have i0 : (0 : Int) < s.size := by omega
  have hw32 : wrap32 ((s[0]).toNat : Int) = ((s[0]).toNat : Int) := by have := (s[0]).toNat_lt; exact IntWalk.wrap32_in _ ⟨by omega, by omega⟩
  have hx : (s.extract 0 1).size = 1 := by simp; omega
  have HX := Lib.hid hx
  clear hx
  have i2 : (1 : Int) ≤ s.size := by omega
  go_enter Tryz.func93, Tryz.ntmps93
  go_wp2_with (first | (go_at_call 95; refine (hL _).mono ?_; rintro e w1 ⟨rfl, rfl⟩) | (go_at_call 97; refine (hD _).mono ?_; rintro e w1 ⟨rfl, rfl⟩) | (go_at_call 99; refine (hH _).mono ?_; rintro e w1 ⟨rfl, rfl⟩) | (go_at_call 100; refine (hR _).mono ?_; rintro e w1 ⟨rfl, hb⟩; have hbw := (res_facts hb).2; have HH := Lib.hid (res_facts hb).1; obtain ⟨q0, q1, q2, q3, f0, f1, f2, f3, hz⟩ := own4 HH.out) | (go_at_call 101; refine (word_any 0 _ (by rw [HX.out]; omega) _).mono ?_; rintro e w2 ⟨rfl, hb2⟩; have hbw2 := hbw.trans (hb2.mono hbw.size); obtain ⟨q0, q1, q2, q3, f0, f1, f2, f3, hz⟩ := own4 (heap_below hb2 hz HH.out)))
  refine bodyPost_ret (v := .tuple #[.agg #[.int .i8 (0), .string (s.extract 0 (1)), .int .i64 (0), .int .i64 0], .int .i64 (10)]) (by simp [results, Tryz.results93, go_sem, *]) rfl ⟨rfl, ?_⟩
  exact below_set4 hbw2 (Nat.le_refl _) _ _ _ _
end Go.Proofs.YtknhoagicdfikaaGreatDoor
namespace Go.Proofs.YtknhoagicdfikaaGreatDoor
open Go.RowKit

theorem Sc.spanN_pos (q : Int → Bool) (s : ByteArray) (h : 0 < s.size) (hq : q (Sc.hd s) = true) : 1 ≤ Sc.spanN q s.data.toList := by
  have hl : 0 < s.data.toList.length := by rw [Sc.data_len]; exact h
  refine Sc.spanN_more q _ 0 hl (Nat.zero_le _) ?_
  rw [Sc.get_data s 0 h hl, ← Sc.hd_eq s h]
  exact hq

theorem Sc.hasPrefix_two (l : List UInt8) (h : Lib.hasPrefix l [45, 62] = true) : 2 ≤ l.length := by
  match l with
  | [] => simp [Lib.hasPrefix] at h
  | [a] => simp [Lib.hasPrefix] at h
  | a :: b :: l => simp

theorem first_any (s : ByteArray) (hs : s.size ≤ 281474976710656) (h0 : 0 < s.size) (w : World) (tp : TypeId) (p : Value) (hvar : w.var? Tryz.prog "strconv.ErrRange" = some #[.iface tp p]) :
    Calls Tryz.prog 93 #[.string s] w fun e w' => e = .returned (.tuple #[.agg #[.int .i8 (Sc.fK s), .string (s.extract 0 (Sc.fN s)), .int .i64 (Sc.fV s), .int .i64 0], .int .i64 (Sc.fE s)]) ∧ Below w.heap.size w w' := by
  have hd := Sc.hd_eq s h0
  have hb : (s[0]).toNat < 256 := (s[0]).toNat_lt
  have hL := scan_letter_any ((s[0]).toNat : Int)
  have hD := scan_digit_any ((s[0]).toNat : Int)
  have hH := hasPrefix_flip s ⟨#[45, 62]⟩
  have hR := contains_any ((s[0]).toNat : Int) (by omega) (by omega)
  rw [← hd] at hL hD hR
  by_cases c1 : Sc.lett (Sc.hd s) = true
  · have e1 : Sc.fN s = Sc.spanN Sc.lord s.data.toList := by unfold Sc.fN; rw [if_pos c1]
    have e2 : Sc.fK s = Sc.nameKind (s.extract 0 (Sc.fN s)) (Sc.fN s) := by unfold Sc.fK; rw [if_pos c1]
    have e3 : Sc.fE s = Sc.nameErr (Sc.fN s) := by unfold Sc.fE; rw [if_pos c1]
    have e4 : Sc.fV s = 0 := by unfold Sc.fV; rw [if_pos c1]
    rw [e2, e3, e4, e1]
    rw [c1] at hL
    rw [hd] at hL
    exact first_name s h0 w _ _ _ _ hL fun w1 _ => name_any s hs w1
  · rw [Bool.not_eq_true] at c1
    by_cases c2 : Sc.digi (Sc.hd s) = true
    · have e1 : Sc.fN s = Sc.spanN Sc.digi s.data.toList := by unfold Sc.fN; rw [c1, if_neg (by decide), if_pos c2]
      have e2 : Sc.fK s = 2 := by unfold Sc.fK; rw [c1, if_neg (by decide), if_pos c2]
      have e3 : Sc.fE s = Sc.numErr s (Sc.fN s) := by unfold Sc.fE; rw [c1, if_neg (by decide), if_pos c2]
      have e4 : Sc.fV s = Sc.numNum s (Sc.fN s) := by unfold Sc.fV; rw [c1, if_neg (by decide), if_pos c2]
      rw [e2, e3, e4, e1]
      rw [c1, hd] at hL
      rw [c2, hd] at hD
      exact first_number s h0 w _ _ _ _ hL hD fun w1 hb => number_any s hs (Sc.spanN_pos _ s h0 c2) w1 tp p (var_at hb hvar)
    · rw [Bool.not_eq_true] at c2
      rw [c1, hd] at hL
      rw [c2, hd] at hD
      by_cases c3 : Lib.hasPrefix s.data.toList [45, 62] = true
      · have e1 : Sc.fN s = 2 := by unfold Sc.fN; rw [c1, c2, c3]; rfl
        have e2 : Sc.fK s = 4 := by unfold Sc.fK; rw [c1, c2, c3]; rfl
        have e3 : Sc.fE s = 0 := by unfold Sc.fE; rw [c1, c2, c3]; rfl
        have e4 : Sc.fV s = 0 := by unfold Sc.fV; rw [c1, c2]; rfl
        rw [e2, e3, e4, e1]
        have hH' : ∀ w : World, Calls Tryz.prog 99 #[.string s, .string ⟨#[45, 62]⟩] w fun e w' => e = .returned (.bool true) ∧ w = w' := by
          intro w
          have := hH w
          rw [show (⟨#[45, 62]⟩ : ByteArray).data.toList = [45, 62] from rfl, c3] at this
          exact this
        have h2 := Sc.hasPrefix_two _ c3
        rw [Sc.data_len] at h2
        exact first_arrow s hs h0 hL hD hH' h2 w
      · rw [Bool.not_eq_true] at c3
        have hH' : ∀ w : World, Calls Tryz.prog 99 #[.string s, .string ⟨#[45, 62]⟩] w fun e w' => e = .returned (.bool false) ∧ w = w' := by
          intro w
          have := hH w
          rw [show (⟨#[45, 62]⟩ : ByteArray).data.toList = [45, 62] from rfl, c3] at this
          exact this
        have e1 : Sc.fN s = 1 := by unfold Sc.fN; rw [c1, c2, c3]; rfl
        have e4 : Sc.fV s = 0 := by unfold Sc.fV; rw [c1, c2]; rfl
        by_cases c4 : Sc.isSign (Sc.hd s) = true
        · have e2 : Sc.fK s = 4 := by unfold Sc.fK; rw [c1, c2, c3, c4]; rfl
          have e3 : Sc.fE s = 0 := by unfold Sc.fE; rw [c1, c2, c3, c4]; rfl
          rw [e2, e3, e4, e1]
          rw [c4, hd] at hR
          exact first_sign s hs h0 hL hD hH' hR w
        · rw [Bool.not_eq_true] at c4
          have e2 : Sc.fK s = 0 := by unfold Sc.fK; rw [c1, c2, c3, c4]; rfl
          have e3 : Sc.fE s = 10 := by unfold Sc.fE; rw [c1, c2, c3, c4]; rfl
          rw [e2, e3, e4, e1]
          rw [c4, hd] at hR
          exact first_none s hs h0 hL hD hH' hR w

/-- whether a text is one name -/
def Sc.isName (s : ByteArray) : Bool := if s.size = 0 then false else decide (Sc.fE s = 0) && decide (Sc.fK s = 1) && decide (Sc.fN s = s.size)

theorem Sc.fN_le (s : ByteArray) (h0 : 0 < s.size) : Sc.fN s ≤ s.size := by
  have h1 := Sc.spanN_le Sc.lord s.data.toList
  have h2 := Sc.spanN_le Sc.digi s.data.toList
  rw [Sc.data_len] at h1 h2
  unfold Sc.fN
  split
  · exact h1
  · split
    · exact h2
    · split
      · rename_i h; have := Sc.hasPrefix_two _ h; rw [Sc.data_len] at this; exact this
      · omega

theorem Sc.extract_beq (s : ByteArray) (n : Nat) (h : n ≤ s.size) : ((s.extract 0 n).toList == s.toList) = decide (n = s.size) := by
  rw [Bool.eq_iff_iff, beq_iff_eq, decide_eq_true_iff, Lib.extract_toList, Lib.toList_data]
  have hl := Sc.data_len s
  constructor
  · intro h1
    have := congrArg List.length h1
    simp at this
    omega
  · rintro rfl
    simp [List.take_of_length_le]
end Go.Proofs.YtknhoagicdfikaaGreatDoor
namespace Go.Proofs.YtknhoagicdfikaaGreatDoor
open Go.RowKit

set_option maxHeartbeats 1000000 in
set_option maxRecDepth 100000 in
theorem scan_Name_of (s : ByteArray) (k v er : Int) (n : Nat) (w : World) (b1 b2 b3 : Bool) (h1 : (er == 0) = b1) (h2 : (k == 1) = b2) (h3 : ((s.extract 0 n).toList == s.toList) = b3)
    (he : s.toList.isEmpty = false)
    (hF : ∀ w1 : World, Below w.heap.size w w1 → Calls Tryz.prog 93 #[.string s] w1 fun e w' => e = .returned (.tuple #[.agg #[.int .i8 k, .string (s.extract 0 n), .int .i64 v, .int .i64 0], .int .i64 er]) ∧ Below w1.heap.size w1 w') :
    Calls Tryz.prog 82 #[.string s] w fun e w' => e = .returned (.bool (b1 && b2 && b3)) ∧ Below w.heap.size w w' := by
  have he2 : (s.toList == []) = false := by cases hq : s.toList <;> simp_all
  cases b1 <;> cases b2 <;> cases b3
  all_goals
    go_enter Tryz.func82, Tryz.ntmps82
    go_wp2_with (go_at_call 93; refine (hF _ (Below.refl _ _)).mono ?_; rintro e w1 ⟨rfl, hb⟩)
    go_ret
    exact ⟨rfl, hb.alloc hb.size _⟩

theorem scan_Name_any (s : ByteArray) (hs : s.size ≤ 281474976710656) (w : World) (tp : TypeId) (p : Value) (hvar : w.var? Tryz.prog "strconv.ErrRange" = some #[.iface tp p]) :
    Calls Tryz.prog 82 #[.string s] w fun e w' => e = .returned (.bool (Sc.isName s)) ∧ Below w.heap.size w w' := by
  by_cases h0 : s.size = 0
  · have hn : Sc.isName s = false := by unfold Sc.isName; rw [if_pos h0]
    have he : s.toList = [] := by rw [Lib.toList_data]; apply List.eq_nil_of_length_eq_zero; rw [Sc.data_len]; exact h0
    rw [hn]
    clear h0 hn
    have he1 : s.toList.isEmpty = true := by rw [he]; rfl
    clear he
    go_enter Tryz.func82, Tryz.ntmps82
    go_wp2_with fail
    go_ret
    exact ⟨rfl, Below.refl _ _⟩
  · have h1 : 0 < s.size := by omega
    have he : s.toList.isEmpty = false := by
      rw [Lib.toList_data]
      have := Sc.data_len s
      cases hq : s.data.toList with
      | nil => rw [hq] at this; simp at this; omega
      | cons a l => rfl
    have hle := Sc.fN_le s h1
    have := scan_Name_of s (Sc.fK s) (Sc.fV s) (Sc.fE s) (Sc.fN s) w _ _ _ rfl rfl rfl he fun w1 hb => first_any s hs h1 w1 tp p (var_at hb hvar)
    have e : Sc.isName s = ((Sc.fE s == 0) && (Sc.fK s == 1) && ((s.extract 0 (Sc.fN s)).toList == s.toList)) := by
      unfold Sc.isName
      rw [if_neg h0, Sc.extract_beq s _ hle]
      rfl
    rw [e]
    exact this
end Go.Proofs.YtknhoagicdfikaaGreatDoor
