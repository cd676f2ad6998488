/-
  scan.name: a letter, and letters and digits behind it. scan.number: digits; too great, with a 0 ahead or a letter behind: an error.
-/
import Derived.Test.YteefhebdfeaojaaGreatDoorWord
import Derived.Test.YteefhebdfeaojaaGreatDoorSpan
import Derived.Test.YteefhebdfeaojaaGreatDoorNum
import Derived.WalkSmall
namespace Go.Proofs.YteefhebdfeaojaaGreatDoor
open Go.RowKit

/-- what scan.name answers of n letters and digits t: kind, error -/
def Sc.nameKind (t : ByteArray) (n : Nat) : Int := if 64 < n then 1 else if Sc.isKey t then 3 else 1
def Sc.nameErr (n : Nat) : Int := if 64 < n then 3 else 0

theorem below_iter {w w1 : World} {o : Obj} {s : ByteArray} {pos : Nat} (hb : Below ((w.alloc o).iter s pos).heap.size ((w.alloc o).iter s pos) w1) : Below w.heap.size w w1 :=
  (((Below.refl _ _).alloc (Nat.le_refl _) _).alloc (by simp) _).trans (hb.mono (by simp [World.iter]; omega))

set_option maxHeartbeats 400000 in
theorem name_any (s : ByteArray) (hs : s.size ≤ 281474976710656) (w : World) :
    Calls Tryz.prog 74 #[.string s] w fun e w' => e = .returned (.tuple #[.agg #[.int .i8 (Sc.nameKind (s.extract 0 (Sc.spanN Sc.lord s.data.toList)) (Sc.spanN Sc.lord s.data.toList)), .string (s.extract 0 (Sc.spanN Sc.lord s.data.toList)), .int .i64 0, .int .i64 0], .int .i64 (Sc.nameErr (Sc.spanN Sc.lord s.data.toList))]) ∧ Below w.heap.size w w' := by
  have hle := Sc.spanN_le Sc.lord s.data.toList
  rw [Sc.data_len] at hle
  generalize hn : Sc.spanN Sc.lord s.data.toList = n at *
  have hx : (s.extract 0 n).size = n := by simp; omega
  have HX := Lib.hid hx
  clear hx
  have hsp := span_lord s
  rw [hn] at hsp
  clear hn
  by_cases h64 : 64 < n
  · have hk : Sc.nameKind (s.extract 0 n) n = 1 := by unfold Sc.nameKind; rw [if_pos h64]
    have he : Sc.nameErr n = 3 := by unfold Sc.nameErr; rw [if_pos h64]
    rw [hk, he]
    clear hk he
    go_enter Tryz.func74, Tryz.ntmps74
    go_wp2_with (first | (go_at_call 81; refine (hsp _).mono ?_; rintro e w' ⟨rfl, pos, rfl⟩) | (go_at_call 79; refine (word_any 1 _ (by rw [HX.out]; omega) _).mono ?_; rintro e w' ⟨rfl, hb⟩; obtain ⟨q0, q1, q2, q3, f0, f1, f2, f3, hz⟩ := own4 (heap_below hb (by simp [World.iter]; omega) (heap_old (heap_new w _) _)); have hbw := below_iter hb))
    refine bodyPost_ret (v := .tuple #[.agg #[.int .i8 1, .string (s.extract 0 n), .int .i64 0, .int .i64 0], .int .i64 3]) (by simp [results, Tryz.results74, go_sem, *]) rfl ⟨rfl, ?_⟩
    exact (below_set4 hbw (Nat.le_refl _) _ _ _ _).alloc (by simp; omega) _
  · have he : Sc.nameErr n = 0 := by unfold Sc.nameErr; rw [if_neg h64]
    cases hkey : Sc.isKey (s.extract 0 n)
    · have hk : Sc.nameKind (s.extract 0 n) n = 1 := by unfold Sc.nameKind; rw [if_neg h64, hkey]; rfl
      rw [hk, he]
      clear hk he
      have hkk := scan_Key_any (s.extract 0 n)
      rw [hkey] at hkk
      clear hkey
      go_enter Tryz.func74, Tryz.ntmps74
      go_wp2_with (first | (go_at_call 81; refine (hsp _).mono ?_; rintro e w' ⟨rfl, pos, rfl⟩) | (go_at_call 79; refine (word_any 1 _ (by rw [HX.out]; omega) _).mono ?_; rintro e w' ⟨rfl, hb⟩; obtain ⟨q0, q1, q2, q3, f0, f1, f2, f3, hz⟩ := own4 (heap_below hb (by simp [World.iter]; omega) (heap_old (heap_new w _) _)); have hbw := below_iter hb) | (go_at_call 83; refine (hkk _).mono ?_; rintro e w' ⟨rfl, rfl⟩))
      refine bodyPost_ret (v := .tuple #[.agg #[.int .i8 1, .string (s.extract 0 n), .int .i64 0, .int .i64 0], .int .i64 0]) (by simp [results, Tryz.results74, go_sem, *]) rfl ⟨rfl, ?_⟩
      exact (below_set4 hbw (Nat.le_refl _) _ _ _ _).alloc (by simp; omega) _
    · have hk : Sc.nameKind (s.extract 0 n) n = 3 := by unfold Sc.nameKind; rw [if_neg h64, hkey]; rfl
      rw [hk, he]
      clear hk he
      have hkk := scan_Key_any (s.extract 0 n)
      rw [hkey] at hkk
      clear hkey
      go_enter Tryz.func74, Tryz.ntmps74
      go_wp2_with (first | (go_at_call 81; refine (hsp _).mono ?_; rintro e w' ⟨rfl, pos, rfl⟩) | (go_at_call 79; refine (word_any 1 _ (by rw [HX.out]; omega) _).mono ?_; rintro e w' ⟨rfl, hb⟩; obtain ⟨q0, q1, q2, q3, f0, f1, f2, f3, hz⟩ := own4 (heap_below hb (by simp [World.iter]; omega) (heap_old (heap_new w _) _)); have hbw := below_iter hb) | (go_at_call 83; refine (hkk _).mono ?_; rintro e w' ⟨rfl, rfl⟩))
      refine bodyPost_ret (v := .tuple #[.agg #[.int .i8 3, .string (s.extract 0 n), .int .i64 0, .int .i64 0], .int .i64 0]) (by simp [results, Tryz.results74, go_sem, *]) rfl ⟨rfl, ?_⟩
      exact (below_set4 hbw (Nat.le_refl _) _ _ _ _).alloc (by simp; omega) _
end Go.Proofs.YteefhebdfeaojaaGreatDoor
namespace Go.Proofs.YteefhebdfeaojaaGreatDoor
open Go.RowKit

def Sc.numBad (s : ByteArray) (n : Nat) : Bool := (decide (1 < n) && decide (s.data.toList.head? = some 48)) || decide (0 < Sc.spanN Sc.lett (s.data.toList.drop n))
def Sc.numVal (s : ByteArray) (n : Nat) : Nat := Sc.numFrom 0 (s.data.toList.take n)
def Sc.numErr (s : ByteArray) (n : Nat) : Int := if 9223372036854775808 ≤ Sc.numVal s n then 3 else if Sc.numBad s n then 10 else 0
def Sc.numNum (s : ByteArray) (n : Nat) : Int := if Sc.numErr s n = 0 then Sc.numVal s n else 0

theorem below_iterN {w w1 : World} {o : Obj} {s : ByteArray} {pos nq : Nat} (hb : Below (((w.alloc o).iter s pos).drewN nq).heap.size (((w.alloc o).iter s pos).drewN nq) w1) : Below w.heap.size w w1 := by
  have h0 : Below w.heap.size w (((w.alloc o).iter s pos).drewN nq) := by
    have := (((Below.refl w.heap.size w).alloc (Nat.le_refl _) o).alloc (by simp) (.stringIter s pos))
    exact ⟨this.os, this.tape, this.output, this.size, this.block⟩
  exact h0.trans (hb.mono h0.size)

theorem var_at {P : Program} {W W' : World} {n : String} {cs : Array Value} (h : Below W.heap.size W W') (hv : W.var? P n = some cs) : W'.var? P n = some cs := by
  cases hg : P.globalNamed n with
  | none => unfold World.var? at hv; rw [hg] at hv; cases hv
  | some g =>
    refine var?_below h hg ?_ hv
    rcases Nat.lt_or_ge g W.heap.size with h1 | h1
    · exact h1
    · exfalso
      unfold World.var? at hv
      rw [hg] at hv
      simp [Array.getElem?_eq_none h1] at hv

theorem parse_ok (s : ByteArray) (hs : s.size ≤ 281474976710656) (v : Int) (h : Lib.parseIntB 64 s.data.toList = .ok v) (w : World) :
    Calls Tryz.prog 84 #[.string s, .int .i64 10, .int .i64 64] w fun e w' => e = .returned (.tuple #[.int .i64 v, .nilIface]) ∧ Below w.heap.size w w' := by
  refine (Tryz.strconv_ParseInt_10_at64_ok s (by omega) v h w).mono fun e w' => ?_
  rintro ⟨rfl, rfl | ⟨t, rfl⟩⟩
  · exact ⟨rfl, Below.refl _ _⟩
  · exact ⟨rfl, Lib.bytesWorld_below _ _ _⟩

set_option maxHeartbeats 1000000 in
theorem number_err (s : ByteArray) (hs : s.size ≤ 281474976710656) (n : Nat) (hle : n ≤ s.size) (h1 : 1 ≤ n)
    (hsp : ∀ w : World, Calls Tryz.prog 81 #[.string s, .func (.func 75) #[] #[]] w fun e w' => e = .returned (.int .i64 n) ∧ ∃ pos, w' = w.iter s pos)
    (hr : Lib.parseIntB 64 (s.extract 0 n).data.toList = .range) (w : World) (tp : TypeId) (p : Value) (hvar : w.var? Tryz.prog "strconv.ErrRange" = some #[.iface tp p]) :
    Calls Tryz.prog 76 #[.string s] w fun e w' => e = .returned (.tuple #[.agg #[.int .i8 2, .string (s.extract 0 n), .int .i64 0, .int .i64 0], .int .i64 3]) ∧ Below w.heap.size w w' := by
  have hx : (s.extract 0 n).size = n := by simp; omega
  have HX := Lib.hid hx
  clear hx
  have i1 : (n : Int) ≤ s.size := by omega
  have i2 : (0 : Int) ≤ n := by omega
  have HV := Lib.hid hvar
  clear hvar
  go_enter Tryz.func76, Tryz.ntmps76
  go_wp2_with (go_at_call 81; refine (hsp _).mono ?_; rintro e w' ⟨rfl, pos, rfl⟩)
  go_quiet (fail)
  go_wp2_with (first | (go_at_call 79; refine (word_any 2 _ (by rw [HX.out]; omega) _).mono ?_; rintro e w1 ⟨rfl, hb⟩; have H1 := Lib.hid (heap_below hb (by simp [World.iter]; omega) (heap_old (heap_new w _) _)); obtain ⟨q0, q1, q2, q3, f0, f1, f2, f3, hz⟩ := own4 H1.out; have hbw := below_iterN hb) | (go_at_call 84; refine (Tryz.strconv_ParseInt_10_at64_range_var _ (by rw [HX.out]; omega) hr tp p _ (var_at (hbw.alloc hbw.size _) HV.out)).mono ?_; rintro e w2 ⟨N, rfl, _, _, hb2⟩; have hbw2 := (hbw.alloc hbw.size _).trans (hb2.mono (by have := hbw.size; simp; omega)); have H2 := Lib.hid (heap_below hb2 (by simp; omega) (heap_old H1.out _)); have H3 := Lib.hid (heap_below hb2 (by simp) (heap_new w1 _)); obtain ⟨q0, q1, q2, q3, f0, f1, f2, f3, hz⟩ := own4 H2.out; obtain ⟨p0, p1, p2, p3, g0, g1, g2, g3, hy⟩ := own4 H3.out))
  refine bodyPost_ret (v := .tuple #[.agg #[.int .i8 2, .string (s.extract 0 n), .int .i64 0, .int .i64 0], .int .i64 3]) (by simp [results, Tryz.results76, go_sem, *]) rfl ⟨rfl, ?_⟩
  exact (below_set4 hbw2 (Nat.le_refl _) _ _ _ _)

set_option maxHeartbeats 1000000 in
theorem number_zero (s : ByteArray) (hs : s.size ≤ 281474976710656) (n : Nat) (hle : n ≤ s.size) (h1 : 1 ≤ n)
    (hsp : ∀ w : World, Calls Tryz.prog 81 #[.string s, .func (.func 75) #[] #[]] w fun e w' => e = .returned (.int .i64 n) ∧ ∃ pos, w' = w.iter s pos)
    (v : Int) (hr : Lib.parseIntB 64 (s.extract 0 n).data.toList = .ok v) (hx0 : 0 < (s.extract 0 n).size) (hn2 : 1 < n) (hd : ((((s.extract 0 n)[0]'hx0).toNat : Int) == 48) = true) (w : World) (tp : TypeId) (p : Value) (hvar : w.var? Tryz.prog "strconv.ErrRange" = some #[.iface tp p]) :
    Calls Tryz.prog 76 #[.string s] w fun e w' => e = .returned (.tuple #[.agg #[.int .i8 2, .string (s.extract 0 n), .int .i64 0, .int .i64 0], .int .i64 10]) ∧ Below w.heap.size w w' := by
  have hx : (s.extract 0 n).size = n := by simp; omega
  have HX := Lib.hid hx
  clear hx
  have i1 : (n : Int) ≤ s.size := by omega
  have i2 : (0 : Int) ≤ n := by omega
  have HV := Lib.hid hvar
  clear hvar
  go_enter Tryz.func76, Tryz.ntmps76
  go_wp2_with (go_at_call 81; refine (hsp _).mono ?_; rintro e w' ⟨rfl, pos, rfl⟩)
  go_quiet (fail)
  go_wp2_with (first | (go_at_call 79; refine (word_any 2 _ (by rw [HX.out]; omega) _).mono ?_; rintro e w1 ⟨rfl, hb⟩; have H1 := Lib.hid (heap_below hb (by simp [World.iter]; omega) (heap_old (heap_new w _) _)); obtain ⟨q0, q1, q2, q3, f0, f1, f2, f3, hz⟩ := own4 H1.out; have hbw := below_iterN hb) | (go_at_call 84; refine (parse_ok _ (by rw [HX.out]; omega) v hr _).mono ?_; rintro e w2 ⟨rfl, hb2⟩; have hbw2 := (hbw.alloc hbw.size _).trans (hb2.mono (by have := hbw.size; simp; omega)); have H2 := Lib.hid (heap_below hb2 (by simp; omega) (heap_old H1.out _)); have H3 := Lib.hid (heap_below hb2 (by simp) (heap_new w1 _)); obtain ⟨q0, q1, q2, q3, f0, f1, f2, f3, hz⟩ := own4 H2.out; obtain ⟨p0, p1, p2, p3, g0, g1, g2, g3, hy⟩ := own4 H3.out))
  clear hd
  refine bodyPost_ret (v := .tuple #[.agg #[.int .i8 2, .string (s.extract 0 n), .int .i64 0, .int .i64 0], .int .i64 10]) (by simp [results, Tryz.results76, go_sem, *]) rfl ⟨rfl, ?_⟩
  exact (below_set4 hbw2 (Nat.le_refl _) _ _ _ _)

set_option maxHeartbeats 1000000 in
theorem number_letter1 (s : ByteArray) (_hs : s.size ≤ 281474976710656) (n : Nat) (hle : n ≤ s.size) (h1 : 1 ≤ n)
    (hsp : ∀ w : World, Calls Tryz.prog 81 #[.string s, .func (.func 75) #[] #[]] w fun e w' => e = .returned (.int .i64 n) ∧ ∃ pos, w' = w.iter s pos)
    (v : Int) (hr : Lib.parseIntB 64 (s.extract 0 n).data.toList = .ok v) (m : Nat) (hm : 0 < m)
    (hsl : ∀ w : World, Calls Tryz.prog 81 #[.string (s.extract n s.size), .func (.func 73) #[] #[]] w fun e w' => e = .returned (.int .i64 m) ∧ Below w.heap.size w w') (hn2 : ¬ 1 < n) (w : World) (tp : TypeId) (p : Value) (hvar : w.var? Tryz.prog "strconv.ErrRange" = some #[.iface tp p]) :
    Calls Tryz.prog 76 #[.string s] w fun e w' => e = .returned (.tuple #[.agg #[.int .i8 2, .string (s.extract 0 n), .int .i64 0, .int .i64 0], .int .i64 10]) ∧ Below w.heap.size w w' := by
  have hx : (s.extract 0 n).size = n := by simp; omega
  have HX := Lib.hid hx
  clear hx
  have i1 : (n : Int) ≤ s.size := by omega
  have i2 : (0 : Int) ≤ n := by omega
  have HV := Lib.hid hvar
  clear hvar
  go_enter Tryz.func76, Tryz.ntmps76
  go_wp2_with (go_at_call 81; refine (hsp _).mono ?_; rintro e w' ⟨rfl, pos, rfl⟩)
  go_quiet (fail)
  go_wp2_with (first | (go_at_call 79; refine (word_any 2 _ (by rw [HX.out]; omega) _).mono ?_; rintro e w1 ⟨rfl, hb⟩; have H1 := Lib.hid (heap_below hb (by simp [World.iter]; omega) (heap_old (heap_new w _) _)); obtain ⟨q0, q1, q2, q3, f0, f1, f2, f3, hz⟩ := own4 H1.out; have hbw := below_iterN hb) | (go_at_call 84; refine (parse_ok _ (by rw [HX.out]; omega) v hr _).mono ?_; rintro e w2 ⟨rfl, hb2⟩; have hbw2 := (hbw.alloc hbw.size _).trans (hb2.mono (by have := hbw.size; simp; omega)); have H2 := Lib.hid (heap_below hb2 (by simp; omega) (heap_old H1.out _)); have H3 := Lib.hid (heap_below hb2 (by simp) (heap_new w1 _)); obtain ⟨q0, q1, q2, q3, f0, f1, f2, f3, hz⟩ := own4 H2.out; obtain ⟨p0, p1, p2, p3, g0, g1, g2, g3, hy⟩ := own4 H3.out) | (go_at_call 81; refine (hsl _).mono ?_; rintro e w3 ⟨rfl, hb3⟩; have hbw3 := hbw2.trans (hb3.mono hbw2.size); obtain ⟨q0, q1, q2, q3, f0, f1, f2, f3, hz⟩ := own4 (heap_below hb3 hz H2.out); obtain ⟨p0, p1, p2, p3, g0, g1, g2, g3, hy⟩ := own4 (heap_below hb3 hy H3.out)))
  refine bodyPost_ret (v := .tuple #[.agg #[.int .i8 2, .string (s.extract 0 n), .int .i64 0, .int .i64 0], .int .i64 10]) (by simp [results, Tryz.results76, go_sem, *]) rfl ⟨rfl, ?_⟩
  exact (below_set4 hbw3 (Nat.le_refl _) _ _ _ _)

set_option maxHeartbeats 1000000 in
theorem number_letter2 (s : ByteArray) (hs : s.size ≤ 281474976710656) (n : Nat) (hle : n ≤ s.size) (h1 : 1 ≤ n)
    (hsp : ∀ w : World, Calls Tryz.prog 81 #[.string s, .func (.func 75) #[] #[]] w fun e w' => e = .returned (.int .i64 n) ∧ ∃ pos, w' = w.iter s pos)
    (v : Int) (hr : Lib.parseIntB 64 (s.extract 0 n).data.toList = .ok v) (m : Nat) (hm : 0 < m)
    (hsl : ∀ w : World, Calls Tryz.prog 81 #[.string (s.extract n s.size), .func (.func 73) #[] #[]] w fun e w' => e = .returned (.int .i64 m) ∧ Below w.heap.size w w') (hx0 : 0 < (s.extract 0 n).size) (hn2 : 1 < n) (hd : ((((s.extract 0 n)[0]'hx0).toNat : Int) == 48) = false) (w : World) (tp : TypeId) (p : Value) (hvar : w.var? Tryz.prog "strconv.ErrRange" = some #[.iface tp p]) :
    Calls Tryz.prog 76 #[.string s] w fun e w' => e = .returned (.tuple #[.agg #[.int .i8 2, .string (s.extract 0 n), .int .i64 0, .int .i64 0], .int .i64 10]) ∧ Below w.heap.size w w' := by
  have hx : (s.extract 0 n).size = n := by simp; omega
  have HX := Lib.hid hx
  clear hx
  have i1 : (n : Int) ≤ s.size := by omega
  have i2 : (0 : Int) ≤ n := by omega
  have HV := Lib.hid hvar
  clear hvar
  go_enter Tryz.func76, Tryz.ntmps76
  go_wp2_with (go_at_call 81; refine (hsp _).mono ?_; rintro e w' ⟨rfl, pos, rfl⟩)
  go_quiet (fail)
  go_wp2_with (first | (go_at_call 79; refine (word_any 2 _ (by rw [HX.out]; omega) _).mono ?_; rintro e w1 ⟨rfl, hb⟩; have H1 := Lib.hid (heap_below hb (by simp [World.iter]; omega) (heap_old (heap_new w _) _)); obtain ⟨q0, q1, q2, q3, f0, f1, f2, f3, hz⟩ := own4 H1.out; have hbw := below_iterN hb) | (go_at_call 84; refine (parse_ok _ (by rw [HX.out]; omega) v hr _).mono ?_; rintro e w2 ⟨rfl, hb2⟩; have hbw2 := (hbw.alloc hbw.size _).trans (hb2.mono (by have := hbw.size; simp; omega)); have H2 := Lib.hid (heap_below hb2 (by simp; omega) (heap_old H1.out _)); have H3 := Lib.hid (heap_below hb2 (by simp) (heap_new w1 _)); obtain ⟨q0, q1, q2, q3, f0, f1, f2, f3, hz⟩ := own4 H2.out; obtain ⟨p0, p1, p2, p3, g0, g1, g2, g3, hy⟩ := own4 H3.out) | (go_at_call 81; refine (hsl _).mono ?_; rintro e w3 ⟨rfl, hb3⟩; have hbw3 := hbw2.trans (hb3.mono hbw2.size); obtain ⟨q0, q1, q2, q3, f0, f1, f2, f3, hz⟩ := own4 (heap_below hb3 hz H2.out); obtain ⟨p0, p1, p2, p3, g0, g1, g2, g3, hy⟩ := own4 (heap_below hb3 hy H3.out)))
  clear hd
  refine bodyPost_ret (v := .tuple #[.agg #[.int .i8 2, .string (s.extract 0 n), .int .i64 0, .int .i64 0], .int .i64 10]) (by simp [results, Tryz.results76, go_sem, *]) rfl ⟨rfl, ?_⟩
  exact (below_set4 hbw3 (Nat.le_refl _) _ _ _ _)

set_option maxHeartbeats 1000000 in
theorem number_ok1 (s : ByteArray) (_hs : s.size ≤ 281474976710656) (n : Nat) (hle : n ≤ s.size) (h1 : 1 ≤ n)
    (hsp : ∀ w : World, Calls Tryz.prog 81 #[.string s, .func (.func 75) #[] #[]] w fun e w' => e = .returned (.int .i64 n) ∧ ∃ pos, w' = w.iter s pos)
    (v : Int) (hr : Lib.parseIntB 64 (s.extract 0 n).data.toList = .ok v)
    (hsl : ∀ w : World, Calls Tryz.prog 81 #[.string (s.extract n s.size), .func (.func 73) #[] #[]] w fun e w' => e = .returned (.int .i64 0) ∧ Below w.heap.size w w') (hn2 : ¬ 1 < n) (w : World) (tp : TypeId) (p : Value) (hvar : w.var? Tryz.prog "strconv.ErrRange" = some #[.iface tp p]) :
    Calls Tryz.prog 76 #[.string s] w fun e w' => e = .returned (.tuple #[.agg #[.int .i8 2, .string (s.extract 0 n), .int .i64 v, .int .i64 0], .int .i64 0]) ∧ Below w.heap.size w w' := by
  have hx : (s.extract 0 n).size = n := by simp; omega
  have HX := Lib.hid hx
  clear hx
  have i1 : (n : Int) ≤ s.size := by omega
  have i2 : (0 : Int) ≤ n := by omega
  have HV := Lib.hid hvar
  clear hvar
  go_enter Tryz.func76, Tryz.ntmps76
  go_wp2_with (go_at_call 81; refine (hsp _).mono ?_; rintro e w' ⟨rfl, pos, rfl⟩)
  go_quiet (fail)
  go_wp2_with (first | (go_at_call 79; refine (word_any 2 _ (by rw [HX.out]; omega) _).mono ?_; rintro e w1 ⟨rfl, hb⟩; have H1 := Lib.hid (heap_below hb (by simp [World.iter]; omega) (heap_old (heap_new w _) _)); obtain ⟨q0, q1, q2, q3, f0, f1, f2, f3, hz⟩ := own4 H1.out; have hbw := below_iterN hb) | (go_at_call 84; refine (parse_ok _ (by rw [HX.out]; omega) v hr _).mono ?_; rintro e w2 ⟨rfl, hb2⟩; have hbw2 := (hbw.alloc hbw.size _).trans (hb2.mono (by have := hbw.size; simp; omega)); have H2 := Lib.hid (heap_below hb2 (by simp; omega) (heap_old H1.out _)); have H3 := Lib.hid (heap_below hb2 (by simp) (heap_new w1 _)); obtain ⟨q0, q1, q2, q3, f0, f1, f2, f3, hz⟩ := own4 H2.out; obtain ⟨p0, p1, p2, p3, g0, g1, g2, g3, hy⟩ := own4 H3.out) | (go_at_call 81; refine (hsl _).mono ?_; rintro e w3 ⟨rfl, hb3⟩; have hbw3 := hbw2.trans (hb3.mono hbw2.size); obtain ⟨q0, q1, q2, q3, f0, f1, f2, f3, hz⟩ := own4 (heap_below hb3 hz H2.out); obtain ⟨p0, p1, p2, p3, g0, g1, g2, g3, hy⟩ := own4 (heap_below hb3 hy H3.out)))
  refine bodyPost_ret (v := .tuple #[.agg #[.int .i8 2, .string (s.extract 0 n), .int .i64 v, .int .i64 0], .int .i64 0]) (by simp [results, Tryz.results76, go_sem, *]) rfl ⟨rfl, ?_⟩
  exact (below_set4 (hbw3.setCell hbw.size _) (Nat.le_refl _) _ _ _ _)

set_option maxHeartbeats 1000000 in
theorem number_ok2 (s : ByteArray) (hs : s.size ≤ 281474976710656) (n : Nat) (hle : n ≤ s.size) (h1 : 1 ≤ n)
    (hsp : ∀ w : World, Calls Tryz.prog 81 #[.string s, .func (.func 75) #[] #[]] w fun e w' => e = .returned (.int .i64 n) ∧ ∃ pos, w' = w.iter s pos)
    (v : Int) (hr : Lib.parseIntB 64 (s.extract 0 n).data.toList = .ok v)
    (hsl : ∀ w : World, Calls Tryz.prog 81 #[.string (s.extract n s.size), .func (.func 73) #[] #[]] w fun e w' => e = .returned (.int .i64 0) ∧ Below w.heap.size w w') (hx0 : 0 < (s.extract 0 n).size) (hn2 : 1 < n) (hd : ((((s.extract 0 n)[0]'hx0).toNat : Int) == 48) = false) (w : World) (tp : TypeId) (p : Value) (hvar : w.var? Tryz.prog "strconv.ErrRange" = some #[.iface tp p]) :
    Calls Tryz.prog 76 #[.string s] w fun e w' => e = .returned (.tuple #[.agg #[.int .i8 2, .string (s.extract 0 n), .int .i64 v, .int .i64 0], .int .i64 0]) ∧ Below w.heap.size w w' := by
  have hx : (s.extract 0 n).size = n := by simp; omega
  have HX := Lib.hid hx
  clear hx
  have i1 : (n : Int) ≤ s.size := by omega
  have i2 : (0 : Int) ≤ n := by omega
  have HV := Lib.hid hvar
  clear hvar
  go_enter Tryz.func76, Tryz.ntmps76
  go_wp2_with (go_at_call 81; refine (hsp _).mono ?_; rintro e w' ⟨rfl, pos, rfl⟩)
  go_quiet (fail)
  go_wp2_with (first | (go_at_call 79; refine (word_any 2 _ (by rw [HX.out]; omega) _).mono ?_; rintro e w1 ⟨rfl, hb⟩; have H1 := Lib.hid (heap_below hb (by simp [World.iter]; omega) (heap_old (heap_new w _) _)); obtain ⟨q0, q1, q2, q3, f0, f1, f2, f3, hz⟩ := own4 H1.out; have hbw := below_iterN hb) | (go_at_call 84; refine (parse_ok _ (by rw [HX.out]; omega) v hr _).mono ?_; rintro e w2 ⟨rfl, hb2⟩; have hbw2 := (hbw.alloc hbw.size _).trans (hb2.mono (by have := hbw.size; simp; omega)); have H2 := Lib.hid (heap_below hb2 (by simp; omega) (heap_old H1.out _)); have H3 := Lib.hid (heap_below hb2 (by simp) (heap_new w1 _)); obtain ⟨q0, q1, q2, q3, f0, f1, f2, f3, hz⟩ := own4 H2.out; obtain ⟨p0, p1, p2, p3, g0, g1, g2, g3, hy⟩ := own4 H3.out) | (go_at_call 81; refine (hsl _).mono ?_; rintro e w3 ⟨rfl, hb3⟩; have hbw3 := hbw2.trans (hb3.mono hbw2.size); obtain ⟨q0, q1, q2, q3, f0, f1, f2, f3, hz⟩ := own4 (heap_below hb3 hz H2.out); obtain ⟨p0, p1, p2, p3, g0, g1, g2, g3, hy⟩ := own4 (heap_below hb3 hy H3.out)))
  clear hd
  refine bodyPost_ret (v := .tuple #[.agg #[.int .i8 2, .string (s.extract 0 n), .int .i64 v, .int .i64 0], .int .i64 0]) (by simp [results, Tryz.results76, go_sem, *]) rfl ⟨rfl, ?_⟩
  exact (below_set4 (hbw3.setCell hbw.size _) (Nat.le_refl _) _ _ _ _)

theorem Sc.extract_head (s : ByteArray) (n : Nat) (h : 1 ≤ n) (hle : n ≤ s.size) (hx0 : 0 < (s.extract 0 n).size) : s.data.toList.head? = some ((s.extract 0 n)[0]'hx0) := by
  have h0 : 0 < s.size := by omega
  have e : (s.extract 0 n)[0]'hx0 = s[0]'h0 := by rw [ByteArray.getElem_extract]
  rw [e, ← Sc.get_data s 0 h0 (by rw [Sc.data_len]; exact h0)]
  rw [List.head?_eq_getElem?, List.getElem?_eq_getElem]

theorem number_any (s : ByteArray) (hs : s.size ≤ 281474976710656) (h1 : 1 ≤ Sc.spanN Sc.digi s.data.toList) (w : World) (tp : TypeId) (p : Value) (hvar : w.var? Tryz.prog "strconv.ErrRange" = some #[.iface tp p]) :
    Calls Tryz.prog 76 #[.string s] w fun e w' => e = .returned (.tuple #[.agg #[.int .i8 2, .string (s.extract 0 (Sc.spanN Sc.digi s.data.toList)), .int .i64 (Sc.numNum s (Sc.spanN Sc.digi s.data.toList)), .int .i64 0], .int .i64 (Sc.numErr s (Sc.spanN Sc.digi s.data.toList))]) ∧ Below w.heap.size w w' := by
  have hle := Sc.spanN_le Sc.digi s.data.toList
  rw [Sc.data_len] at hle
  have hsp := span_digit s
  have hall := Sc.allDigi_take s.data.toList
  generalize hn : Sc.spanN Sc.digi s.data.toList = n at *
  have hx : (s.extract 0 n).size = n := by simp; omega
  have hx0 : 0 < (s.extract 0 n).size := by omega
  have hxd : (s.extract 0 n).data.toList = s.data.toList.take n := by rw [Lib.extract_data]; simp
  have hlen : (s.data.toList.take n).length = n := by simp; omega
  have hp := Sc.parse64 (s.data.toList.take n) (by intro h; rw [h] at hlen; simp at hlen; omega) hall
  rw [← hxd] at hp
  have hv : Sc.numFrom 0 (s.extract 0 n).data.toList = Sc.numVal s n := by rw [hxd]; rfl
  rw [hv] at hp
  by_cases hb : Sc.numVal s n < 9223372036854775808
  · rw [if_pos hb] at hp
    have hb' : ¬ 9223372036854775808 ≤ Sc.numVal s n := by omega
    have hdl : (s.extract n s.size).data.toList = s.data.toList.drop n := by rw [Lib.extract_data]; exact List.take_of_length_le (by simp)
    have hsl : ∀ w : World, Calls Tryz.prog 81 #[.string (s.extract n s.size), .func (.func 73) #[] #[]] w fun e w' => e = .returned (.int .i64 (Sc.spanN Sc.lett (s.data.toList.drop n))) ∧ Below w.heap.size w w' := by
      intro w
      rw [← hdl]
      refine (span_letter _ w).mono fun e w' => ?_
      rintro ⟨rfl, pos, rfl⟩
      exact ⟨rfl, (Below.refl _ _).alloc (Nat.le_refl _) _⟩
    have hh := Sc.extract_head s n h1 hle hx0
    have bad_of : ∀ b, Sc.numBad s n = b → Sc.numErr s n = (if b then 10 else 0) ∧ Sc.numNum s n = if b then 0 else (Sc.numVal s n : Int) := by
      intro b hbb
      have : Sc.numErr s n = (if b then 10 else 0) := by unfold Sc.numErr; rw [if_neg hb', hbb]
      refine ⟨this, ?_⟩
      unfold Sc.numNum
      rw [this]
      cases b <;> simp
    by_cases hm : 0 < Sc.spanN Sc.lett (s.data.toList.drop n)
    · have hbad : Sc.numBad s n = true := by unfold Sc.numBad; simp [hm]
      obtain ⟨e1, e2⟩ := bad_of true hbad
      rw [e1, e2]
      by_cases h2 : 1 < n
      · cases h48 : ((((s.extract 0 n)[0]'hx0).toNat : Int) == 48)
        · exact number_letter2 s hs n hle h1 hsp _ hp _ hm hsl hx0 h2 h48 w tp p hvar
        · exact number_zero s hs n hle h1 hsp _ hp hx0 h2 h48 w tp p hvar
      · exact number_letter1 s hs n hle h1 hsp _ hp _ hm hsl h2 w tp p hvar
    · have hm0 : Sc.spanN Sc.lett (s.data.toList.drop n) = 0 := by omega
      rw [hm0] at hsl
      by_cases h2 : 1 < n
      · cases h48 : ((((s.extract 0 n)[0]'hx0).toNat : Int) == 48)
        · have hbad : Sc.numBad s n = false := by
            unfold Sc.numBad
            have : ¬ s.data.toList.head? = some 48 := by
              rw [hh]; intro h; injection h with h; rw [h] at h48; simp at h48
            simp [hm0, this]
          obtain ⟨e1, e2⟩ := bad_of false hbad
          rw [e1, e2]
          exact number_ok2 s hs n hle h1 hsp _ hp hsl hx0 h2 h48 w tp p hvar
        · have hbad : Sc.numBad s n = true := by
            unfold Sc.numBad
            have : s.data.toList.head? = some 48 := by
              rw [hh]; congr 1; apply UInt8.toNat_inj.1; have := beq_iff_eq.1 h48; show _ = 48; omega
            simp [this, h2]
          obtain ⟨e1, e2⟩ := bad_of true hbad
          rw [e1, e2]
          exact number_zero s hs n hle h1 hsp _ hp hx0 h2 h48 w tp p hvar
      · have hbad : Sc.numBad s n = false := by unfold Sc.numBad; simp [hm0, h2]
        obtain ⟨e1, e2⟩ := bad_of false hbad
        rw [e1, e2]
        exact number_ok1 s hs n hle h1 hsp _ hp hsl h2 w tp p hvar
  · rw [if_neg hb] at hp
    have e1 : Sc.numErr s n = 3 := by unfold Sc.numErr; rw [if_pos (by omega)]
    have e2 : Sc.numNum s n = 0 := by unfold Sc.numNum; rw [e1]; rfl
    rw [e1, e2]
    exact number_err s hs n hle h1 hsp hp w tp p hvar
end Go.Proofs.YteefhebdfeaojaaGreatDoor
