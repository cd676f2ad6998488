import Derived.Test.YtepmjknljbafgaaGreatDoorWord
import Derived.Test.YtepmjknljbafgaaGreatDoorM4
import Derived.Test.YtepmjknljbafgaaGreatDoorNum
import Derived.WalkSmall
import Derived.Test.YtepmjknljbafgaaGreatDoorRune
namespace Go.Proofs.YtepmjknljbafgaaGreatDoor
open Go.RowKit
theorem zI9 {P : Prop} (h : P := by
  have : 0 < r.data.toList.length := by rw [zZ]; exact h0
  cases hl : r.data.toList with
  | nil => rw [hl] at this; simp at this
  | cons a l => rw [show fN r = (fN r - 1) + 1 by omega, List.take_succ_cons]; rfl) : P := h
theorem zI7 {P : Prop} (h : P := by
  refine bodyPost_ret (v := .tuple #[.agg #[.int .i8 2, .string (s.extract 0 n), .int .i64 v, .int .i64 0], .int .i64 0]) (by simp [results, Tryz.results57, go_sem, *]) rfl ⟨rfl, ?_⟩
  exact (zw (hbw3.setCell hbw.size _) (Nat.le_refl _) _ _ _ _)) : P := h
theorem zI4 {P : Prop} (h : P := by
  refine bodyPost_ret (v := .tuple #[.agg #[.int .i8 (k), .string (s.extract 0 (n)), .int .i64 (v), .int .i64 0], .int .i64 (er)]) (by simp [results, Tryz.results30, go_sem, *]) rfl ⟨rfl, ?_⟩
  exact zw hbw (Nat.le_refl _) _ _ _ _) : P := h
theorem zI2 {P : Prop} (h : P := by
  refine bodyPost_ret (v := .tuple #[.agg #[.int .i8 2, .string (s.extract 0 n), .int .i64 0, .int .i64 0], .int .i64 10]) (by simp [results, Tryz.results57, go_sem, *]) rfl ⟨rfl, ?_⟩
  exact (zw hbw3 (Nat.le_refl _) _ _ _ _)) : P := h
theorem zGf {P : Prop} (h : P := by
  rcases Nat.lt_or_ge g W.heap.size with h1 | h1
  · exact h1
  · exfalso
    unfold World.var? at hv;rw [hg] at hv
    simp [Array.getElem?_eq_none h1] at hv) : P := h
theorem zGd {P : Prop} (h : P := by
  intro w;have := hH w;rw [show (⟨#[45, 62]⟩ : ByteArray).data.toList = [45, 62] from rfl, c3] at this
  exact this) : P := h
def Sc.nameKind (t : ByteArray) (n : Nat) : Int := if 64 < n then 1 else if Sc.isKey t then 3 else 1
def Sc.nameErr (n : Nat) : Int := if 64 < n then 3 else 0
theorem ve {w w1 : World} {o : Obj} {s : ByteArray} {pos : Nat} (hb : Below ((w.alloc o).iter s pos).heap.size ((w.alloc o).iter s pos) w1) : Below w.heap.size w w1 :=
  (((Below.refl _ _).alloc (Nat.le_refl _) _).alloc (by simp) _).trans (hb.mono (by simp [World.iter]; omega))
set_option maxHeartbeats 400000 in
theorem zEZ (s : ByteArray) (hs : s.size <= 281474976710656) (w : World) :
    Calls Tryz.prog 55 #[.string s] w fun e w' => e = .returned (.tuple #[.agg #[.int .i8 (Sc.nameKind (s.extract 0 (Sc.spanN Sc.lord s.data.toList)) (Sc.spanN Sc.lord s.data.toList)), .string (s.extract 0 (Sc.spanN Sc.lord s.data.toList)), .int .i64 0, .int .i64 0], .int .i64 (Sc.nameErr (Sc.spanN Sc.lord s.data.toList))]) /\ Below w.heap.size w w' := by
  have hle := Sc.qg Sc.lord s.data.toList;rw [Sc.zZ] at hle;generalize hn : Sc.spanN Sc.lord s.data.toList = n at *;have hx : (s.extract 0 n).size = n := by simp; omega
  have HX := k0_ hx;clear hx;have hsp := zCn s;rw [hn] at hsp;clear hn
  by_cases h64 : 64 < n
  · have hk : Sc.nameKind (s.extract 0 n) n = 1 := by unfold Sc.nameKind; rw [if_pos h64]
    have he : Sc.nameErr n = 3 := by unfold Sc.nameErr; rw [if_pos h64]
    rw [hk, he];clear hk he
    go_enter Tryz.func55, Tryz.ntmps55
    go_wp2_with (first | (go_at_call 52; refine (hsp _).mono ?_; rintro e w' ⟨rfl, pos, rfl⟩) | (go_at_call 60; refine (qK 1 _ (by rw [HX.out]; omega) _).mono ?_; rintro e w' ⟨rfl, hb⟩; obtain ⟨q0, q1, q2, q3, f0, f1, f2, f3, hz⟩ := zV (zB hb (by simp [World.iter]; omega) (zG (zF w _) _)); have hbw := ve hb))
    refine bodyPost_ret (v := .tuple #[.agg #[.int .i8 1, .string (s.extract 0 n), .int .i64 0, .int .i64 0], .int .i64 3]) (by simp [results, Tryz.results55, go_sem, *]) rfl ⟨rfl, ?_⟩;exact (zw hbw (Nat.le_refl _) _ _ _ _).alloc (by simp; omega) _
  · have he : Sc.nameErr n = 0 := by unfold Sc.nameErr; rw [if_neg h64]
    cases hkey : Sc.isKey (s.extract 0 n)
    · have hk : Sc.nameKind (s.extract 0 n) n = 1 := by unfold Sc.nameKind; rw [if_neg h64, hkey]; rfl
      rw [hk, he];clear hk he;have hkk := jZ (s.extract 0 n);rw [hkey] at hkk;clear hkey
      go_enter Tryz.func55, Tryz.ntmps55
      go_wp2_with (first | (go_at_call 52; refine (hsp _).mono ?_; rintro e w' ⟨rfl, pos, rfl⟩) | (go_at_call 60; refine (qK 1 _ (by rw [HX.out]; omega) _).mono ?_; rintro e w' ⟨rfl, hb⟩; obtain ⟨q0, q1, q2, q3, f0, f1, f2, f3, hz⟩ := zV (zB hb (by simp [World.iter]; omega) (zG (zF w _) _)); have hbw := ve hb) | (go_at_call 81; refine (hkk _).mono ?_; rintro e w' ⟨rfl, rfl⟩))
      refine bodyPost_ret (v := .tuple #[.agg #[.int .i8 1, .string (s.extract 0 n), .int .i64 0, .int .i64 0], .int .i64 0]) (by simp [results, Tryz.results55, go_sem, *]) rfl ⟨rfl, ?_⟩;exact (zw hbw (Nat.le_refl _) _ _ _ _).alloc (by simp; omega) _
    · have hk : Sc.nameKind (s.extract 0 n) n = 3 := by unfold Sc.nameKind; rw [if_neg h64, hkey]; rfl
      rw [hk, he];clear hk he;have hkk := jZ (s.extract 0 n);rw [hkey] at hkk;clear hkey
      go_enter Tryz.func55, Tryz.ntmps55
      go_wp2_with (first | (go_at_call 52; refine (hsp _).mono ?_; rintro e w' ⟨rfl, pos, rfl⟩) | (go_at_call 60; refine (qK 1 _ (by rw [HX.out]; omega) _).mono ?_; rintro e w' ⟨rfl, hb⟩; obtain ⟨q0, q1, q2, q3, f0, f1, f2, f3, hz⟩ := zV (zB hb (by simp [World.iter]; omega) (zG (zF w _) _)); have hbw := ve hb) | (go_at_call 81; refine (hkk _).mono ?_; rintro e w' ⟨rfl, rfl⟩))
      refine bodyPost_ret (v := .tuple #[.agg #[.int .i8 3, .string (s.extract 0 n), .int .i64 0, .int .i64 0], .int .i64 0]) (by simp [results, Tryz.results55, go_sem, *]) rfl ⟨rfl, ?_⟩;exact (zw hbw (Nat.le_refl _) _ _ _ _).alloc (by simp; omega) _
end Go.Proofs.YtepmjknljbafgaaGreatDoor
namespace Go.Proofs.YtepmjknljbafgaaGreatDoor
set_option maxHeartbeats 1000000
open Go.RowKit
def Sc.numBad (s : ByteArray) (n : Nat) : Bool := (decide (1 < n) && decide (s.data.toList.head? = some 48)) || decide (0 < Sc.spanN Sc.lett (s.data.toList.drop n))
def Sc.numVal (s : ByteArray) (n : Nat) : Nat := Sc.numFrom 0 (s.data.toList.take n)
def Sc.numErr (s : ByteArray) (n : Nat) : Int := if 9223372036854775808 <= Sc.numVal s n then 3 else if Sc.numBad s n then 10 else 0
def Sc.numNum (s : ByteArray) (n : Nat) : Int := if Sc.numErr s n = 0 then Sc.numVal s n else 0
theorem qd {w w1 : World} {o : Obj} {s : ByteArray} {pos nq : Nat} (hb : Below (((w.alloc o).iter s pos).drewN nq).heap.size (((w.alloc o).iter s pos).drewN nq) w1) : Below w.heap.size w w1 := by
  have h0 : Below w.heap.size w (((w.alloc o).iter s pos).drewN nq) := by
    have := (((Below.refl w.heap.size w).alloc (Nat.le_refl _) o).alloc (by simp) (.stringIter s pos));exact ⟨this.os, this.tape, this.output, this.size, this.block⟩
  exact h0.trans (hb.mono h0.size)
theorem jY {P : Program} {W W' : World} {n : String} {cs : Array Value} (h : Below W.heap.size W W') (hv : W.var? P n = some cs) : W'.var? P n = some cs := by
  cases hg : P.globalNamed n with
  | none => unfold World.var? at hv; rw [hg] at hv; cases hv
  | some g =>
    refine var?_below h hg ?_ hv;exact zGf
theorem jr (s : ByteArray) (hs : s.size <= 281474976710656) (v : Int) (h : Lib.parseIntB 64 s.data.toList = .ok v) (w : World) :
    Calls Tryz.prog 82 #[.string s, .int .i64 10, .int .i64 64] w fun e w' => e = .returned (.tuple #[.int .i64 v, .nilIface]) /\ Below w.heap.size w w' := by
  refine (Tryz.strconv_ParseInt_10_at64_ok s (by omega) v h w).mono fun e w' => ?_
  rintro ⟨rfl, rfl | ⟨t, rfl⟩⟩
  · exact ⟨rfl, Below.refl _ _⟩
  · exact ⟨rfl, Lib.bytesWorld_below _ _ _⟩
theorem zBZ (s : ByteArray) (hs : s.size <= 281474976710656) (n : Nat) (hle : n <= s.size) (h1 : 1 <= n)
    (hsp : ∀ w : World, Calls Tryz.prog 52 #[.string s, .func (.func 56) #[] #[]] w fun e w' => e = .returned (.int .i64 n) /\ ∃ pos, w' = w.iter s pos)
    (hr : Lib.parseIntB 64 (s.extract 0 n).data.toList = .range) (w : World) (tp : TypeId) (p : Value) (hvar : w.var? Tryz.prog "strconv.ErrRange" = some #[.iface tp p]) :
    Calls Tryz.prog 57 #[.string s] w fun e w' => e = .returned (.tuple #[.agg #[.int .i8 2, .string (s.extract 0 n), .int .i64 0, .int .i64 0], .int .i64 3]) /\ Below w.heap.size w w' := by
  have hx : (s.extract 0 n).size = n := by simp; omega
  have HX := k0_ hx;clear hx;have i1 : (n : Int) <= s.size := by omega
  have i2 : (0 : Int) <= n := by omega
  have HV := k0_ hvar;clear hvar
  go_enter Tryz.func57, Tryz.ntmps57
  go_wp2_with (go_at_call 52; refine (hsp _).mono ?_; rintro e w' ⟨rfl, pos, rfl⟩)
  go_quiet (fail)
  go_wp2_with (first | (go_at_call 60; refine (qK 2 _ (by rw [HX.out]; omega) _).mono ?_; rintro e w1 ⟨rfl, hb⟩; have H1 := k0_ (zB hb (by simp [World.iter]; omega) (zG (zF w _) _)); obtain ⟨q0, q1, q2, q3, f0, f1, f2, f3, hz⟩ := zV H1.out; have hbw := qd hb) | (go_at_call 82; refine (Tryz.strconv_ParseInt_10_at64_range_var _ (by rw [HX.out]; omega) hr tp p _ (jY (hbw.alloc hbw.size _) HV.out)).mono ?_; rintro e w2 ⟨N, rfl, _, _, hb2⟩; have hbw2 := (hbw.alloc hbw.size _).trans (hb2.mono (by have := hbw.size; simp; omega)); have H2 := k0_ (zB hb2 (by simp; omega) (zG H1.out _)); have H3 := k0_ (zB hb2 (by simp) (zF w1 _)); obtain ⟨q0, q1, q2, q3, f0, f1, f2, f3, hz⟩ := zV H2.out; obtain ⟨p0, p1, p2, p3, g0, g1, g2, g3, hy⟩ := zV H3.out))
  refine bodyPost_ret (v := .tuple #[.agg #[.int .i8 2, .string (s.extract 0 n), .int .i64 0, .int .i64 0], .int .i64 3]) (by simp [results, Tryz.results57, go_sem, *]) rfl ⟨rfl, ?_⟩;exact (zw hbw2 (Nat.le_refl _) _ _ _ _)
theorem yG (s : ByteArray) (hs : s.size <= 281474976710656) (n : Nat) (hle : n <= s.size) (h1 : 1 <= n)
    (hsp : ∀ w : World, Calls Tryz.prog 52 #[.string s, .func (.func 56) #[] #[]] w fun e w' => e = .returned (.int .i64 n) /\ ∃ pos, w' = w.iter s pos)
    (v : Int) (hr : Lib.parseIntB 64 (s.extract 0 n).data.toList = .ok v) (hx0 : 0 < (s.extract 0 n).size) (hn2 : 1 < n) (hd : ((((s.extract 0 n)[0]'hx0).toNat : Int) == 48) = true) (w : World) (tp : TypeId) (p : Value) (hvar : w.var? Tryz.prog "strconv.ErrRange" = some #[.iface tp p]) :
    Calls Tryz.prog 57 #[.string s] w fun e w' => e = .returned (.tuple #[.agg #[.int .i8 2, .string (s.extract 0 n), .int .i64 0, .int .i64 0], .int .i64 10]) /\ Below w.heap.size w w' := by
  have hx : (s.extract 0 n).size = n := by simp; omega
  have HX := k0_ hx;clear hx;have i1 : (n : Int) <= s.size := by omega
  have i2 : (0 : Int) <= n := by omega
  have HV := k0_ hvar;clear hvar
  go_enter Tryz.func57, Tryz.ntmps57
  go_wp2_with (go_at_call 52; refine (hsp _).mono ?_; rintro e w' ⟨rfl, pos, rfl⟩)
  go_quiet (fail)
  go_wp2_with (first | (go_at_call 60; refine (qK 2 _ (by rw [HX.out]; omega) _).mono ?_; rintro e w1 ⟨rfl, hb⟩; have H1 := k0_ (zB hb (by simp [World.iter]; omega) (zG (zF w _) _)); obtain ⟨q0, q1, q2, q3, f0, f1, f2, f3, hz⟩ := zV H1.out; have hbw := qd hb) | (go_at_call 82; refine (jr _ (by rw [HX.out]; omega) v hr _).mono ?_; rintro e w2 ⟨rfl, hb2⟩; have hbw2 := (hbw.alloc hbw.size _).trans (hb2.mono (by have := hbw.size; simp; omega)); have H2 := k0_ (zB hb2 (by simp; omega) (zG H1.out _)); have H3 := k0_ (zB hb2 (by simp) (zF w1 _)); obtain ⟨q0, q1, q2, q3, f0, f1, f2, f3, hz⟩ := zV H2.out; obtain ⟨p0, p1, p2, p3, g0, g1, g2, g3, hy⟩ := zV H3.out))
  clear hd;refine bodyPost_ret (v := .tuple #[.agg #[.int .i8 2, .string (s.extract 0 n), .int .i64 0, .int .i64 0], .int .i64 10]) (by simp [results, Tryz.results57, go_sem, *]) rfl ⟨rfl, ?_⟩;exact (zw hbw2 (Nat.le_refl _) _ _ _ _)
theorem xH (s : ByteArray) (_hs : s.size <= 281474976710656) (n : Nat) (hle : n <= s.size) (h1 : 1 <= n)
    (hsp : ∀ w : World, Calls Tryz.prog 52 #[.string s, .func (.func 56) #[] #[]] w fun e w' => e = .returned (.int .i64 n) /\ ∃ pos, w' = w.iter s pos)
    (v : Int) (hr : Lib.parseIntB 64 (s.extract 0 n).data.toList = .ok v) (m : Nat) (hm : 0 < m)
    (hsl : ∀ w : World, Calls Tryz.prog 52 #[.string (s.extract n s.size), .func (.func 54) #[] #[]] w fun e w' => e = .returned (.int .i64 m) /\ Below w.heap.size w w') (hn2 : ¬ 1 < n) (w : World) (tp : TypeId) (p : Value) (hvar : w.var? Tryz.prog "strconv.ErrRange" = some #[.iface tp p]) :
    Calls Tryz.prog 57 #[.string s] w fun e w' => e = .returned (.tuple #[.agg #[.int .i8 2, .string (s.extract 0 n), .int .i64 0, .int .i64 0], .int .i64 10]) /\ Below w.heap.size w w' := by
  have hx : (s.extract 0 n).size = n := by simp; omega
  have HX := k0_ hx;clear hx;have i1 : (n : Int) <= s.size := by omega
  have i2 : (0 : Int) <= n := by omega
  have HV := k0_ hvar;clear hvar
  go_enter Tryz.func57, Tryz.ntmps57
  go_wp2_with (go_at_call 52; refine (hsp _).mono ?_; rintro e w' ⟨rfl, pos, rfl⟩)
  go_quiet (fail)
  go_wp2_with (first | (go_at_call 60; refine (qK 2 _ (by rw [HX.out]; omega) _).mono ?_; rintro e w1 ⟨rfl, hb⟩; have H1 := k0_ (zB hb (by simp [World.iter]; omega) (zG (zF w _) _)); obtain ⟨q0, q1, q2, q3, f0, f1, f2, f3, hz⟩ := zV H1.out; have hbw := qd hb) | (go_at_call 82; refine (jr _ (by rw [HX.out]; omega) v hr _).mono ?_; rintro e w2 ⟨rfl, hb2⟩; have hbw2 := (hbw.alloc hbw.size _).trans (hb2.mono (by have := hbw.size; simp; omega)); have H2 := k0_ (zB hb2 (by simp; omega) (zG H1.out _)); have H3 := k0_ (zB hb2 (by simp) (zF w1 _)); obtain ⟨q0, q1, q2, q3, f0, f1, f2, f3, hz⟩ := zV H2.out; obtain ⟨p0, p1, p2, p3, g0, g1, g2, g3, hy⟩ := zV H3.out) | (go_at_call 52; refine (hsl _).mono ?_; rintro e w3 ⟨rfl, hb3⟩; have hbw3 := hbw2.trans (hb3.mono hbw2.size); obtain ⟨q0, q1, q2, q3, f0, f1, f2, f3, hz⟩ := zV (zB hb3 hz H2.out); obtain ⟨p0, p1, p2, p3, g0, g1, g2, g3, hy⟩ := zV (zB hb3 hy H3.out)))
  exact zI2
theorem xG (s : ByteArray) (hs : s.size <= 281474976710656) (n : Nat) (hle : n <= s.size) (h1 : 1 <= n)
    (hsp : ∀ w : World, Calls Tryz.prog 52 #[.string s, .func (.func 56) #[] #[]] w fun e w' => e = .returned (.int .i64 n) /\ ∃ pos, w' = w.iter s pos)
    (v : Int) (hr : Lib.parseIntB 64 (s.extract 0 n).data.toList = .ok v) (m : Nat) (hm : 0 < m)
    (hsl : ∀ w : World, Calls Tryz.prog 52 #[.string (s.extract n s.size), .func (.func 54) #[] #[]] w fun e w' => e = .returned (.int .i64 m) /\ Below w.heap.size w w') (hx0 : 0 < (s.extract 0 n).size) (hn2 : 1 < n) (hd : ((((s.extract 0 n)[0]'hx0).toNat : Int) == 48) = false) (w : World) (tp : TypeId) (p : Value) (hvar : w.var? Tryz.prog "strconv.ErrRange" = some #[.iface tp p]) :
    Calls Tryz.prog 57 #[.string s] w fun e w' => e = .returned (.tuple #[.agg #[.int .i8 2, .string (s.extract 0 n), .int .i64 0, .int .i64 0], .int .i64 10]) /\ Below w.heap.size w w' := by
  have hx : (s.extract 0 n).size = n := by simp; omega
  have HX := k0_ hx;clear hx;have i1 : (n : Int) <= s.size := by omega
  have i2 : (0 : Int) <= n := by omega
  have HV := k0_ hvar;clear hvar
  go_enter Tryz.func57, Tryz.ntmps57
  go_wp2_with (go_at_call 52; refine (hsp _).mono ?_; rintro e w' ⟨rfl, pos, rfl⟩)
  go_quiet (fail)
  go_wp2_with (first | (go_at_call 60; refine (qK 2 _ (by rw [HX.out]; omega) _).mono ?_; rintro e w1 ⟨rfl, hb⟩; have H1 := k0_ (zB hb (by simp [World.iter]; omega) (zG (zF w _) _)); obtain ⟨q0, q1, q2, q3, f0, f1, f2, f3, hz⟩ := zV H1.out; have hbw := qd hb) | (go_at_call 82; refine (jr _ (by rw [HX.out]; omega) v hr _).mono ?_; rintro e w2 ⟨rfl, hb2⟩; have hbw2 := (hbw.alloc hbw.size _).trans (hb2.mono (by have := hbw.size; simp; omega)); have H2 := k0_ (zB hb2 (by simp; omega) (zG H1.out _)); have H3 := k0_ (zB hb2 (by simp) (zF w1 _)); obtain ⟨q0, q1, q2, q3, f0, f1, f2, f3, hz⟩ := zV H2.out; obtain ⟨p0, p1, p2, p3, g0, g1, g2, g3, hy⟩ := zV H3.out) | (go_at_call 52; refine (hsl _).mono ?_; rintro e w3 ⟨rfl, hb3⟩; have hbw3 := hbw2.trans (hb3.mono hbw2.size); obtain ⟨q0, q1, q2, q3, f0, f1, f2, f3, hz⟩ := zV (zB hb3 hz H2.out); obtain ⟨p0, p1, p2, p3, g0, g1, g2, g3, hy⟩ := zV (zB hb3 hy H3.out)))
  clear hd;exact zI2
theorem zBY (s : ByteArray) (_hs : s.size <= 281474976710656) (n : Nat) (hle : n <= s.size) (h1 : 1 <= n)
    (hsp : ∀ w : World, Calls Tryz.prog 52 #[.string s, .func (.func 56) #[] #[]] w fun e w' => e = .returned (.int .i64 n) /\ ∃ pos, w' = w.iter s pos)
    (v : Int) (hr : Lib.parseIntB 64 (s.extract 0 n).data.toList = .ok v)
    (hsl : ∀ w : World, Calls Tryz.prog 52 #[.string (s.extract n s.size), .func (.func 54) #[] #[]] w fun e w' => e = .returned (.int .i64 0) /\ Below w.heap.size w w') (hn2 : ¬ 1 < n) (w : World) (tp : TypeId) (p : Value) (hvar : w.var? Tryz.prog "strconv.ErrRange" = some #[.iface tp p]) :
    Calls Tryz.prog 57 #[.string s] w fun e w' => e = .returned (.tuple #[.agg #[.int .i8 2, .string (s.extract 0 n), .int .i64 v, .int .i64 0], .int .i64 0]) /\ Below w.heap.size w w' := by
  have hx : (s.extract 0 n).size = n := by simp; omega
  have HX := k0_ hx;clear hx;have i1 : (n : Int) <= s.size := by omega
  have i2 : (0 : Int) <= n := by omega
  have HV := k0_ hvar;clear hvar
  go_enter Tryz.func57, Tryz.ntmps57
  go_wp2_with (go_at_call 52; refine (hsp _).mono ?_; rintro e w' ⟨rfl, pos, rfl⟩)
  go_quiet (fail)
  go_wp2_with (first | (go_at_call 60; refine (qK 2 _ (by rw [HX.out]; omega) _).mono ?_; rintro e w1 ⟨rfl, hb⟩; have H1 := k0_ (zB hb (by simp [World.iter]; omega) (zG (zF w _) _)); obtain ⟨q0, q1, q2, q3, f0, f1, f2, f3, hz⟩ := zV H1.out; have hbw := qd hb) | (go_at_call 82; refine (jr _ (by rw [HX.out]; omega) v hr _).mono ?_; rintro e w2 ⟨rfl, hb2⟩; have hbw2 := (hbw.alloc hbw.size _).trans (hb2.mono (by have := hbw.size; simp; omega)); have H2 := k0_ (zB hb2 (by simp; omega) (zG H1.out _)); have H3 := k0_ (zB hb2 (by simp) (zF w1 _)); obtain ⟨q0, q1, q2, q3, f0, f1, f2, f3, hz⟩ := zV H2.out; obtain ⟨p0, p1, p2, p3, g0, g1, g2, g3, hy⟩ := zV H3.out) | (go_at_call 52; refine (hsl _).mono ?_; rintro e w3 ⟨rfl, hb3⟩; have hbw3 := hbw2.trans (hb3.mono hbw2.size); obtain ⟨q0, q1, q2, q3, f0, f1, f2, f3, hz⟩ := zV (zB hb3 hz H2.out); obtain ⟨p0, p1, p2, p3, g0, g1, g2, g3, hy⟩ := zV (zB hb3 hy H3.out)))
  exact zI7
theorem zBX (s : ByteArray) (hs : s.size <= 281474976710656) (n : Nat) (hle : n <= s.size) (h1 : 1 <= n)
    (hsp : ∀ w : World, Calls Tryz.prog 52 #[.string s, .func (.func 56) #[] #[]] w fun e w' => e = .returned (.int .i64 n) /\ ∃ pos, w' = w.iter s pos)
    (v : Int) (hr : Lib.parseIntB 64 (s.extract 0 n).data.toList = .ok v)
    (hsl : ∀ w : World, Calls Tryz.prog 52 #[.string (s.extract n s.size), .func (.func 54) #[] #[]] w fun e w' => e = .returned (.int .i64 0) /\ Below w.heap.size w w') (hx0 : 0 < (s.extract 0 n).size) (hn2 : 1 < n) (hd : ((((s.extract 0 n)[0]'hx0).toNat : Int) == 48) = false) (w : World) (tp : TypeId) (p : Value) (hvar : w.var? Tryz.prog "strconv.ErrRange" = some #[.iface tp p]) :
    Calls Tryz.prog 57 #[.string s] w fun e w' => e = .returned (.tuple #[.agg #[.int .i8 2, .string (s.extract 0 n), .int .i64 v, .int .i64 0], .int .i64 0]) /\ Below w.heap.size w w' := by
  have hx : (s.extract 0 n).size = n := by simp; omega
  have HX := k0_ hx;clear hx;have i1 : (n : Int) <= s.size := by omega
  have i2 : (0 : Int) <= n := by omega
  have HV := k0_ hvar;clear hvar
  go_enter Tryz.func57, Tryz.ntmps57
  go_wp2_with (go_at_call 52; refine (hsp _).mono ?_; rintro e w' ⟨rfl, pos, rfl⟩)
  go_quiet (fail)
  go_wp2_with (first | (go_at_call 60; refine (qK 2 _ (by rw [HX.out]; omega) _).mono ?_; rintro e w1 ⟨rfl, hb⟩; have H1 := k0_ (zB hb (by simp [World.iter]; omega) (zG (zF w _) _)); obtain ⟨q0, q1, q2, q3, f0, f1, f2, f3, hz⟩ := zV H1.out; have hbw := qd hb) | (go_at_call 82; refine (jr _ (by rw [HX.out]; omega) v hr _).mono ?_; rintro e w2 ⟨rfl, hb2⟩; have hbw2 := (hbw.alloc hbw.size _).trans (hb2.mono (by have := hbw.size; simp; omega)); have H2 := k0_ (zB hb2 (by simp; omega) (zG H1.out _)); have H3 := k0_ (zB hb2 (by simp) (zF w1 _)); obtain ⟨q0, q1, q2, q3, f0, f1, f2, f3, hz⟩ := zV H2.out; obtain ⟨p0, p1, p2, p3, g0, g1, g2, g3, hy⟩ := zV H3.out) | (go_at_call 52; refine (hsl _).mono ?_; rintro e w3 ⟨rfl, hb3⟩; have hbw3 := hbw2.trans (hb3.mono hbw2.size); obtain ⟨q0, q1, q2, q3, f0, f1, f2, f3, hz⟩ := zV (zB hb3 hz H2.out); obtain ⟨p0, p1, p2, p3, g0, g1, g2, g3, hy⟩ := zV (zB hb3 hy H3.out)))
  clear hd;exact zI7
theorem Sc.um (s : ByteArray) (n : Nat) (h : 1 <= n) (hle : n <= s.size) (hx0 : 0 < (s.extract 0 n).size) : s.data.toList.head? = some ((s.extract 0 n)[0]'hx0) := by
  have h0 : 0 < s.size := by omega
  have e : (s.extract 0 n)[0]'hx0 = s[0]'h0 := by rw [ByteArray.getElem_extract]
  rw [e, ← Sc.zi s 0 h0 (by rw [Sc.zZ]; exact h0)];rw [List.head?_eq_getElem?, List.getElem?_eq_getElem]
theorem zBa (s : ByteArray) (hs : s.size <= 281474976710656) (h1 : 1 <= Sc.spanN Sc.digi s.data.toList) (w : World) (tp : TypeId) (p : Value) (hvar : w.var? Tryz.prog "strconv.ErrRange" = some #[.iface tp p]) :
    Calls Tryz.prog 57 #[.string s] w fun e w' => e = .returned (.tuple #[.agg #[.int .i8 2, .string (s.extract 0 (Sc.spanN Sc.digi s.data.toList)), .int .i64 (Sc.numNum s (Sc.spanN Sc.digi s.data.toList)), .int .i64 0], .int .i64 (Sc.numErr s (Sc.spanN Sc.digi s.data.toList))]) /\ Below w.heap.size w w' := by
  have hle := Sc.qg Sc.digi s.data.toList;rw [Sc.zZ] at hle;have hsp := zBG s;have hall := Sc.zA2 s.data.toList;generalize hn : Sc.spanN Sc.digi s.data.toList = n at *;have hx : (s.extract 0 n).size = n := by simp; omega
  have hx0 : 0 < (s.extract 0 n).size := by omega
  have hxd : (s.extract 0 n).data.toList = s.data.toList.take n := by rw [Lib.extract_data]; simp
  have hlen : (s.data.toList.take n).length = n := by simp; omega
  have hp := Sc.zFO (s.data.toList.take n) (by intro h; rw [h] at hlen; simp at hlen; omega) hall;rw [← hxd] at hp;have hv : Sc.numFrom 0 (s.extract 0 n).data.toList = Sc.numVal s n := by rw [hxd]; rfl
  rw [hv] at hp
  by_cases hb : Sc.numVal s n < 9223372036854775808
  · rw [if_pos hb] at hp
    have hb' : ¬ 9223372036854775808 <= Sc.numVal s n := by omega
    have hdl : (s.extract n s.size).data.toList = s.data.toList.drop n := by rw [Lib.extract_data]; exact List.take_of_length_le (by simp)
    have hsl : ∀ w : World, Calls Tryz.prog 52 #[.string (s.extract n s.size), .func (.func 54) #[] #[]] w fun e w' => e = .returned (.int .i64 (Sc.spanN Sc.lett (s.data.toList.drop n))) /\ Below w.heap.size w w' := by
      intro w;rw [← hdl];refine (zAI _ w).mono fun e w' => ?_
      rintro ⟨rfl, pos, rfl⟩;exact ⟨rfl, (Below.refl _ _).alloc (Nat.le_refl _) _⟩
    have hh := Sc.um s n h1 hle hx0
    have bad_of : ∀ b, Sc.numBad s n = b -> Sc.numErr s n = (if b then 10 else 0) /\ Sc.numNum s n = if b then 0 else (Sc.numVal s n : Int) := by
      intro b hbb;have : Sc.numErr s n = (if b then 10 else 0) := by unfold Sc.numErr; rw [if_neg hb', hbb]
      refine ⟨this, ?_⟩;unfold Sc.numNum;rw [this];cases b <;> simp
    by_cases hm : 0 < Sc.spanN Sc.lett (s.data.toList.drop n)
    · have hbad : Sc.numBad s n = true := by unfold Sc.numBad; simp [hm]
      obtain ⟨e1, e2⟩ := bad_of true hbad;rw [e1, e2]
      by_cases h2 : 1 < n
      · cases h48 : ((((s.extract 0 n)[0]'hx0).toNat : Int) == 48)
        · exact xG s hs n hle h1 hsp _ hp _ hm hsl hx0 h2 h48 w tp p hvar
        · exact yG s hs n hle h1 hsp _ hp hx0 h2 h48 w tp p hvar
      · exact xH s hs n hle h1 hsp _ hp _ hm hsl h2 w tp p hvar
    · have hm0 : Sc.spanN Sc.lett (s.data.toList.drop n) = 0 := by omega
      rw [hm0] at hsl
      by_cases h2 : 1 < n
      · cases h48 : ((((s.extract 0 n)[0]'hx0).toNat : Int) == 48)
        · have hbad : Sc.numBad s n = false := by
            unfold Sc.numBad
            have : ¬ s.data.toList.head? = some 48 := by
              rw [hh]; intro h; injection h with h; rw [h] at h48; simp at h48
            simp [hm0, this]
          obtain ⟨e1, e2⟩ := bad_of false hbad;rw [e1, e2];exact zBX s hs n hle h1 hsp _ hp hsl hx0 h2 h48 w tp p hvar
        · have hbad : Sc.numBad s n = true := by
            unfold Sc.numBad
            have : s.data.toList.head? = some 48 := by
              rw [hh]; congr 1; apply UInt8.toNat_inj.1; have := beq_iff_eq.1 h48; show _ = 48; omega
            simp [this, h2]
          obtain ⟨e1, e2⟩ := bad_of true hbad;rw [e1, e2];exact yG s hs n hle h1 hsp _ hp hx0 h2 h48 w tp p hvar
      · have hbad : Sc.numBad s n = false := by unfold Sc.numBad; simp [hm0, h2]
        obtain ⟨e1, e2⟩ := bad_of false hbad;rw [e1, e2];exact zBY s hs n hle h1 hsp _ hp hsl h2 w tp p hvar
  · rw [if_neg hb] at hp
    have e1 : Sc.numErr s n = 3 := by unfold Sc.numErr; rw [if_pos (by omega)]
    have e2 : Sc.numNum s n = 0 := by unfold Sc.numNum; rw [e1]; rfl
    rw [e1, e2];exact zBZ s hs n hle h1 hsp hp w tp p hvar
set_option maxHeartbeats 1000000
set_option maxRecDepth 100000
open Go.RowKit
def Sc.hd (s : ByteArray) : Int := ((s.data.toList.headD 0).toNat : Int)
def Sc.fN (s : ByteArray) : Nat := if Sc.lett (Sc.hd s) then Sc.spanN Sc.lord s.data.toList else if Sc.digi (Sc.hd s) then Sc.spanN Sc.digi s.data.toList else if Lib.hasPrefix s.data.toList [45, 62] then 2 else 1
def Sc.fK (s : ByteArray) : Int := if Sc.lett (Sc.hd s) then Sc.nameKind (s.extract 0 (Sc.fN s)) (Sc.fN s) else if Sc.digi (Sc.hd s) then 2 else if Lib.hasPrefix s.data.toList [45, 62] || Sc.isSign (Sc.hd s) then 4 else 0
def Sc.fE (s : ByteArray) : Int := if Sc.lett (Sc.hd s) then Sc.nameErr (Sc.fN s) else if Sc.digi (Sc.hd s) then Sc.numErr s (Sc.fN s) else if Lib.hasPrefix s.data.toList [45, 62] || Sc.isSign (Sc.hd s) then 0 else 10
def Sc.fV (s : ByteArray) : Int := if Sc.lett (Sc.hd s) then 0 else if Sc.digi (Sc.hd s) then Sc.numNum s (Sc.fN s) else 0
theorem Sc.zEn (s : ByteArray) (h : 0 < s.size) : Sc.hd s = ((s[0]'h).toNat : Int) := by
  have hl : 0 < s.data.toList.length := by rw [Sc.zZ]; exact h
  have e := Sc.zi s 0 h hl;unfold Sc.hd;rw [List.headD_eq_head?_getD, List.head?_eq_getElem?, List.getElem?_eq_getElem hl, e]
  rfl
theorem xS (s p : ByteArray) (w : World) :
    Calls Tryz.prog 58 #[.string s, .string p] w fun e w' => e = .returned (.bool (Lib.hasPrefix s.data.toList p.data.toList)) /\ w = w' :=
  (Tryz.strings_HasPrefix s p w).mono fun _ _ h => ⟨h.1, h.2.symm⟩
theorem qO {w w1 : World} {v0 v1 v2 v3 : Value} {t : TypeId} (hb : Below (w.alloc (.cells #[v0, v1, v2, v3] t)).heap.size (w.alloc (.cells #[v0, v1, v2, v3] t)) w1) :
    w1.heap[w.heap.size]? = some (.cells #[v0, v1, v2, v3] t) /\ Below w.heap.size w w1 :=
  ⟨zB hb (by simp) (zF w _), ((Below.refl _ _).alloc (Nat.le_refl _) _).trans (hb.mono (by simp))⟩
theorem zBm (s : ByteArray) (h0 : 0 < s.size) (w : World) (k v er : Int) (n : Nat)
    (hL : ∀ w : World, Calls Tryz.prog 54 #[.int .i32 ((s[0]).toNat : Int)] w fun e w' => e = .returned (.bool true) /\ w = w')
    (hF : ∀ w1 : World, Below w.heap.size w w1 -> Calls Tryz.prog 55 #[.string s] w1 fun e w' => e = .returned (.tuple #[.agg #[.int .i8 k, .string (s.extract 0 n), .int .i64 v, .int .i64 0], .int .i64 er]) /\ Below w1.heap.size w1 w')
    :
    Calls Tryz.prog 30 #[.string s] w fun e w' => e = .returned (.tuple #[.agg #[.int .i8 (k), .string (s.extract 0 (n)), .int .i64 (v), .int .i64 0], .int .i64 (er)]) /\ Below w.heap.size w w' := by
  have i0 : (0 : Int) < s.size := by omega
  have hw32 : wrap32 ((s[0]).toNat : Int) = ((s[0]).toNat : Int) := by have := (s[0]).toNat_lt; exact IntWalk.wrap32_in _ ⟨by omega, by omega⟩
  go_enter Tryz.func30, Tryz.ntmps30
  go_wp2_with (first | (go_at_call 54; refine (hL _).mono ?_; rintro e w1 ⟨rfl, rfl⟩) | (go_at_call 55; refine (hF _ ((Below.refl _ _).alloc (Nat.le_refl _) _)).mono ?_; rintro e w1 ⟨rfl, hb⟩; have hbw := (qO hb).2; obtain ⟨q0, q1, q2, q3, f0, f1, f2, f3, hz⟩ := zV (qO hb).1))
  exact zI4
theorem uh (s : ByteArray) (h0 : 0 < s.size) (w : World) (k v er : Int) (n : Nat)
    (hL : ∀ w : World, Calls Tryz.prog 54 #[.int .i32 ((s[0]).toNat : Int)] w fun e w' => e = .returned (.bool false) /\ w = w')
    (hD : ∀ w : World, Calls Tryz.prog 56 #[.int .i32 ((s[0]).toNat : Int)] w fun e w' => e = .returned (.bool true) /\ w = w')
    (hF : ∀ w1 : World, Below w.heap.size w w1 -> Calls Tryz.prog 57 #[.string s] w1 fun e w' => e = .returned (.tuple #[.agg #[.int .i8 k, .string (s.extract 0 n), .int .i64 v, .int .i64 0], .int .i64 er]) /\ Below w1.heap.size w1 w')
    :
    Calls Tryz.prog 30 #[.string s] w fun e w' => e = .returned (.tuple #[.agg #[.int .i8 (k), .string (s.extract 0 (n)), .int .i64 (v), .int .i64 0], .int .i64 (er)]) /\ Below w.heap.size w w' := by
  have i0 : (0 : Int) < s.size := by omega
  have hw32 : wrap32 ((s[0]).toNat : Int) = ((s[0]).toNat : Int) := by have := (s[0]).toNat_lt; exact IntWalk.wrap32_in _ ⟨by omega, by omega⟩
  go_enter Tryz.func30, Tryz.ntmps30
  go_wp2_with (first | (go_at_call 54; refine (hL _).mono ?_; rintro e w1 ⟨rfl, rfl⟩) | (go_at_call 56; refine (hD _).mono ?_; rintro e w1 ⟨rfl, rfl⟩) | (go_at_call 57; refine (hF _ ((Below.refl _ _).alloc (Nat.le_refl _) _)).mono ?_; rintro e w1 ⟨rfl, hb⟩; have hbw := (qO hb).2; obtain ⟨q0, q1, q2, q3, f0, f1, f2, f3, hz⟩ := zV (qO hb).1))
  exact zI4
theorem zAh (s : ByteArray) (hs : s.size <= 281474976710656) (h0 : 0 < s.size)
    (hL : ∀ w : World, Calls Tryz.prog 54 #[.int .i32 ((s[0]).toNat : Int)] w fun e w' => e = .returned (.bool false) /\ w = w')
    (hD : ∀ w : World, Calls Tryz.prog 56 #[.int .i32 ((s[0]).toNat : Int)] w fun e w' => e = .returned (.bool false) /\ w = w')
    (hH : ∀ w : World, Calls Tryz.prog 58 #[.string s, .string ⟨#[45, 62]⟩] w fun e w' => e = .returned (.bool true) /\ w = w')
    (h2 : 2 <= s.size) (w : World) :
    Calls Tryz.prog 30 #[.string s] w fun e w' => e = .returned (.tuple #[.agg #[.int .i8 (4), .string (s.extract 0 (2)), .int .i64 (0), .int .i64 0], .int .i64 (0)]) /\ Below w.heap.size w w' := by
  have i0 : (0 : Int) < s.size := by omega
  have hw32 : wrap32 ((s[0]).toNat : Int) = ((s[0]).toNat : Int) := by have := (s[0]).toNat_lt; exact IntWalk.wrap32_in _ ⟨by omega, by omega⟩
  have hx : (s.extract 0 2).size = 2 := by simp; omega
  have HX := k0_ hx;clear hx;have i2 : (2 : Int) <= s.size := by omega
  go_enter Tryz.func30, Tryz.ntmps30
  go_wp2_with (first | (go_at_call 54; refine (hL _).mono ?_; rintro e w1 ⟨rfl, rfl⟩) | (go_at_call 56; refine (hD _).mono ?_; rintro e w1 ⟨rfl, rfl⟩) | (go_at_call 58; refine (hH _).mono ?_; rintro e w1 ⟨rfl, rfl⟩) | (go_at_call 60; refine (qK 4 _ (by rw [HX.out]; omega) _).mono ?_; rintro e w1 ⟨rfl, hb⟩; have hbw := (qO hb).2; obtain ⟨q0, q1, q2, q3, f0, f1, f2, f3, hz⟩ := zV (qO hb).1))
  refine bodyPost_ret (v := .tuple #[.agg #[.int .i8 (4), .string (s.extract 0 (2)), .int .i64 (0), .int .i64 0], .int .i64 (0)]) (by simp [results, Tryz.results30, go_sem, *]) rfl ⟨rfl, ?_⟩;exact zw hbw (Nat.le_refl _) _ _ _ _
theorem zBk (s : ByteArray) (hs : s.size <= 281474976710656) (h0 : 0 < s.size)
    (hL : ∀ w : World, Calls Tryz.prog 54 #[.int .i32 ((s[0]).toNat : Int)] w fun e w' => e = .returned (.bool false) /\ w = w')
    (hD : ∀ w : World, Calls Tryz.prog 56 #[.int .i32 ((s[0]).toNat : Int)] w fun e w' => e = .returned (.bool false) /\ w = w')
    (hH : ∀ w : World, Calls Tryz.prog 58 #[.string s, .string ⟨#[45, 62]⟩] w fun e w' => e = .returned (.bool false) /\ w = w')
    (hR : ∀ w : World, Calls Tryz.prog 59 #[.string ⟨#[92, 46, 58, 61, 40, 41, 91, 93, 123, 125, 44, 124, 43, 45, 42, 47, 60, 62, 63, 59]⟩, .int .i32 ((s[0]).toNat : Int)] w fun e w' => e = .returned (.bool true) /\ Below w.heap.size w w')
     (w : World) :
    Calls Tryz.prog 30 #[.string s] w fun e w' => e = .returned (.tuple #[.agg #[.int .i8 (4), .string (s.extract 0 (1)), .int .i64 (0), .int .i64 0], .int .i64 (0)]) /\ Below w.heap.size w w' := by
  have i0 : (0 : Int) < s.size := by omega
  have hw32 : wrap32 ((s[0]).toNat : Int) = ((s[0]).toNat : Int) := by have := (s[0]).toNat_lt; exact IntWalk.wrap32_in _ ⟨by omega, by omega⟩
  have hx : (s.extract 0 1).size = 1 := by simp; omega
  have HX := k0_ hx;clear hx;have i2 : (1 : Int) <= s.size := by omega
  go_enter Tryz.func30, Tryz.ntmps30
  go_wp2_with (first | (go_at_call 54; refine (hL _).mono ?_; rintro e w1 ⟨rfl, rfl⟩) | (go_at_call 56; refine (hD _).mono ?_; rintro e w1 ⟨rfl, rfl⟩) | (go_at_call 58; refine (hH _).mono ?_; rintro e w1 ⟨rfl, rfl⟩) | (go_at_call 59; refine (hR _).mono ?_; rintro e w1 ⟨rfl, hb⟩; have hbw := (qO hb).2; have HH := k0_ (qO hb).1; obtain ⟨q0, q1, q2, q3, f0, f1, f2, f3, hz⟩ := zV HH.out) | (go_at_call 60; refine (qK 4 _ (by rw [HX.out]; omega) _).mono ?_; rintro e w2 ⟨rfl, hb2⟩; have hbw2 := hbw.trans (hb2.mono hbw.size); obtain ⟨q0, q1, q2, q3, f0, f1, f2, f3, hz⟩ := zV (zB hb2 hz HH.out)))
  refine bodyPost_ret (v := .tuple #[.agg #[.int .i8 (4), .string (s.extract 0 (1)), .int .i64 (0), .int .i64 0], .int .i64 (0)]) (by simp [results, Tryz.results30, go_sem, *]) rfl ⟨rfl, ?_⟩;exact zw hbw2 (Nat.le_refl _) _ _ _ _
theorem zBl (s : ByteArray) (hs : s.size <= 281474976710656) (h0 : 0 < s.size)
    (hL : ∀ w : World, Calls Tryz.prog 54 #[.int .i32 ((s[0]).toNat : Int)] w fun e w' => e = .returned (.bool false) /\ w = w')
    (hD : ∀ w : World, Calls Tryz.prog 56 #[.int .i32 ((s[0]).toNat : Int)] w fun e w' => e = .returned (.bool false) /\ w = w')
    (hH : ∀ w : World, Calls Tryz.prog 58 #[.string s, .string ⟨#[45, 62]⟩] w fun e w' => e = .returned (.bool false) /\ w = w')
    (hR : ∀ w : World, Calls Tryz.prog 59 #[.string ⟨#[92, 46, 58, 61, 40, 41, 91, 93, 123, 125, 44, 124, 43, 45, 42, 47, 60, 62, 63, 59]⟩, .int .i32 ((s[0]).toNat : Int)] w fun e w' => e = .returned (.bool false) /\ Below w.heap.size w w')
     (w : World) :
    Calls Tryz.prog 30 #[.string s] w fun e w' => e = .returned (.tuple #[.agg #[.int .i8 (0), .string (s.extract 0 (1)), .int .i64 (0), .int .i64 0], .int .i64 (10)]) /\ Below w.heap.size w w' := by
  have i0 : (0 : Int) < s.size := by omega
  have hw32 : wrap32 ((s[0]).toNat : Int) = ((s[0]).toNat : Int) := by have := (s[0]).toNat_lt; exact IntWalk.wrap32_in _ ⟨by omega, by omega⟩
  have hx : (s.extract 0 1).size = 1 := by simp; omega
  have HX := k0_ hx;clear hx;have i2 : (1 : Int) <= s.size := by omega
  go_enter Tryz.func30, Tryz.ntmps30
  go_wp2_with (first | (go_at_call 54; refine (hL _).mono ?_; rintro e w1 ⟨rfl, rfl⟩) | (go_at_call 56; refine (hD _).mono ?_; rintro e w1 ⟨rfl, rfl⟩) | (go_at_call 58; refine (hH _).mono ?_; rintro e w1 ⟨rfl, rfl⟩) | (go_at_call 59; refine (hR _).mono ?_; rintro e w1 ⟨rfl, hb⟩; have hbw := (qO hb).2; have HH := k0_ (qO hb).1; obtain ⟨q0, q1, q2, q3, f0, f1, f2, f3, hz⟩ := zV HH.out) | (go_at_call 60; refine (qK 0 _ (by rw [HX.out]; omega) _).mono ?_; rintro e w2 ⟨rfl, hb2⟩; have hbw2 := hbw.trans (hb2.mono hbw.size); obtain ⟨q0, q1, q2, q3, f0, f1, f2, f3, hz⟩ := zV (zB hb2 hz HH.out)))
  refine bodyPost_ret (v := .tuple #[.agg #[.int .i8 (0), .string (s.extract 0 (1)), .int .i64 (0), .int .i64 0], .int .i64 (10)]) (by simp [results, Tryz.results30, go_sem, *]) rfl ⟨rfl, ?_⟩;exact zw hbw2 (Nat.le_refl _) _ _ _ _
end Go.Proofs.YtepmjknljbafgaaGreatDoor
namespace Go.Proofs.YtepmjknljbafgaaGreatDoor
open Go.RowKit
theorem Sc.vG (q : Int -> Bool) (s : ByteArray) (h : 0 < s.size) (hq : q (Sc.hd s) = true) : 1 <= Sc.spanN q s.data.toList := by
  have hl : 0 < s.data.toList.length := by rw [Sc.zZ]; exact h
  refine Sc.qw q _ 0 hl (Nat.zero_le _) ?_;rw [Sc.zi s 0 h hl, ← Sc.zEn s h];exact hq
theorem Sc.vS (l : List UInt8) (h : Lib.hasPrefix l [45, 62] = true) : 2 <= l.length := by
  match l with
  | [] => simp [Lib.hasPrefix] at h
  | [a] => simp [Lib.hasPrefix] at h
  | a :: b :: l => simp
theorem ww (s : ByteArray) (hs : s.size <= 281474976710656) (h0 : 0 < s.size) (w : World) (tp : TypeId) (p : Value) (hvar : w.var? Tryz.prog "strconv.ErrRange" = some #[.iface tp p]) :
    Calls Tryz.prog 30 #[.string s] w fun e w' => e = .returned (.tuple #[.agg #[.int .i8 (Sc.fK s), .string (s.extract 0 (Sc.fN s)), .int .i64 (Sc.fV s), .int .i64 0], .int .i64 (Sc.fE s)]) /\ Below w.heap.size w w' := by
  have hd := Sc.zEn s h0;have hb : (s[0]).toNat < 256 := (s[0]).toNat_lt;have hL := qL ((s[0]).toNat : Int);have hD := qh ((s[0]).toNat : Int);have hH := xS s ⟨#[45, 62]⟩;have hR := uq ((s[0]).toNat : Int) (by omega) (by omega);rw [← hd] at hL hD hR
  by_cases c1 : Sc.lett (Sc.hd s) = true
  · have e1 : Sc.fN s = Sc.spanN Sc.lord s.data.toList := by unfold Sc.fN; rw [if_pos c1]
    have e2 : Sc.fK s = Sc.nameKind (s.extract 0 (Sc.fN s)) (Sc.fN s) := by unfold Sc.fK; rw [if_pos c1]
    have e3 : Sc.fE s = Sc.nameErr (Sc.fN s) := by unfold Sc.fE; rw [if_pos c1]
    have e4 : Sc.fV s = 0 := by unfold Sc.fV; rw [if_pos c1]
    rw [e2, e3, e4, e1];rw [c1] at hL;rw [hd] at hL;exact zBm s h0 w _ _ _ _ hL fun w1 _ => zEZ s hs w1
  · rw [Bool.not_eq_true] at c1
    by_cases c2 : Sc.digi (Sc.hd s) = true
    · have e1 : Sc.fN s = Sc.spanN Sc.digi s.data.toList := by unfold Sc.fN; rw [c1, if_neg (by decide), if_pos c2]
      have e2 : Sc.fK s = 2 := by unfold Sc.fK; rw [c1, if_neg (by decide), if_pos c2]
      have e3 : Sc.fE s = Sc.numErr s (Sc.fN s) := by unfold Sc.fE; rw [c1, if_neg (by decide), if_pos c2]
      have e4 : Sc.fV s = Sc.numNum s (Sc.fN s) := by unfold Sc.fV; rw [c1, if_neg (by decide), if_pos c2]
      rw [e2, e3, e4, e1];rw [c1, hd] at hL;rw [c2, hd] at hD;exact uh s h0 w _ _ _ _ hL hD fun w1 hb => zBa s hs (Sc.vG _ s h0 c2) w1 tp p (jY hb hvar)
    · rw [Bool.not_eq_true] at c2
      rw [c1, hd] at hL;rw [c2, hd] at hD
      by_cases c3 : Lib.hasPrefix s.data.toList [45, 62] = true
      · have e1 : Sc.fN s = 2 := by unfold Sc.fN; rw [c1, c2, c3]; rfl
        have e2 : Sc.fK s = 4 := by unfold Sc.fK; rw [c1, c2, c3]; rfl
        have e3 : Sc.fE s = 0 := by unfold Sc.fE; rw [c1, c2, c3]; rfl
        have e4 : Sc.fV s = 0 := by unfold Sc.fV; rw [c1, c2]; rfl
        rw [e2, e3, e4, e1]
        have hH' : ∀ w : World, Calls Tryz.prog 58 #[.string s, .string ⟨#[45, 62]⟩] w fun e w' => e = .returned (.bool true) /\ w = w' := by
          exact zGd
        have h2 := Sc.vS _ c3;rw [Sc.zZ] at h2;exact zAh s hs h0 hL hD hH' h2 w
      · rw [Bool.not_eq_true] at c3
        have hH' : ∀ w : World, Calls Tryz.prog 58 #[.string s, .string ⟨#[45, 62]⟩] w fun e w' => e = .returned (.bool false) /\ w = w' := by
          exact zGd
        have e1 : Sc.fN s = 1 := by unfold Sc.fN; rw [c1, c2, c3]; rfl
        have e4 : Sc.fV s = 0 := by unfold Sc.fV; rw [c1, c2]; rfl
        by_cases c4 : Sc.isSign (Sc.hd s) = true
        · have e2 : Sc.fK s = 4 := by unfold Sc.fK; rw [c1, c2, c3, c4]; rfl
          have e3 : Sc.fE s = 0 := by unfold Sc.fE; rw [c1, c2, c3, c4]; rfl
          rw [e2, e3, e4, e1];rw [c4, hd] at hR;exact zBk s hs h0 hL hD hH' hR w
        · rw [Bool.not_eq_true] at c4
          have e2 : Sc.fK s = 0 := by unfold Sc.fK; rw [c1, c2, c3, c4]; rfl
          have e3 : Sc.fE s = 10 := by unfold Sc.fE; rw [c1, c2, c3, c4]; rfl
          rw [e2, e3, e4, e1];rw [c4, hd] at hR;exact zBl s hs h0 hL hD hH' hR w
def Sc.isName (s : ByteArray) : Bool := if s.size = 0 then false else decide (Sc.fE s = 0) && decide (Sc.fK s = 1) && decide (Sc.fN s = s.size)
theorem Sc.wy (s : ByteArray) (h0 : 0 < s.size) : Sc.fN s <= s.size := by
  have h1 := Sc.qg Sc.lord s.data.toList;have h2 := Sc.qg Sc.digi s.data.toList;rw [Sc.zZ] at h1 h2;unfold Sc.fN
  split
  · exact h1
  · split
    · exact h2
    · split
      · rename_i h; have := Sc.vS _ h; rw [Sc.zZ] at this; exact this
      · omega
theorem Sc.zAi (s : ByteArray) (n : Nat) (h : n <= s.size) : ((s.extract 0 n).toList == s.toList) = decide (n = s.size) := by
  rw [Bool.eq_iff_iff, beq_iff_eq, decide_eq_true_iff, Lib.extract_toList, Lib.toList_data];have hl := Sc.zZ s
  constructor
  · intro h1
    have := congrArg List.length h1
    simp at this
    omega
  · rintro rfl
    simp [List.take_of_length_le]
end Go.Proofs.YtepmjknljbafgaaGreatDoor
