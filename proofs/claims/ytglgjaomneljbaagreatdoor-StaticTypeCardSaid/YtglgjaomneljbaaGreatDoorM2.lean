import Derived.Test.YtglgjaomneljbaaGreatDoorWord
import Derived.Test.YtglgjaomneljbaaGreatDoorM4
import Derived.Test.YtglgjaomneljbaaGreatDoorNum
import Derived.WalkSmall
import Derived.Test.YtglgjaomneljbaaGreatDoorRune
namespace Go.Proofs.YtglgjaomneljbaaGreatDoor
open Go.RowKit
theorem zFq {P : Prop} (h : P := by
 refine bodyPost_ret (v := .tuple #[.agg #[.int .i8 2, .string (s.extract 0 n), .int .i64 v, .int .i64 0], .int .i64 0]) (by simp [results, Tryz.results137, go_sem, *]) rfl ⟨rfl, ?_⟩
 exact (zo (hbw3.setCell hbw.size _) (Nat.le_refl _) _ _ _ _)) : P := h
theorem zFn {P : Prop} (h : P := by
 refine bodyPost_ret (v := .tuple #[.agg #[.int .i8 (k), .string (s.extract 0 (n)), .int .i64 (v), .int .i64 0], .int .i64 (er)]) (by simp [results, Tryz.results133, go_sem, *]) rfl ⟨rfl, ?_⟩
 exact zo hbw (Nat.le_refl _) _ _ _ _) : P := h
theorem zFl {P : Prop} (h : P := by
 refine bodyPost_ret (v := .tuple #[.agg #[.int .i8 2, .string (s.extract 0 n), .int .i64 0, .int .i64 0], .int .i64 10]) (by simp [results, Tryz.results137, go_sem, *]) rfl ⟨rfl, ?_⟩
 exact (zo hbw3 (Nat.le_refl _) _ _ _ _)) : P := h
theorem zFd {P : Prop} (h : P := by
 rw [Lib.toList_data];have := Sc.za s
 cases hq : s.data.toList with
 | nil => rw [hq] at this; simp at this; omega
 | cons a l => rfl) : P := h
theorem zEo {P : Prop} (h : P := by
 intro w;have := hH w;rw [show (⟨#[45, 62]⟩ : ByteArray).data.toList = [45, 62] from rfl, c3] at this
 exact this) : P := h
def Sc.nameKind (t : ByteArray) (n : Nat) : Int := if 64 < n then 1 else if Sc.isKey t then 3 else 1
def Sc.nameErr (n : Nat) : Int := if 64 < n then 3 else 0
theorem vR {w w1 : World} {o : Obj} {s : ByteArray} {pos : Nat} (hb : Below ((w.alloc o).iter s pos).heap.size ((w.alloc o).iter s pos) w1) : Below w.heap.size w w1 :=
 (((Below.refl _ _).alloc (Nat.le_refl _) _).alloc (by simp) _).trans (hb.mono (by simp [World.iter]; omega))
set_option maxHeartbeats 400000 in
theorem zDO (s : ByteArray) (hs : s.size <= 281474976710656) (w : World) :
  Calls Tryz.prog 135 #[.string s] w fun e w' => e = .returned (.tuple #[.agg #[.int .i8 (Sc.nameKind (s.extract 0 (Sc.spanN Sc.lord s.data.toList)) (Sc.spanN Sc.lord s.data.toList)), .string (s.extract 0 (Sc.spanN Sc.lord s.data.toList)), .int .i64 0, .int .i64 0], .int .i64 (Sc.nameErr (Sc.spanN Sc.lord s.data.toList))]) /\ Below w.heap.size w w' := by
 have hle := Sc.qz Sc.lord s.data.toList;rw [Sc.za] at hle;generalize hn : Sc.spanN Sc.lord s.data.toList = n at *;have hx : (s.extract 0 n).size = n := by simp; omega
 have HX := k0_ hx;clear hx;have hsp := zBd s;rw [hn] at hsp;clear hn
 by_cases h64 : 64 < n
 ·have hk : Sc.nameKind (s.extract 0 n) n = 1 := by unfold Sc.nameKind; rw [if_pos h64]
  have he : Sc.nameErr n = 3 := by unfold Sc.nameErr; rw [if_pos h64]
  rw [hk, he];clear hk he
  go_enter Tryz.func135, Tryz.ntmps135
  go_wp2_with (first | (go_at_call 141; refine (hsp _).mono ?_; rintro e w' ⟨rfl, pos, rfl⟩) | (go_at_call 140; refine (qE 1 _ (by rw [HX.out]; omega) _).mono ?_; rintro e w' ⟨rfl, hb⟩; obtain ⟨q0, q1, q2, q3, f0, f1, f2, f3, hz⟩ := qK (zA hb (by simp [World.iter]; omega) (zH (zD w _) _)); have hbw := vR hb))
  refine bodyPost_ret (v := .tuple #[.agg #[.int .i8 1, .string (s.extract 0 n), .int .i64 0, .int .i64 0], .int .i64 3]) (by simp [results, Tryz.results135, go_sem, *]) rfl ⟨rfl, ?_⟩;exact (zo hbw (Nat.le_refl _) _ _ _ _).alloc (by simp; omega) _
 ·have he : Sc.nameErr n = 0 := by unfold Sc.nameErr; rw [if_neg h64]
  cases hkey : Sc.isKey (s.extract 0 n)
  ·have hk : Sc.nameKind (s.extract 0 n) n = 1 := by unfold Sc.nameKind; rw [if_neg h64, hkey]; rfl
   rw [hk, he];clear hk he;have hkk := vV (s.extract 0 n);rw [hkey] at hkk;clear hkey
   go_enter Tryz.func135, Tryz.ntmps135
   go_wp2_with (first | (go_at_call 141; refine (hsp _).mono ?_; rintro e w' ⟨rfl, pos, rfl⟩) | (go_at_call 140; refine (qE 1 _ (by rw [HX.out]; omega) _).mono ?_; rintro e w' ⟨rfl, hb⟩; obtain ⟨q0, q1, q2, q3, f0, f1, f2, f3, hz⟩ := qK (zA hb (by simp [World.iter]; omega) (zH (zD w _) _)); have hbw := vR hb) | (go_at_call 143; refine (hkk _).mono ?_; rintro e w' ⟨rfl, rfl⟩))
   refine bodyPost_ret (v := .tuple #[.agg #[.int .i8 1, .string (s.extract 0 n), .int .i64 0, .int .i64 0], .int .i64 0]) (by simp [results, Tryz.results135, go_sem, *]) rfl ⟨rfl, ?_⟩;exact (zo hbw (Nat.le_refl _) _ _ _ _).alloc (by simp; omega) _
  ·have hk : Sc.nameKind (s.extract 0 n) n = 3 := by unfold Sc.nameKind; rw [if_neg h64, hkey]; rfl
   rw [hk, he];clear hk he;have hkk := vV (s.extract 0 n);rw [hkey] at hkk;clear hkey
   go_enter Tryz.func135, Tryz.ntmps135
   go_wp2_with (first | (go_at_call 141; refine (hsp _).mono ?_; rintro e w' ⟨rfl, pos, rfl⟩) | (go_at_call 140; refine (qE 1 _ (by rw [HX.out]; omega) _).mono ?_; rintro e w' ⟨rfl, hb⟩; obtain ⟨q0, q1, q2, q3, f0, f1, f2, f3, hz⟩ := qK (zA hb (by simp [World.iter]; omega) (zH (zD w _) _)); have hbw := vR hb) | (go_at_call 143; refine (hkk _).mono ?_; rintro e w' ⟨rfl, rfl⟩))
   refine bodyPost_ret (v := .tuple #[.agg #[.int .i8 3, .string (s.extract 0 n), .int .i64 0, .int .i64 0], .int .i64 0]) (by simp [results, Tryz.results135, go_sem, *]) rfl ⟨rfl, ?_⟩;exact (zo hbw (Nat.le_refl _) _ _ _ _).alloc (by simp; omega) _
end Go.Proofs.YtglgjaomneljbaaGreatDoor
namespace Go.Proofs.YtglgjaomneljbaaGreatDoor
set_option maxHeartbeats 1000000
open Go.RowKit
def Sc.numBad (s : ByteArray) (n : Nat) : Bool := (decide (1 < n) && decide (s.data.toList.head? = some 48)) || decide (0 < Sc.spanN Sc.lett (s.data.toList.drop n))
def Sc.numVal (s : ByteArray) (n : Nat) : Nat := Sc.numFrom 0 (s.data.toList.take n)
def Sc.numErr (s : ByteArray) (n : Nat) : Int := if 9223372036854775808 <= Sc.numVal s n then 3 else if Sc.numBad s n then 10 else 0
def Sc.numNum (s : ByteArray) (n : Nat) : Int := if Sc.numErr s n = 0 then Sc.numVal s n else 0
theorem qc {w w1 : World} {o : Obj} {s : ByteArray} {pos nq : Nat} (hb : Below (((w.alloc o).iter s pos).drewN nq).heap.size (((w.alloc o).iter s pos).drewN nq) w1) : Below w.heap.size w w1 := by
 have h0 : Below w.heap.size w (((w.alloc o).iter s pos).drewN nq) := by
  have := (((Below.refl w.heap.size w).alloc (Nat.le_refl _) o).alloc (by simp) (.stringIter s pos));exact ⟨this.os, this.tape, this.output, this.size, this.block⟩
 exact h0.trans (hb.mono h0.size)
theorem xQ {P : Program} {W W' : World} {n : String} {cs : Array Value} (h : Below W.heap.size W W') (hv : W.var? P n = some cs) : W'.var? P n = some cs := by
 cases hg : P.globalNamed n with
 | none => unfold World.var? at hv; rw [hg] at hv; cases hv
 | some g =>
  refine var?_below h hg ?_ hv;rcases Nat.lt_or_ge g W.heap.size with h1 | h1
  ·exact h1
  ·exfalso
   unfold World.var? at hv;rw [hg] at hv
   simp [Array.getElem?_eq_none h1] at hv
theorem ji (s : ByteArray) (hs : s.size <= 281474976710656) (v : Int) (h : Lib.parseIntB 64 s.data.toList = .ok v) (w : World) :
  Calls Tryz.prog 144 #[.string s, .int .i64 10, .int .i64 64] w fun e w' => e = .returned (.tuple #[.int .i64 v, .nilIface]) /\ Below w.heap.size w w' := by
 refine (Tryz.strconv_ParseInt_10_at64_ok s (by omega) v h w).mono fun e w' => ?_
 rintro ⟨rfl, rfl | ⟨t, rfl⟩⟩
 ·exact ⟨rfl, Below.refl _ _⟩
 ·exact ⟨rfl, Lib.bytesWorld_below _ _ _⟩
theorem zAf (s : ByteArray) (hs : s.size <= 281474976710656) (n : Nat) (hle : n <= s.size) (h1 : 1 <= n)
  (hsp : ∀ w : World, Calls Tryz.prog 141 #[.string s, .func (.func 136) #[] #[]] w fun e w' => e = .returned (.int .i64 n) /\ ∃ pos, w' = w.iter s pos)
  (hr : Lib.parseIntB 64 (s.extract 0 n).data.toList = .range) (w : World) (tp : TypeId) (p : Value) (hvar : w.var? Tryz.prog "strconv.ErrRange" = some #[.iface tp p]) :
  Calls Tryz.prog 137 #[.string s] w fun e w' => e = .returned (.tuple #[.agg #[.int .i8 2, .string (s.extract 0 n), .int .i64 0, .int .i64 0], .int .i64 3]) /\ Below w.heap.size w w' := by
 have hx : (s.extract 0 n).size = n := by simp; omega
 have HX := k0_ hx;clear hx;have i1 : (n : Int) <= s.size := by omega
 have i2 : (0 : Int) <= n := by omega
 have HV := k0_ hvar;clear hvar
 go_enter Tryz.func137, Tryz.ntmps137
 go_wp2_with (go_at_call 141; refine (hsp _).mono ?_; rintro e w' ⟨rfl, pos, rfl⟩)
 go_quiet (fail)
 go_wp2_with (first | (go_at_call 140; refine (qE 2 _ (by rw [HX.out]; omega) _).mono ?_; rintro e w1 ⟨rfl, hb⟩; have H1 := k0_ (zA hb (by simp [World.iter]; omega) (zH (zD w _) _)); obtain ⟨q0, q1, q2, q3, f0, f1, f2, f3, hz⟩ := qK H1.out; have hbw := qc hb) | (go_at_call 144; refine (Tryz.strconv_ParseInt_10_at64_range_var _ (by rw [HX.out]; omega) hr tp p _ (xQ (hbw.alloc hbw.size _) HV.out)).mono ?_; rintro e w2 ⟨N, rfl, _, _, hb2⟩; have hbw2 := (hbw.alloc hbw.size _).trans (hb2.mono (by have := hbw.size; simp; omega)); have H2 := k0_ (zA hb2 (by simp; omega) (zH H1.out _)); have H3 := k0_ (zA hb2 (by simp) (zD w1 _)); obtain ⟨q0, q1, q2, q3, f0, f1, f2, f3, hz⟩ := qK H2.out; obtain ⟨p0, p1, p2, p3, g0, g1, g2, g3, hy⟩ := qK H3.out))
 refine bodyPost_ret (v := .tuple #[.agg #[.int .i8 2, .string (s.extract 0 n), .int .i64 0, .int .i64 0], .int .i64 3]) (by simp [results, Tryz.results137, go_sem, *]) rfl ⟨rfl, ?_⟩;exact (zo hbw2 (Nat.le_refl _) _ _ _ _)
theorem kV (s : ByteArray) (hs : s.size <= 281474976710656) (n : Nat) (hle : n <= s.size) (h1 : 1 <= n)
  (hsp : ∀ w : World, Calls Tryz.prog 141 #[.string s, .func (.func 136) #[] #[]] w fun e w' => e = .returned (.int .i64 n) /\ ∃ pos, w' = w.iter s pos)
  (v : Int) (hr : Lib.parseIntB 64 (s.extract 0 n).data.toList = .ok v) (hx0 : 0 < (s.extract 0 n).size) (hn2 : 1 < n) (hd : ((((s.extract 0 n)[0]'hx0).toNat : Int) == 48) = true) (w : World) (tp : TypeId) (p : Value) (hvar : w.var? Tryz.prog "strconv.ErrRange" = some #[.iface tp p]) :
  Calls Tryz.prog 137 #[.string s] w fun e w' => e = .returned (.tuple #[.agg #[.int .i8 2, .string (s.extract 0 n), .int .i64 0, .int .i64 0], .int .i64 10]) /\ Below w.heap.size w w' := by
 have hx : (s.extract 0 n).size = n := by simp; omega
 have HX := k0_ hx;clear hx;have i1 : (n : Int) <= s.size := by omega
 have i2 : (0 : Int) <= n := by omega
 have HV := k0_ hvar;clear hvar
 go_enter Tryz.func137, Tryz.ntmps137
 go_wp2_with (go_at_call 141; refine (hsp _).mono ?_; rintro e w' ⟨rfl, pos, rfl⟩)
 go_quiet (fail)
 go_wp2_with (first | (go_at_call 140; refine (qE 2 _ (by rw [HX.out]; omega) _).mono ?_; rintro e w1 ⟨rfl, hb⟩; have H1 := k0_ (zA hb (by simp [World.iter]; omega) (zH (zD w _) _)); obtain ⟨q0, q1, q2, q3, f0, f1, f2, f3, hz⟩ := qK H1.out; have hbw := qc hb) | (go_at_call 144; refine (ji _ (by rw [HX.out]; omega) v hr _).mono ?_; rintro e w2 ⟨rfl, hb2⟩; have hbw2 := (hbw.alloc hbw.size _).trans (hb2.mono (by have := hbw.size; simp; omega)); have H2 := k0_ (zA hb2 (by simp; omega) (zH H1.out _)); have H3 := k0_ (zA hb2 (by simp) (zD w1 _)); obtain ⟨q0, q1, q2, q3, f0, f1, f2, f3, hz⟩ := qK H2.out; obtain ⟨p0, p1, p2, p3, g0, g1, g2, g3, hy⟩ := qK H3.out))
 clear hd;refine bodyPost_ret (v := .tuple #[.agg #[.int .i8 2, .string (s.extract 0 n), .int .i64 0, .int .i64 0], .int .i64 10]) (by simp [results, Tryz.results137, go_sem, *]) rfl ⟨rfl, ?_⟩;exact (zo hbw2 (Nat.le_refl _) _ _ _ _)
theorem yK (s : ByteArray) (_hs : s.size <= 281474976710656) (n : Nat) (hle : n <= s.size) (h1 : 1 <= n)
  (hsp : ∀ w : World, Calls Tryz.prog 141 #[.string s, .func (.func 136) #[] #[]] w fun e w' => e = .returned (.int .i64 n) /\ ∃ pos, w' = w.iter s pos)
  (v : Int) (hr : Lib.parseIntB 64 (s.extract 0 n).data.toList = .ok v) (m : Nat) (hm : 0 < m)
  (hsl : ∀ w : World, Calls Tryz.prog 141 #[.string (s.extract n s.size), .func (.func 134) #[] #[]] w fun e w' => e = .returned (.int .i64 m) /\ Below w.heap.size w w') (hn2 : ¬ 1 < n) (w : World) (tp : TypeId) (p : Value) (hvar : w.var? Tryz.prog "strconv.ErrRange" = some #[.iface tp p]) :
  Calls Tryz.prog 137 #[.string s] w fun e w' => e = .returned (.tuple #[.agg #[.int .i8 2, .string (s.extract 0 n), .int .i64 0, .int .i64 0], .int .i64 10]) /\ Below w.heap.size w w' := by
 have hx : (s.extract 0 n).size = n := by simp; omega
 have HX := k0_ hx;clear hx;have i1 : (n : Int) <= s.size := by omega
 have i2 : (0 : Int) <= n := by omega
 have HV := k0_ hvar;clear hvar
 go_enter Tryz.func137, Tryz.ntmps137
 go_wp2_with (go_at_call 141; refine (hsp _).mono ?_; rintro e w' ⟨rfl, pos, rfl⟩)
 go_quiet (fail)
 go_wp2_with (first | (go_at_call 140; refine (qE 2 _ (by rw [HX.out]; omega) _).mono ?_; rintro e w1 ⟨rfl, hb⟩; have H1 := k0_ (zA hb (by simp [World.iter]; omega) (zH (zD w _) _)); obtain ⟨q0, q1, q2, q3, f0, f1, f2, f3, hz⟩ := qK H1.out; have hbw := qc hb) | (go_at_call 144; refine (ji _ (by rw [HX.out]; omega) v hr _).mono ?_; rintro e w2 ⟨rfl, hb2⟩; have hbw2 := (hbw.alloc hbw.size _).trans (hb2.mono (by have := hbw.size; simp; omega)); have H2 := k0_ (zA hb2 (by simp; omega) (zH H1.out _)); have H3 := k0_ (zA hb2 (by simp) (zD w1 _)); obtain ⟨q0, q1, q2, q3, f0, f1, f2, f3, hz⟩ := qK H2.out; obtain ⟨p0, p1, p2, p3, g0, g1, g2, g3, hy⟩ := qK H3.out) | (go_at_call 141; refine (hsl _).mono ?_; rintro e w3 ⟨rfl, hb3⟩; have hbw3 := hbw2.trans (hb3.mono hbw2.size); obtain ⟨q0, q1, q2, q3, f0, f1, f2, f3, hz⟩ := qK (zA hb3 hz H2.out); obtain ⟨p0, p1, p2, p3, g0, g1, g2, g3, hy⟩ := qK (zA hb3 hy H3.out)))
 exact zFl
theorem yJ (s : ByteArray) (hs : s.size <= 281474976710656) (n : Nat) (hle : n <= s.size) (h1 : 1 <= n)
  (hsp : ∀ w : World, Calls Tryz.prog 141 #[.string s, .func (.func 136) #[] #[]] w fun e w' => e = .returned (.int .i64 n) /\ ∃ pos, w' = w.iter s pos)
  (v : Int) (hr : Lib.parseIntB 64 (s.extract 0 n).data.toList = .ok v) (m : Nat) (hm : 0 < m)
  (hsl : ∀ w : World, Calls Tryz.prog 141 #[.string (s.extract n s.size), .func (.func 134) #[] #[]] w fun e w' => e = .returned (.int .i64 m) /\ Below w.heap.size w w') (hx0 : 0 < (s.extract 0 n).size) (hn2 : 1 < n) (hd : ((((s.extract 0 n)[0]'hx0).toNat : Int) == 48) = false) (w : World) (tp : TypeId) (p : Value) (hvar : w.var? Tryz.prog "strconv.ErrRange" = some #[.iface tp p]) :
  Calls Tryz.prog 137 #[.string s] w fun e w' => e = .returned (.tuple #[.agg #[.int .i8 2, .string (s.extract 0 n), .int .i64 0, .int .i64 0], .int .i64 10]) /\ Below w.heap.size w w' := by
 have hx : (s.extract 0 n).size = n := by simp; omega
 have HX := k0_ hx;clear hx;have i1 : (n : Int) <= s.size := by omega
 have i2 : (0 : Int) <= n := by omega
 have HV := k0_ hvar;clear hvar
 go_enter Tryz.func137, Tryz.ntmps137
 go_wp2_with (go_at_call 141; refine (hsp _).mono ?_; rintro e w' ⟨rfl, pos, rfl⟩)
 go_quiet (fail)
 go_wp2_with (first | (go_at_call 140; refine (qE 2 _ (by rw [HX.out]; omega) _).mono ?_; rintro e w1 ⟨rfl, hb⟩; have H1 := k0_ (zA hb (by simp [World.iter]; omega) (zH (zD w _) _)); obtain ⟨q0, q1, q2, q3, f0, f1, f2, f3, hz⟩ := qK H1.out; have hbw := qc hb) | (go_at_call 144; refine (ji _ (by rw [HX.out]; omega) v hr _).mono ?_; rintro e w2 ⟨rfl, hb2⟩; have hbw2 := (hbw.alloc hbw.size _).trans (hb2.mono (by have := hbw.size; simp; omega)); have H2 := k0_ (zA hb2 (by simp; omega) (zH H1.out _)); have H3 := k0_ (zA hb2 (by simp) (zD w1 _)); obtain ⟨q0, q1, q2, q3, f0, f1, f2, f3, hz⟩ := qK H2.out; obtain ⟨p0, p1, p2, p3, g0, g1, g2, g3, hy⟩ := qK H3.out) | (go_at_call 141; refine (hsl _).mono ?_; rintro e w3 ⟨rfl, hb3⟩; have hbw3 := hbw2.trans (hb3.mono hbw2.size); obtain ⟨q0, q1, q2, q3, f0, f1, f2, f3, hz⟩ := qK (zA hb3 hz H2.out); obtain ⟨p0, p1, p2, p3, g0, g1, g2, g3, hy⟩ := qK (zA hb3 hy H3.out)))
 clear hd;exact zFl
theorem zAe (s : ByteArray) (_hs : s.size <= 281474976710656) (n : Nat) (hle : n <= s.size) (h1 : 1 <= n)
  (hsp : ∀ w : World, Calls Tryz.prog 141 #[.string s, .func (.func 136) #[] #[]] w fun e w' => e = .returned (.int .i64 n) /\ ∃ pos, w' = w.iter s pos)
  (v : Int) (hr : Lib.parseIntB 64 (s.extract 0 n).data.toList = .ok v)
  (hsl : ∀ w : World, Calls Tryz.prog 141 #[.string (s.extract n s.size), .func (.func 134) #[] #[]] w fun e w' => e = .returned (.int .i64 0) /\ Below w.heap.size w w') (hn2 : ¬ 1 < n) (w : World) (tp : TypeId) (p : Value) (hvar : w.var? Tryz.prog "strconv.ErrRange" = some #[.iface tp p]) :
  Calls Tryz.prog 137 #[.string s] w fun e w' => e = .returned (.tuple #[.agg #[.int .i8 2, .string (s.extract 0 n), .int .i64 v, .int .i64 0], .int .i64 0]) /\ Below w.heap.size w w' := by
 have hx : (s.extract 0 n).size = n := by simp; omega
 have HX := k0_ hx;clear hx;have i1 : (n : Int) <= s.size := by omega
 have i2 : (0 : Int) <= n := by omega
 have HV := k0_ hvar;clear hvar
 go_enter Tryz.func137, Tryz.ntmps137
 go_wp2_with (go_at_call 141; refine (hsp _).mono ?_; rintro e w' ⟨rfl, pos, rfl⟩)
 go_quiet (fail)
 go_wp2_with (first | (go_at_call 140; refine (qE 2 _ (by rw [HX.out]; omega) _).mono ?_; rintro e w1 ⟨rfl, hb⟩; have H1 := k0_ (zA hb (by simp [World.iter]; omega) (zH (zD w _) _)); obtain ⟨q0, q1, q2, q3, f0, f1, f2, f3, hz⟩ := qK H1.out; have hbw := qc hb) | (go_at_call 144; refine (ji _ (by rw [HX.out]; omega) v hr _).mono ?_; rintro e w2 ⟨rfl, hb2⟩; have hbw2 := (hbw.alloc hbw.size _).trans (hb2.mono (by have := hbw.size; simp; omega)); have H2 := k0_ (zA hb2 (by simp; omega) (zH H1.out _)); have H3 := k0_ (zA hb2 (by simp) (zD w1 _)); obtain ⟨q0, q1, q2, q3, f0, f1, f2, f3, hz⟩ := qK H2.out; obtain ⟨p0, p1, p2, p3, g0, g1, g2, g3, hy⟩ := qK H3.out) | (go_at_call 141; refine (hsl _).mono ?_; rintro e w3 ⟨rfl, hb3⟩; have hbw3 := hbw2.trans (hb3.mono hbw2.size); obtain ⟨q0, q1, q2, q3, f0, f1, f2, f3, hz⟩ := qK (zA hb3 hz H2.out); obtain ⟨p0, p1, p2, p3, g0, g1, g2, g3, hy⟩ := qK (zA hb3 hy H3.out)))
 exact zFq
theorem zAd (s : ByteArray) (hs : s.size <= 281474976710656) (n : Nat) (hle : n <= s.size) (h1 : 1 <= n)
  (hsp : ∀ w : World, Calls Tryz.prog 141 #[.string s, .func (.func 136) #[] #[]] w fun e w' => e = .returned (.int .i64 n) /\ ∃ pos, w' = w.iter s pos)
  (v : Int) (hr : Lib.parseIntB 64 (s.extract 0 n).data.toList = .ok v)
  (hsl : ∀ w : World, Calls Tryz.prog 141 #[.string (s.extract n s.size), .func (.func 134) #[] #[]] w fun e w' => e = .returned (.int .i64 0) /\ Below w.heap.size w w') (hx0 : 0 < (s.extract 0 n).size) (hn2 : 1 < n) (hd : ((((s.extract 0 n)[0]'hx0).toNat : Int) == 48) = false) (w : World) (tp : TypeId) (p : Value) (hvar : w.var? Tryz.prog "strconv.ErrRange" = some #[.iface tp p]) :
  Calls Tryz.prog 137 #[.string s] w fun e w' => e = .returned (.tuple #[.agg #[.int .i8 2, .string (s.extract 0 n), .int .i64 v, .int .i64 0], .int .i64 0]) /\ Below w.heap.size w w' := by
 have hx : (s.extract 0 n).size = n := by simp; omega
 have HX := k0_ hx;clear hx;have i1 : (n : Int) <= s.size := by omega
 have i2 : (0 : Int) <= n := by omega
 have HV := k0_ hvar;clear hvar
 go_enter Tryz.func137, Tryz.ntmps137
 go_wp2_with (go_at_call 141; refine (hsp _).mono ?_; rintro e w' ⟨rfl, pos, rfl⟩)
 go_quiet (fail)
 go_wp2_with (first | (go_at_call 140; refine (qE 2 _ (by rw [HX.out]; omega) _).mono ?_; rintro e w1 ⟨rfl, hb⟩; have H1 := k0_ (zA hb (by simp [World.iter]; omega) (zH (zD w _) _)); obtain ⟨q0, q1, q2, q3, f0, f1, f2, f3, hz⟩ := qK H1.out; have hbw := qc hb) | (go_at_call 144; refine (ji _ (by rw [HX.out]; omega) v hr _).mono ?_; rintro e w2 ⟨rfl, hb2⟩; have hbw2 := (hbw.alloc hbw.size _).trans (hb2.mono (by have := hbw.size; simp; omega)); have H2 := k0_ (zA hb2 (by simp; omega) (zH H1.out _)); have H3 := k0_ (zA hb2 (by simp) (zD w1 _)); obtain ⟨q0, q1, q2, q3, f0, f1, f2, f3, hz⟩ := qK H2.out; obtain ⟨p0, p1, p2, p3, g0, g1, g2, g3, hy⟩ := qK H3.out) | (go_at_call 141; refine (hsl _).mono ?_; rintro e w3 ⟨rfl, hb3⟩; have hbw3 := hbw2.trans (hb3.mono hbw2.size); obtain ⟨q0, q1, q2, q3, f0, f1, f2, f3, hz⟩ := qK (zA hb3 hz H2.out); obtain ⟨p0, p1, p2, p3, g0, g1, g2, g3, hy⟩ := qK (zA hb3 hy H3.out)))
 clear hd;exact zFq
theorem Sc.wN (s : ByteArray) (n : Nat) (h : 1 <= n) (hle : n <= s.size) (hx0 : 0 < (s.extract 0 n).size) : s.data.toList.head? = some ((s.extract 0 n)[0]'hx0) := by
 have h0 : 0 < s.size := by omega
 have e : (s.extract 0 n)[0]'hx0 = s[0]'h0 := by rw [ByteArray.getElem_extract]
 rw [e, ← Sc.zx s 0 h0 (by rw [Sc.za]; exact h0)];rw [List.head?_eq_getElem?, List.getElem?_eq_getElem]
theorem zAg (s : ByteArray) (hs : s.size <= 281474976710656) (h1 : 1 <= Sc.spanN Sc.digi s.data.toList) (w : World) (tp : TypeId) (p : Value) (hvar : w.var? Tryz.prog "strconv.ErrRange" = some #[.iface tp p]) :
  Calls Tryz.prog 137 #[.string s] w fun e w' => e = .returned (.tuple #[.agg #[.int .i8 2, .string (s.extract 0 (Sc.spanN Sc.digi s.data.toList)), .int .i64 (Sc.numNum s (Sc.spanN Sc.digi s.data.toList)), .int .i64 0], .int .i64 (Sc.numErr s (Sc.spanN Sc.digi s.data.toList))]) /\ Below w.heap.size w w' := by
 have hle := Sc.qz Sc.digi s.data.toList;rw [Sc.za] at hle;have hsp := zAA s;have hall := Sc.wX s.data.toList;generalize hn : Sc.spanN Sc.digi s.data.toList = n at *;have hx : (s.extract 0 n).size = n := by simp; omega
 have hx0 : 0 < (s.extract 0 n).size := by omega
 have hxd : (s.extract 0 n).data.toList = s.data.toList.take n := by rw [Lib.extract_data]; simp
 have hlen : (s.data.toList.take n).length = n := by simp; omega
 have hp := Sc.zE3 (s.data.toList.take n) (by intro h; rw [h] at hlen; simp at hlen; omega) hall;rw [← hxd] at hp;have hv : Sc.numFrom 0 (s.extract 0 n).data.toList = Sc.numVal s n := by rw [hxd]; rfl
 rw [hv] at hp
 by_cases hb : Sc.numVal s n < 9223372036854775808
 ·rw [if_pos hb] at hp
  have hb' : ¬ 9223372036854775808 <= Sc.numVal s n := by omega
  have hdl : (s.extract n s.size).data.toList = s.data.toList.drop n := by rw [Lib.extract_data]; exact List.take_of_length_le (by simp)
  have hsl : ∀ w : World, Calls Tryz.prog 141 #[.string (s.extract n s.size), .func (.func 134) #[] #[]] w fun e w' => e = .returned (.int .i64 (Sc.spanN Sc.lett (s.data.toList.drop n))) /\ Below w.heap.size w w' := by
   intro w;rw [← hdl];refine (wy _ w).mono fun e w' => ?_
   rintro ⟨rfl, pos, rfl⟩;exact ⟨rfl, (Below.refl _ _).alloc (Nat.le_refl _) _⟩
  have hh := Sc.wN s n h1 hle hx0
  have bad_of : ∀ b, Sc.numBad s n = b -> Sc.numErr s n = (if b then 10 else 0) /\ Sc.numNum s n = if b then 0 else (Sc.numVal s n : Int) := by
   intro b hbb;have : Sc.numErr s n = (if b then 10 else 0) := by unfold Sc.numErr; rw [if_neg hb', hbb]
   refine ⟨this, ?_⟩;unfold Sc.numNum;rw [this];cases b <;> simp
  by_cases hm : 0 < Sc.spanN Sc.lett (s.data.toList.drop n)
  ·have hbad : Sc.numBad s n = true := by unfold Sc.numBad; simp [hm]
   obtain ⟨e1, e2⟩ := bad_of true hbad;rw [e1, e2]
   by_cases h2 : 1 < n
   ·cases h48 : ((((s.extract 0 n)[0]'hx0).toNat : Int) == 48)
    ·exact yJ s hs n hle h1 hsp _ hp _ hm hsl hx0 h2 h48 w tp p hvar
    ·exact kV s hs n hle h1 hsp _ hp hx0 h2 h48 w tp p hvar
   ·exact yK s hs n hle h1 hsp _ hp _ hm hsl h2 w tp p hvar
  ·have hm0 : Sc.spanN Sc.lett (s.data.toList.drop n) = 0 := by omega
   rw [hm0] at hsl
   by_cases h2 : 1 < n
   ·cases h48 : ((((s.extract 0 n)[0]'hx0).toNat : Int) == 48)
    ·have hbad : Sc.numBad s n = false := by
      unfold Sc.numBad
      have : ¬ s.data.toList.head? = some 48 := by
       rw [hh]; intro h; injection h with h; rw [h] at h48; simp at h48
      simp [hm0, this]
     obtain ⟨e1, e2⟩ := bad_of false hbad;rw [e1, e2];exact zAd s hs n hle h1 hsp _ hp hsl hx0 h2 h48 w tp p hvar
    ·have hbad : Sc.numBad s n = true := by
      unfold Sc.numBad
      have : s.data.toList.head? = some 48 := by
       rw [hh]; congr 1; apply UInt8.toNat_inj.1; have := beq_iff_eq.1 h48; show _ = 48; omega
      simp [this, h2]
     obtain ⟨e1, e2⟩ := bad_of true hbad;rw [e1, e2];exact kV s hs n hle h1 hsp _ hp hx0 h2 h48 w tp p hvar
   ·have hbad : Sc.numBad s n = false := by unfold Sc.numBad; simp [hm0, h2]
    obtain ⟨e1, e2⟩ := bad_of false hbad;rw [e1, e2];exact zAe s hs n hle h1 hsp _ hp hsl h2 w tp p hvar
 ·rw [if_neg hb] at hp
  have e1 : Sc.numErr s n = 3 := by unfold Sc.numErr; rw [if_pos (by omega)]
  have e2 : Sc.numNum s n = 0 := by unfold Sc.numNum; rw [e1]; rfl
  rw [e1, e2];exact zAf s hs n hle h1 hsp hp w tp p hvar
set_option maxHeartbeats 1000000
set_option maxRecDepth 100000
open Go.RowKit
def Sc.hd (s : ByteArray) : Int := ((s.data.toList.headD 0).toNat : Int)
def Sc.fN (s : ByteArray) : Nat := if Sc.lett (Sc.hd s) then Sc.spanN Sc.lord s.data.toList else if Sc.digi (Sc.hd s) then Sc.spanN Sc.digi s.data.toList else if Lib.hasPrefix s.data.toList [45, 62] then 2 else 1
def Sc.fK (s : ByteArray) : Int := if Sc.lett (Sc.hd s) then Sc.nameKind (s.extract 0 (Sc.fN s)) (Sc.fN s) else if Sc.digi (Sc.hd s) then 2 else if Lib.hasPrefix s.data.toList [45, 62] || Sc.isSign (Sc.hd s) then 4 else 0
def Sc.fE (s : ByteArray) : Int := if Sc.lett (Sc.hd s) then Sc.nameErr (Sc.fN s) else if Sc.digi (Sc.hd s) then Sc.numErr s (Sc.fN s) else if Lib.hasPrefix s.data.toList [45, 62] || Sc.isSign (Sc.hd s) then 0 else 10
def Sc.fV (s : ByteArray) : Int := if Sc.lett (Sc.hd s) then 0 else if Sc.digi (Sc.hd s) then Sc.numNum s (Sc.fN s) else 0
theorem Sc.xK (s : ByteArray) (h : 0 < s.size) : Sc.hd s = ((s[0]'h).toNat : Int) := by
 have hl : 0 < s.data.toList.length := by rw [Sc.za]; exact h
 have e := Sc.zx s 0 h hl;unfold Sc.hd;rw [List.headD_eq_head?_getD, List.head?_eq_getElem?, List.getElem?_eq_getElem hl, e]
 rfl
theorem yR (s p : ByteArray) (w : World) :
  Calls Tryz.prog 138 #[.string s, .string p] w fun e w' => e = .returned (.bool (Lib.hasPrefix s.data.toList p.data.toList)) /\ w = w' :=
 (Tryz.strings_HasPrefix s p w).mono fun _ _ h => ⟨h.1, h.2.symm⟩
theorem qH {w w1 : World} {v0 v1 v2 v3 : Value} {t : TypeId} (hb : Below (w.alloc (.cells #[v0, v1, v2, v3] t)).heap.size (w.alloc (.cells #[v0, v1, v2, v3] t)) w1) :
  w1.heap[w.heap.size]? = some (.cells #[v0, v1, v2, v3] t) /\ Below w.heap.size w w1 :=
 ⟨zA hb (by simp) (zD w _), ((Below.refl _ _).alloc (Nat.le_refl _) _).trans (hb.mono (by simp))⟩
theorem zAr (s : ByteArray) (h0 : 0 < s.size) (w : World) (k v er : Int) (n : Nat)
  (hL : ∀ w : World, Calls Tryz.prog 134 #[.int .i32 ((s[0]).toNat : Int)] w fun e w' => e = .returned (.bool true) /\ w = w')
  (hF : ∀ w1 : World, Below w.heap.size w w1 -> Calls Tryz.prog 135 #[.string s] w1 fun e w' => e = .returned (.tuple #[.agg #[.int .i8 k, .string (s.extract 0 n), .int .i64 v, .int .i64 0], .int .i64 er]) /\ Below w1.heap.size w1 w')
  :
  Calls Tryz.prog 133 #[.string s] w fun e w' => e = .returned (.tuple #[.agg #[.int .i8 (k), .string (s.extract 0 (n)), .int .i64 (v), .int .i64 0], .int .i64 (er)]) /\ Below w.heap.size w w' := by
 have i0 : (0 : Int) < s.size := by omega
 have hw32 : wrap32 ((s[0]).toNat : Int) = ((s[0]).toNat : Int) := by have := (s[0]).toNat_lt; exact IntWalk.wrap32_in _ ⟨by omega, by omega⟩
 go_enter Tryz.func133, Tryz.ntmps133
 go_wp2_with (first | (go_at_call 134; refine (hL _).mono ?_; rintro e w1 ⟨rfl, rfl⟩) | (go_at_call 135; refine (hF _ ((Below.refl _ _).alloc (Nat.le_refl _) _)).mono ?_; rintro e w1 ⟨rfl, hb⟩; have hbw := (qH hb).2; obtain ⟨q0, q1, q2, q3, f0, f1, f2, f3, hz⟩ := qK (qH hb).1))
 exact zFn
theorem wM (s : ByteArray) (h0 : 0 < s.size) (w : World) (k v er : Int) (n : Nat)
  (hL : ∀ w : World, Calls Tryz.prog 134 #[.int .i32 ((s[0]).toNat : Int)] w fun e w' => e = .returned (.bool false) /\ w = w')
  (hD : ∀ w : World, Calls Tryz.prog 136 #[.int .i32 ((s[0]).toNat : Int)] w fun e w' => e = .returned (.bool true) /\ w = w')
  (hF : ∀ w1 : World, Below w.heap.size w w1 -> Calls Tryz.prog 137 #[.string s] w1 fun e w' => e = .returned (.tuple #[.agg #[.int .i8 k, .string (s.extract 0 n), .int .i64 v, .int .i64 0], .int .i64 er]) /\ Below w1.heap.size w1 w')
  :
  Calls Tryz.prog 133 #[.string s] w fun e w' => e = .returned (.tuple #[.agg #[.int .i8 (k), .string (s.extract 0 (n)), .int .i64 (v), .int .i64 0], .int .i64 (er)]) /\ Below w.heap.size w w' := by
 have i0 : (0 : Int) < s.size := by omega
 have hw32 : wrap32 ((s[0]).toNat : Int) = ((s[0]).toNat : Int) := by have := (s[0]).toNat_lt; exact IntWalk.wrap32_in _ ⟨by omega, by omega⟩
 go_enter Tryz.func133, Tryz.ntmps133
 go_wp2_with (first | (go_at_call 134; refine (hL _).mono ?_; rintro e w1 ⟨rfl, rfl⟩) | (go_at_call 136; refine (hD _).mono ?_; rintro e w1 ⟨rfl, rfl⟩) | (go_at_call 137; refine (hF _ ((Below.refl _ _).alloc (Nat.le_refl _) _)).mono ?_; rintro e w1 ⟨rfl, hb⟩; have hbw := (qH hb).2; obtain ⟨q0, q1, q2, q3, f0, f1, f2, f3, hz⟩ := qK (qH hb).1))
 exact zFn
theorem uX (s : ByteArray) (hs : s.size <= 281474976710656) (h0 : 0 < s.size)
  (hL : ∀ w : World, Calls Tryz.prog 134 #[.int .i32 ((s[0]).toNat : Int)] w fun e w' => e = .returned (.bool false) /\ w = w')
  (hD : ∀ w : World, Calls Tryz.prog 136 #[.int .i32 ((s[0]).toNat : Int)] w fun e w' => e = .returned (.bool false) /\ w = w')
  (hH : ∀ w : World, Calls Tryz.prog 138 #[.string s, .string ⟨#[45, 62]⟩] w fun e w' => e = .returned (.bool true) /\ w = w')
  (h2 : 2 <= s.size) (w : World) :
  Calls Tryz.prog 133 #[.string s] w fun e w' => e = .returned (.tuple #[.agg #[.int .i8 (4), .string (s.extract 0 (2)), .int .i64 (0), .int .i64 0], .int .i64 (0)]) /\ Below w.heap.size w w' := by
 have i0 : (0 : Int) < s.size := by omega
 have hw32 : wrap32 ((s[0]).toNat : Int) = ((s[0]).toNat : Int) := by have := (s[0]).toNat_lt; exact IntWalk.wrap32_in _ ⟨by omega, by omega⟩
 have hx : (s.extract 0 2).size = 2 := by simp; omega
 have HX := k0_ hx;clear hx;have i2 : (2 : Int) <= s.size := by omega
 go_enter Tryz.func133, Tryz.ntmps133
 go_wp2_with (first | (go_at_call 134; refine (hL _).mono ?_; rintro e w1 ⟨rfl, rfl⟩) | (go_at_call 136; refine (hD _).mono ?_; rintro e w1 ⟨rfl, rfl⟩) | (go_at_call 138; refine (hH _).mono ?_; rintro e w1 ⟨rfl, rfl⟩) | (go_at_call 140; refine (qE 4 _ (by rw [HX.out]; omega) _).mono ?_; rintro e w1 ⟨rfl, hb⟩; have hbw := (qH hb).2; obtain ⟨q0, q1, q2, q3, f0, f1, f2, f3, hz⟩ := qK (qH hb).1))
 refine bodyPost_ret (v := .tuple #[.agg #[.int .i8 (4), .string (s.extract 0 (2)), .int .i64 (0), .int .i64 0], .int .i64 (0)]) (by simp [results, Tryz.results133, go_sem, *]) rfl ⟨rfl, ?_⟩;exact zo hbw (Nat.le_refl _) _ _ _ _
theorem zAp (s : ByteArray) (hs : s.size <= 281474976710656) (h0 : 0 < s.size)
  (hL : ∀ w : World, Calls Tryz.prog 134 #[.int .i32 ((s[0]).toNat : Int)] w fun e w' => e = .returned (.bool false) /\ w = w')
  (hD : ∀ w : World, Calls Tryz.prog 136 #[.int .i32 ((s[0]).toNat : Int)] w fun e w' => e = .returned (.bool false) /\ w = w')
  (hH : ∀ w : World, Calls Tryz.prog 138 #[.string s, .string ⟨#[45, 62]⟩] w fun e w' => e = .returned (.bool false) /\ w = w')
  (hR : ∀ w : World, Calls Tryz.prog 139 #[.string ⟨#[92, 46, 58, 61, 40, 41, 91, 93, 123, 125, 44, 124, 43, 45, 42, 47, 60, 62, 63, 59]⟩, .int .i32 ((s[0]).toNat : Int)] w fun e w' => e = .returned (.bool true) /\ Below w.heap.size w w')
   (w : World) :
  Calls Tryz.prog 133 #[.string s] w fun e w' => e = .returned (.tuple #[.agg #[.int .i8 (4), .string (s.extract 0 (1)), .int .i64 (0), .int .i64 0], .int .i64 (0)]) /\ Below w.heap.size w w' := by
 have i0 : (0 : Int) < s.size := by omega
 have hw32 : wrap32 ((s[0]).toNat : Int) = ((s[0]).toNat : Int) := by have := (s[0]).toNat_lt; exact IntWalk.wrap32_in _ ⟨by omega, by omega⟩
 have hx : (s.extract 0 1).size = 1 := by simp; omega
 have HX := k0_ hx;clear hx;have i2 : (1 : Int) <= s.size := by omega
 go_enter Tryz.func133, Tryz.ntmps133
 go_wp2_with (first | (go_at_call 134; refine (hL _).mono ?_; rintro e w1 ⟨rfl, rfl⟩) | (go_at_call 136; refine (hD _).mono ?_; rintro e w1 ⟨rfl, rfl⟩) | (go_at_call 138; refine (hH _).mono ?_; rintro e w1 ⟨rfl, rfl⟩) | (go_at_call 139; refine (hR _).mono ?_; rintro e w1 ⟨rfl, hb⟩; have hbw := (qH hb).2; have HH := k0_ (qH hb).1; obtain ⟨q0, q1, q2, q3, f0, f1, f2, f3, hz⟩ := qK HH.out) | (go_at_call 140; refine (qE 4 _ (by rw [HX.out]; omega) _).mono ?_; rintro e w2 ⟨rfl, hb2⟩; have hbw2 := hbw.trans (hb2.mono hbw.size); obtain ⟨q0, q1, q2, q3, f0, f1, f2, f3, hz⟩ := qK (zA hb2 hz HH.out)))
 refine bodyPost_ret (v := .tuple #[.agg #[.int .i8 (4), .string (s.extract 0 (1)), .int .i64 (0), .int .i64 0], .int .i64 (0)]) (by simp [results, Tryz.results133, go_sem, *]) rfl ⟨rfl, ?_⟩;exact zo hbw2 (Nat.le_refl _) _ _ _ _
theorem zAq (s : ByteArray) (hs : s.size <= 281474976710656) (h0 : 0 < s.size)
  (hL : ∀ w : World, Calls Tryz.prog 134 #[.int .i32 ((s[0]).toNat : Int)] w fun e w' => e = .returned (.bool false) /\ w = w')
  (hD : ∀ w : World, Calls Tryz.prog 136 #[.int .i32 ((s[0]).toNat : Int)] w fun e w' => e = .returned (.bool false) /\ w = w')
  (hH : ∀ w : World, Calls Tryz.prog 138 #[.string s, .string ⟨#[45, 62]⟩] w fun e w' => e = .returned (.bool false) /\ w = w')
  (hR : ∀ w : World, Calls Tryz.prog 139 #[.string ⟨#[92, 46, 58, 61, 40, 41, 91, 93, 123, 125, 44, 124, 43, 45, 42, 47, 60, 62, 63, 59]⟩, .int .i32 ((s[0]).toNat : Int)] w fun e w' => e = .returned (.bool false) /\ Below w.heap.size w w')
   (w : World) :
  Calls Tryz.prog 133 #[.string s] w fun e w' => e = .returned (.tuple #[.agg #[.int .i8 (0), .string (s.extract 0 (1)), .int .i64 (0), .int .i64 0], .int .i64 (10)]) /\ Below w.heap.size w w' := by
 have i0 : (0 : Int) < s.size := by omega
 have hw32 : wrap32 ((s[0]).toNat : Int) = ((s[0]).toNat : Int) := by have := (s[0]).toNat_lt; exact IntWalk.wrap32_in _ ⟨by omega, by omega⟩
 have hx : (s.extract 0 1).size = 1 := by simp; omega
 have HX := k0_ hx;clear hx;have i2 : (1 : Int) <= s.size := by omega
 go_enter Tryz.func133, Tryz.ntmps133
 go_wp2_with (first | (go_at_call 134; refine (hL _).mono ?_; rintro e w1 ⟨rfl, rfl⟩) | (go_at_call 136; refine (hD _).mono ?_; rintro e w1 ⟨rfl, rfl⟩) | (go_at_call 138; refine (hH _).mono ?_; rintro e w1 ⟨rfl, rfl⟩) | (go_at_call 139; refine (hR _).mono ?_; rintro e w1 ⟨rfl, hb⟩; have hbw := (qH hb).2; have HH := k0_ (qH hb).1; obtain ⟨q0, q1, q2, q3, f0, f1, f2, f3, hz⟩ := qK HH.out) | (go_at_call 140; refine (qE 0 _ (by rw [HX.out]; omega) _).mono ?_; rintro e w2 ⟨rfl, hb2⟩; have hbw2 := hbw.trans (hb2.mono hbw.size); obtain ⟨q0, q1, q2, q3, f0, f1, f2, f3, hz⟩ := qK (zA hb2 hz HH.out)))
 refine bodyPost_ret (v := .tuple #[.agg #[.int .i8 (0), .string (s.extract 0 (1)), .int .i64 (0), .int .i64 0], .int .i64 (10)]) (by simp [results, Tryz.results133, go_sem, *]) rfl ⟨rfl, ?_⟩;exact zo hbw2 (Nat.le_refl _) _ _ _ _
end Go.Proofs.YtglgjaomneljbaaGreatDoor
namespace Go.Proofs.YtglgjaomneljbaaGreatDoor
open Go.RowKit
theorem Sc.zBe (q : Int -> Bool) (s : ByteArray) (h : 0 < s.size) (hq : q (Sc.hd s) = true) : 1 <= Sc.spanN q s.data.toList := by
 have hl : 0 < s.data.toList.length := by rw [Sc.za]; exact h
 refine Sc.qo q _ 0 hl (Nat.zero_le _) ?_;rw [Sc.zx s 0 h hl, ← Sc.xK s h];exact hq
theorem Sc.vK (l : List UInt8) (h : Lib.hasPrefix l [45, 62] = true) : 2 <= l.length := by
 match l with
 | [] => simp [Lib.hasPrefix] at h
 | [a] => simp [Lib.hasPrefix] at h
 | a :: b :: l => simp
theorem zC8 (s : ByteArray) (hs : s.size <= 281474976710656) (h0 : 0 < s.size) (w : World) (tp : TypeId) (p : Value) (hvar : w.var? Tryz.prog "strconv.ErrRange" = some #[.iface tp p]) :
  Calls Tryz.prog 133 #[.string s] w fun e w' => e = .returned (.tuple #[.agg #[.int .i8 (Sc.fK s), .string (s.extract 0 (Sc.fN s)), .int .i64 (Sc.fV s), .int .i64 0], .int .i64 (Sc.fE s)]) /\ Below w.heap.size w w' := by
 have hd := Sc.xK s h0;have hb : (s[0]).toNat < 256 := (s[0]).toNat_lt;have hL := qF ((s[0]).toNat : Int);have hD := qg ((s[0]).toNat : Int);have hH := yR s ⟨#[45, 62]⟩;have hR := wP ((s[0]).toNat : Int) (by omega) (by omega);rw [← hd] at hL hD hR
 by_cases c1 : Sc.lett (Sc.hd s) = true
 ·have e1 : Sc.fN s = Sc.spanN Sc.lord s.data.toList := by unfold Sc.fN; rw [if_pos c1]
  have e2 : Sc.fK s = Sc.nameKind (s.extract 0 (Sc.fN s)) (Sc.fN s) := by unfold Sc.fK; rw [if_pos c1]
  have e3 : Sc.fE s = Sc.nameErr (Sc.fN s) := by unfold Sc.fE; rw [if_pos c1]
  have e4 : Sc.fV s = 0 := by unfold Sc.fV; rw [if_pos c1]
  rw [e2, e3, e4, e1];rw [c1] at hL;rw [hd] at hL;exact zAr s h0 w _ _ _ _ hL fun w1 _ => zDO s hs w1
 ·rw [Bool.not_eq_true] at c1
  by_cases c2 : Sc.digi (Sc.hd s) = true
  ·have e1 : Sc.fN s = Sc.spanN Sc.digi s.data.toList := by unfold Sc.fN; rw [c1, if_neg (by decide), if_pos c2]
   have e2 : Sc.fK s = 2 := by unfold Sc.fK; rw [c1, if_neg (by decide), if_pos c2]
   have e3 : Sc.fE s = Sc.numErr s (Sc.fN s) := by unfold Sc.fE; rw [c1, if_neg (by decide), if_pos c2]
   have e4 : Sc.fV s = Sc.numNum s (Sc.fN s) := by unfold Sc.fV; rw [c1, if_neg (by decide), if_pos c2]
   rw [e2, e3, e4, e1];rw [c1, hd] at hL;rw [c2, hd] at hD;exact wM s h0 w _ _ _ _ hL hD fun w1 hb => zAg s hs (Sc.zBe _ s h0 c2) w1 tp p (xQ hb hvar)
  ·rw [Bool.not_eq_true] at c2
   rw [c1, hd] at hL;rw [c2, hd] at hD
   by_cases c3 : Lib.hasPrefix s.data.toList [45, 62] = true
   ·have e1 : Sc.fN s = 2 := by unfold Sc.fN; rw [c1, c2, c3]; rfl
    have e2 : Sc.fK s = 4 := by unfold Sc.fK; rw [c1, c2, c3]; rfl
    have e3 : Sc.fE s = 0 := by unfold Sc.fE; rw [c1, c2, c3]; rfl
    have e4 : Sc.fV s = 0 := by unfold Sc.fV; rw [c1, c2]; rfl
    rw [e2, e3, e4, e1]
    have hH' : ∀ w : World, Calls Tryz.prog 138 #[.string s, .string ⟨#[45, 62]⟩] w fun e w' => e = .returned (.bool true) /\ w = w' := by
     exact zEo
    have h2 := Sc.vK _ c3;rw [Sc.za] at h2;exact uX s hs h0 hL hD hH' h2 w
   ·rw [Bool.not_eq_true] at c3
    have hH' : ∀ w : World, Calls Tryz.prog 138 #[.string s, .string ⟨#[45, 62]⟩] w fun e w' => e = .returned (.bool false) /\ w = w' := by
     exact zEo
    have e1 : Sc.fN s = 1 := by unfold Sc.fN; rw [c1, c2, c3]; rfl
    have e4 : Sc.fV s = 0 := by unfold Sc.fV; rw [c1, c2]; rfl
    by_cases c4 : Sc.isSign (Sc.hd s) = true
    ·have e2 : Sc.fK s = 4 := by unfold Sc.fK; rw [c1, c2, c3, c4]; rfl
     have e3 : Sc.fE s = 0 := by unfold Sc.fE; rw [c1, c2, c3, c4]; rfl
     rw [e2, e3, e4, e1];rw [c4, hd] at hR;exact zAp s hs h0 hL hD hH' hR w
    ·rw [Bool.not_eq_true] at c4
     have e2 : Sc.fK s = 0 := by unfold Sc.fK; rw [c1, c2, c3, c4]; rfl
     have e3 : Sc.fE s = 10 := by unfold Sc.fE; rw [c1, c2, c3, c4]; rfl
     rw [e2, e3, e4, e1];rw [c4, hd] at hR;exact zAq s hs h0 hL hD hH' hR w
def Sc.isName (s : ByteArray) : Bool := if s.size = 0 then false else decide (Sc.fE s = 0) && decide (Sc.fK s = 1) && decide (Sc.fN s = s.size)
theorem Sc.zFY (s : ByteArray) (h0 : 0 < s.size) : Sc.fN s <= s.size := by
 have h1 := Sc.qz Sc.lord s.data.toList;have h2 := Sc.qz Sc.digi s.data.toList;rw [Sc.za] at h1 h2;unfold Sc.fN
 split
 ·exact h1
 ·split
  ·exact h2
  ·split
   ·rename_i h; have := Sc.vK _ h; rw [Sc.za] at this; exact this
   ·omega
theorem Sc.uY (s : ByteArray) (n : Nat) (h : n <= s.size) : ((s.extract 0 n).toList == s.toList) = decide (n = s.size) := by
 rw [Bool.eq_iff_iff, beq_iff_eq, decide_eq_true_iff, Lib.extract_toList, Lib.toList_data];have hl := Sc.za s
 constructor
 ·intro h1
  have := congrArg List.length h1
  simp at this
  omega
 ·rintro rfl
  simp [List.take_of_length_le]
set_option maxHeartbeats 1000000 in
set_option maxRecDepth 100000 in
theorem xe (s : ByteArray) (k v er : Int) (n : Nat) (w : World) (b1 b2 b3 : Bool) (h1 : (er == 0) = b1) (h2 : (k == 1) = b2) (h3 : ((s.extract 0 n).toList == s.toList) = b3)
  (he : s.toList.isEmpty = false)
  (hF : ∀ w1 : World, Below w.heap.size w w1 -> Calls Tryz.prog 133 #[.string s] w1 fun e w' => e = .returned (.tuple #[.agg #[.int .i8 k, .string (s.extract 0 n), .int .i64 v, .int .i64 0], .int .i64 er]) /\ Below w1.heap.size w1 w') :
  Calls Tryz.prog 130 #[.string s] w fun e w' => e = .returned (.bool (b1 && b2 && b3)) /\ Below w.heap.size w w' := by
 have he2 : (s.toList == []) = false := by cases hq : s.toList <;> simp_all
 cases b1 <;> cases b2 <;> cases b3
 all_goals
  go_enter Tryz.func130, Tryz.ntmps130
  go_wp2_with (go_at_call 133; refine (hF _ (Below.refl _ _)).mono ?_; rintro e w1 ⟨rfl, hb⟩)
  go_ret
  exact ⟨rfl, hb.alloc hb.size _⟩
theorem vJ (s : ByteArray) (hs : s.size <= 281474976710656) (w : World) (tp : TypeId) (p : Value) (hvar : w.var? Tryz.prog "strconv.ErrRange" = some #[.iface tp p]) :
  Calls Tryz.prog 130 #[.string s] w fun e w' => e = .returned (.bool (Sc.isName s)) /\ Below w.heap.size w w' := by
 by_cases h0 : s.size = 0
 ·have hn : Sc.isName s = false := by unfold Sc.isName; rw [if_pos h0]
  have he : s.toList = [] := by rw [Lib.toList_data]; apply List.eq_nil_of_length_eq_zero; rw [Sc.za]; exact h0
  rw [hn];clear h0 hn;have he1 : s.toList.isEmpty = true := by rw [he]; rfl
  clear he
  go_enter Tryz.func130, Tryz.ntmps130
  go_wp2_with fail
  go_ret
  exact ⟨rfl, Below.refl _ _⟩
 ·have h1 : 0 < s.size := by omega
  have he : s.toList.isEmpty = false := by
   exact zFd
  have hle := Sc.zFY s h1;have := xe s (Sc.fK s) (Sc.fV s) (Sc.fE s) (Sc.fN s) w _ _ _ rfl rfl rfl he fun w1 hb => zC8 s hs h1 w1 tp p (xQ hb hvar)
  have e : Sc.isName s = ((Sc.fE s == 0) && (Sc.fK s == 1) && ((s.extract 0 (Sc.fN s)).toList == s.toList)) := by
   unfold Sc.isName;rw [if_neg h0, Sc.uY s _ hle]
   rfl
  rw [e];exact this
end Go.Proofs.YtglgjaomneljbaaGreatDoor
namespace Go.Proofs.YtglgjaomneljbaaGreatDoor
set_option maxHeartbeats 400000
set_option maxRecDepth 100000
open Go.RowKit
theorem Sc.zC6 (s : ByteArray) (h0 : 0 < s.size) : Sc.isName s = (decide (s.size <= 64) && !Sc.isKey s && Sc.lett (Sc.hd s) && decide (Sc.spanN Sc.lord s.data.toList = s.size)) := by
 have hz : ¬ s.size = 0 := by omega
 unfold Sc.isName;rw [if_neg hz];cases c1 : Sc.lett (Sc.hd s)
 ·have hk : Sc.fK s ≠ 1 := by
   unfold Sc.fK;rw [c1, if_neg (by decide)]
   split
   ·decide
   ·split <;> decide
  simp [hk]
 ·have e1 : Sc.fN s = Sc.spanN Sc.lord s.data.toList := by unfold Sc.fN; rw [if_pos c1]
  have e2 : Sc.fK s = Sc.nameKind (s.extract 0 (Sc.fN s)) (Sc.fN s) := by unfold Sc.fK; rw [if_pos c1]
  have e3 : Sc.fE s = Sc.nameErr (Sc.fN s) := by unfold Sc.fE; rw [if_pos c1]
  rw [e3, e2, e1];generalize Sc.spanN Sc.lord s.data.toList = n
  by_cases hn : n = s.size
  ·subst hn
   have ex : s.extract 0 s.size = s := by simp
   rw [ex];unfold Sc.nameErr Sc.nameKind
   by_cases h64 : 64 < s.size
   ·have hd : decide (s.size <= 64) = false := by simp; omega
    rw [hd]
    simp [h64]
   ·have h64' : s.size <= 64 := by omega
    cases Sc.isKey s <;> simp [h64']
  ·simp [hn]
theorem ym (s : ByteArray) (h0 : 0 < s.size) (hs : s.size <= 64) (w : World)
  (he : s.toList.isEmpty = false) (hk : Sc.isKey s = false) (hl : Sc.lett (Sc.hd s) = true) :
  Calls Tryz.prog 90 #[.string s] w fun e w' => e = .returned (.bool (decide (Sc.spanN Sc.lord s.data.toList = s.size))) /\ w = w' := by
 have he2 : (s.toList == []) = false := by cases hq : s.toList <;> simp_all
 have i0 : (0 : Int) < s.size := by omega
 have i1 : (s.size : Int) <= 64 := by omega
 have hK := jh s;rw [hk] at hK;have hL := jI ((s[0]).toNat : Int);rw [← Sc.xK s h0, hl, Sc.xK s h0] at hL;clear hl hk
 go_enter Tryz.func90, Tryz.ntmps90
 go_wp2_with (first | (go_at_call 121; refine (hK _).mono ?_; rintro e w1 ⟨rfl, rfl⟩) | (go_at_call 122; refine (hL _).mono ?_; rintro e w1 ⟨rfl, rfl⟩))
 go_loop [3] (fun i => ∃ k : Nat, k <= s.size /\ k <= Sc.spanN Sc.lord s.data.toList /\ i = .int .i64 k) (fun i => s.size - (intOf i).toNat)
 case atStart => exact ⟨0, Nat.zero_le _, Nat.zero_le _, rfl⟩
 case round =>
  obtain ⟨k, hk1, hk2, rfl⟩ := hrel;clear hL
  by_cases hlt : k < s.size
  ·have hlen : k < s.data.toList.length := by rw [Sc.za]; exact hlt
   have hLk := jI ((s[k]).toNat : Int);have hDk := yj ((s[k]).toNat : Int);cases c1 : Sc.lett ((s[k]).toNat : Int)
   ·cases c2 : Sc.digi ((s[k]).toNat : Int)
    ·have hst : Sc.spanN Sc.lord s.data.toList = k := Sc.jG Sc.lord _ k hlen hk2 (by rw [Sc.zx s k hlt hlen]; unfold Sc.lord; rw [c1, c2]; rfl)
     have hdec : decide (Sc.spanN Sc.lord s.data.toList = s.size) = false := by rw [hst]; simp; omega
     have HD := k0_ hdec;clear hst hdec;rw [c1] at hLk;rw [c2] at hDk;clear c1 c2
     go_wp2_with (first | (go_at_call 122; refine (hLk _).mono ?_; rintro e w1 ⟨rfl, rfl⟩) | (go_at_call 123; refine (hDk _).mono ?_; rintro e w1 ⟨rfl, rfl⟩))
     go_ret
     exact ⟨qQ HD.out.symm, rfl⟩
    ·have hm := Sc.qo Sc.lord _ k hlen hk2 (by rw [Sc.zx s k hlt hlen]; unfold Sc.lord; rw [c2]; simp)
     rw [c1] at hLk;rw [c2] at hDk;clear c1 c2
     go_wp2_with (first | (go_at_call 122; refine (hLk _).mono ?_; rintro e w1 ⟨rfl, rfl⟩) | (go_at_call 123; refine (hDk _).mono ?_; rintro e w1 ⟨rfl, rfl⟩))
     go_round
     case rel => exact ⟨k + 1, by omega, hm, by go_num⟩
     case measure => simp [intOf]; omega
   ·have hm := Sc.qo Sc.lord _ k hlen hk2 (by rw [Sc.zx s k hlt hlen]; unfold Sc.lord; rw [c1]; simp)
    rw [c1] at hLk;clear c1
    go_wp2_with (go_at_call 122; refine (hLk _).mono ?_; rintro e w1 ⟨rfl, rfl⟩)
    go_round
    case rel => exact ⟨k + 1, by omega, hm, by go_num⟩
    case measure => simp [intOf]; omega
  ·have hle := Sc.qz Sc.lord s.data.toList
   rw [Sc.za] at hle;have hdec : decide (Sc.spanN Sc.lord s.data.toList = s.size) = true := by simp; omega
   have HD := k0_ hdec;clear hdec
   go_wp2_with fail
   go_ret
   exact ⟨qQ HD.out.symm, rfl⟩
theorem yE (s : ByteArray) (w : World) (he : s.toList.isEmpty = true) :
  Calls Tryz.prog 90 #[.string s] w fun e w' => e = .returned (.bool false) /\ w = w' := by
 go_enter Tryz.func90, Tryz.ntmps90
 go_wp2_with fail
 go_ret
 exact ⟨rfl, rfl⟩
theorem yn (s : ByteArray) (w : World) (he : s.toList.isEmpty = false) (h64 : (64 : Int) < s.size) :
  Calls Tryz.prog 90 #[.string s] w fun e w' => e = .returned (.bool false) /\ w = w' := by
 have he2 : (s.toList == []) = false := by cases hq : s.toList <;> simp_all
 go_enter Tryz.func90, Tryz.ntmps90
 go_wp2_with fail
 go_ret
 exact ⟨rfl, rfl⟩
theorem xh (s : ByteArray) (w : World) (he : s.toList.isEmpty = false) (h64 : (s.size : Int) <= 64)
  (hK : ∀ w : World, Calls Tryz.prog 121 #[.string s] w fun e w' => e = .returned (.bool true) /\ w = w') :
  Calls Tryz.prog 90 #[.string s] w fun e w' => e = .returned (.bool false) /\ w = w' := by
 have he2 : (s.toList == []) = false := by cases hq : s.toList <;> simp_all
 go_enter Tryz.func90, Tryz.ntmps90
 go_wp2_with (go_at_call 121; refine (hK _).mono ?_; rintro e w1 ⟨rfl, rfl⟩)
 go_ret
 exact ⟨rfl, rfl⟩
theorem yo (s : ByteArray) (w : World) (h0 : 0 < s.size) (he : s.toList.isEmpty = false) (h64 : (s.size : Int) <= 64)
  (hK : ∀ w : World, Calls Tryz.prog 121 #[.string s] w fun e w' => e = .returned (.bool false) /\ w = w')
  (hL : ∀ w : World, Calls Tryz.prog 122 #[.int .u8 ((s[0]).toNat : Int)] w fun e w' => e = .returned (.bool false) /\ w = w') :
  Calls Tryz.prog 90 #[.string s] w fun e w' => e = .returned (.bool false) /\ w = w' := by
 have he2 : (s.toList == []) = false := by cases hq : s.toList <;> simp_all
 have i0 : (0 : Int) < s.size := by omega
 go_enter Tryz.func90, Tryz.ntmps90
 go_wp2_with (first | (go_at_call 121; refine (hK _).mono ?_; rintro e w1 ⟨rfl, rfl⟩) | (go_at_call 122; refine (hL _).mono ?_; rintro e w1 ⟨rfl, rfl⟩))
 go_ret
 exact ⟨rfl, rfl⟩
theorem zV (s : ByteArray) (w : World) :
  Calls Tryz.prog 90 #[.string s] w fun e w' => e = .returned (.bool (Sc.isName s)) /\ w = w' := by
 by_cases h0 : s.size = 0
 ·have hn : Sc.isName s = false := by unfold Sc.isName; rw [if_pos h0]
  have he : s.toList = [] := by rw [Lib.toList_data]; apply List.eq_nil_of_length_eq_zero; rw [Sc.za]; exact h0
  rw [hn];exact yE s w (by rw [he]; rfl)
 ·have h1 : 0 < s.size := by omega
  have he : s.toList.isEmpty = false := by
   exact zFd
  rw [Sc.zC6 s h1]
  by_cases h64 : s.size <= 64
  ·cases hk : Sc.isKey s
   ·cases hl : Sc.lett (Sc.hd s)
    ·have hL := jI ((s[0]).toNat : Int)
     have hK := jh s;rw [hk] at hK;rw [← Sc.xK s h1, hl, Sc.xK s h1] at hL
     simpa [h64] using yo s w h1 he (by omega) hK hL
    ·simpa [h64] using ym s h1 h64 w he hk hl
   ·have hK := jh s
    rw [hk] at hK
    simpa [h64] using xh s w he (by omega) hK
  ·simpa [h64] using yn s w he (by omega)
end Go.Proofs.YtglgjaomneljbaaGreatDoor
