/-
  strings.ContainsRune of the signs, at a rune of one byte.
-/
import Derived.Test.YtknhoagicdfikaaGreatDoorLeaf
import Derived.Test.YtknhoagicdfikaaGreatDoorShelf
import Derived.Laws.Cover4
namespace Go.Proofs.YtknhoagicdfikaaGreatDoor
open Go.RowKit

def Sc.signs : ByteArray := ⟨#[92, 46, 58, 61, 40, 41, 91, 93, 123, 125, 44, 124, 43, 45, 42, 47, 60, 62, 63, 59]⟩

theorem enc_two (r : Int) (h : 128 ≤ r) (h2 : r ≤ 255) : ∃ b0 b1 : UInt8, Utf8.encode r = ⟨#[b0, b1]⟩ ∧ 128 ≤ b1.toNat := by
  unfold Utf8.encode
  have hv : Utf8.valid r = true := by unfold Utf8.valid; simp; omega
  simp only [hv, if_true]
  have h3 : ¬ r.toNat < 0x80 := by omega
  have h4 : r.toNat < 0x800 := by omega
  rw [if_neg h3, if_pos h4]
  refine ⟨_, _, rfl, ?_⟩
  simp
  omega

theorem indexByte_none (l : List UInt8) (c : UInt8) (h : ∀ b ∈ l, (b == c) = false) : Lib.indexByte l c = -1 := by
  induction l with
  | nil => rfl
  | cons b l ih =>
    unfold Lib.indexByte
    rw [ih fun x hx => h x (by simp [hx]), h b (by simp)]
    rfl
theorem below_drw (w : World) (n : Nat) : Below w.heap.size w (w.drewN n) := ⟨rfl, rfl, rfl, Nat.le_refl _, fun _ _ => rfl⟩
theorem below_drwr {B : Nat} {a w : World} (h : Below B a w) (n : Nat) : Below B a (w.drewN n) := ⟨h.os, h.tape, h.output, h.size, h.block⟩

set_option maxHeartbeats 1000000 in
set_option maxRecDepth 100000 in
theorem indexRune_high (r : Int) (h : 128 ≤ r) (h2 : r ≤ 255) (w : World) :
    Calls Tryz.prog 107 #[.string Sc.signs, .int .i32 r] w fun e w' => e = .returned (.int .i64 (-1)) ∧ Below w.heap.size w w' := by
  obtain ⟨b0, b1, he, hb⟩ := enc_two r h h2
  have hval : Lib.validRune r = true := by unfold Lib.validRune; simp; omega
  have hc1 : (r == 65533) = false := by simp; omega
  have hV : ∀ w : World, Calls Tryz.prog 111 #[.int .i32 r] w fun e w' => e = .returned (.bool true) ∧ w = w' := fun w => (Tryz.utf8_ValidRune r w).mono fun e w' h => ⟨by rw [h.1, hval], h.2.symm⟩
  clear hval
  have hne : (((Sc.signs[1]'(by decide)).toNat : Int) != (((⟨#[b0, b1]⟩ : ByteArray)[1]'(by show 1 < 2; decide)).toNat : Int)) = true := by
    show ((46 : Int) != (b1.toNat : Int)) = true
    rw [bne_iff_ne]; omega
  unfold Sc.signs at *
  have hIB : ∀ (t : ByteArray) (ht : ∀ b ∈ t.data.toList, b.toNat < 128) (w : World), Calls Tryz.prog 110 #[.string t, .int .u8 b1.toNat] w fun e w' => e = .returned (.int .i64 (-1)) ∧ w' = w := by
    intro t ht w
    refine (Tryz.strings_IndexByte t b1.toNat w).mono fun e w' h => ⟨?_, h.2⟩
    rw [h.1, indexByte_none _ _ fun b hb' => ?_]
    have := ht b hb'
    simp at this ⊢
    intro hcon
    rw [hcon] at this
    omega
  go_enter Tryz.func107, Tryz.ntmps107
  go_wp2_with (go_at_call 111; refine (hV _).mono ?_; rintro e w' ⟨rfl, rfl⟩)
  go_step3
  go_wp2_with fail
  refine wp_loop_rounds 1 ?_
  rw [rounds_succ]
  go_wp2_with fail
  go_step3
  go_wp2_with fail
  go_quiet (fail)
  have hbw := below_drw w nq
  generalize w.drewN nq = W at hbw ⊢
  go_wp2_with fail
  go_quiet ((go_at_call 110; exact Calls.quiet_of_same (hIB _ (by decide) _)))
  go_wp2_with fail
  rw [Exit.noGoto_ret]
  go_wp2_with fail
  rw [Exit.noGoto_ret]
  go_wp2_with fail
  go_ret
  exact ⟨rfl, below_drwr hbw _⟩
def Sc.isSign (r : Int) : Bool := decide (r ∈ ([92, 46, 58, 61, 40, 41, 91, 93, 123, 125, 44, 124, 43, 45, 42, 47, 60, 62, 63, 59] : List Int))

theorem sign_ascii : ∀ n : Nat, n < 128 → decide (0 ≤ Lib.indexByte Sc.signs.data.toList n.toUInt8) = Sc.isSign (n : Int) := by decide +kernel

theorem contains_any (r : Int) (h0 : 0 ≤ r) (h1 : r < 256) (w : World) :
    Calls Tryz.prog 100 #[.string Sc.signs, .int .i32 r] w fun e w' => e = .returned (.bool (Sc.isSign r)) ∧ Below w.heap.size w w' := by
  by_cases h : r < 128
  · refine (Tryz.strings_ContainsRune_ascii Sc.signs r w h0 h).mono fun e w' h2 => ?_
    obtain ⟨rfl, rfl⟩ := h2
    obtain ⟨n, rfl⟩ := Int.eq_ofNat_of_zero_le h0
    rw [show (n : Int).toNat.toUInt8 = n.toUInt8 from rfl, sign_ascii n (by omega)]
    exact ⟨rfl, Below.refl _ _⟩
  · have hs : Sc.isSign r = false := by unfold Sc.isSign; simp; omega
    rw [hs]
    have hc := indexRune_high r (by omega) (by omega)
    go_enter Tryz.func100, Tryz.ntmps100
    go_wp2_with (go_at_call 107; refine (hc _).mono ?_; rintro e w' ⟨rfl, hb⟩)
    go_ret
    exact ⟨rfl, hb⟩
end Go.Proofs.YtknhoagicdfikaaGreatDoor
