/-
  The law's counted, Small.
-/
import Derived.Test.YtailgpkgcockhaaDoorRefCount
namespace Go.Proofs.YtailgpkgcockhaaDoor
open Go.RowKit

set_option maxHeartbeats 1000000 in
set_option maxRecDepth 100000 in
theorem counted_any (K : Nat) : ∀ (k : Int) (kids : Fo) (A : Option Addr) (n c : Nat) (w : World) (m : Nat), Ty.nodes kids < K → Ty.Is w k kids A n c → m ≤ 32768 →
    Calls Tryd.prog 11 #[.agg #[.int .i8 k, .slice A n c], .int .i64 m] w fun e w' => e = .returned (.int .i64 (min (m + 1 + Ty.nodes kids) 32769 : Nat)) ∧ Below w.heap.size w w' := by
  induction K with
  | zero => intro _ _ _ _ _ _ _ h; omega
  | succ K ih =>
    intro k kids A n c w m hK hIs hm
    have i5 : (n : Int) ≤ 9223372036854775807 := by have h1 := hIs.n_le; have h2 := hIs.c_le; unfold maxLen at h2; omega
    have i6 : (m : Int) ≤ 32768 := by omega
    have IH := Lib.hid ih
    have HI := Lib.hid hIs
    obtain ⟨R, hR⟩ : ∃ R, min (m + 1 + Ty.nodes kids) 32769 = R := ⟨_, rfl⟩
    rw [hR]
    have HR := Lib.hid hR
    clear ih hIs hR
    go_enter Tryd.func11, Tryd.ntmps11
    go_wp2_with fail
    have hB0 := (Below.refl w.heap.size w).alloc (Nat.le_refl _) (.cells #[.int .i8 k, .slice A n c] 25)
    obtain ⟨b0, b1, _, _, hbl⟩ := own2 (heap_new w (.cells #[.int .i8 k, .slice A n c] 25))
    have hst := Over.start ((HI.out.alloc (.cells #[.int .i8 k, .slice A n c] 25)).lies) HI.out.n_eq
    generalize w.alloc (.cells #[.int .i8 k, .slice A n c] 25) = w1 at *
    have HS := Lib.hid hst
    clear hst
    go_loopw [1, 5] (fun v1 v5 wr => ∃ (i : Nat) (rest : Fo) (m' : Nat), v5 = .int .i64 i ∧ v1 = .int .i64 m' ∧ Over w1 wr A n (Ty.nodes kids) i rest ∧ m' ≤ 32769 ∧ min (m' + Ty.nodes rest) 32769 = R) (fun _ v _ => n - (intOf v).toNat)
    case atStart => exact ⟨0, kids, m + 1, rfl, by go_num, HS.out, by omega, HR.out⟩
    case round =>
      obtain ⟨i, rest, m', rfl, rfl, hO, hm', hRR⟩ := hrel
      have hbB := hB0.trans (hO.below.mono hB0.size)
      obtain ⟨c0, c1⟩ := hO.box b0 b1
      clear b0 b1
      cases rest with
      | nil =>
        have hi : i = n := by have := hO.i_eq; simpa [Ty.len] using this
        have hfin : m' = R := by simp only [Ty.nodes] at hRR; omega
        clear hO hRR
        subst hi
        subst hfin
        go_wp2_with fail
        go_ret
        exact ⟨rfl, hbB⟩
      | node a b k' kids' r =>
        have hst := fun w2 hb => Over.step (w2 := w2) hO hb
        have h1 := hO.i_eq
        have h2 := hO.lies
        have h3 := hO.sub
        simp only [Ty.len, Ty.nodes] at h1 h3 hRR
        obtain ⟨bb, oo, B, c', rfl, ⟨hk1, hk2⟩, c1', c2', hl1, hl2, hl3, hl4⟩ := h2
        have j1 : (i : Int) < n := by omega
        by_cases hq : m' ≤ 32768
        · have hcall := IH.out k' kids' B (Ty.len kids') c' wr m' (by omega) ⟨hl3, rfl, hl1, hl2, hk1, hk2⟩ hq
          have HC := Lib.hid hcall
          have HS2 := Lib.hid hst
          have HL := Lib.hid hl4
          have hnx : min (min (m' + 1 + Ty.nodes kids') 32769 + Ty.nodes r) 32769 = R := by omega
          have HN := Lib.hid hnx
          have j2 : (m' : Int) ≤ 32768 := by omega
          clear hst hl3 hl4 hcall hO hRR hnx
          go_wp2_with fail
          refine HC.out.mono ?_
          rintro e w2 ⟨rfl, hb⟩
          have hbb := Lib.hid (HS2.out w2 hb HL.out)
          clear hb
          go_wp2_with fail
          go_roundw
          case rel => exact ⟨i + 1, r, _, by go_num, rfl, hbb.out, by omega, HN.out⟩
          case measure => simp [intOf]; omega
        · have hfin : m' = R := by omega
          have j2 : (32768 : Int) < (m' : Int) := by omega
          clear hst hl3 hl4 hO hRR
          subst hfin
          go_wp2_with fail
          go_ret
          exact ⟨rfl, hbB⟩

set_option maxHeartbeats 1000000 in
set_option maxRecDepth 100000 in
theorem small_any (k : Int) (kids : Fo) (A : Option Addr) (n c : Nat) (w : World) (hIs : Ty.Is w k kids A n c) :
    Calls Tryd.prog 4 #[.agg #[.int .i8 k, .slice A n c]] w fun e w' => e = .returned (.bool (decide (Ty.nodes kids + 1 ≤ 32768))) ∧ Below w.heap.size w w' := by
  have hB0 := (Below.refl w.heap.size w).alloc (Nat.le_refl _) (.cells #[.int .i8 k, .slice A n c] 25)
  have HM := Lib.hid (fun (W : World) (hb : Below w.heap.size w W) => counted_any (Ty.nodes kids + 1) k kids A n c W 0 (by omega) (hIs.below hb) (by omega))
  have hr : decide (((min (0 + 1 + Ty.nodes kids) 32769 : Nat) : Int) ≤ 32768) = decide (Ty.nodes kids + 1 ≤ 32768) := by
    rw [Bool.eq_iff_iff]; simp only [decide_eq_true_eq]; omega
  clear hIs
  rw [← hr]
  generalize (min (0 + 1 + Ty.nodes kids) 32769 : Nat) = R at *
  clear hr
  go_enter Tryd.func4, Tryd.ntmps4
  go_wp2_with fail
  refine (HM.out _ hB0).mono ?_
  rintro e w3 ⟨rfl, hb⟩
  go_wp2_with fail
  go_ret
  exact ⟨rfl, hB0.trans (hb.mono hB0.size)⟩
end Go.Proofs.YtailgpkgcockhaaDoor
