/-
  types.alike, types.Same; Nodes, Depth, Known, Ground. types.Same, Nodes, Depth, Known, Ground. The reference's Kids, right, Check, Equal, Same, open, Known. The reference's Equal, Same, Known, Of, Ground; types.Ground. The reference's Same, Known, Of, Ground; types.Ground. Types that agree: what the word says of forests. Types that are less and more precise, and where two meet: what the words say of forests. agree.agreeing, agree.Agree; the document's Right, Agree. agree.Agree; the document's Right and Agree.
-/
import Derived.Test.YtfkbdpehdabepaaGreatDoorFormed
import Derived.Deep.OwnRows
import Derived.Test.YtfkbdpehdabepaaGreatDoorRefCount
import Derived.Test.YtfkbdpehdabepaaGreatDoorLow
import Derived.Laws.StructEq
namespace Go.Proofs.YtfkbdpehdabepaaGreatDoor
open Go.RowKit

namespace Ty
end Ty

/-- a loop's state over a second list -/
structure Over2 (w wr : World) (A : Option Addr) (n i : Nat) (rest : Fo) : Prop where
  i_eq : i + Ty.len rest = n
  lies : Ty.Lies wr rest A i

end Go.Proofs.YtfkbdpehdabepaaGreatDoor
namespace Go.Proofs.YtfkbdpehdabepaaGreatDoor
open Go.RowKit

set_option maxHeartbeats 1000000 in
set_option maxRecDepth 100000 in
theorem nodes_any (k : Int) (kids : Fo) (A : Option Addr) (n c : Nat) (w : World) (hIs : Ty.Is w k kids A n c) :
    Calls Tryz.prog 34 #[.agg #[.int .i8 k, .slice A n c]] w fun e w' => e = .returned (.int .i64 (Ty.nod kids)) ∧ Below w.heap.size w w' := by
  have hB0 := (Below.refl w.heap.size w).alloc (Nat.le_refl _) (.cells #[.int .i8 k, .slice A n c] 25)
  have HM := Lib.hid (fun (W : World) (hb : Below w.heap.size w W) => measure_any k kids A n c W (hIs.below hb))
  clear hIs
  go_enter Tryz.func34, Tryz.ntmps34
  go_wp2_with fail
  refine (HM.out _ hB0).mono ?_
  rintro e w3 ⟨rfl, hb⟩
  go_wp2_with fail
  go_ret
  exact ⟨rfl, hB0.trans (hb.mono hB0.size)⟩

set_option maxHeartbeats 1000000 in
set_option maxRecDepth 100000 in
theorem depth_any (k : Int) (kids : Fo) (A : Option Addr) (n c : Nat) (w : World) (hIs : Ty.Is w k kids A n c) :
    Calls Tryz.prog 124 #[.agg #[.int .i8 k, .slice A n c]] w fun e w' => e = .returned (.int .i64 (Ty.dpt kids)) ∧ Below w.heap.size w w' := by
  have hB0 := (Below.refl w.heap.size w).alloc (Nat.le_refl _) (.cells #[.int .i8 k, .slice A n c] 25)
  have HM := Lib.hid (fun (W : World) (hb : Below w.heap.size w W) => measure_any k kids A n c W (hIs.below hb))
  clear hIs
  go_enter Tryz.func124, Tryz.ntmps124
  go_wp2_with fail
  refine (HM.out _ hB0).mono ?_
  rintro e w3 ⟨rfl, hb⟩
  go_wp2_with fail
  go_ret
  exact ⟨rfl, hB0.trans (hb.mono hB0.size)⟩

namespace Ty
end Ty

end Go.Proofs.YtfkbdpehdabepaaGreatDoor
namespace Go.Proofs.YtfkbdpehdabepaaGreatDoor
open Go.RowKit

namespace Ty
def kidsI (k : Int) : Int := if 0 ≤ k ∧ k ≤ 2 then 0 else if 3 ≤ k ∧ k ≤ 5 then 2 else -1
theorem okK_kids (k : Int) (n : Nat) : okK k n = (kidsI k == n) := by
  rw [Bool.eq_iff_iff]; unfold okK kidsI
  split
  · simp <;> omega
  · split
    · simp <;> omega
    · simp <;> omega
end Ty

set_option maxHeartbeats 1000000 in
theorem kids_any (k : Int) (w : World) :
    Calls Tryz.prog 161 #[.int .i8 k] w fun e w' => e = .returned (.int .i64 (Ty.kidsI k)) ∧ w' = w := by
  by_cases hr : 0 ≤ k ∧ k ≤ 5
  · have hk : k = 0 ∨ k = 1 ∨ k = 2 ∨ k = 3 ∨ k = 4 ∨ k = 5 := by omega
    clear hr
    rcases hk with rfl | rfl | rfl | rfl | rfl | rfl
    all_goals
      go_enter Tryz.func161, Tryz.ntmps161
      go_wp2_with fail
      go_ret
      exact ⟨rfl, rfl⟩
  · have e : Ty.kidsI k = -1 := by unfold Ty.kidsI; rw [if_neg (by omega), if_neg (by omega)]
    rw [e]
    have h0 : (k == 0) = false := by simp; omega
    have h1 : (k == 1) = false := by simp; omega
    have h2 : (k == 2) = false := by simp; omega
    have h3 : (k == 3) = false := by simp; omega
    have h4 : (k == 4) = false := by simp; omega
    have h5 : (k == 5) = false := by simp; omega
    clear hr e
    go_enter Tryz.func161, Tryz.ntmps161
    go_wp2_with fail
    go_ret
    exact ⟨rfl, rfl⟩

set_option maxHeartbeats 1000000 in
set_option maxRecDepth 100000 in
theorem right_any (K : Nat) : ∀ (k : Int) (kids : Fo) (A : Option Addr) (n c : Nat) (w : World), Ty.nodes kids < K → Ty.Is w k kids A n c →
    Calls Tryz.prog 144 #[.agg #[.int .i8 k, .slice A n c]] w fun e w' => e = .returned (.bool (Ty.okT k kids)) ∧ Below w.heap.size w w' := by
  induction K with
  | zero => intro _ _ _ _ _ _ h; omega
  | succ K ih =>
    intro k kids A n c w hK hIs
    have i5 : (n : Int) ≤ 9223372036854775807 := by have h1 := hIs.n_le; have h2 := hIs.c_le; unfold maxLen at h2; omega
    have hneq := hIs.n_eq
    have IH := Lib.hid ih
    have HI := Lib.hid hIs
    have hB0 := (Below.refl w.heap.size w).alloc (Nat.le_refl _) (.cells #[.int .i8 k, .slice A n c] 25)
    have hkk := Ty.okK_kids k n
    have hka := kids_any k
    clear ih hIs
    obtain ⟨b0, b1, _, _, hbl⟩ := own2 (heap_new w (.cells #[.int .i8 k, .slice A n c] 25))
    have hst := Over.start ((HI.out.alloc (.cells #[.int .i8 k, .slice A n c] 25)).lies) HI.out.n_eq
    cases hok : Ty.okK k n
    · have hres : Ty.okT k kids = false := by unfold Ty.okT; rw [← hneq, hok]; rfl
      rw [hres]
      rw [hok] at hkk
      have hd : (Ty.kidsI k != (n : Int)) = true := by rw [bne, ← hkk]; rfl
      generalize Ty.kidsI k = KI at *
      clear hres hok hkk hst hneq
      go_enter Tryz.func144, Tryz.ntmps144
      go_wp2_with fail
      generalize w.alloc (.cells #[.int .i8 k, .slice A n c] 25) = w1 at *
      go_quiet ((go_at_call 161; exact Calls.quiet_of_same (hka _)))
      go_wp2_with fail
      go_ret
      exact ⟨rfl, below_drewN hB0 _⟩
    · have hres : Ty.okT k kids = Ty.okF kids := by unfold Ty.okT; rw [← hneq, hok]; rfl
      rw [hres]
      rw [hok] at hkk
      have hd : (Ty.kidsI k != (n : Int)) = false := by rw [bne, ← hkk]; rfl
      generalize Ty.kidsI k = KI at *
      obtain ⟨R, hR⟩ : ∃ R, Ty.okF kids = R := ⟨_, rfl⟩
      rw [hR]
      have HR := Lib.hid hR
      have HS0 := Lib.hid hst
      clear hres hok hkk hst hneq hR
      go_enter Tryz.func144, Tryz.ntmps144
      go_wp2_with fail
      generalize w.alloc (.cells #[.int .i8 k, .slice A n c] 25) = w1 at *
      go_quiet ((go_at_call 161; exact Calls.quiet_of_same (hka _)))
      have HB1 := Lib.hid (below_drewN (Below.refl w1.heap.size w1) nq)
      go_wp2_with fail
      go_loopw [3] (fun v3 wr => ∃ (i : Nat) (rest : Fo), v3 = .int .i64 i ∧ Over w1 wr A n (Ty.nodes kids) i rest ∧ Ty.okF rest = R) (fun v _ => n - (intOf v).toNat)
      case atStart => exact ⟨0, kids, rfl, ⟨HS0.out.i_eq, HS0.out.lies.below HB1.out, HS0.out.sub, HB1.out⟩, HR.out⟩
      case round =>
        obtain ⟨i, rest, rfl, hO, hRR⟩ := hrel
        have hbB := hB0.trans (hO.below.mono hB0.size)
        obtain ⟨c0, c1⟩ := hO.box b0 b1
        clear b0 b1
        cases rest with
        | nil =>
          have hi : i = n := by have := hO.i_eq; simpa [Ty.len] using this
          simp only [Ty.okF] at hRR
          clear hO
          subst hi
          subst hRR
          go_wp2_with fail
          go_ret
          exact ⟨rfl, hbB⟩
        | node a b k' kids' r =>
          have hst := fun w2 hb => Over.step (w2 := w2) hO hb
          have h1 := hO.i_eq
          have h2 := hO.lies
          have h3 := hO.sub
          simp only [Ty.len, Ty.nodes, Ty.okF] at h1 h3 hRR
          obtain ⟨bb, oo, B, c', rfl, ⟨hk1, hk2⟩, c1', c2', hl1, hl2, hl3, hl4⟩ := h2
          have j1 : (i : Int) < n := by omega
          have hcall := IH.out k' kids' B (Ty.len kids') c' wr (by omega) ⟨hl3, rfl, hl1, hl2, hk1, hk2⟩
          have HS := Lib.hid hst
          have HL := Lib.hid hl4
          have HC := Lib.hid hcall
          have HRR := Lib.hid hRR
          clear hst hl3 hl4 hcall hO hRR
          cases hp : Ty.okT k' kids'
          · have hp0 : R = false := by unfold Ty.okT at hp; rw [← HRR.out, hp]; rfl
            rw [hp] at HC
            subst hp0
            clear hp
            go_wp2_with fail
            refine HC.out.mono ?_
            rintro e w2 ⟨rfl, hb⟩
            go_wp2_with fail
            go_ret
            exact ⟨rfl, hbB.trans (hb.mono hbB.size)⟩
          · have hp0 := HRR.out
            rw [show (Ty.okK k' (Ty.len kids') && Ty.okF kids') = true from hp, Bool.true_and] at hp0
            have HP := Lib.hid hp0
            rw [hp] at HC
            clear hp hp0
            go_wp2_with fail
            refine HC.out.mono ?_
            rintro e w2 ⟨rfl, hb⟩
            have hbb := Lib.hid (HS.out w2 hb HL.out)
            clear hb
            go_wp2_with fail
            go_roundw
            case rel => exact ⟨i + 1, r, by go_num, hbb.out, HP.out⟩
            case measure => simp [intOf]; omega

set_option maxHeartbeats 1000000 in
set_option maxRecDepth 100000 in
theorem ref_check (k : Int) (kids : Fo) (A : Option Addr) (n c : Nat) (w : World) (hIs : Ty.Is w k kids A n c) :
    Calls Tryz.prog 122 #[.agg #[.int .i8 k, .slice A n c]] w fun e w' => e = .returned (.int .i64 (Ty.chk k kids)) ∧ Below w.heap.size w w' := by
  have HN := Lib.hid (fun (W : World) (hb : Below w.heap.size w W) => ref_nodes k kids A n c W (hIs.below hb))
  have HM := Lib.hid (fun (W : World) (hb : Below w.heap.size w W) => ref_depth k kids A n c W (hIs.below hb))
  have HF := Lib.hid (fun (W : World) (hb : Below w.heap.size w W) => right_any (Ty.nodes kids + 1) k kids A n c W (by omega) (hIs.below hb))
  have hB0 := (Below.refl w.heap.size w).alloc (Nat.le_refl _) (.cells #[.int .i8 k, .slice A n c] 25)
  have R0 := Lib.hid (heap_new w (.cells #[.int .i8 k, .slice A n c] 25))
  clear hIs
  by_cases h1 : 8192 < Ty.nodes kids + 1
  · have e1 : Ty.chk k kids = 32 := by unfold Ty.chk; rw [if_pos h1]
    have e2 : ((Ty.nod kids : Nat) : Int) = 8193 := by unfold Ty.nod; omega
    rw [e1]
    rw [e2] at HN
    clear e2 e1 h1
    go_enter Tryz.func122, Tryz.ntmps122
    go_wp2_with fail
    refine (HN.out _ hB0).mono ?_
    rintro e w3 ⟨rfl, hb⟩
    go_wp2_with fail
    go_ret
    exact ⟨rfl, hB0.trans (hb.mono hB0.size)⟩
  · have e2 : ((Ty.nod kids : Nat) : Int) ≤ 8192 := by unfold Ty.nod; omega
    have e4 : Ty.dpt kids = min (Ty.dep kids + 1) 201 := by unfold Ty.dpt; rw [if_neg h1]
    by_cases h2 : 200 < Ty.dep kids + 1
    · have e1 : Ty.chk k kids = 31 := by unfold Ty.chk; rw [if_neg h1, if_pos h2]
      have e3 : ((Ty.dpt kids : Nat) : Int) = 201 := by rw [e4]; omega
      rw [e1]
      rw [e3] at HM
      generalize Ty.nod kids = N at *
      clear e3 e1 h1 h2 e4
      go_enter Tryz.func122, Tryz.ntmps122
      go_wp2_with fail
      refine (HN.out _ hB0).mono ?_
      rintro e w3 ⟨rfl, hb⟩
      have hB1 := hB0.trans (hb.mono hB0.size)
      obtain ⟨b0, b1, _, _, _⟩ := own2 (heap_below hb (heap_lt R0.out) R0.out)
      clear hb
      go_wp2_with fail
      refine (HM.out _ hB1).mono ?_
      rintro e w4 ⟨rfl, hb⟩
      go_wp2_with fail
      go_ret
      exact ⟨rfl, hB1.trans (hb.mono hB1.size)⟩
    · have e3 : ((Ty.dpt kids : Nat) : Int) ≤ 200 := by rw [e4]; omega
      have e1 : Ty.chk k kids = if Ty.okT k kids then 0 else 20 := by unfold Ty.chk; rw [if_neg h1, if_neg h2]; rfl
      rw [e1]
      generalize Ty.nod kids = N at *
      generalize Ty.dpt kids = D at *
      clear e1 h1 h2 e4
      cases ho : Ty.okT k kids
      all_goals
        rw [ho] at HF
        clear ho
        go_enter Tryz.func122, Tryz.ntmps122
        go_wp2_with fail
        refine (HN.out _ hB0).mono ?_
        rintro e w3 ⟨rfl, hb⟩
        have hB1 := hB0.trans (hb.mono hB0.size)
        have R1 := Lib.hid (heap_below hb (heap_lt R0.out) R0.out)
        obtain ⟨b0, b1, _, _, _⟩ := own2 R1.out
        clear hb
        go_wp2_with fail
        refine (HM.out _ hB1).mono ?_
        rintro e w4 ⟨rfl, hb⟩
        have hB2 := hB1.trans (hb.mono hB1.size)
        obtain ⟨b0, b1, _, _, _⟩ := own2 (heap_below hb (heap_lt R1.out) R1.out)
        clear hb
        go_wp2_with fail
        refine (HF.out _ hB2).mono ?_
        rintro e w5 ⟨rfl, hb⟩
        go_wp2_with fail
        go_ret
        exact ⟨rfl, hB2.trans (hb.mono hB2.size)⟩

end Go.Proofs.YtfkbdpehdabepaaGreatDoor
namespace Go.Proofs.YtfkbdpehdabepaaGreatDoor
open Go.RowKit

theorem two_boxes (w : World) (k : Int) (A : Option Addr) (n c : Nat) (k' : Int) (A' : Option Addr) (n' c' : Nat) :
    Below w.heap.size w ((w.alloc (.cells #[.int .i8 k, .slice A n c] 25)).alloc (.cells #[.int .i8 k', .slice A' n' c'] 25)) ∧
    ((w.alloc (.cells #[.int .i8 k, .slice A n c] 25)).alloc (.cells #[.int .i8 k', .slice A' n' c'] 25)).heap[w.heap.size]? = some (.cells #[.int .i8 k, .slice A n c] 25) ∧
    ((w.alloc (.cells #[.int .i8 k, .slice A n c] 25)).alloc (.cells #[.int .i8 k', .slice A' n' c'] 25)).heap[w.heap.size + 1]? = some (.cells #[.int .i8 k', .slice A' n' c'] 25) := by
  refine ⟨((Below.refl w.heap.size w).alloc (Nat.le_refl _) _).alloc (by simp) _, heap_old (heap_new w _) _, ?_⟩
  have := heap_new (w.alloc (.cells #[.int .i8 k, .slice A n c] 25)) (.cells #[.int .i8 k', .slice A' n' c'] 25)
  simpa using this

theorem Ty.okK_same {k : Int} {n m : Nat} (h1 : Ty.okK k n = true) (h2 : Ty.okK k m = true) : n = m := by
  unfold Ty.okK at h1 h2
  split at h1
  · simp at h1; rw [if_pos ‹_›] at h2; simp at h2; omega
  · rw [if_neg ‹_›] at h2
    split at h1
    · simp at h1; rw [if_pos ‹_›] at h2; simp at h2; omega
    · cases h1

end Go.Proofs.YtfkbdpehdabepaaGreatDoor
namespace Go.Proofs.YtfkbdpehdabepaaGreatDoor
open Go.RowKit

theorem Ty.chk_ok {k : Int} {kids : Fo} (h : Ty.chk k kids = 0) : Ty.okT k kids = true ∧ Ty.nodes kids + 1 ≤ 8192 ∧ Ty.dep kids + 1 ≤ 200 := by
  unfold Ty.chk at h
  split at h
  · cases h
  · split at h
    · cases h
    · split at h
      · rename_i h1 h2 h3; exact ⟨h3, by omega, by omega⟩
      · cases h

namespace Ty
end Ty

namespace Ty
end Ty
end Go.Proofs.YtfkbdpehdabepaaGreatDoor
namespace Go.Proofs.YtfkbdpehdabepaaGreatDoor
namespace Ty
end Ty
end Go.Proofs.YtfkbdpehdabepaaGreatDoor
namespace Go.Proofs.YtfkbdpehdabepaaGreatDoor
namespace Ty
/-- lists of types, each of the first at most as precise as the second's in its place -/
def leF : Fo → Fo → Bool
  | .nil, _ => true
  | .node _ _ _ _ _, .nil => true
  | .node _ _ k kids r, .node _ _ k' kids' r' => ((k == 0) || ((k == k') && leF kids kids')) && leF r r'
def leT (k : Int) (kids : Fo) (k' : Int) (kids' : Fo) : Bool := (k == 0) || ((k == k') && leF kids kids')
theorem leT_zero (kids : Fo) (k' : Int) (kids' : Fo) : leT 0 kids k' kids' = true := rfl
theorem leT_ne {k k' : Int} (kids kids' : Fo) (h1 : k ≠ 0) (h : k ≠ k') : leT k kids k' kids' = false := by unfold leT; simp [h1, h]
theorem leT_eq {k : Int} (kids kids' : Fo) (h1 : k ≠ 0) : leT k kids k kids' = leF kids kids' := by unfold leT; simp [h1]
end Ty
end Go.Proofs.YtfkbdpehdabepaaGreatDoor
namespace Go.Proofs.YtfkbdpehdabepaaGreatDoor
open Go.RowKit

end Go.Proofs.YtfkbdpehdabepaaGreatDoor
namespace Go.Proofs.YtfkbdpehdabepaaGreatDoor
open Go.RowKit

end Go.Proofs.YtfkbdpehdabepaaGreatDoor
