/-
  types.alike, types.Same; Nodes, Depth, Known, Ground. types.Same, Nodes, Depth, Known, Ground. The reference's Kids, right, Check, Equal, Same, open, Known. The reference's Equal, Same, Known, Of, Ground; types.Ground. The reference's Same, Known, Of, Ground; types.Ground. Types that agree: what the word says of forests. agree.agreeing, agree.Agree; the document's Right, Agree. agree.Agree; the document's Right and Agree. Types that are less and more precise, and where two meet: what the words say of forests.
-/
import Derived.Test.YtknhoagicdfikaaGreatDoorFormed
import Derived.Deep.OwnRows
import Derived.Test.YtknhoagicdfikaaGreatDoorM5
import Derived.Test.YtknhoagicdfikaaGreatDoorLow
import Derived.Laws.StructEq
namespace Go.Proofs.YtknhoagicdfikaaGreatDoor
open Go.RowKit

theorem cf_alike (args : Array Value) (W : World) : (callFunc 62 args).run Tryz.prog W = .ok (.enter 62 args) W := by simp [go_sem]
namespace Ty
def eqT (k : Int) (kids : Fo) (k' : Int) (kids' : Fo) : Bool := (k == k') && eqF kids kids'
def sameT (k : Int) (kids : Fo) (k' : Int) (kids' : Fo) : Bool := (chk k kids == 0) && (chk k' kids' == 0) && eqT k kids k' kids'
theorem eqF_ne (f g : Fo) (h : len f ≠ len g) : eqF f g = false := by
  cases hq : eqF f g
  · rfl
  · exact absurd (eqF_len f g hq) h
end Ty

/-- a loop's state over a second list -/
structure Over2 (w wr : World) (A : Option Addr) (n i : Nat) (rest : Fo) : Prop where
  i_eq : i + Ty.len rest = n
  lies : Ty.Lies wr rest A i

set_option maxHeartbeats 1000000 in
set_option maxRecDepth 100000 in
theorem equal_any (kids1 kids2 : Fo) (A1 A2 : Option Addr) (n1 c1 n2 c2 : Nat) (w : World) (hL1 : Ty.Lies w kids1 A1 0) (hn1 : n1 = Ty.len kids1) (hnc1 : n1 ≤ c1) (hc1 : c1 ≤ maxLen) (hL2 : Ty.Lies w kids2 A2 0) (hn2 : n2 = Ty.len kids2) (hnc2 : n2 ≤ c2)
    (hf : ∀ (k : Int) (kids : Fo) (A : Option Addr) (n c : Nat) (k' : Int) (kids' : Fo) (A' : Option Addr) (n' c' : Nat) (W : World), Ty.nodes kids < Ty.nodes kids1 → Ty.Is W k kids A n c → Ty.Is W k' kids' A' n' c' →
      Calls Tryz.prog 62 #[.agg #[.int .i8 k, .slice A n c], .agg #[.int .i8 k', .slice A' n' c']] W fun e w' => e = .returned (.bool (Ty.eqT k kids k' kids')) ∧ Below W.heap.size W w') :
    Calls Tryz.prog 85 #[.slice A1 n1 c1, .slice A2 n2 c2, .func (Fn.func 62) #[] #[]] w fun e w' => e = .returned (.bool (Ty.eqF kids1 kids2)) ∧ Below w.heap.size w w' := by
  have i5 : (n1 : Int) ≤ 9223372036854775807 := by unfold maxLen at hc1; omega
  have hcf := cf_alike
  by_cases hne : n1 = n2
  · have hst := Over.start hL1 hn1
    have hst2 : Over2 w w A2 n2 0 kids2 := ⟨by omega, hL2⟩
    have HF := Lib.hid hf
    have HS := Lib.hid hst
    have HS2 := Lib.hid hst2
    subst hne
    clear hst hst2 hn1 hn2 hf hL1 hL2
    obtain ⟨R, hR⟩ : ∃ R, Ty.eqF kids1 kids2 = R := ⟨_, rfl⟩
    rw [hR]
    have HR := Lib.hid hR
    clear hR
    have hb1 : ((n1 : Int) != (n1 : Int)) = false := by simp
    have hb2 : ((n1 : Nat) != n1) = false := by simp
    go_enter Tryz.func85, Tryz.ntmps85
    go_wp2_with fail
    go_loopw [17] (fun v wr => ∃ (i : Nat) (r1 r2 : Fo), v = .int .i64 i ∧ Over w wr A1 n1 (Ty.nodes kids1) i r1 ∧ Over2 w wr A2 n1 i r2 ∧ Ty.eqF r1 r2 = R) (fun v _ => n1 - (intOf v).toNat)
    case atStart => exact ⟨0, kids1, kids2, rfl, HS.out, HS2.out, HR.out⟩
    case round =>
      obtain ⟨i, r1, r2, rfl, hO, hO2, hR⟩ := hrel
      cases r1 with
      | nil =>
        have hi : i = n1 := by have := hO.i_eq; simpa [Ty.len] using this
        have hr2 : r2 = .nil := by
          have := hO2.i_eq
          cases r2 with
          | nil => rfl
          | node _ _ _ _ _ => simp only [Ty.len] at this; omega
        subst hr2
        have hB := hO.below
        clear hO hO2
        simp only [Ty.eqF] at hR
        subst hi
        subst hR
        go_wp2_with fail
        go_ret
        exact ⟨rfl, hB⟩
      | node a b k' kids' r =>
        cases r2 with
        | nil => have e1 := hO.i_eq; have e2 := hO2.i_eq; simp only [Ty.len] at e1 e2; omega
        | node a2 b2 k2' kids2' s =>
        have hst := fun w2 hb => Over.step (w2 := w2) hO hb
        have h1 := hO.i_eq
        have h2 := hO.lies
        have h3 := hO.sub
        have h4 := hO.below
        have g1 := hO2.i_eq
        have g2 := hO2.lies
        simp only [Ty.len, Ty.nodes, Ty.eqF] at h1 h3 hR g1
        obtain ⟨bb, oo, B, c', rfl, ⟨hk1, hk2⟩, c1', c2', hl1, hl2, hl3, hl4⟩ := h2
        obtain ⟨bb2, oo2, B2, c3, rfl, ⟨gk1, gk2⟩, d1, d2, gl1, gl2, gl3, gl4⟩ := g2
        have hcall := HF.out k' kids' B (Ty.len kids') c' k2' kids2' B2 (Ty.len kids2') c3 ((wr.alloc (.cells #[.int .i8 k', .slice B (Ty.len kids') c'] 25)).alloc (.cells #[.int .i8 k2', .slice B2 (Ty.len kids2') c3] 25)) (by omega) ⟨(hl3.alloc _).alloc _, rfl, hl1, hl2, hk1, hk2⟩ ⟨(gl3.alloc _).alloc _, rfl, gl1, gl2, gk1, gk2⟩
        have HS := Lib.hid hst
        have HL := Lib.hid hl4
        have HL2 := Lib.hid gl4
        have HC := Lib.hid hcall
        have HRR := Lib.hid hR
        have j1 : (i : Int) < n1 := by omega
        have hlt2 := Ty.cell_lt d1
        clear hst hl3 hl4 gl3 gl4 hcall hO hO2 hR
        cases hp : Ty.eqT k' kids' k2' kids2'
        · have hp0 : R = false := by rw [← HRR.out]; unfold Ty.eqT at hp; rw [hp]; rfl
          rw [hp] at HC
          subst hp0
          clear hp
          go_wp2_with fail
          refine HC.out.mono ?_
          rintro e w2 ⟨rfl, hb⟩
          go_wp2_with fail
          go_ret
          exact ⟨rfl, ((h4.alloc h4.size _).alloc (by have := h4.size; simp; omega) _).trans (hb.mono (by have := h4.size; simp; omega))⟩
        · have hp0 := HRR.out
          unfold Ty.eqT at hp
          rw [hp, Bool.true_and] at hp0
          have HP := Lib.hid hp0
          rw [show Ty.eqT k' kids' k2' kids2' = true from hp] at HC
          clear hp hp0
          go_wp2_with fail
          refine HC.out.mono ?_
          rintro e w2 ⟨rfl, hb⟩
          have hB2 : Below wr.heap.size wr w2 := (((Below.refl _ _).alloc (Nat.le_refl _) _).alloc (by simp) _).trans (hb.mono (by simp <;> omega))
          have hbb := Lib.hid (HS.out w2 hB2 HL.out)
          have hbb2 : Hid (Over2 w w2 (some ⟨bb2, oo2, none⟩) n1 (i + 1) s) := Lib.hid ⟨by omega, HL2.out.below hB2⟩
          clear hb hB2
          go_wp2_with fail
          go_roundw
          case rel => exact ⟨i + 1, r, s, by go_num, hbb.out, hbb2.out, HP.out⟩
          case measure => simp [intOf]; omega
  · have hR : Ty.eqF kids1 kids2 = false := Ty.eqF_ne _ _ (by omega)
    rw [hR]
    have hb1 : ((n1 : Int) != (n2 : Int)) = true := by simp; omega
    have hb2 : ((n1 : Nat) != n2) = true := by simp; omega
    clear hR hn1 hn2 hf hL1 hL2
    go_enter Tryz.func85, Tryz.ntmps85
    go_wp2_with fail
    go_ret
    exact ⟨rfl, Below.refl _ _⟩

set_option maxHeartbeats 1000000 in
set_option maxRecDepth 100000 in
theorem alike_any (K : Nat) : ∀ (k : Int) (kids : Fo) (A : Option Addr) (n c : Nat) (k' : Int) (kids' : Fo) (A' : Option Addr) (n' c' : Nat) (w : World), Ty.nodes kids < K → Ty.Is w k kids A n c → Ty.Is w k' kids' A' n' c' →
    Calls Tryz.prog 62 #[.agg #[.int .i8 k, .slice A n c], .agg #[.int .i8 k', .slice A' n' c']] w fun e w' => e = .returned (.bool (Ty.eqT k kids k' kids')) ∧ Below w.heap.size w w' := by
  induction K with
  | zero => intro _ _ _ _ _ _ _ _ _ _ _ h; omega
  | succ K ih =>
    intro k kids A n c k' kids' A' n' c' w hK hIs hIs'
    have hB0 := ((Below.refl w.heap.size w).alloc (Nat.le_refl _) (.cells #[.int .i8 k, .slice A n c] 25)).alloc (by simp) (.cells #[.int .i8 k', .slice A' n' c'] 25)
    have heq := fun (W : World) (hb : Below w.heap.size w W) => equal_any kids kids' A A' n c n' c' W (hIs.lies.below hb) hIs.n_eq hIs.n_le hIs.c_le (hIs'.lies.below hb) hIs'.n_eq hIs'.n_le
      (fun k kids2 A n c k' kids' A' n' c' W' h1 h2 h3 => ih k kids2 A n c k' kids' A' n' c' W' (by omega) h2 h3)
    have HE := Lib.hid heq
    clear heq hIs hIs' ih
    cases hk : (k == k')
    · have hres : Ty.eqT k kids k' kids' = false := by unfold Ty.eqT; rw [hk]; rfl
      rw [hres]
      clear hres
      go_enter Tryz.func62, Tryz.ntmps62
      go_wp2_with fail
      go_ret
      exact ⟨rfl, hB0⟩
    · have hres : Ty.eqT k kids k' kids' = Ty.eqF kids kids' := by unfold Ty.eqT; rw [hk]; rfl
      rw [hres]
      clear hres
      go_enter Tryz.func62, Tryz.ntmps62
      go_wp2_with fail
      refine (HE.out _ hB0).mono ?_
      rintro e w3 ⟨rfl, hb⟩
      go_wp2_with fail
      go_ret
      exact ⟨rfl, hB0.trans (hb.mono hB0.size)⟩
end Go.Proofs.YtknhoagicdfikaaGreatDoor
namespace Go.Proofs.YtknhoagicdfikaaGreatDoor
open Go.RowKit

set_option maxHeartbeats 1000000 in
set_option maxRecDepth 100000 in
theorem nodes_any (k : Int) (kids : Fo) (A : Option Addr) (n c : Nat) (w : World) (hIs : Ty.Is w k kids A n c) :
    Calls Tryz.prog 79 #[.agg #[.int .i8 k, .slice A n c]] w fun e w' => e = .returned (.int .i64 (Ty.nod kids)) ∧ Below w.heap.size w w' := by
  have hB0 := (Below.refl w.heap.size w).alloc (Nat.le_refl _) (.cells #[.int .i8 k, .slice A n c] 25)
  have HM := Lib.hid (fun (W : World) (hb : Below w.heap.size w W) => measure_any k kids A n c W (hIs.below hb))
  clear hIs
  go_enter Tryz.func79, Tryz.ntmps79
  go_wp2_with fail
  refine (HM.out _ hB0).mono ?_
  rintro e w3 ⟨rfl, hb⟩
  go_wp2_with fail
  go_ret
  exact ⟨rfl, hB0.trans (hb.mono hB0.size)⟩

set_option maxHeartbeats 1000000 in
set_option maxRecDepth 100000 in
theorem depth_any (k : Int) (kids : Fo) (A : Option Addr) (n c : Nat) (w : World) (hIs : Ty.Is w k kids A n c) :
    Calls Tryz.prog 80 #[.agg #[.int .i8 k, .slice A n c]] w fun e w' => e = .returned (.int .i64 (Ty.dpt kids)) ∧ Below w.heap.size w w' := by
  have hB0 := (Below.refl w.heap.size w).alloc (Nat.le_refl _) (.cells #[.int .i8 k, .slice A n c] 25)
  have HM := Lib.hid (fun (W : World) (hb : Below w.heap.size w W) => measure_any k kids A n c W (hIs.below hb))
  clear hIs
  go_enter Tryz.func80, Tryz.ntmps80
  go_wp2_with fail
  refine (HM.out _ hB0).mono ?_
  rintro e w3 ⟨rfl, hb⟩
  go_wp2_with fail
  go_ret
  exact ⟨rfl, hB0.trans (hb.mono hB0.size)⟩

namespace Ty
def knownT (k : Int) (kids : Fo) : Bool := (chk k kids == 0) && knT k kids
end Ty

set_option maxHeartbeats 1000000 in
set_option maxRecDepth 100000 in
theorem known_fn (k : Int) (kids : Fo) (A : Option Addr) (n c : Nat) (w : World) (hIs : Ty.Is w k kids A n c) (hS : Shapes w) :
    Calls Tryz.prog 10 #[.agg #[.int .i8 k, .slice A n c]] w fun e w' => e = .returned (.bool (Ty.knownT k kids)) ∧ Below w.heap.size w w' := by
  have hB0 := (Below.refl w.heap.size w).alloc (Nat.le_refl _) (.cells #[.int .i8 k, .slice A n c] 25)
  have HM := Lib.hid (fun (W : World) (hb : Below w.heap.size w W) => check_any k kids A n c W (hIs.below hb) (hS.below hb))
  have HK := Lib.hid (fun (W : World) (hb : Below w.heap.size w W) => known_any (Ty.nodes kids + 1) k kids A n c W (by omega) (hIs.below hb))
  clear hIs hS
  by_cases h0 : Ty.chk k kids = 0
  · have hres : Ty.knownT k kids = Ty.knT k kids := by unfold Ty.knownT; rw [h0]; rfl
    rw [hres]
    rw [h0] at HM
    clear hres h0
    go_enter Tryz.func10, Tryz.ntmps10
    go_wp2_with fail
    refine (HM.out _ hB0).mono ?_
    rintro e w3 ⟨rfl, hb⟩
    have hB1 := hB0.trans (hb.mono hB0.size)
    obtain ⟨b0, b1, _, _, _⟩ := own2 (heap_below hb (by simp) (heap_new w (.cells #[.int .i8 k, .slice A n c] 25)))
    clear hb
    go_wp2_with fail
    refine (HK.out _ hB1).mono ?_
    rintro e w4 ⟨rfl, hb⟩
    go_wp2_with fail
    go_ret
    exact ⟨rfl, hB1.trans (hb.mono hB1.size)⟩
  · have hres : Ty.knownT k kids = false := by unfold Ty.knownT; simp [h0]
    rw [hres]
    have hc : (((Ty.chk k kids : Nat) : Int) == 0) = false := by simp; omega
    generalize Ty.chk k kids = C at *
    clear hres h0
    go_enter Tryz.func10, Tryz.ntmps10
    go_wp2_with fail
    refine (HM.out _ hB0).mono ?_
    rintro e w3 ⟨rfl, hb⟩
    go_wp2_with fail
    go_ret
    exact ⟨rfl, hB0.trans (hb.mono hB0.size)⟩

set_option maxHeartbeats 2000000 in
set_option maxRecDepth 100000 in
theorem same_any (k : Int) (kids : Fo) (A : Option Addr) (n c : Nat) (k' : Int) (kids' : Fo) (A' : Option Addr) (n' c' : Nat) (w : World) (hIs : Ty.Is w k kids A n c) (hIs' : Ty.Is w k' kids' A' n' c') (hS : Shapes w) :
    Calls Tryz.prog 33 #[.agg #[.int .i8 k, .slice A n c], .agg #[.int .i8 k', .slice A' n' c']] w fun e w' => e = .returned (.bool (Ty.sameT k kids k' kids')) ∧ Below w.heap.size w w' := by
  have hB0 := ((Below.refl w.heap.size w).alloc (Nat.le_refl _) (.cells #[.int .i8 k, .slice A n c] 25)).alloc (by simp) (.cells #[.int .i8 k', .slice A' n' c'] 25)
  have HM := Lib.hid (fun (W : World) (hb : Below w.heap.size w W) => check_any k kids A n c W (hIs.below hb) (hS.below hb))
  have HN := Lib.hid (fun (W : World) (hb : Below w.heap.size w W) => check_any k' kids' A' n' c' W (hIs'.below hb) (hS.below hb))
  have HK := Lib.hid (fun (W : World) (hb : Below w.heap.size w W) => alike_any (Ty.nodes kids + 1) k kids A n c k' kids' A' n' c' W (by omega) (hIs.below hb) (hIs'.below hb))
  clear hIs hIs' hS
  have r0 := heap_old (heap_new w (.cells #[.int .i8 k, .slice A n c] 25)) (.cells #[.int .i8 k', .slice A' n' c'] 25)
  have r1 : ((w.alloc (.cells #[.int .i8 k, .slice A n c] 25)).alloc (.cells #[.int .i8 k', .slice A' n' c'] 25)).heap[w.heap.size + 1]? = some (.cells #[.int .i8 k', .slice A' n' c'] 25) := by
    have := heap_new (w.alloc (.cells #[.int .i8 k, .slice A n c] 25)) (.cells #[.int .i8 k', .slice A' n' c'] 25)
    simpa using this
  have R0 := Lib.hid r0
  have R1 := Lib.hid r1
  clear r0 r1
  by_cases h0 : Ty.chk k kids = 0
  · rw [h0] at HM
    by_cases h1 : Ty.chk k' kids' = 0
    · have hres : Ty.sameT k kids k' kids' = Ty.eqT k kids k' kids' := by unfold Ty.sameT; rw [h0, h1]; rfl
      rw [hres]
      rw [h1] at HN
      clear hres h0 h1
      go_enter Tryz.func33, Tryz.ntmps33
      go_wp2_with fail
      refine (HM.out _ hB0).mono ?_
      rintro e w3 ⟨rfl, hb⟩
      have hB1 := hB0.trans (hb.mono hB0.size)
      have hR0 := heap_below hb (heap_lt R0.out) R0.out
      have hR1 := heap_below hb (heap_lt R1.out) R1.out
      obtain ⟨b0, b1, _, _, _⟩ := own2 hR0
      obtain ⟨d0, d1, _, _, _⟩ := own2 hR1
      have HR0 := Lib.hid hR0
      have HR1 := Lib.hid hR1
      clear hb hR0 hR1
      go_wp2_with fail
      refine (HN.out _ hB1).mono ?_
      rintro e w4 ⟨rfl, hb⟩
      have hB2 := hB1.trans (hb.mono hB1.size)
      obtain ⟨b0, b1, _, _, _⟩ := own2 (heap_below hb (heap_lt HR0.out) HR0.out)
      obtain ⟨d0, d1, _, _, _⟩ := own2 (heap_below hb (heap_lt HR1.out) HR1.out)
      clear hb
      go_wp2_with fail
      refine (HK.out _ hB2).mono ?_
      rintro e w5 ⟨rfl, hb⟩
      go_wp2_with fail
      go_ret
      exact ⟨rfl, hB2.trans (hb.mono hB2.size)⟩
    · have hres : Ty.sameT k kids k' kids' = false := by unfold Ty.sameT; simp [h1]
      rw [hres]
      have hc : (((Ty.chk k' kids' : Nat) : Int) == 0) = false := by simp; omega
      generalize Ty.chk k' kids' = C at *
      clear hres h0 h1
      go_enter Tryz.func33, Tryz.ntmps33
      go_wp2_with fail
      refine (HM.out _ hB0).mono ?_
      rintro e w3 ⟨rfl, hb⟩
      have hB1 := hB0.trans (hb.mono hB0.size)
      obtain ⟨d0, d1, _, _, _⟩ := own2 (heap_below hb (heap_lt R1.out) R1.out)
      clear hb
      go_wp2_with fail
      refine (HN.out _ hB1).mono ?_
      rintro e w4 ⟨rfl, hb⟩
      go_wp2_with fail
      go_ret
      exact ⟨rfl, hB1.trans (hb.mono hB1.size)⟩
  · have hres : Ty.sameT k kids k' kids' = false := by unfold Ty.sameT; simp [h0]
    rw [hres]
    have hc : (((Ty.chk k kids : Nat) : Int) == 0) = false := by simp; omega
    generalize Ty.chk k kids = C at *
    clear hres h0
    go_enter Tryz.func33, Tryz.ntmps33
    go_wp2_with fail
    refine (HM.out _ hB0).mono ?_
    rintro e w3 ⟨rfl, hb⟩
    go_wp2_with fail
    go_ret
    exact ⟨rfl, hB0.trans (hb.mono hB0.size)⟩
end Go.Proofs.YtknhoagicdfikaaGreatDoor
namespace Go.Proofs.YtknhoagicdfikaaGreatDoor
open Go.RowKit

namespace Ty
end Ty

end Go.Proofs.YtknhoagicdfikaaGreatDoor
namespace Go.Proofs.YtknhoagicdfikaaGreatDoor
open Go.RowKit

theorem two_boxes (w : World) (k : Int) (A : Option Addr) (n c : Nat) (k' : Int) (A' : Option Addr) (n' c' : Nat) :
    Below w.heap.size w ((w.alloc (.cells #[.int .i8 k, .slice A n c] 25)).alloc (.cells #[.int .i8 k', .slice A' n' c'] 25)) ∧
    ((w.alloc (.cells #[.int .i8 k, .slice A n c] 25)).alloc (.cells #[.int .i8 k', .slice A' n' c'] 25)).heap[w.heap.size]? = some (.cells #[.int .i8 k, .slice A n c] 25) ∧
    ((w.alloc (.cells #[.int .i8 k, .slice A n c] 25)).alloc (.cells #[.int .i8 k', .slice A' n' c'] 25)).heap[w.heap.size + 1]? = some (.cells #[.int .i8 k', .slice A' n' c'] 25) := by
  refine ⟨((Below.refl w.heap.size w).alloc (Nat.le_refl _) _).alloc (by simp) _, heap_old (heap_new w _) _, ?_⟩
  have := heap_new (w.alloc (.cells #[.int .i8 k, .slice A n c] 25)) (.cells #[.int .i8 k', .slice A' n' c'] 25)
  simpa using this

end Go.Proofs.YtknhoagicdfikaaGreatDoor
namespace Go.Proofs.YtknhoagicdfikaaGreatDoor
open Go.RowKit

theorem Ty.chk_ok {k : Int} {kids : Fo} (h : Ty.chk k kids = 0) : Ty.okT k kids = true ∧ Ty.nodes kids + 1 ≤ 8192 ∧ Ty.dep kids + 1 ≤ 200 := by
  unfold Ty.chk at h
  split at h
  · cases h
  · split at h
    · cases h
    · split at h
      · rename_i h1 h2 h3; exact ⟨h3, by omega, by omega⟩
      · cases h

namespace Ty
/-- two parts -/
def two (k : Int) (kids : Fo) (k' : Int) (kids' : Fo) : Fo := .node 0 0 k kids (.node 0 0 k' kids' .nil)
end Ty

namespace Ty
end Ty
theorem Ty.okT_range {k : Int} {kids : Fo} (h : Ty.okT k kids = true) : k = 0 ∨ k = 1 ∨ k = 2 ∨ k = 3 ∨ k = 4 ∨ k = 5 := by
  unfold Ty.okT Ty.okK at h
  split at h
  · omega
  · split at h
    · omega
    · simp at h

end Go.Proofs.YtknhoagicdfikaaGreatDoor
namespace Go.Proofs.YtknhoagicdfikaaGreatDoor
namespace Ty
/-- lists of types that agree one by one -/
def agF : Fo → Fo → Bool
  | .nil, _ => true
  | .node _ _ _ _ _, .nil => true
  | .node _ _ k kids r, .node _ _ k' kids' r' => ((k == 0) || (k' == 0) || ((k == k') && agF kids kids')) && agF r r'
def agT (k : Int) (kids : Fo) (k' : Int) (kids' : Fo) : Bool := (k == 0) || (k' == 0) || ((k == k') && agF kids kids')
def agreeT (k : Int) (kids : Fo) (k' : Int) (kids' : Fo) : Bool := (chk k kids == 0) && (chk k' kids' == 0) && agT k kids k' kids'
theorem agT_zero_left (kids : Fo) (k' : Int) (kids' : Fo) : agT 0 kids k' kids' = true := rfl
theorem agT_zero_right (k : Int) (kids kids' : Fo) : agT k kids 0 kids' = true := by unfold agT; simp
theorem agT_ne {k k' : Int} (kids kids' : Fo) (h1 : k ≠ 0) (h2 : k' ≠ 0) (h : k ≠ k') : agT k kids k' kids' = false := by unfold agT; simp [h1, h2, h]
theorem agT_eq {k : Int} (kids kids' : Fo) (h1 : k ≠ 0) : agT k kids k kids' = agF kids kids' := by unfold agT; simp [h1]
/-- a right type's kids: none, or two -/
theorem two_of {k : Int} {kids : Fo} (h : okT k kids = true) (h3 : 3 ≤ k) : ∃ a b k1 f1 c d k2 f2, kids = .node a b k1 f1 (.node c d k2 f2 .nil) ∧ okT k1 f1 = true ∧ okT k2 f2 = true := by
  unfold okT okK at h
  rw [if_neg (by omega), Bool.and_eq_true] at h
  split at h
  · have hl : len kids = 2 := by simpa using h.1
    match kids, hl, h.2 with
    | .node a b k1 f1 (.node c d k2 f2 .nil), _, ho =>
      simp only [okF, Bool.and_eq_true] at ho
      exact ⟨a, b, k1, f1, c, d, k2, f2, rfl, by unfold okT; rw [Bool.and_eq_true]; exact ⟨ho.1.1, ho.1.2⟩, by unfold okT; rw [Bool.and_eq_true]; exact ⟨ho.2.1.1, ho.2.1.2⟩⟩
    | .nil, hl, _ => simp [len] at hl
    | .node _ _ _ _ .nil, hl, _ => simp [len] at hl
    | .node _ _ _ _ (.node _ _ _ _ (.node _ _ _ _ _)), hl, _ => simp [len] at hl
  · simp at h
theorem none_of {k : Int} {kids : Fo} (h : okT k kids = true) (h3 : k ≤ 2) : kids = .nil := by
  have h2 := h
  unfold okT okK at h
  have hr := okT_range h2
  rw [if_pos (by omega), Bool.and_eq_true] at h
  cases kids with
  | nil => rfl
  | node _ _ _ _ _ => simp [len] at h
end Ty
end Go.Proofs.YtknhoagicdfikaaGreatDoor
namespace Go.Proofs.YtknhoagicdfikaaGreatDoor
open Go.RowKit

theorem eqKindsIn (d : Nat) (a b c e : Int) (w : World) : (Op.equalIn (d + 1 + 1) 87 (.agg #[.int .i8 a, .int .i8 b]) (.agg #[.int .i8 c, .int .i8 e])).run Tryz.prog w = .ok ((a == c) && (b == e)) w := by
  have hu : Tryz.prog.underlying 87 = some (.array 2 22) := Tryz.underlying87
  have hi : Tryz.prog.underlying 22 = some (.int .i8) := Tryz.underlying22
  have e1 := fun W => run_equalIn_int (P := Tryz.prog) W d 22 .i8 .i8 a c hi
  have e2 := fun W => run_equalIn_int (P := Tryz.prog) W d 22 .i8 .i8 b e hi
  have p1 : ∀ (x y : Int) W, (part 22 #[.int .i8 x, .int .i8 y] 0).run Tryz.prog W = .ok (.int .i8 x) W := fun _ _ W => by kernel_rfl
  have p2 : ∀ (x y : Int) W, (part 22 #[.int .i8 x, .int .i8 y] 1).run Tryz.prog W = .ok (.int .i8 y) W := fun _ _ W => by kernel_rfl
  have hs : ∀ W, (sizeOf 22).run Tryz.prog W = .ok 1 W := fun W => by kernel_rfl
  rw [Op.equalIn]
  simp only [Sem.run_bind, run_underlying hu, Result.andThen_ok, hs]
  rw [Std.Legacy.Range.forIn_eq_forIn_range']
  simp only [Std.Legacy.Range.size, List.range', List.forIn_cons, List.forIn_nil, Sem.run_bind, Nat.zero_add, Nat.mul_one, p1, e1, Result.andThen_ok]
  cases a == c
  · simp
  · cases hb : b == e <;> simp [p2, e2, hb]
theorem eqKinds (a b c d : Int) (w : World) : (binOp .eql 87 (.agg #[.int .i8 a, .int .i8 b]) (.agg #[.int .i8 c, .int .i8 d])).run Tryz.prog w = .ok (.bool ((a == c) && (b == d))) w := by
  rw [run_eql_struct, eqKindsIn 9998 a b c d w]
  rfl

/-- two types in a row, opened -/
theorem Ty.lies2 {w : World} {a b c d : Nat} {k1 k2 : Int} {f1 f2 : Fo} {A : Option Addr} (h : Ty.Lies w (.node a b k1 f1 (.node c d k2 f2 .nil)) A 0) :
    ∃ bb oo B1 c1 B2 c2, A = some ⟨bb, oo, none⟩ ∧ w.cell? ⟨bb, oo, none⟩ = some (.int .i8 k1) ∧ w.cell? ⟨bb, oo + 1, none⟩ = some (.slice B1 (Ty.len f1) c1) ∧ w.cell? ⟨bb, oo + 2, none⟩ = some (.int .i8 k2) ∧ w.cell? ⟨bb, oo + 3, none⟩ = some (.slice B2 (Ty.len f2) c2) ∧ Ty.Is w k1 f1 B1 (Ty.len f1) c1 ∧ Ty.Is w k2 f2 B2 (Ty.len f2) c2 := by
  obtain ⟨bb, oo, B1, c1, rfl, ⟨h1, h2⟩, h3, h4, h5, h6, h7, ⟨bb', oo', B2, c2, e, ⟨g1, g2⟩, g3, g4, g5, g6, g7, -⟩⟩ := h
  injection e with e; injection e with e1 e2; subst e1; subst e2
  exact ⟨_, _, B1, c1, B2, c2, rfl, by simpa using h3, by simpa using h4, by simpa using g3, by simpa using g4, ⟨h7, rfl, h5, h6, h1, h2⟩, ⟨g7, rfl, g5, g6, g1, g2⟩⟩

set_option maxHeartbeats 4000000 in
set_option maxRecDepth 100000 in
theorem agreeing_any (K : Nat) : ∀ (k : Int) (kids : Fo) (A : Option Addr) (n c : Nat) (k' : Int) (kids' : Fo) (A' : Option Addr) (n' c' : Nat) (w : World), Ty.nodes kids < K → Ty.Is w k kids A n c → Ty.Is w k' kids' A' n' c' → Ty.okT k kids = true → Ty.okT k' kids' = true →
    Calls Tryz.prog 46 #[.agg #[.int .i8 k, .slice A n c], .agg #[.int .i8 k', .slice A' n' c']] w fun e w' => e = .returned (.bool (Ty.agT k kids k' kids')) ∧ Below w.heap.size w w' := by
  induction K with
  | zero => intro _ _ _ _ _ _ _ _ _ _ _ h; omega
  | succ K ih =>
    intro k kids A n c k' kids' A' n' c' w hK hIs hIs' ho ho'
    obtain ⟨hB0, hR0, hR1⟩ := two_boxes w k A n c k' A' n' c'
    have HI := Lib.hid (hIs.below hB0)
    have HI' := Lib.hid (hIs'.below hB0)
    have IH := Lib.hid ih
    clear ih hIs hIs'
    obtain ⟨b0, b1, _, _, hb0⟩ := own2 hR0
    obtain ⟨d0, d1, _, _, hd0⟩ := own2 hR1
    clear hR0 hR1
    generalize hw1 : (w.alloc (.cells #[.int .i8 k, .slice A n c] 25)).alloc (.cells #[.int .i8 k', .slice A' n' c'] 25) = w1 at *
    have HW := Lib.hid hw1
    clear hw1
    by_cases hk0 : k = 0
    · subst hk0
      rw [Ty.agT_zero_left]
      clear ho ho'
      go_enter Tryz.func46, Tryz.ntmps46
      go_wp2_with fail
      rw [HW.out]
      go_wp2_with fail
      go_ret
      exact ⟨rfl, hB0⟩
    by_cases hk0' : k' = 0
    · subst hk0'
      rw [Ty.agT_zero_right]
      have hz : (k == 0) = false := by simpa using hk0
      clear ho ho' hk0
      go_enter Tryz.func46, Tryz.ntmps46
      go_wp2_with fail
      rw [HW.out]
      go_wp2_with fail
      go_ret
      exact ⟨rfl, hB0⟩
    have hz : (k == 0) = false := by simpa using hk0
    have hz' : (k' == 0) = false := by simpa using hk0'
    by_cases hkk : k = k'
    · subst hkk
      by_cases hlow : k ≤ 2
      · obtain rfl := Ty.none_of ho hlow
        obtain rfl := Ty.none_of ho' hlow
        rw [Ty.agT_eq _ _ hk0]
        have hr := Ty.okT_range ho
        have hr2 : k = 1 ∨ k = 2 := by omega
        clear ho ho' hr hk0 hk0' hlow
        rcases hr2 with rfl | rfl
        all_goals
          have e1 := fun W => eqKinds 1 1 1 1 W
          have e2 := fun W => eqKinds 2 2 1 1 W
          have e3 := fun W => eqKinds 2 2 2 2 W
          go_enter Tryz.func46, Tryz.ntmps46
          go_wp2_with fail
          rw [HW.out]
          go_wp2_with fail
          go_ret
          exact ⟨rfl, hB0⟩
      · obtain ⟨a1, a2, p1, f1, a3, a4, p2, f2, rfl, o1, o2⟩ := Ty.two_of ho (by omega)
        obtain ⟨a1', a2', p1', f1', a3', a4', p2', f2', rfl, o1', o2'⟩ := Ty.two_of ho' (by omega)
        rw [Ty.agT_eq _ _ hk0]
        have hn := HI.out.n_eq
        have hn' := HI'.out.n_eq
        simp only [Ty.len] at hn hn'
        subst hn
        subst hn'
        simp only [Ty.nodes] at hK
        obtain ⟨bb, oo, B1, c1, B2, c2, rfl, x0, x1, x2, x3, i1, i2⟩ := Ty.lies2 HI.out.lies
        obtain ⟨bb', oo', B1', c1', B2', c2', rfl, y0, y1, y2, y3, i1', i2'⟩ := Ty.lies2 HI'.out.lies
        have D1 := Lib.hid (fun (u : World) (hE : Below w1.heap.size w1 u) => IH.out p1 f1 B1 _ c1 p1' f1' B1' _ c1' u (by omega) (i1.below hE) (i1'.below hE) o1 o1')
        have D2 := Lib.hid (fun (u : World) (hE : Below w1.heap.size w1 u) => IH.out p2 f2 B2 _ c2 p2' f2' B2' _ c2' u (by omega) (i2.below hE) (i2'.below hE) o2 o2')
        have hres : Ty.agF (.node a1 a2 p1 f1 (.node a3 a4 p2 f2 .nil)) (.node a1' a2' p1' f1' (.node a3' a4' p2' f2' .nil)) = (Ty.agT p1 f1 p1' f1' && Ty.agT p2 f2 p2' f2') := by simp [Ty.agF, Ty.agT]
        rw [hres]
        have hr := Ty.okT_range ho
        have hr2 : k = 3 ∨ k = 4 ∨ k = 5 := by omega
        generalize hg1 : Ty.agT p1 f1 p1' f1' = R1 at D1
        generalize hg2 : Ty.agT p2 f2 p2' f2' = R2 at D2
        generalize Ty.len f1 = m1 at *
        generalize Ty.len f2 = m2 at *
        generalize Ty.len f1' = m1' at *
        generalize Ty.len f2' = m2' at *
        clear hres ho ho' hr hk0 hk0' hlow HI HI' IH i1 i2 i1' i2' o1 o2 o1' o2' hK hg1 hg2
        rcases hr2 with rfl | rfl | rfl
        all_goals
          have e1 := fun W => eqKinds 3 3 1 1 W
          have e2 := fun W => eqKinds 3 3 2 2 W
          have e3 := fun W => eqKinds 3 3 3 3 W
          have f1 := fun W => eqKinds 4 4 1 1 W
          have f2 := fun W => eqKinds 4 4 2 2 W
          have f3 := fun W => eqKinds 4 4 3 3 W
          have f4 := fun W => eqKinds 4 4 4 4 W
          have g1 := fun W => eqKinds 5 5 1 1 W
          have g2 := fun W => eqKinds 5 5 2 2 W
          have g3 := fun W => eqKinds 5 5 3 3 W
          have g4 := fun W => eqKinds 5 5 4 4 W
          have g5 := fun W => eqKinds 5 5 5 5 W
          cases R1
          all_goals
            go_enter Tryz.func46, Tryz.ntmps46
            go_wp2_with fail
            rw [HW.out]
            go_wp2_with fail
            clear e1 e2 e3 f1 f2 f3 f4 g1 g2 g3 g4 g5
            have B0 := later_cell b0
            have B1 := later_cell b1
            have C0 := later_cell d0
            have C1 := later_cell d1
            have X0 := later_cell x0
            have X1 := later_cell x1
            have X2 := later_cell x2
            have X3 := later_cell x3
            have Y0 := later_cell y0
            have Y1 := later_cell y1
            have Y2 := later_cell y2
            have Y3 := later_cell y3
            clear b0 b1 d0 d1 x0 x1 x2 x3 y0 y1 y2 y3
            refine wp_region_low (by kernel_rfl) (by kernel_rfl) ?_
            repeat
              first
                | go_big_quiet_skip
                | (go_big_quiet_want
                   go_big_quiet_op
                   first
                     | go_big_quiet_on
                     | (refine ⟨_, fun _ => rfl, ?_⟩
                        go_big_quiet_on)
                     | (apply Exists.intro
                        refine ⟨fun h => ?_, ?_⟩
                        · first
                            | (go_at_call 46; with_reducible exact call_low h (D1.out h.u h.low))
                            | (go_at_call 46; with_reducible exact call_low h (D2.out h.u h.low))
                        go_big_quiet_on))
            refine wpQuiet_nil ?_
            rintro _ ⟨⟨w8, E⟩, rfl⟩
            go_wp2_with fail
            go_ret
            exact ⟨rfl, hB0.trans (E.mono hB0.size)⟩
    · rw [Ty.agT_ne _ _ hk0 hk0' hkk]
      have e1 : ∀ W, (binOp .eql 87 (.agg #[.int .i8 k, .int .i8 k']) (.agg #[.int .i8 1, .int .i8 1])).run Tryz.prog W = .ok (.bool false) W := fun W => by rw [eqKinds]; simp; omega
      have e2 : ∀ W, (binOp .eql 87 (.agg #[.int .i8 k, .int .i8 k']) (.agg #[.int .i8 2, .int .i8 2])).run Tryz.prog W = .ok (.bool false) W := fun W => by rw [eqKinds]; simp; omega
      have e3 : ∀ W, (binOp .eql 87 (.agg #[.int .i8 k, .int .i8 k']) (.agg #[.int .i8 3, .int .i8 3])).run Tryz.prog W = .ok (.bool false) W := fun W => by rw [eqKinds]; simp; omega
      have e4 : ∀ W, (binOp .eql 87 (.agg #[.int .i8 k, .int .i8 k']) (.agg #[.int .i8 4, .int .i8 4])).run Tryz.prog W = .ok (.bool false) W := fun W => by rw [eqKinds]; simp; omega
      have e5 : ∀ W, (binOp .eql 87 (.agg #[.int .i8 k, .int .i8 k']) (.agg #[.int .i8 5, .int .i8 5])).run Tryz.prog W = .ok (.bool false) W := fun W => by rw [eqKinds]; simp; omega
      clear ho ho' hkk hk0 hk0'
      go_enter Tryz.func46, Tryz.ntmps46
      go_wp2_with fail
      rw [HW.out]
      go_wp2_with fail
      go_ret
      exact ⟨rfl, hB0⟩
end Go.Proofs.YtknhoagicdfikaaGreatDoor
namespace Go.Proofs.YtknhoagicdfikaaGreatDoor
open Go.RowKit

set_option maxHeartbeats 2000000 in
set_option maxRecDepth 100000 in
theorem agree_any (k : Int) (kids : Fo) (A : Option Addr) (n c : Nat) (k' : Int) (kids' : Fo) (A' : Option Addr) (n' c' : Nat) (w : World) (hIs : Ty.Is w k kids A n c) (hIs' : Ty.Is w k' kids' A' n' c') (hS : Shapes w) :
    Calls Tryz.prog 22 #[.agg #[.int .i8 k, .slice A n c], .agg #[.int .i8 k', .slice A' n' c']] w fun e w' => e = .returned (.bool (Ty.agreeT k kids k' kids')) ∧ Below w.heap.size w w' := by
  obtain ⟨hB0, hR0, hR1⟩ := two_boxes w k A n c k' A' n' c'
  have HM := Lib.hid (fun (W : World) (hb : Below w.heap.size w W) => check_any k kids A n c W (hIs.below hb) (hS.below hb))
  have HN := Lib.hid (fun (W : World) (hb : Below w.heap.size w W) => check_any k' kids' A' n' c' W (hIs'.below hb) (hS.below hb))
  have HK := Lib.hid (fun (W : World) (hb : Below w.heap.size w W) (h1 : Ty.okT k kids = true) (h2 : Ty.okT k' kids' = true) => agreeing_any (Ty.nodes kids + 1) k kids A n c k' kids' A' n' c' W (by omega) (hIs.below hb) (hIs'.below hb) h1 h2)
  have R0 := Lib.hid hR0
  have R1 := Lib.hid hR1
  have HB0 := Lib.hid hB0
  clear hIs hIs' hS hR0 hR1
  by_cases h0 : Ty.chk k kids = 0
  · have o1 := (Ty.chk_ok h0).1
    rw [h0] at HM
    by_cases h1 : Ty.chk k' kids' = 0
    · have o2 := (Ty.chk_ok h1).1
      have hres : Ty.agreeT k kids k' kids' = Ty.agT k kids k' kids' := by unfold Ty.agreeT; rw [h0, h1]; rfl
      have HKK := Lib.hid (fun (W : World) (hb : Below w.heap.size w W) => HK.out W hb o1 o2)
      rw [hres]
      rw [h1] at HN
      clear hres h0 h1 o1 o2 HK hB0
      go_enter Tryz.func22, Tryz.ntmps22
      go_wp2_with fail
      refine (HM.out _ HB0.out).mono ?_
      rintro e w3 ⟨rfl, hb⟩
      have hB1 := Lib.hid (HB0.out.trans (hb.mono HB0.out.size))
      have hR0 := heap_below hb (heap_lt R0.out) R0.out
      have hR1 := heap_below hb (heap_lt R1.out) R1.out
      obtain ⟨b0, b1, _, _, _⟩ := own2 hR0
      obtain ⟨d0, d1, _, _, _⟩ := own2 hR1
      have HR0 := Lib.hid hR0
      have HR1 := Lib.hid hR1
      clear hb hR0 hR1
      go_wp2_with fail
      refine (HN.out _ hB1.out).mono ?_
      rintro e w4 ⟨rfl, hb⟩
      have hB2 := Lib.hid (hB1.out.trans (hb.mono hB1.out.size))
      obtain ⟨b0, b1, _, _, _⟩ := own2 (heap_below hb (heap_lt HR0.out) HR0.out)
      obtain ⟨d0, d1, _, _, _⟩ := own2 (heap_below hb (heap_lt HR1.out) HR1.out)
      clear hb
      go_wp2_with fail
      refine (HKK.out _ hB2.out).mono ?_
      rintro e w5 ⟨rfl, hb⟩
      go_wp2_with fail
      go_ret
      exact ⟨rfl, hB2.out.trans (hb.mono hB2.out.size)⟩
    · have hres : Ty.agreeT k kids k' kids' = false := by unfold Ty.agreeT; simp [h1]
      rw [hres]
      have hc : (((Ty.chk k' kids' : Nat) : Int) == 0) = false := by simp; omega
      generalize Ty.chk k' kids' = C at *
      clear hres h0 h1 HK o1 hB0
      go_enter Tryz.func22, Tryz.ntmps22
      go_wp2_with fail
      refine (HM.out _ HB0.out).mono ?_
      rintro e w3 ⟨rfl, hb⟩
      have hB1 := Lib.hid (HB0.out.trans (hb.mono HB0.out.size))
      obtain ⟨d0, d1, _, _, _⟩ := own2 (heap_below hb (heap_lt R1.out) R1.out)
      clear hb
      go_wp2_with fail
      refine (HN.out _ hB1.out).mono ?_
      rintro e w4 ⟨rfl, hb⟩
      go_wp2_with fail
      go_ret
      exact ⟨rfl, hB1.out.trans (hb.mono hB1.out.size)⟩
  · have hres : Ty.agreeT k kids k' kids' = false := by unfold Ty.agreeT; simp [h0]
    rw [hres]
    have hc : (((Ty.chk k kids : Nat) : Int) == 0) = false := by simp; omega
    generalize Ty.chk k kids = C at *
    clear hres h0 HK hB0
    go_enter Tryz.func22, Tryz.ntmps22
    go_wp2_with fail
    refine (HM.out _ HB0.out).mono ?_
    rintro e w3 ⟨rfl, hb⟩
    go_wp2_with fail
    go_ret
    exact ⟨rfl, HB0.out.trans (hb.mono HB0.out.size)⟩

end Go.Proofs.YtknhoagicdfikaaGreatDoor
namespace Go.Proofs.YtknhoagicdfikaaGreatDoor
namespace Ty
/-- lists of types, each of the first at most as precise as the second's in its place -/
def leF : Fo → Fo → Bool
  | .nil, _ => true
  | .node _ _ _ _ _, .nil => true
  | .node _ _ k kids r, .node _ _ k' kids' r' => ((k == 0) || ((k == k') && leF kids kids')) && leF r r'
def leT (k : Int) (kids : Fo) (k' : Int) (kids' : Fo) : Bool := (k == 0) || ((k == k') && leF kids kids')
theorem leF_refl : ∀ f : Fo, leF f f = true
  | .nil => rfl
  | .node _ _ k kids r => by simp [leF, leF_refl kids, leF_refl r]
/-- where two meet -/
def mF : Fo → Fo → Fo
  | .nil, _ => .nil
  | .node a b k kids r, .nil => .node a b k kids r
  | .node a b k kids r, .node _ _ k' kids' r' => .node a b (if k = 0 then k' else k) (if k = 0 then kids' else if k' = 0 then kids else mF kids kids') (mF r r')
def mK (k k' : Int) : Int := if k = 0 then k' else k
def mT (k : Int) (kids : Fo) (k' : Int) (kids' : Fo) : Fo := if k = 0 then kids' else if k' = 0 then kids else mF kids kids'
theorem mT_zero' {k : Int} (kids kids' : Fo) (h : k ≠ 0) : mT k kids 0 kids' = kids := by unfold mT; simp [h]
theorem mT_two {k k' : Int} (kids kids' : Fo) (h : k ≠ 0) (h' : k' ≠ 0) : mT k kids k' kids' = mF kids kids' := by unfold mT; simp [h, h']
theorem mK_ne {k : Int} (k' : Int) (h : k ≠ 0) : mK k k' = k := by unfold mK; simp [h]
end Ty
end Go.Proofs.YtknhoagicdfikaaGreatDoor
