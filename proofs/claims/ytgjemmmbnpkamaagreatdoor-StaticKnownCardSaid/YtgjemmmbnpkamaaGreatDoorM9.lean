import Derived.Test.YtgjemmmbnpkamaaGreatDoorM8
import Derived.Deep.OwnRows
import Derived.Test.YtgjemmmbnpkamaaGreatDoorLow
import Derived.Laws.StructEq
namespace Go.Proofs.YtgjemmmbnpkamaaGreatDoor
set_option maxHeartbeats 1000000
set_option maxRecDepth 100000
open Go.RowKit
theorem zEG (args : Array Value) (W : World) : (callFunc 64 args).run Tryz.prog W = .ok (.enter 64 args) W := by simp [go_sem]
namespace Ty
def eqT (k : Int) (kids : Fo) (k' : Int) (kids' : Fo) : Bool := (k == k') && eqF kids kids'
def sameT (k : Int) (kids : Fo) (k' : Int) (kids' : Fo) : Bool := (chk k kids == 0) && (chk k' kids' == 0) && eqT k kids k' kids'
theorem zG0 (f g : Fo) (h : len f ≠ len g) : eqF f g = false := by
  cases hq : eqF f g
  · rfl
  · exact absurd (zBw f g hq) h
end Ty
structure Over2 (w wr : World) (A : Option Addr) (n i : Nat) (rest : Fo) : Prop where
  i_eq : i + Ty.len rest = n
  lies : Ty.Lies wr rest A i
theorem zCi (qw zg : Fo) (A1 A2 : Option Addr) (n1 c1 n2 c2 : Nat) (w : World) (hL1 : Ty.Lies w qw A1 0) (hn1 : n1 = Ty.len qw) (hnc1 : n1 ≤ c1) (hc1 : c1 ≤ maxLen) (hL2 : Ty.Lies w zg A2 0) (hn2 : n2 = Ty.len zg) (hnc2 : n2 ≤ c2)
    (hf : ∀ (k : Int) (kids : Fo) (A : Option Addr) (n c : Nat) (k' : Int) (kids' : Fo) (A' : Option Addr) (n' c' : Nat) (W : World), Ty.nodes kids < Ty.nodes qw → Ty.Is W k kids A n c → Ty.Is W k' kids' A' n' c' →
      Calls Tryz.prog 64 #[.agg #[.int .i8 k, .slice A n c], .agg #[.int .i8 k', .slice A' n' c']] W fun e w' => e = .returned (.bool (Ty.eqT k kids k' kids')) ∧ Below W.heap.size W w') :
    Calls Tryz.prog 96 #[.slice A1 n1 c1, .slice A2 n2 c2, .func (Fn.func 64) #[] #[]] w fun e w' => e = .returned (.bool (Ty.eqF qw zg)) ∧ Below w.heap.size w w' := by
  have i5 : (n1 : Int) ≤ 9223372036854775807 := by unfold maxLen at hc1; omega
  have hcf := zEG
  by_cases hne : n1 = n2
  · have hst := Over.start hL1 hn1
    have hst2 : Over2 w w A2 n2 0 zg := ⟨by omega, hL2⟩
    have HF := k0_ hf
    have HS := k0_ hst
    have HS2 := k0_ hst2
    subst hne
    clear hst hst2 hn1 hn2 hf hL1 hL2
    obtain ⟨R, hR⟩ : ∃ R, Ty.eqF qw zg = R := ⟨_, rfl⟩
    rw [hR]
    have HR := k0_ hR
    clear hR
    have hb1 : ((n1 : Int) != (n1 : Int)) = false := by simp
    have hb2 : ((n1 : Nat) != n1) = false := by simp
    go_enter Tryz.func96, Tryz.ntmps96
    go_wp2_with fail
    go_loopw [17] (fun v wr => ∃ (i : Nat) (r1 r2 : Fo), v = .int .i64 i ∧ Over w wr A1 n1 (Ty.nodes qw) i r1 ∧ Over2 w wr A2 n1 i r2 ∧ Ty.eqF r1 r2 = R) (fun v _ => n1 - (intOf v).toNat)
    case atStart => exact ⟨0, qw, zg, rfl, HS.out, HS2.out, HR.out⟩
    case round =>
      obtain ⟨i, r1, r2, rfl, hO, hO2, hR⟩ := hrel
      cases r1 with
      | nil =>
        have hi : i = n1 := by have := hO.i_eq; simpa [Ty.len] using this
        have hr2 : r2 = .nil := by
          have := hO2.i_eq
          cases r2 with
          | nil => rfl
          | node _ _ _ _ _ => simp only [Ty.len] at this; omega
        subst hr2
        have hB := hO.below
        clear hO hO2
        simp only [Ty.eqF] at hR
        exact zG4
      | node a b k' kids' r =>
        cases r2 with
        | nil => have e1 := hO.i_eq; have e2 := hO2.i_eq; simp only [Ty.len] at e1 e2; omega
        | node a2 b2 k2' kids2' s =>
        have hst := fun w2 hb => Over.step (w2 := w2) hO hb
        have h1 := hO.i_eq
        have h2 := hO.lies
        have h3 := hO.sub
        have h4 := hO.below
        have g1 := hO2.i_eq
        have g2 := hO2.lies
        simp only [Ty.len, Ty.nodes, Ty.eqF] at h1 h3 hR g1
        obtain ⟨bb, oo, B, c', rfl, ⟨hk1, hk2⟩, c1', c2', hl1, hl2, hl3, hl4⟩ := h2
        obtain ⟨bb2, oo2, B2, c3, rfl, ⟨gk1, gk2⟩, d1, d2, gl1, gl2, gl3, gl4⟩ := g2
        have hcall := HF.out k' kids' B (Ty.len kids') c' k2' kids2' B2 (Ty.len kids2') c3 ((wr.alloc (.cells #[.int .i8 k', .slice B (Ty.len kids') c'] 25)).alloc (.cells #[.int .i8 k2', .slice B2 (Ty.len kids2') c3] 25)) (by omega) ⟨(hl3.alloc _).alloc _, rfl, hl1, hl2, hk1, hk2⟩ ⟨(gl3.alloc _).alloc _, rfl, gl1, gl2, gk1, gk2⟩
        have HS := k0_ hst
        have HL := k0_ hl4
        have HL2 := k0_ gl4
        have HC := k0_ hcall
        have HRR := k0_ hR
        have j1 : (i : Int) < n1 := by omega
        have hlt2 := Ty.zR d1
        clear hst hl3 hl4 gl3 gl4 hcall hO hO2 hR
        cases hp : Ty.eqT k' kids' k2' kids2'
        · have hp0 : R = false := by rw [← HRR.out]; unfold Ty.eqT at hp; rw [hp]; rfl
          rw [hp] at HC
          subst hp0
          clear hp
          go_wp2_with fail
          refine HC.out.mono ?_
          rintro e w2 ⟨rfl, hb⟩
          go_wp2_with fail
          go_ret
          exact ⟨rfl, ((h4.alloc h4.size _).alloc (by have := h4.size; simp; omega) _).trans (hb.mono (by have := h4.size; simp; omega))⟩
        · have hp0 := HRR.out
          unfold Ty.eqT at hp
          rw [hp, Bool.true_and] at hp0
          have HP := k0_ hp0
          rw [show Ty.eqT k' kids' k2' kids2' = true from hp] at HC
          clear hp hp0
          go_wp2_with fail
          refine HC.out.mono ?_
          rintro e w2 ⟨rfl, hb⟩
          have hB2 : Below wr.heap.size wr w2 := (((Below.refl _ _).alloc (Nat.le_refl _) _).alloc (by simp) _).trans (hb.mono (by simp <;> omega))
          have hbb := k0_ (HS.out w2 hB2 HL.out)
          have hbb2 : Hid (Over2 w w2 (some ⟨bb2, oo2, none⟩) n1 (i + 1) s) := k0_ ⟨by omega, HL2.out.below hB2⟩
          clear hb hB2
          go_wp2_with fail
          go_roundw
          case rel => exact ⟨i + 1, r, s, by go_num, hbb.out, hbb2.out, HP.out⟩
          case measure => simp [intOf]; omega
  · have hR : Ty.eqF qw zg = false := Ty.zG0 _ _ (by omega)
    rw [hR]
    have hb1 : ((n1 : Int) != (n2 : Int)) = true := by simp; omega
    have hb2 : ((n1 : Nat) != n2) = true := by simp; omega
    clear hR hn1 hn2 hf hL1 hL2
    go_enter Tryz.func96, Tryz.ntmps96
    go_wp2_with fail
    go_ret
    exact ⟨rfl, Below.refl _ _⟩
theorem zDA (K : Nat) : ∀ (k : Int) (kids : Fo) (A : Option Addr) (n c : Nat) (k' : Int) (kids' : Fo) (A' : Option Addr) (n' c' : Nat) (w : World), Ty.nodes kids < K → Ty.Is w k kids A n c → Ty.Is w k' kids' A' n' c' →
    Calls Tryz.prog 64 #[.agg #[.int .i8 k, .slice A n c], .agg #[.int .i8 k', .slice A' n' c']] w fun e w' => e = .returned (.bool (Ty.eqT k kids k' kids')) ∧ Below w.heap.size w w' := by
  induction K with
  | zero => intro _ _ _ _ _ _ _ _ _ _ _ h; omega
  | succ K ih =>
    intro k kids A n c k' kids' A' n' c' w hK hIs hIs'
    have hB0 := ((Below.refl w.heap.size w).alloc (Nat.le_refl _) (.cells #[.int .i8 k, .slice A n c] 25)).alloc (by simp) (.cells #[.int .i8 k', .slice A' n' c'] 25)
    have heq := fun (W : World) (hb : Below w.heap.size w W) => zCi kids kids' A A' n c n' c' W (hIs.lies.below hb) hIs.n_eq hIs.n_le hIs.c_le (hIs'.lies.below hb) hIs'.n_eq hIs'.n_le
      (fun k zg A n c k' kids' A' n' c' W' h1 h2 h3 => ih k zg A n c k' kids' A' n' c' W' (by omega) h2 h3)
    have HE := k0_ heq
    clear heq hIs hIs' ih
    cases hk : (k == k')
    · have hres : Ty.eqT k kids k' kids' = false := by unfold Ty.eqT; rw [hk]; rfl
      rw [hres]
      clear hres
      go_enter Tryz.func64, Tryz.ntmps64
      go_wp2_with fail
      go_ret
      exact ⟨rfl, hB0⟩
    · have hres : Ty.eqT k kids k' kids' = Ty.eqF kids kids' := by unfold Ty.eqT; rw [hk]; rfl
      rw [hres]
      clear hres
      go_enter Tryz.func64, Tryz.ntmps64
      go_wp2_with fail
      refine (HE.out _ hB0).mono ?_
      exact zBV
set_option maxHeartbeats 2000000
set_option maxRecDepth 100000
open Go.RowKit
theorem zCT (k : Int) (kids : Fo) (A : Option Addr) (n c : Nat) (w : World) (hIs : Ty.Is w k kids A n c) :
    Calls Tryz.prog 119 #[.agg #[.int .i8 k, .slice A n c]] w fun e w' => e = .returned (.int .i64 (Ty.nod kids)) ∧ Below w.heap.size w w' := by
  have hB0 := (Below.refl w.heap.size w).alloc (Nat.le_refl _) (.cells #[.int .i8 k, .slice A n c] 25)
  have HM := k0_ (fun (W : World) (hb : Below w.heap.size w W) => jg k kids A n c W (hIs.below hb))
  clear hIs
  go_enter Tryz.func119, Tryz.ntmps119
  exact zD4
theorem zCl (k : Int) (kids : Fo) (A : Option Addr) (n c : Nat) (w : World) (hIs : Ty.Is w k kids A n c) :
    Calls Tryz.prog 120 #[.agg #[.int .i8 k, .slice A n c]] w fun e w' => e = .returned (.int .i64 (Ty.dpt kids)) ∧ Below w.heap.size w w' := by
  have hB0 := (Below.refl w.heap.size w).alloc (Nat.le_refl _) (.cells #[.int .i8 k, .slice A n c] 25)
  have HM := k0_ (fun (W : World) (hb : Below w.heap.size w W) => jg k kids A n c W (hIs.below hb))
  clear hIs
  go_enter Tryz.func120, Tryz.ntmps120
  exact zD4
namespace Ty
def knownT (k : Int) (kids : Fo) : Bool := (chk k kids == 0) && knT k kids
end Ty
theorem zDw (k : Int) (kids : Fo) (A : Option Addr) (n c : Nat) (w : World) (hIs : Ty.Is w k kids A n c) (hS : Shapes w) :
    Calls Tryz.prog 93 #[.agg #[.int .i8 k, .slice A n c]] w fun e w' => e = .returned (.bool (Ty.knownT k kids)) ∧ Below w.heap.size w w' := by
  have hB0 := (Below.refl w.heap.size w).alloc (Nat.le_refl _) (.cells #[.int .i8 k, .slice A n c] 25)
  have HM := k0_ (fun (W : World) (hb : Below w.heap.size w W) => qm k kids A n c W (hIs.below hb) (hS.below hb))
  have HK := k0_ (fun (W : World) (hb : Below w.heap.size w W) => zCW (Ty.nodes kids + 1) k kids A n c W (by omega) (hIs.below hb))
  clear hIs hS
  by_cases h0 : Ty.chk k kids = 0
  · have hres : Ty.knownT k kids = Ty.knT k kids := by unfold Ty.knownT; rw [h0]; rfl
    rw [hres]
    rw [h0] at HM
    clear hres h0
    go_enter Tryz.func93, Tryz.ntmps93
    go_wp2_with fail
    refine (HM.out _ hB0).mono ?_
    rintro e w3 ⟨rfl, hb⟩
    have hB1 := hB0.trans (hb.mono hB0.size)
    obtain ⟨b0, b1, _, _, _⟩ := zM (zC hb (by simp) (zF w (.cells #[.int .i8 k, .slice A n c] 25)))
    clear hb
    go_wp2_with fail
    refine (HK.out _ hB1).mono ?_
    exact zFG
  · have hres : Ty.knownT k kids = false := by unfold Ty.knownT; simp [h0]
    rw [hres]
    have hc : (((Ty.chk k kids : Nat) : Int) == 0) = false := by simp; omega
    generalize Ty.chk k kids = C at *
    clear hres h0
    go_enter Tryz.func93, Tryz.ntmps93
    exact zD4
theorem zDQ (k : Int) (kids : Fo) (A : Option Addr) (n c : Nat) (k' : Int) (kids' : Fo) (A' : Option Addr) (n' c' : Nat) (w : World) (hIs : Ty.Is w k kids A n c) (hIs' : Ty.Is w k' kids' A' n' c') (hS : Shapes w) :
    Calls Tryz.prog 26 #[.agg #[.int .i8 k, .slice A n c], .agg #[.int .i8 k', .slice A' n' c']] w fun e w' => e = .returned (.bool (Ty.sameT k kids k' kids')) ∧ Below w.heap.size w w' := by
  have hB0 := ((Below.refl w.heap.size w).alloc (Nat.le_refl _) (.cells #[.int .i8 k, .slice A n c] 25)).alloc (by simp) (.cells #[.int .i8 k', .slice A' n' c'] 25)
  have HM := k0_ (fun (W : World) (hb : Below w.heap.size w W) => qm k kids A n c W (hIs.below hb) (hS.below hb))
  have HN := k0_ (fun (W : World) (hb : Below w.heap.size w W) => qm k' kids' A' n' c' W (hIs'.below hb) (hS.below hb))
  have HK := k0_ (fun (W : World) (hb : Below w.heap.size w W) => zDA (Ty.nodes kids + 1) k kids A n c k' kids' A' n' c' W (by omega) (hIs.below hb) (hIs'.below hb))
  clear hIs hIs' hS
  have r0 := zG (zF w (.cells #[.int .i8 k, .slice A n c] 25)) (.cells #[.int .i8 k', .slice A' n' c'] 25)
  have r1 : ((w.alloc (.cells #[.int .i8 k, .slice A n c] 25)).alloc (.cells #[.int .i8 k', .slice A' n' c'] 25)).heap[w.heap.size + 1]? = some (.cells #[.int .i8 k', .slice A' n' c'] 25) := by
    have := zF (w.alloc (.cells #[.int .i8 k, .slice A n c] 25)) (.cells #[.int .i8 k', .slice A' n' c'] 25)
    simpa using this
  have R0 := k0_ r0
  have R1 := k0_ r1
  clear r0 r1
  by_cases h0 : Ty.chk k kids = 0
  · rw [h0] at HM
    by_cases h1 : Ty.chk k' kids' = 0
    · have hres : Ty.sameT k kids k' kids' = Ty.eqT k kids k' kids' := by unfold Ty.sameT; rw [h0, h1]; rfl
      rw [hres]
      rw [h1] at HN
      clear hres h0 h1
      go_enter Tryz.func26, Tryz.ntmps26
      go_wp2_with fail
      refine (HM.out _ hB0).mono ?_
      rintro e w3 ⟨rfl, hb⟩
      have hB1 := hB0.trans (hb.mono hB0.size)
      have hR0 := zC hb (zD R0.out) R0.out
      have hR1 := zC hb (zD R1.out) R1.out
      obtain ⟨b0, b1, _, _, _⟩ := zM hR0
      obtain ⟨d0, d1, _, _, _⟩ := zM hR1
      have HR0 := k0_ hR0
      have HR1 := k0_ hR1
      clear hb hR0 hR1
      go_wp2_with fail
      refine (HN.out _ hB1).mono ?_
      rintro e w4 ⟨rfl, hb⟩
      have hB2 := hB1.trans (hb.mono hB1.size)
      obtain ⟨b0, b1, _, _, _⟩ := zM (zC hb (zD HR0.out) HR0.out)
      obtain ⟨d0, d1, _, _, _⟩ := zM (zC hb (zD HR1.out) HR1.out)
      clear hb
      go_wp2_with fail
      refine (HK.out _ hB2).mono ?_
      rintro e w5 ⟨rfl, hb⟩
      go_wp2_with fail
      go_ret
      exact ⟨rfl, hB2.trans (hb.mono hB2.size)⟩
    · have hres : Ty.sameT k kids k' kids' = false := by unfold Ty.sameT; simp [h1]
      rw [hres]
      have hc : (((Ty.chk k' kids' : Nat) : Int) == 0) = false := by simp; omega
      generalize Ty.chk k' kids' = C at *
      clear hres h0 h1
      go_enter Tryz.func26, Tryz.ntmps26
      go_wp2_with fail
      refine (HM.out _ hB0).mono ?_
      rintro e w3 ⟨rfl, hb⟩
      have hB1 := hB0.trans (hb.mono hB0.size)
      obtain ⟨d0, d1, _, _, _⟩ := zM (zC hb (zD R1.out) R1.out)
      clear hb
      go_wp2_with fail
      refine (HN.out _ hB1).mono ?_
      exact zFG
  · have hres : Ty.sameT k kids k' kids' = false := by unfold Ty.sameT; simp [h0]
    rw [hres]
    have hc : (((Ty.chk k kids : Nat) : Int) == 0) = false := by simp; omega
    generalize Ty.chk k kids = C at *
    clear hres h0
    go_enter Tryz.func26, Tryz.ntmps26
    exact zD4
end Go.Proofs.YtgjemmmbnpkamaaGreatDoor
namespace Go.Proofs.YtgjemmmbnpkamaaGreatDoor
open Go.RowKit
namespace Ty
end Ty
theorem Ty.xJ {k : Int} {kids : Fo} (h : Ty.chk k kids = 0) : Ty.okT k kids = true ∧ Ty.nodes kids + 1 ≤ 8192 ∧ Ty.dep kids + 1 ≤ 200 := by
  unfold Ty.chk at h
  split at h
  · cases h
  · split at h
    · cases h
    · split at h
      · rename_i h1 h2 h3; exact ⟨h3, by omega, by omega⟩
      · cases h
namespace Ty
def two (k : Int) (kids : Fo) (k' : Int) (kids' : Fo) : Fo := .node 0 0 k kids (.node 0 0 k' kids' .nil)
end Ty
namespace Ty
end Ty
end Go.Proofs.YtgjemmmbnpkamaaGreatDoor
namespace Go.Proofs.YtgjemmmbnpkamaaGreatDoor
namespace Ty
def agF : Fo → Fo → Bool
  | .nil, _ => true
  | .node _ _ _ _ _, .nil => true
  | .node _ _ k kids r, .node _ _ k' kids' r' => ((k == 0) || (k' == 0) || ((k == k') && agF kids kids')) && agF r r'
def agT (k : Int) (kids : Fo) (k' : Int) (kids' : Fo) : Bool := (k == 0) || (k' == 0) || ((k == k') && agF kids kids')
def agreeT (k : Int) (kids : Fo) (k' : Int) (kids' : Fo) : Bool := (chk k kids == 0) && (chk k' kids' == 0) && agT k kids k' kids'
theorem zFj {k : Int} {kids : Fo} (h : okT k kids = true) (h3 : 3 ≤ k) : ∃ a b k1 f1 c d k2 f2, kids = .node a b k1 f1 (.node c d k2 f2 .nil) ∧ okT k1 f1 = true ∧ okT k2 f2 = true := by
  unfold okT okK at h
  rw [if_neg (by omega), Bool.and_eq_true] at h
  split at h
  · have hl : len kids = 2 := by simpa using h.1
    match kids, hl, h.2 with
    | .node a b k1 f1 (.node c d k2 f2 .nil), _, ho =>
      simp only [okF, Bool.and_eq_true] at ho
      exact ⟨a, b, k1, f1, c, d, k2, f2, rfl, by unfold okT; rw [Bool.and_eq_true]; exact ⟨ho.1.1, ho.1.2⟩, by unfold okT; rw [Bool.and_eq_true]; exact ⟨ho.2.1.1, ho.2.1.2⟩⟩
    | .nil, hl, _ => simp [len] at hl
    | .node _ _ _ _ .nil, hl, _ => simp [len] at hl
    | .node _ _ _ _ (.node _ _ _ _ (.node _ _ _ _ _)), hl, _ => simp [len] at hl
  · simp at h
end Ty
end Go.Proofs.YtgjemmmbnpkamaaGreatDoor
namespace Go.Proofs.YtgjemmmbnpkamaaGreatDoor
open Go.RowKit
theorem Ty.zBu {w : World} {a b c d : Nat} {k1 k2 : Int} {f1 f2 : Fo} {A : Option Addr} (h : Ty.Lies w (.node a b k1 f1 (.node c d k2 f2 .nil)) A 0) :
    ∃ bb oo B1 c1 B2 c2, A = some ⟨bb, oo, none⟩ ∧ w.cell? ⟨bb, oo, none⟩ = some (.int .i8 k1) ∧ w.cell? ⟨bb, oo + 1, none⟩ = some (.slice B1 (Ty.len f1) c1) ∧ w.cell? ⟨bb, oo + 2, none⟩ = some (.int .i8 k2) ∧ w.cell? ⟨bb, oo + 3, none⟩ = some (.slice B2 (Ty.len f2) c2) ∧ Ty.Is w k1 f1 B1 (Ty.len f1) c1 ∧ Ty.Is w k2 f2 B2 (Ty.len f2) c2 := by
  obtain ⟨bb, oo, B1, c1, rfl, ⟨h1, h2⟩, h3, h4, h5, h6, h7, ⟨bb', oo', B2, c2, e, ⟨g1, g2⟩, g3, g4, g5, g6, g7, -⟩⟩ := h
  exact zH2
end Go.Proofs.YtgjemmmbnpkamaaGreatDoor
namespace Go.Proofs.YtgjemmmbnpkamaaGreatDoor
namespace Ty
def leF : Fo → Fo → Bool
  | .nil, _ => true
  | .node _ _ _ _ _, .nil => true
  | .node _ _ k kids r, .node _ _ k' kids' r' => ((k == 0) || ((k == k') && leF kids kids')) && leF r r'
def leT (k : Int) (kids : Fo) (k' : Int) (kids' : Fo) : Bool := (k == 0) || ((k == k') && leF kids kids')
theorem ym : ∀ f : Fo, leF f f = true
  | .nil => rfl
  | .node _ _ k kids r => by simp [leF, ym kids, ym r]
def mF : Fo → Fo → Fo
  | .nil, _ => .nil
  | .node a b k kids r, .nil => .node a b k kids r
  | .node a b k kids r, .node _ _ k' kids' r' => .node a b (if k = 0 then k' else k) (if k = 0 then kids' else if k' = 0 then kids else mF kids kids') (mF r r')
def mK (k k' : Int) : Int := if k = 0 then k' else k
def mT (k : Int) (kids : Fo) (k' : Int) (kids' : Fo) : Fo := if k = 0 then kids' else if k' = 0 then kids else mF kids kids'
end Ty
end Go.Proofs.YtgjemmmbnpkamaaGreatDoor
