/-
  types.alike, types.Same; Nodes, Depth, Known, Ground. types.Same, Nodes, Depth, Known, Ground. The reference's Kids, right, Check, Equal, Same, open, Known. The reference's Equal, Same, Known, Of, Ground; types.Ground. The reference's Same, Known, Of, Ground; types.Ground. A writing of a type has at least so many brackets; the fewest are read as it.
-/
import Derived.Test.YtocehfklacjgbaaGreatDoorFormed
import Derived.Deep.OwnRows
import Derived.Test.YtocehfklacjgbaaGreatDoorM5
import Derived.Test.YtocehfklacjgbaaGreatDoorM1
namespace Go.Proofs.YtocehfklacjgbaaGreatDoor
open Go.RowKit

theorem cf_alike (args : Array Value) (W : World) : (callFunc 101 args).run Tryz.prog W = .ok (.enter 101 args) W := by simp [go_sem]
namespace Ty
def eqT (k : Int) (kids : Fo) (k' : Int) (kids' : Fo) : Bool := (k == k') && eqF kids kids'
def sameT (k : Int) (kids : Fo) (k' : Int) (kids' : Fo) : Bool := (chk k kids == 0) && (chk k' kids' == 0) && eqT k kids k' kids'
theorem eqF_ne (f g : Fo) (h : len f ≠ len g) : eqF f g = false := by
  cases hq : eqF f g
  · rfl
  · exact absurd (eqF_len f g hq) h
end Ty

/-- a loop's state over a second list -/
structure Over2 (w wr : World) (A : Option Addr) (n i : Nat) (rest : Fo) : Prop where
  i_eq : i + Ty.len rest = n
  lies : Ty.Lies wr rest A i

set_option maxHeartbeats 1000000 in
set_option maxRecDepth 100000 in
theorem equal_any (kids1 kids2 : Fo) (A1 A2 : Option Addr) (n1 c1 n2 c2 : Nat) (w : World) (hL1 : Ty.Lies w kids1 A1 0) (hn1 : n1 = Ty.len kids1) (hnc1 : n1 ≤ c1) (hc1 : c1 ≤ maxLen) (hL2 : Ty.Lies w kids2 A2 0) (hn2 : n2 = Ty.len kids2) (hnc2 : n2 ≤ c2)
    (hf : ∀ (k : Int) (kids : Fo) (A : Option Addr) (n c : Nat) (k' : Int) (kids' : Fo) (A' : Option Addr) (n' c' : Nat) (W : World), Ty.nodes kids < Ty.nodes kids1 → Ty.Is W k kids A n c → Ty.Is W k' kids' A' n' c' →
      Calls Tryz.prog 101 #[.agg #[.int .i8 k, .slice A n c], .agg #[.int .i8 k', .slice A' n' c']] W fun e w' => e = .returned (.bool (Ty.eqT k kids k' kids')) ∧ Below W.heap.size W w') :
    Calls Tryz.prog 139 #[.slice A1 n1 c1, .slice A2 n2 c2, .func (Fn.func 101) #[] #[]] w fun e w' => e = .returned (.bool (Ty.eqF kids1 kids2)) ∧ Below w.heap.size w w' := by
  have i5 : (n1 : Int) ≤ 9223372036854775807 := by unfold maxLen at hc1; omega
  have hcf := cf_alike
  by_cases hne : n1 = n2
  · have hst := Over.start hL1 hn1
    have hst2 : Over2 w w A2 n2 0 kids2 := ⟨by omega, hL2⟩
    have HF := Lib.hid hf
    have HS := Lib.hid hst
    have HS2 := Lib.hid hst2
    subst hne
    clear hst hst2 hn1 hn2 hf hL1 hL2
    obtain ⟨R, hR⟩ : ∃ R, Ty.eqF kids1 kids2 = R := ⟨_, rfl⟩
    rw [hR]
    have HR := Lib.hid hR
    clear hR
    have hb1 : ((n1 : Int) != (n1 : Int)) = false := by simp
    have hb2 : ((n1 : Nat) != n1) = false := by simp
    go_enter Tryz.func139, Tryz.ntmps139
    go_wp2_with fail
    go_loopw [17] (fun v wr => ∃ (i : Nat) (r1 r2 : Fo), v = .int .i64 i ∧ Over w wr A1 n1 (Ty.nodes kids1) i r1 ∧ Over2 w wr A2 n1 i r2 ∧ Ty.eqF r1 r2 = R) (fun v _ => n1 - (intOf v).toNat)
    case atStart => exact ⟨0, kids1, kids2, rfl, HS.out, HS2.out, HR.out⟩
    case round =>
      obtain ⟨i, r1, r2, rfl, hO, hO2, hR⟩ := hrel
      cases r1 with
      | nil =>
        have hi : i = n1 := by have := hO.i_eq; simpa [Ty.len] using this
        have hr2 : r2 = .nil := by
          have := hO2.i_eq
          cases r2 with
          | nil => rfl
          | node _ _ _ _ _ => simp only [Ty.len] at this; omega
        subst hr2
        have hB := hO.below
        clear hO hO2
        simp only [Ty.eqF] at hR
        subst hi
        subst hR
        go_wp2_with fail
        go_ret
        exact ⟨rfl, hB⟩
      | node a b k' kids' r =>
        cases r2 with
        | nil => have e1 := hO.i_eq; have e2 := hO2.i_eq; simp only [Ty.len] at e1 e2; omega
        | node a2 b2 k2' kids2' s =>
        have hst := fun w2 hb => Over.step (w2 := w2) hO hb
        have h1 := hO.i_eq
        have h2 := hO.lies
        have h3 := hO.sub
        have h4 := hO.below
        have g1 := hO2.i_eq
        have g2 := hO2.lies
        simp only [Ty.len, Ty.nodes, Ty.eqF] at h1 h3 hR g1
        obtain ⟨bb, oo, B, c', rfl, ⟨hk1, hk2⟩, c1', c2', hl1, hl2, hl3, hl4⟩ := h2
        obtain ⟨bb2, oo2, B2, c3, rfl, ⟨gk1, gk2⟩, d1, d2, gl1, gl2, gl3, gl4⟩ := g2
        have hcall := HF.out k' kids' B (Ty.len kids') c' k2' kids2' B2 (Ty.len kids2') c3 ((wr.alloc (.cells #[.int .i8 k', .slice B (Ty.len kids') c'] 27)).alloc (.cells #[.int .i8 k2', .slice B2 (Ty.len kids2') c3] 27)) (by omega) ⟨(hl3.alloc _).alloc _, rfl, hl1, hl2, hk1, hk2⟩ ⟨(gl3.alloc _).alloc _, rfl, gl1, gl2, gk1, gk2⟩
        have HS := Lib.hid hst
        have HL := Lib.hid hl4
        have HL2 := Lib.hid gl4
        have HC := Lib.hid hcall
        have HRR := Lib.hid hR
        have j1 : (i : Int) < n1 := by omega
        have hlt2 := Ty.cell_lt d1
        clear hst hl3 hl4 gl3 gl4 hcall hO hO2 hR
        cases hp : Ty.eqT k' kids' k2' kids2'
        · have hp0 : R = false := by rw [← HRR.out]; unfold Ty.eqT at hp; rw [hp]; rfl
          rw [hp] at HC
          subst hp0
          clear hp
          go_wp2_with fail
          refine HC.out.mono ?_
          rintro e w2 ⟨rfl, hb⟩
          go_wp2_with fail
          go_ret
          exact ⟨rfl, ((h4.alloc h4.size _).alloc (by have := h4.size; simp; omega) _).trans (hb.mono (by have := h4.size; simp; omega))⟩
        · have hp0 := HRR.out
          unfold Ty.eqT at hp
          rw [hp, Bool.true_and] at hp0
          have HP := Lib.hid hp0
          rw [show Ty.eqT k' kids' k2' kids2' = true from hp] at HC
          clear hp hp0
          go_wp2_with fail
          refine HC.out.mono ?_
          rintro e w2 ⟨rfl, hb⟩
          have hB2 : Below wr.heap.size wr w2 := (((Below.refl _ _).alloc (Nat.le_refl _) _).alloc (by simp) _).trans (hb.mono (by simp <;> omega))
          have hbb := Lib.hid (HS.out w2 hB2 HL.out)
          have hbb2 : Hid (Over2 w w2 (some ⟨bb2, oo2, none⟩) n1 (i + 1) s) := Lib.hid ⟨by omega, HL2.out.below hB2⟩
          clear hb hB2
          go_wp2_with fail
          go_roundw
          case rel => exact ⟨i + 1, r, s, by go_num, hbb.out, hbb2.out, HP.out⟩
          case measure => simp [intOf]; omega
  · have hR : Ty.eqF kids1 kids2 = false := Ty.eqF_ne _ _ (by omega)
    rw [hR]
    have hb1 : ((n1 : Int) != (n2 : Int)) = true := by simp; omega
    have hb2 : ((n1 : Nat) != n2) = true := by simp; omega
    clear hR hn1 hn2 hf hL1 hL2
    go_enter Tryz.func139, Tryz.ntmps139
    go_wp2_with fail
    go_ret
    exact ⟨rfl, Below.refl _ _⟩

set_option maxHeartbeats 1000000 in
set_option maxRecDepth 100000 in
theorem alike_any (K : Nat) : ∀ (k : Int) (kids : Fo) (A : Option Addr) (n c : Nat) (k' : Int) (kids' : Fo) (A' : Option Addr) (n' c' : Nat) (w : World), Ty.nodes kids < K → Ty.Is w k kids A n c → Ty.Is w k' kids' A' n' c' →
    Calls Tryz.prog 101 #[.agg #[.int .i8 k, .slice A n c], .agg #[.int .i8 k', .slice A' n' c']] w fun e w' => e = .returned (.bool (Ty.eqT k kids k' kids')) ∧ Below w.heap.size w w' := by
  induction K with
  | zero => intro _ _ _ _ _ _ _ _ _ _ _ h; omega
  | succ K ih =>
    intro k kids A n c k' kids' A' n' c' w hK hIs hIs'
    have hB0 := ((Below.refl w.heap.size w).alloc (Nat.le_refl _) (.cells #[.int .i8 k, .slice A n c] 27)).alloc (by simp) (.cells #[.int .i8 k', .slice A' n' c'] 27)
    have heq := fun (W : World) (hb : Below w.heap.size w W) => equal_any kids kids' A A' n c n' c' W (hIs.lies.below hb) hIs.n_eq hIs.n_le hIs.c_le (hIs'.lies.below hb) hIs'.n_eq hIs'.n_le
      (fun k kids2 A n c k' kids' A' n' c' W' h1 h2 h3 => ih k kids2 A n c k' kids' A' n' c' W' (by omega) h2 h3)
    have HE := Lib.hid heq
    clear heq hIs hIs' ih
    cases hk : (k == k')
    · have hres : Ty.eqT k kids k' kids' = false := by unfold Ty.eqT; rw [hk]; rfl
      rw [hres]
      clear hres
      go_enter Tryz.func101, Tryz.ntmps101
      go_wp2_with fail
      go_ret
      exact ⟨rfl, hB0⟩
    · have hres : Ty.eqT k kids k' kids' = Ty.eqF kids kids' := by unfold Ty.eqT; rw [hk]; rfl
      rw [hres]
      clear hres
      go_enter Tryz.func101, Tryz.ntmps101
      go_wp2_with fail
      refine (HE.out _ hB0).mono ?_
      rintro e w3 ⟨rfl, hb⟩
      go_wp2_with fail
      go_ret
      exact ⟨rfl, hB0.trans (hb.mono hB0.size)⟩
end Go.Proofs.YtocehfklacjgbaaGreatDoor
namespace Go.Proofs.YtocehfklacjgbaaGreatDoor
open Go.RowKit

set_option maxHeartbeats 1000000 in
set_option maxRecDepth 100000 in
theorem nodes_any (k : Int) (kids : Fo) (A : Option Addr) (n c : Nat) (w : World) (hIs : Ty.Is w k kids A n c) :
    Calls Tryz.prog 107 #[.agg #[.int .i8 k, .slice A n c]] w fun e w' => e = .returned (.int .i64 (Ty.nod kids)) ∧ Below w.heap.size w w' := by
  have hB0 := (Below.refl w.heap.size w).alloc (Nat.le_refl _) (.cells #[.int .i8 k, .slice A n c] 27)
  have HM := Lib.hid (fun (W : World) (hb : Below w.heap.size w W) => measure_any k kids A n c W (hIs.below hb))
  clear hIs
  go_enter Tryz.func107, Tryz.ntmps107
  go_wp2_with fail
  refine (HM.out _ hB0).mono ?_
  rintro e w3 ⟨rfl, hb⟩
  go_wp2_with fail
  go_ret
  exact ⟨rfl, hB0.trans (hb.mono hB0.size)⟩

set_option maxHeartbeats 1000000 in
set_option maxRecDepth 100000 in
theorem depth_any (k : Int) (kids : Fo) (A : Option Addr) (n c : Nat) (w : World) (hIs : Ty.Is w k kids A n c) :
    Calls Tryz.prog 108 #[.agg #[.int .i8 k, .slice A n c]] w fun e w' => e = .returned (.int .i64 (Ty.dpt kids)) ∧ Below w.heap.size w w' := by
  have hB0 := (Below.refl w.heap.size w).alloc (Nat.le_refl _) (.cells #[.int .i8 k, .slice A n c] 27)
  have HM := Lib.hid (fun (W : World) (hb : Below w.heap.size w W) => measure_any k kids A n c W (hIs.below hb))
  clear hIs
  go_enter Tryz.func108, Tryz.ntmps108
  go_wp2_with fail
  refine (HM.out _ hB0).mono ?_
  rintro e w3 ⟨rfl, hb⟩
  go_wp2_with fail
  go_ret
  exact ⟨rfl, hB0.trans (hb.mono hB0.size)⟩

namespace Ty
end Ty

set_option maxHeartbeats 2000000 in
set_option maxRecDepth 100000 in
theorem same_any (k : Int) (kids : Fo) (A : Option Addr) (n c : Nat) (k' : Int) (kids' : Fo) (A' : Option Addr) (n' c' : Nat) (w : World) (hIs : Ty.Is w k kids A n c) (hIs' : Ty.Is w k' kids' A' n' c') (hS : Shapes w) :
    Calls Tryz.prog 51 #[.agg #[.int .i8 k, .slice A n c], .agg #[.int .i8 k', .slice A' n' c']] w fun e w' => e = .returned (.bool (Ty.sameT k kids k' kids')) ∧ Below w.heap.size w w' := by
  have hB0 := ((Below.refl w.heap.size w).alloc (Nat.le_refl _) (.cells #[.int .i8 k, .slice A n c] 27)).alloc (by simp) (.cells #[.int .i8 k', .slice A' n' c'] 27)
  have HM := Lib.hid (fun (W : World) (hb : Below w.heap.size w W) => check_any k kids A n c W (hIs.below hb) (hS.below hb))
  have HN := Lib.hid (fun (W : World) (hb : Below w.heap.size w W) => check_any k' kids' A' n' c' W (hIs'.below hb) (hS.below hb))
  have HK := Lib.hid (fun (W : World) (hb : Below w.heap.size w W) => alike_any (Ty.nodes kids + 1) k kids A n c k' kids' A' n' c' W (by omega) (hIs.below hb) (hIs'.below hb))
  clear hIs hIs' hS
  have r0 := heap_old (heap_new w (.cells #[.int .i8 k, .slice A n c] 27)) (.cells #[.int .i8 k', .slice A' n' c'] 27)
  have r1 : ((w.alloc (.cells #[.int .i8 k, .slice A n c] 27)).alloc (.cells #[.int .i8 k', .slice A' n' c'] 27)).heap[w.heap.size + 1]? = some (.cells #[.int .i8 k', .slice A' n' c'] 27) := by
    have := heap_new (w.alloc (.cells #[.int .i8 k, .slice A n c] 27)) (.cells #[.int .i8 k', .slice A' n' c'] 27)
    simpa using this
  have R0 := Lib.hid r0
  have R1 := Lib.hid r1
  clear r0 r1
  by_cases h0 : Ty.chk k kids = 0
  · rw [h0] at HM
    by_cases h1 : Ty.chk k' kids' = 0
    · have hres : Ty.sameT k kids k' kids' = Ty.eqT k kids k' kids' := by unfold Ty.sameT; rw [h0, h1]; rfl
      rw [hres]
      rw [h1] at HN
      clear hres h0 h1
      go_enter Tryz.func51, Tryz.ntmps51
      go_wp2_with fail
      refine (HM.out _ hB0).mono ?_
      rintro e w3 ⟨rfl, hb⟩
      have hB1 := hB0.trans (hb.mono hB0.size)
      have hR0 := heap_below hb (heap_lt R0.out) R0.out
      have hR1 := heap_below hb (heap_lt R1.out) R1.out
      obtain ⟨b0, b1, _, _, _⟩ := own2 hR0
      obtain ⟨d0, d1, _, _, _⟩ := own2 hR1
      have HR0 := Lib.hid hR0
      have HR1 := Lib.hid hR1
      clear hb hR0 hR1
      go_wp2_with fail
      refine (HN.out _ hB1).mono ?_
      rintro e w4 ⟨rfl, hb⟩
      have hB2 := hB1.trans (hb.mono hB1.size)
      obtain ⟨b0, b1, _, _, _⟩ := own2 (heap_below hb (heap_lt HR0.out) HR0.out)
      obtain ⟨d0, d1, _, _, _⟩ := own2 (heap_below hb (heap_lt HR1.out) HR1.out)
      clear hb
      go_wp2_with fail
      refine (HK.out _ hB2).mono ?_
      rintro e w5 ⟨rfl, hb⟩
      go_wp2_with fail
      go_ret
      exact ⟨rfl, hB2.trans (hb.mono hB2.size)⟩
    · have hres : Ty.sameT k kids k' kids' = false := by unfold Ty.sameT; simp [h1]
      rw [hres]
      have hc : (((Ty.chk k' kids' : Nat) : Int) == 0) = false := by simp; omega
      generalize Ty.chk k' kids' = C at *
      clear hres h0 h1
      go_enter Tryz.func51, Tryz.ntmps51
      go_wp2_with fail
      refine (HM.out _ hB0).mono ?_
      rintro e w3 ⟨rfl, hb⟩
      have hB1 := hB0.trans (hb.mono hB0.size)
      obtain ⟨d0, d1, _, _, _⟩ := own2 (heap_below hb (heap_lt R1.out) R1.out)
      clear hb
      go_wp2_with fail
      refine (HN.out _ hB1).mono ?_
      rintro e w4 ⟨rfl, hb⟩
      go_wp2_with fail
      go_ret
      exact ⟨rfl, hB1.trans (hb.mono hB1.size)⟩
  · have hres : Ty.sameT k kids k' kids' = false := by unfold Ty.sameT; simp [h0]
    rw [hres]
    have hc : (((Ty.chk k kids : Nat) : Int) == 0) = false := by simp; omega
    generalize Ty.chk k kids = C at *
    clear hres h0
    go_enter Tryz.func51, Tryz.ntmps51
    go_wp2_with fail
    refine (HM.out _ hB0).mono ?_
    rintro e w3 ⟨rfl, hb⟩
    go_wp2_with fail
    go_ret
    exact ⟨rfl, hB0.trans (hb.mono hB0.size)⟩
end Go.Proofs.YtocehfklacjgbaaGreatDoor
namespace Go.Proofs.YtocehfklacjgbaaGreatDoor
open Go.RowKit

namespace Ty
end Ty

end Go.Proofs.YtocehfklacjgbaaGreatDoor
namespace Go.Proofs.YtocehfklacjgbaaGreatDoor
open Go.RowKit

end Go.Proofs.YtocehfklacjgbaaGreatDoor
namespace Go.Proofs.YtocehfklacjgbaaGreatDoor
open Go.RowKit

theorem Ty.chk_ok {k : Int} {kids : Fo} (h : Ty.chk k kids = 0) : Ty.okT k kids = true ∧ Ty.nodes kids + 1 ≤ 8192 ∧ Ty.dep kids + 1 ≤ 200 := by
  unfold Ty.chk at h
  split at h
  · cases h
  · split at h
    · cases h
    · split at h
      · rename_i h1 h2 h3; exact ⟨h3, by omega, by omega⟩
      · cases h

namespace Ty
/-- two parts -/
def two (k : Int) (kids : Fo) (k' : Int) (kids' : Fo) : Fo := .node 0 0 k kids (.node 0 0 k' kids' .nil)
end Ty

namespace Ty
end Ty
theorem Ty.okT_range {k : Int} {kids : Fo} (h : Ty.okT k kids = true) : k = 0 ∨ k = 1 ∨ k = 2 ∨ k = 3 ∨ k = 4 ∨ k = 5 := by
  unfold Ty.okT Ty.okK at h
  split at h
  · omega
  · split at h
    · omega
    · simp at h

end Go.Proofs.YtocehfklacjgbaaGreatDoor
namespace Go.Proofs.YtocehfklacjgbaaGreatDoor

namespace Rd
/-- how tightly the left part must bind -/
def lft (k : Int) : Nat := if k = 4 then 3 else 2
theorem rgt_le (k : Int) : rgt k ≤ 4 := by unfold rgt; split <;> (try split) <;> omega
theorem lft_le (k : Int) : lft k ≤ 4 := by unfold lft; split <;> omega

/-- the words of a type where so tight a one must stand: kinds, texts -/
def wds (q : Nat) (k : Int) : Fo → List (Int × List UInt8)
  | .node _ _ a aa (.node _ _ b bb .nil) => if binds k < q then [(4, [40])] ++ (wds (lft k) a aa ++ [(4, if k = 3 then sArrow else if k = 4 then [42] else [43])] ++ wds (rgt k) b bb) ++ [(4, [41])]
      else wds (lft k) a aa ++ [(4, if k = 3 then sArrow else if k = 4 then [42] else [43])] ++ wds (rgt k) b bb
  | _ => if k = 0 then [(4, [63])] else if k = 1 then [(3, sInt)] else [(3, sBool)]
/-- from the i-th word on stand these -/
def Stand (l : List W4) (i : Nat) (ws : List (Int × List UInt8)) : Prop := ∀ j x, ws[j]? = some x → sees l (i + j) x.1 x.2 = true
theorem Stand.left {l : List W4} {i : Nat} {a b : List (Int × List UInt8)} (h : Stand l i (a ++ b)) : Stand l i a := fun j x hx => h j x (by rw [List.getElem?_append_left (List.getElem?_eq_some_iff.1 hx).1]; exact hx)
theorem Stand.right {l : List W4} {i : Nat} {a b : List (Int × List UInt8)} (h : Stand l i (a ++ b)) : Stand l (i + a.length) b := fun j x hx => by
  have := h (a.length + j) x (by rw [List.getElem?_append_right (by omega), show a.length + j - a.length = j by omega]; exact hx)
  rwa [show i + (a.length + j) = i + a.length + j by omega] at this
theorem sees_not {l : List W4} {i : Nat} {k k' : Int} {t t' : List UInt8} (h : sees l i k t = true) (hne : k ≠ k' ∨ t ≠ t') : sees l i k' t' = false := by
  unfold sees at h ⊢
  split at h
  · rename_i x hx
    simp only [Bool.and_eq_true, beq_iff_eq] at h
    rw [Bool.and_eq_false_iff]
    rcases hne with e | e
    · left; rw [beq_eq_false_iff_ne]; exact fun q => e (h.1.symm.trans q)
    · right; rw [beq_eq_false_iff_ne]; exact fun q => e (h.2.symm.trans q)
  · cases h
theorem opK_of {l : List W4} {i : Nat} {k : Int} (hk : k = 3 ∨ k = 4 ∨ k = 5) (h : sees l i 4 (if k = 3 then sArrow else if k = 4 then [42] else [43]) = true) : opK l i = k := by
  unfold opK
  rcases hk with rfl | rfl | rfl
  · rw [if_pos (by exact h)]
  · rw [if_neg (by rw [sees_not (t' := sArrow) (k' := 4) h (.inr (by decide))]; decide), if_pos (by exact h)]
  · rw [if_neg (by rw [sees_not (t' := sArrow) (k' := 4) h (.inr (by decide))]; decide), if_neg (by rw [sees_not (t' := [42]) (k' := 4) h (.inr (by decide))]; decide), if_pos (by exact h)]
theorem opK_not {l : List W4} {i : Nat} {k : Int} {t : List UInt8} (h : sees l i k t = true) (h1 : k ≠ 4 ∨ t ≠ sArrow) (h2 : k ≠ 4 ∨ t ≠ [42]) (h3 : k ≠ 4 ∨ t ≠ [43]) : opK l i = 0 := by
  unfold opK
  rw [if_neg (by rw [sees_not h h1]; decide), if_neg (by rw [sees_not h h2]; decide), if_neg (by rw [sees_not h h3]; decide)]

theorem okK_cases {k : Int} {n : Nat} (h : Ty.okK k n = true) : k < 3 ∨ k = 3 ∨ k = 4 ∨ k = 5 := by
  unfold Ty.okK at h
  split at h
  · left; omega
  · split at h
    · omega
    · cases h
theorem sees_at {l : List W4} {i j : Nat} {k : Int} {t : List UInt8} (h : sees l i k t = true) (e : i = j) : sees l j k t = true := e ▸ h
theorem R.lpAt {l : List W4} {q i j : Nat} {k : Int} {f : Fo} {r : Rs} (h : R l (.lp q k f i) r) (e : i = j) : R l (.lp q k f j) r := e ▸ h
theorem R.whAt {l : List W4} {q i i2 j j2 : Nat} {k : Int} {f : Fo} (h : R l (.wh q i) (.ok k f j)) (e : i = i2) (e2 : j = j2) : R l (.wh q i2) (.ok k f j2) := e ▸ e2 ▸ h
theorem eqF_ghost (x y z u : Nat) (a : Int) (aa : Fo) (b : Int) (bb g : Fo) : Ty.eqF (.node x y a aa (.node z u b bb .nil)) g = Ty.eqF (.node 0 0 a aa (.node 0 0 b bb .nil)) g := by
  cases g with
  | nil => rfl
  | node _ _ _ _ r => simp only [Ty.eqF]; cases r <;> rfl
/-- what the fewest brackets may be followed by -/
def Next (l : List W4) (q : Nat) (k : Int) (j : Nat) : Prop := k < 3 ∨ binds k < q ∨ opK l j = 0 ∨ binds (opK l j) < rgt k

theorem reads (l : List W4) : ∀ (K : Nat) (q : Nat) (k : Int) (f : Fo) (i : Nat), Ty.nodes f < K → Ty.okT k f = true → q ≤ 4 → Stand l i (wds q k f) → Next l q k (i + (wds q k f).length) →
    ∃ g, Ty.eqT k f k g = true ∧ ∀ least r, least ≤ q → R l (.lp least k g (i + (wds q k f).length)) r → R l (.wh least i) r
  | 0, _, _, _, _, h, _, _, _, _ => absurd h (by omega)
  | K + 1, q, k, f, i, hK, hok, hq, hs, hn => by
    unfold Ty.okT at hok
    rw [Bool.and_eq_true] at hok
    obtain ⟨hk, hf⟩ := hok
    unfold Ty.okK at hk
    by_cases h3 : 0 ≤ k ∧ k ≤ 2
    · rw [if_pos h3] at hk
      have : f = .nil := by
        cases f with
        | nil => rfl
        | node _ _ _ _ _ => simp [Ty.len] at hk
      subst this
      refine ⟨.nil, by unfold Ty.eqT; simp [Ty.eqF], fun least r _ hr => ?_⟩
      rcases (by omega : k = 0 ∨ k = 1 ∨ k = 2) with rfl | rfl | rfl
      · have h0 : sees l i 4 [63] = true := hs 0 _ rfl
        exact .whGo (.word (by unfold atK; rw [if_pos h0]) (sees_not h0 (.inr (by decide)))) hr
      · have h0 : sees l i 3 sInt = true := hs 0 _ rfl
        exact .whGo (.word (by unfold atK; rw [if_neg (by rw [sees_not (k' := 4) (t' := [63]) h0 (.inl (by decide))]; decide), if_pos h0]) (sees_not h0 (.inl (by decide)))) hr
      · have h0 : sees l i 3 sBool = true := hs 0 _ rfl
        exact .whGo (.word (by unfold atK; rw [if_neg (by rw [sees_not (k' := 4) (t' := [63]) h0 (.inl (by decide))]; decide), if_neg (by rw [sees_not (k' := 3) (t' := sInt) h0 (.inr (by decide))]; decide), if_pos h0]) (sees_not h0 (.inl (by decide)))) hr
    · rw [if_neg h3] at hk
      have h5 : 3 ≤ k ∧ k ≤ 5 := by
        by_cases h : 3 ≤ k ∧ k ≤ 5
        · exact h
        · rw [if_neg h] at hk; cases hk
      rw [if_pos h5] at hk
      have h345 : k = 3 ∨ k = 4 ∨ k = 5 := by omega
      match f, hk, hf, hK, hs, hn with
      | .nil, hk, _, _, _, _ => simp [Ty.len] at hk
      | .node _ _ _ _ .nil, hk, _, _, _, _ => simp [Ty.len] at hk
      | .node _ _ _ _ (.node _ _ _ _ (.node _ _ _ _ _)), hk, _, _, _, _ => simp [Ty.len] at hk
      | .node _ _ a aa (.node _ _ b bb .nil), _, hf, hK, hs, hn =>
      simp only [Ty.okF, Bool.and_eq_true] at hf
      simp only [Ty.nodes] at hK
      -- the words without brackets
      have inner : ∀ (i : Nat), Stand l i (wds (lft k) a aa ++ [(4, if k = 3 then sArrow else if k = 4 then [42] else [43])] ++ wds (rgt k) b bb) →
          (opK l (i + (wds (lft k) a aa ++ [(4, if k = 3 then sArrow else if k = 4 then [42] else [43])] ++ wds (rgt k) b bb).length) = 0 ∨ binds (opK l (i + (wds (lft k) a aa ++ [(4, if k = 3 then sArrow else if k = 4 then [42] else [43])] ++ wds (rgt k) b bb).length)) < rgt k) →
          ∃ g, Ty.eqT k (.node 0 0 a aa (.node 0 0 b bb .nil)) k g = true ∧ ∀ least r, least ≤ binds k → R l (.lp least k g (i + (wds (lft k) a aa ++ [(4, if k = 3 then sArrow else if k = 4 then [42] else [43])] ++ wds (rgt k) b bb).length)) r → R l (.wh least i) r := by
        intro i hs1 hn1
        have hop := opK_of h345 (by have := hs1.left.right 0 _ rfl; simpa using this)
        have hsr := hs1.right
        have hsl := hs1.left.left
        simp only [List.length_append, List.length_cons, List.length_nil] at hn1 hsr ⊢
        obtain ⟨g1, e1, r1⟩ := reads l K (lft k) a aa i (by omega) (by unfold Ty.okT; simp [hf.1.1, hf.1.2]) (lft_le k) hsl (by
          unfold Next
          rw [hop]
          have ha := okK_cases hf.1.1
          rcases ha with h | h | h | h
          · exact .inl h
          all_goals
            subst h
            rcases h345 with rfl | rfl | rfl <;> decide)
        have h2 := reads l K (rgt k) b bb (i + ((wds (lft k) a aa).length + 1)) (by omega) (by unfold Ty.okT; simp [hf.2.1.1, hf.2.1.2]) (rgt_le k) (by simpa using hsr) (by
          unfold Next
          have hb := okK_cases hf.2.1.1
          rw [show i + ((wds (lft k) a aa).length + 1) + (wds (rgt k) b bb).length = i + ((wds (lft k) a aa).length + (0 + 1) + (wds (rgt k) b bb).length) by omega]
          generalize opK l (i + ((wds (lft k) a aa).length + (0 + 1) + (wds (rgt k) b bb).length)) = o at hn1 ⊢
          rcases hb with h | h | h | h
          · exact .inl h
          all_goals
            subst h
            rcases hn1 with h0 | h0
            · exact .inr (.inr (.inl h0))
            · rcases h345 with rfl | rfl | rfl
              all_goals first
                | exact .inr (.inl (by decide))
                | exact .inr (.inr (.inr (Nat.lt_of_lt_of_le h0 (by decide)))))
        obtain ⟨g2, e2, r2⟩ := h2
        rw [show i + ((wds (lft k) a aa).length + 1) + (wds (rgt k) b bb).length = i + ((wds (lft k) a aa).length + (0 + 1) + (wds (rgt k) b bb).length) by omega] at r2
        refine ⟨two a g1 b g2, ?_, fun least r hle hr => ?_⟩
        · unfold Ty.eqT at e1 e2 ⊢
          unfold two
          simp only [Bool.and_eq_true] at e1 e2
          simp [Ty.eqF, e1.2, e2.2]
        · refine r1 least r (by rcases h345 with rfl | rfl | rfl <;> exact Nat.le_trans hle (by decide)) ?_
          have hw := r2 (rgt k) _ (Nat.le_refl _) (.stop hn1)
          refine .op (by rw [hop]; omega) (by rw [hop]; exact hle) (by rw [hop]; exact hw.whAt (by omega) rfl) ?_
          rw [hop]; exact hr
      by_cases hbq : binds k < q
      · have ew : wds q k (.node 0 0 a aa (.node 0 0 b bb .nil)) = [(4, [40])] ++ (wds (lft k) a aa ++ [(4, if k = 3 then sArrow else if k = 4 then [42] else [43])] ++ wds (rgt k) b bb) ++ [(4, [41])] := by
          show (if binds k < q then _ else _) = _
          rw [if_pos hbq]
        have ew2 : ∀ x y z u, wds q k (.node x y a aa (.node z u b bb .nil)) = wds q k (.node 0 0 a aa (.node 0 0 b bb .nil)) := fun _ _ _ _ => rfl
        rw [ew2] at hs hn ⊢
        rw [ew] at hs ⊢
        clear hn
        have ho := hs.left.left 0 _ rfl
        have hc := hs.right 0 _ rfl
        have hi := hs.left.right
        simp only [List.length_append, List.length_cons, List.length_nil] at hi hc ⊢
        obtain ⟨g, e, hr⟩ := inner (i + (0 + 1)) hi (.inl (opK_not (k := 4) (t := [41]) (sees_at hc (by simp only [List.length_append, List.length_cons, List.length_nil]; omega)) (.inr (by decide)) (.inr (by decide)) (.inr (by decide))))
        simp only [List.length_append, List.length_cons, List.length_nil] at hr
        refine ⟨g, by unfold Ty.eqT at e ⊢; rw [eqF_ghost]; exact e, fun least r _ hq => ?_⟩
        have hw := hr 1 _ (by rcases h345 with rfl | rfl | rfl <;> decide) (.stop (.inl (opK_not (k := 4) (t := [41]) (sees_at hc (by omega)) (.inr (by decide)) (.inr (by decide)) (.inr (by decide)))))
        exact .whGo (.br (sees_at ho (by omega)) (hw.whAt (by omega) rfl) (sees_at hc (by omega))) (hq.lpAt (by omega))
      · have ew : ∀ x y z u, wds q k (.node x y a aa (.node z u b bb .nil)) = wds (lft k) a aa ++ [(4, if k = 3 then sArrow else if k = 4 then [42] else [43])] ++ wds (rgt k) b bb := by
          intro x y z u
          show (if binds k < q then _ else _) = _
          rw [if_neg hbq]
        rw [ew] at hs hn ⊢
        obtain ⟨g, e, hr⟩ := inner i hs (by
          rcases hn with h | h | h | h
          · omega
          · exact absurd h hbq
          · exact .inl h
          · exact .inr h)
        exact ⟨g, by unfold Ty.eqT at e ⊢; rw [eqF_ghost]; exact e, fun least r hle hq => hr least r (by omega) hq⟩
end Rd
end Go.Proofs.YtocehfklacjgbaaGreatDoor
