/-
  types.all: a list of types, each held against a function.
-/
import Derived.Test.YtfkbdpehdabepaaGreatDoorMeas2
namespace Go.Proofs.YtfkbdpehdabepaaGreatDoor
open Go.RowKit


namespace Ty
def allF (p : Int → Fo → Bool) : Fo → Bool
  | .nil => true
  | .node _ _ k kids r => p k kids && allF p r
end Ty

/-- a loop's state over a list of types -/
structure Over (w wr : World) (A : Option Addr) (n nk : Nat) (i : Nat) (rest : Fo) : Prop where
  i_eq : i + Ty.len rest = n
  lies : Ty.Lies wr rest A i
  sub : Ty.nodes rest ≤ nk
  below : Below w.heap.size w wr
theorem Over.step {w wr w2 : World} {A : Option Addr} {n nk i a b : Nat} {k : Int} {kids r : Fo} (h : Over w wr A n nk i (.node a b k kids r)) (hb : Below wr.heap.size wr w2) (hA : Ty.Lies wr r A (i + 1)) : Over w w2 A n nk (i + 1) r := by
  obtain ⟨h1, h2, h3, h4⟩ := h
  simp only [Ty.len, Ty.nodes] at h1 h3
  exact ⟨by omega, hA.below hb, by omega, h4.trans (hb.mono h4.size)⟩
theorem Over.start {w : World} {A : Option Addr} {kids : Fo} {n : Nat} (h : Ty.Lies w kids A 0) (hn : n = Ty.len kids) : Over w w A n (Ty.nodes kids) 0 kids := ⟨by omega, h, Nat.le_refl _, Below.refl _ _⟩

set_option maxHeartbeats 1000000 in
set_option maxRecDepth 100000 in
theorem all_any (f : FuncId) (p : Int → Fo → Bool) (kids : Fo) (A : Option Addr) (n c : Nat) (w : World) (hL : Ty.Lies w kids A 0) (hn : n = Ty.len kids) (hnc : n ≤ c) (hc : c ≤ maxLen)
    (hcf : ∀ (args : Array Value) (W : World), (callFunc f args).run Tryz.prog W = .ok (.enter f args) W)
    (hf : ∀ (k' : Int) (kids' : Fo) (A' : Option Addr) (n' c' : Nat) (W : World), Ty.nodes kids' < Ty.nodes kids → Ty.Is W k' kids' A' n' c' → Below w.heap.size w W → Calls Tryz.prog f #[.agg #[.int .i8 k', .slice A' n' c']] W fun e w' => e = .returned (.bool (p k' kids')) ∧ Below W.heap.size W w') :
    Calls Tryz.prog 138 #[.slice A n c, .func (Fn.func f) #[] #[]] w fun e w' => e = .returned (.bool (Ty.allF p kids)) ∧ Below w.heap.size w w' := by
  have hst := Over.start hL hn
  have HF := Lib.hid hf
  have HS := Lib.hid hst
  have i5 : (n : Int) ≤ 9223372036854775807 := by unfold maxLen at hc; omega
  clear hst hn hf hL
  obtain ⟨R, hR⟩ : ∃ R, Ty.allF p kids = R := ⟨_, rfl⟩
  rw [hR]
  have HR := Lib.hid hR
  clear hR
  go_enter Tryz.func138, Tryz.ntmps138
  go_wp2_with fail
  go_loopw [9] (fun v wr => ∃ (i : Nat) (rest : Fo), v = .int .i64 i ∧ Over w wr A n (Ty.nodes kids) i rest ∧ Ty.allF p rest = R) (fun v _ => n - (intOf v).toNat)
  case atStart => exact ⟨0, kids, rfl, HS.out, HR.out⟩
  case round =>
    obtain ⟨i, rest, rfl, hO, hR⟩ := hrel
    cases rest with
    | nil =>
      have hi : i = n := by have := hO.i_eq; simpa [Ty.len] using this
      have hB := hO.below
      clear hO
      simp only [Ty.allF] at hR
      subst hi
      subst hR
      go_wp2_with fail
      go_ret
      exact ⟨rfl, hB⟩
    | node a b k' kids' r =>
      have hst := fun w2 hb => Over.step (w2 := w2) hO hb
      have h1 := hO.i_eq
      have h2 := hO.lies
      have h3 := hO.sub
      have h4 := hO.below
      simp only [Ty.len, Ty.nodes, Ty.allF] at h1 h3 hR
      obtain ⟨bb, oo, B, c', rfl, ⟨hk1, hk2⟩, c1, c2, hl1, hl2, hl3, hl4⟩ := h2
      have hcall := HF.out k' kids' B (Ty.len kids') c' (wr.alloc (.cells #[.int .i8 k', .slice B (Ty.len kids') c'] 25)) (by omega) ⟨hl3.alloc _, rfl, hl1, hl2, hk1, hk2⟩ (h4.alloc h4.size _)
      have HS := Lib.hid hst
      have HL := Lib.hid hl4
      have HC := Lib.hid hcall
      have HRR := Lib.hid hR
      have j1 : (i : Int) < n := by omega
      clear hst hl3 hl4 hcall hO hR
      cases hp : p k' kids'
      · have hp0 : R = false := by rw [← HRR.out, hp]; rfl
        rw [hp] at HC
        subst hp0
        clear hp
        go_wp2_with fail
        refine HC.out.mono ?_
        rintro e w2 ⟨rfl, hb⟩
        go_wp2_with fail
        go_ret
        exact ⟨rfl, (h4.alloc h4.size _).trans (hb.mono (by have := h4.size; simp; omega))⟩
      · have hp0 := HRR.out
        rw [hp, Bool.true_and] at hp0
        have HP := Lib.hid hp0
        rw [hp] at HC
        clear hp hp0
        go_wp2_with fail
        refine HC.out.mono ?_
        rintro e w2 ⟨rfl, hb⟩
        have hbb := Lib.hid (HS.out w2 (((Below.refl _ _).alloc (Nat.le_refl _) _).trans (hb.mono (by simp))) HL.out)
        clear hb
        go_wp2_with fail
        go_roundw
        case rel => exact ⟨i + 1, r, by go_num, hbb.out, HP.out⟩
        case measure => simp [intOf]; omega
end Go.Proofs.YtfkbdpehdabepaaGreatDoor
