/-
  The reader of words as a type: its word at hand. What reading a type at a word answers, as one tuple. The reader goes on, or gives up; which kind the word at hand is for. Which kind the word at hand is for. The reader's atom. The reader's atom: brackets. The reader: how tightly the parts bind; the atom; as much as binds so tightly. The reader: as much as binds so tightly. types.Read's closure: a fault that came up is told; nothing else comes up.
-/
import Derived.Test.YtocehfklacjgbaaGreatDoorM1
import Derived.Test.YtocehfklacjgbaaGreatDoorMem
import Derived.Test.YtocehfklacjgbaaGreatDoorM5
import Derived.Test.YtocehfklacjgbaaGreatDoorFormed
import Derived.Test.YtocehfklacjgbaaGreatDoorWord
import Derived.BigQuiet
import Derived.Deep.QuietTactic
import Derived.Deep.RegionLaw
import Derived.StillTailTactics
import Derived.IntWalk
import Derived.Deep.DeepCutAuto
import Derived.Deep.LoopGhost
namespace Go.Proofs.YtocehfklacjgbaaGreatDoor
open Go.RowKit Rd

/-- words in memory -/
def WRow (w : World) (A : Option Addr) (l : List W4) : Prop := ∀ (i : Nat) (x : W4), l[i]? = some x → ∃ g o, A = some ⟨g, o, none⟩ ∧ w.cell? ⟨g, o + i * 4, none⟩ = some (.int .i8 x.kind) ∧ w.cell? ⟨g, o + i * 4 + 1, none⟩ = some (.string x.text) ∧ w.cell? ⟨g, o + i * 4 + 2, none⟩ = some (.int .i64 x.num) ∧ w.cell? ⟨g, o + i * 4 + 3, none⟩ = some (.int .i64 x.pos)
/-- the reader's block -/
def Rdr (w : World) (rb : Nat) (A : Option Addr) (n c i : Nat) : Prop := w.heap[rb]? = some (.cells #[.slice A n c, .int .i64 i] 263 (0, 0))
theorem WRow.grown {w w' : World} {A : Option Addr} {l : List W4} {rb : Nat} (h : WRow w A l) (hne : ∀ g o, A = some ⟨g, o, none⟩ → l ≠ [] → g ≠ rb) (hg : w.grownBy w' (some rb)) : WRow w' A l := fun i x hx => by
  obtain ⟨g, o, e, h0, h1, h2, h3⟩ := h i x hx
  have hc := fun (q : Nat) => World.cell?_of_block (w := w) (w' := w') (a := ⟨g, q, none⟩) (hg.block g (Ty.cell_lt h0) (fun z => hne g o e (by rintro rfl; cases hx) (by injection z)))
  exact ⟨g, o, e, by rw [hc]; exact h0, by rw [hc]; exact h1, by rw [hc]; exact h2, by rw [hc]; exact h3⟩

theorem WRow.lt {w : World} {A : Option Addr} {l : List W4} (h : WRow w A l) : ∀ g o, A = some ⟨g, o, none⟩ → l ≠ [] → g < w.heap.size := by
  intro g o e hne
  cases l with
  | nil => exact absurd rfl hne
  | cons x r =>
    obtain ⟨g', o', e', h0, -⟩ := h 0 x rfl
    rw [e] at e'; injection e' with e'; injection e' with e1 e2; subst e1
    exact Ty.cell_lt h0

set_option maxHeartbeats 4000000 in
set_option maxRecDepth 100000 in
theorem sees_any (l : List W4) (A : Option Addr) (c rb i : Nat) (k : Int) (s : ByteArray) (w : World) (hl : l.length ≤ maxLen) (hi : i ≤ l.length) (hR : Rdr w rb A l.length c i) (hW : WRow w A l) :
    Calls Tryz.prog 192 #[.pointer (some ⟨rb, 0, none⟩), .int .i8 k, .string s] w fun e w' => e = .returned (.bool (Rd.sees l i k s.toList)) ∧ ∃ m, w' = w.drewN m := by
  obtain ⟨r0, r1, -, -, hrl⟩ := own2 hR
  obtain ⟨n, hn⟩ : ∃ n, n = l.length := ⟨_, rfl⟩
  rw [← hn] at hl hi r0
  have i5 : (n : Int) ≤ 9223372036854775807 := by unfold maxLen at hl; omega
  by_cases hin : i < n
  · obtain ⟨x, hx⟩ : ∃ x, l[i]? = some x := ⟨l[i]'(by omega), List.getElem?_eq_getElem _⟩
    obtain ⟨g, o, hA, h0, h1, -, -⟩ := hW i x hx
    have hs : Rd.sees l i k s.toList = (x.kind == k && x.text.toList == s.toList) := by unfold Rd.sees; rw [hx]
    rw [hs]
    have j1 : (i : Int) < n := by omega
    have j2 : (0 : Int) ≤ i ∧ (i : Int) < n := by omega
    clear hs hx hW hR hn
    obtain rfl := hA
    cases hk : (x.kind == k)
    · go_enter Tryz.func192, Tryz.ntmps192
      go_wp2_with fail
      go_quiet (fail)
      go_wp2_with fail
      go_ret
      exact ⟨rfl, nq, rfl⟩
    · cases ht : (x.text.toList == s.toList)
      all_goals
        go_enter Tryz.func192, Tryz.ntmps192
        go_wp2_with fail
        go_quiet (fail)
        go_wp2_with fail
        go_ret
        exact ⟨rfl, nq, rfl⟩
  · have hs : Rd.sees l i k s.toList = false := by unfold Rd.sees; rw [List.getElem?_eq_none (by omega)]
    rw [hs]
    have hz : decide ((i : Int) < n) = false := by simp; omega
    clear hs hW hR hn
    go_enter Tryz.func192, Tryz.ntmps192
    go_wp2_with fail
    go_quiet (fail)
    go_wp2_with fail
    go_ret
    exact ⟨rfl, nq, rfl⟩

namespace Rd
/-- where a fault at the i-th word stands, and its word -/
def fAt (l : List W4) (i : Nat) : Int := match l[i]? with
  | some x => x.pos
  | none => if 0 < i then (match l[i - 1]? with | some x => wrap64 (x.pos + (x.text.size : Int)) | none => 0) else 0
def fWord (l : List W4) (i : Nat) : ByteArray := match l[i]? with
  | some x => x.text
  | none => ⟨#[]⟩
end Rd
/-- a fault, in new memory -/
def FaultPost (l : List W4) (i : Nat) (w : World) (e : Ending) (w' : World) : Prop :=
  ∃ g, e = .returned (.pointer (some ⟨g, 0, none⟩)) ∧ w'.heap[g]? = some (.cells #[.int .i64 40, .int .i64 (Rd.fAt l i), .string (Rd.fWord l i)] 84 (0, 0)) ∧ w.heap.size ≤ g ∧ Below w.heap.size w w'
theorem own3' {w : World} {b : Nat} {v0 v1 v2 : Value} {t : TypeId} (h : w.heap[b]? = some (.cells #[v0, v1, v2] t (0, 0))) :
    w.cell? ⟨b, 0, none⟩ = some v0 ∧ w.cell? ⟨b, 1, none⟩ = some v1 ∧ w.cell? ⟨b, 2, none⟩ = some v2 ∧ w.frozen? ⟨b, 0, none⟩ = false ∧ w.frozen? ⟨b, 1, none⟩ = false ∧ w.frozen? ⟨b, 2, none⟩ = false ∧ b < w.heap.size := by
  refine ⟨?_, ?_, ?_, ?_, ?_, ?_, heap_lt h⟩ <;> simp [World.cell?, World.frozen?, h]

set_option maxHeartbeats 4000000 in
set_option maxRecDepth 100000 in
theorem fault_any (l : List W4) (A : Option Addr) (c rb i : Nat) (w : World) (hl : l.length ≤ maxLen) (hi : i ≤ l.length) (hsm : ∀ x ∈ l, x.text.size ≤ 281474976710656) (hR : Rdr w rb A l.length c i) (hW : WRow w A l) :
    Calls Tryz.prog 194 #[.pointer (some ⟨rb, 0, none⟩)] w (FaultPost l i w) := by
  have hb0 : Below w.heap.size w (w.alloc (.cells #[.int .i64 40, .int .i64 0, .string ⟨#[]⟩] 84)) := (Below.refl _ _).alloc (Nat.le_refl _) _
  have HX := Lib.hid (heap_new w (.cells #[.int .i64 40, .int .i64 0, .string ⟨#[]⟩] 84))
  have hR1 := heap_old hR (.cells #[.int .i64 40, .int .i64 0, .string ⟨#[]⟩] 84)
  obtain ⟨r0, r1, -, -, hrl⟩ := own2 hR1
  have HR1 := Lib.hid hR1
  have HB0 := Lib.hid hb0
  obtain ⟨n, hn⟩ : ∃ n, n = l.length := ⟨_, rfl⟩
  rw [← hn] at hl hi r0
  have i5 : (n : Int) ≤ 9223372036854775807 := by unfold maxLen at hl; omega
  by_cases hin : i < n
  · obtain ⟨x, hx⟩ : ∃ x, l[i]? = some x := ⟨l[i]'(by omega), List.getElem?_eq_getElem _⟩
    obtain ⟨g, o, hA, h0, h1, h2, h3⟩ := hW i x hx
    have ea : Rd.fAt l i = x.pos := by unfold Rd.fAt; rw [hx]
    have ew : Rd.fWord l i = x.text := by unfold Rd.fWord; rw [hx]
    have CN := Lib.hid (fun (W : World) => clone_any x.text (hsm x (List.mem_of_getElem? hx)) W)
    unfold FaultPost
    rw [ea, ew]
    have j1 : (i : Int) < n := by omega
    have j2 : (0 : Int) ≤ i ∧ (i : Int) < n := by omega
    have hc := fun (q : Nat) (v : Value) (h : w.cell? ⟨g, q, none⟩ = some v) => (show (w.alloc (.cells #[.int .i64 40, .int .i64 0, .string ⟨#[]⟩] 84)).cell? ⟨g, q, none⟩ = some v by rw [hb0.cell (p := ⟨g, q, none⟩) (Ty.cell_lt h)]; exact h)
    have g0 := hc _ _ h0
    have g1 := hc _ _ h1
    have g2 := hc _ _ h2
    have g3 := hc _ _ h3
    clear ea ew hx hW hR hn hR1 hb0 hc h0 h1 h2 h3 hsm
    obtain rfl := hA
    generalize hw1 : w.alloc (.cells #[.int .i64 40, .int .i64 0, .string ⟨#[]⟩] 84) = w1 at *
    have HW := Lib.hid hw1
    clear hw1
    go_enter Tryz.func194, Tryz.ntmps194
    go_wp2_with fail
    rw [HW.out]
    go_quiet (fail)
    go_wp2_with fail
    have HX2 : Hid ((w1.drewN nq).heap[w.heap.size]? = _) := Lib.hid HX.out
    have HB2 := Lib.hid (below_drewN HB0.out nq)
    have p0 : (w1.drewN nq).cell? ⟨rb, 0, none⟩ = _ := r0
    have p1 : (w1.drewN nq).cell? ⟨rb, 1, none⟩ = _ := r1
    have q0 : (w1.drewN nq).cell? ⟨g, o + i * 4, none⟩ = _ := g0
    have q1 : (w1.drewN nq).cell? ⟨g, o + i * 4 + 1, none⟩ = _ := g1
    have q2 : (w1.drewN nq).cell? ⟨g, o + i * 4 + 2, none⟩ = _ := g2
    have q3 : (w1.drewN nq).cell? ⟨g, o + i * 4 + 3, none⟩ = _ := g3
    clear r0 r1 g0 g1 g2 g3 HX HB0 HW HR1 hrl
    generalize w1.drewN nq = w2 at *
    have bl := heap_lt HX2.out
    have gl := Ty.cell_lt q0
    have rl := Ty.cell_lt p0
    go_cut [4] (fun s4 wx => ∃ X, s4 = .pointer (some ⟨X, 0, none⟩) ∧ wx.heap[X]? = some (.cells #[.int .i8 x.kind, .string x.text, .int .i64 x.num, .int .i64 x.pos] 50 (0, 0)) ∧ X ≠ w.heap.size ∧ Below w2.heap.size w2 wx)
    case first =>
      go_region_law (fail)
      all_goals
        go_wp2_with fail
        go_meet
        exact ⟨_, rfl, heap_new _ _, by omega, ((Below.refl _ _).alloc (Nat.le_refl _) _).drew⟩
    case rest =>
      obtain ⟨X, rfl, hX, hne, hb⟩ := hcut
      have hF := heap_below hb bl HX2.out
      obtain ⟨y0, y1, y2, y3, -, -, -, -, yl⟩ := own4 hX
      obtain ⟨f0, f1, f2, z0, z1, z2, fl⟩ := own3' hF
      have HXX := Lib.hid hX
      have HFF := Lib.hid hF
      have HB3 := Lib.hid (HB2.out.trans (hb.mono HB2.out.size))
      clear hX hF hb p0 p1 q0 q1 q2 q3
      go_wp2_with fail
      go_region_law (first
        | (go_simp; go_at_call 45; (with_reducible refine (CN.out _).mono ?_); rintro e u ⟨rfl, hb⟩; have XU := heap_below hb (show X < wc.drew.heap.size from yl) (show wc.drew.heap[X]? = _ from HXX.out); have FU := heap_below hb (show w.heap.size < wc.drew.heap.size from fl) (show wc.drew.heap[w.heap.size]? = _ from HFF.out); obtain ⟨v0, v1, v2, v3, -, -, -, -, vl⟩ := own4 XU; obtain ⟨k0, k1, k2, m0, m1, m2, kl⟩ := own3' FU; have FUU := Lib.hid FU; have HB4 := Lib.hid (HB3.out.drew.trans (hb.mono HB3.out.drew.size)); clear XU FU hb; go_wp2_with fail))
      all_goals
        go_wp2_with fail
        go_ret
        refine ⟨w.heap.size, rfl, ?_, Nat.le_refl _, (HB4.out.setCell (p := ⟨w.heap.size, _, none⟩) (Nat.le_refl _) _).setCell (p := ⟨w.heap.size, _, none⟩) (Nat.le_refl _) _⟩
        simp [World.setCell, Array.getElem?_modify, FUU.out]
  · have hi2 : i = n := by omega
    subst hi2
    have ex : l[i]? = none := List.getElem?_eq_none (by omega)
    have ew : Rd.fWord l i = ⟨#[]⟩ := by unfold Rd.fWord; rw [ex]
    unfold FaultPost
    rw [ew]
    have hz : decide ((i : Int) < i) = false := by simp
    by_cases hi0 : i = 0
    · have ea : Rd.fAt l i = 0 := by unfold Rd.fAt; rw [ex]; simp [hi0]
      rw [ea]
      have j0 : ¬ ((0 : Int) < i) := by omega
      clear ea ew ex hW hR hn hR1 hb0 hsm hi0
      generalize hw1 : w.alloc (.cells #[.int .i64 40, .int .i64 0, .string ⟨#[]⟩] 84) = w1 at *
      have HW := Lib.hid hw1
      clear hw1
      go_enter Tryz.func194, Tryz.ntmps194
      go_wp2_with fail
      rw [HW.out]
      go_quiet (fail)
      go_wp2_with fail
      go_ret
      exact ⟨w.heap.size, rfl, HX.out, Nat.le_refl _, below_drewN HB0.out nq⟩
    · obtain ⟨x, hx⟩ : ∃ x, l[i - 1]? = some x := ⟨l[i - 1]'(by omega), List.getElem?_eq_getElem _⟩
      have ea : Rd.fAt l i = wrap64 (x.pos + (x.text.size : Int)) := by unfold Rd.fAt; rw [ex]; simp only; rw [if_pos (by omega), hx]
      rw [ea]
      obtain ⟨m, rfl⟩ : ∃ m, i = m + 1 := ⟨i - 1, by omega⟩
      rw [Nat.add_sub_cancel] at hx
      obtain ⟨g, o, hA, h0, h1, h2, h3⟩ := hW m x hx
      have hc := fun (q : Nat) (v : Value) (h : w.cell? ⟨g, q, none⟩ = some v) => (show (w.alloc (.cells #[.int .i64 40, .int .i64 0, .string ⟨#[]⟩] 84)).cell? ⟨g, q, none⟩ = some v by rw [hb0.cell (p := ⟨g, q, none⟩) (Ty.cell_lt h)]; exact h)
      have g0 := hc _ _ h0
      have g1 := hc _ _ h1
      have g2 := hc _ _ h2
      have g3 := hc _ _ h3
      have hcast : ((m + 1 : Nat) : Int) = (m : Int) + 1 := by omega
      rw [hcast] at *
      have j1 : (0 : Int) < (m : Int) + 1 := by omega
      have j2 : (0 : Int) ≤ m ∧ (m : Int) < (m : Int) + 1 := by omega
      have j3 : (m : Int) + 1 ≤ 9223372036854775807 := by omega
      clear ea ew ex hx hW hR hn hR1 hb0 hsm hi0 hc h0 h1 h2 h3 hcast
      obtain rfl := hA
      generalize hw1 : w.alloc (.cells #[.int .i64 40, .int .i64 0, .string ⟨#[]⟩] 84) = w1 at *
      have HW := Lib.hid hw1
      clear hw1
      go_enter Tryz.func194, Tryz.ntmps194
      go_wp2_with fail
      rw [HW.out]
      go_quiet (fail)
      have HX2 : Hid ((w1.drewN nq).heap[w.heap.size]? = _) := Lib.hid HX.out
      have HB2 := Lib.hid (below_drewN HB0.out nq)
      have p0 : (w1.drewN nq).cell? ⟨rb, 0, none⟩ = _ := r0
      have p1 : (w1.drewN nq).cell? ⟨rb, 1, none⟩ = _ := r1
      have q0 : (w1.drewN nq).cell? ⟨g, o + m * 4, none⟩ = _ := g0
      have q1 : (w1.drewN nq).cell? ⟨g, o + m * 4 + 1, none⟩ = _ := g1
      have q2 : (w1.drewN nq).cell? ⟨g, o + m * 4 + 2, none⟩ = _ := g2
      have q3 : (w1.drewN nq).cell? ⟨g, o + m * 4 + 3, none⟩ = _ := g3
      clear r0 r1 g0 g1 g2 g3 HX HB0 HW HR1 hrl
      generalize w1.drewN nq = w2 at *
      have bl := heap_lt HX2.out
      have gl := Ty.cell_lt q0
      have rl := Ty.cell_lt p0
      have hs : IntKind.i64.wrap (m : Int) = (m : Int) := IntWalk.i64_in _ (by omega)
      go_wp2_with fail
      go_cut [5] (fun s4 wx => ∃ X, s4 = .pointer (some ⟨X, 0, none⟩) ∧ wx.heap[X]? = some (.cells #[.int .i8 x.kind, .string x.text, .int .i64 x.num, .int .i64 x.pos] 50 (0, 0)) ∧ X ≠ w.heap.size ∧ Below w2.heap.size w2 wx)
      case first =>
        go_region_law (fail)
        all_goals
          go_wp2_with fail
          go_meet
          exact ⟨_, rfl, heap_new _ _, by omega, ((Below.refl _ _).alloc (Nat.le_refl _) _).drew⟩
      case rest =>
        obtain ⟨X, rfl, hX, hne, hb⟩ := hcut
        have hF := heap_below hb bl HX2.out
        obtain ⟨y0, y1, y2, y3, -, -, -, -, yl⟩ := own4 hX
        obtain ⟨f0, f1, f2, z0, z1, z2, fl⟩ := own3' hF
        have HFF := Lib.hid hF
        have HB3 := Lib.hid (HB2.out.trans (hb.mono HB2.out.size))
        clear hX hF hb p0 p1 q0 q1 q2 q3
        go_wp2_with fail
        go_ret
        refine ⟨w.heap.size, rfl, ?_, Nat.le_refl _, (HB3.out.setCell (p := ⟨w.heap.size, _, none⟩) (Nat.le_refl _) _)⟩
        simp [World.setCell, Array.getElem?_modify, HFF.out]
end Go.Proofs.YtocehfklacjgbaaGreatDoor
namespace Go.Proofs.YtocehfklacjgbaaGreatDoor
open Rd
namespace Rd
/-- what reading at the i-th word answers: the type (k, kids), the place N behind it, the fault E, a, t -/
def Out (l : List W4) (i : Nat) (k : Int) (kids : Fo) (N : Nat) (E a : Int) (t : ByteArray) : Prop :=
  (R l (.wh 1 i) (.ok k kids N) ∧ Ty.chk k kids = 0 ∧ E = 0 ∧ a = 0 ∧ t = ⟨#[]⟩) ∨
  (∃ k' kids' j, R l (.wh 1 i) (.ok k' kids' j) ∧ Ty.chk k' kids' ≠ 0 ∧ k = 0 ∧ kids = .nil ∧ N = 0 ∧ E = Ty.chk k' kids' ∧ a = fAt l i ∧ t = ⟨#[]⟩) ∨
  (∃ q, R l (.wh 1 i) (.bad q) ∧ k = 0 ∧ kids = .nil ∧ N = 0 ∧ E = 40 ∧ a = fAt l q ∧ t = fWord l q)
theorem Out.det {l : List W4} {i : Nat} {k k' : Int} {kids kids' : Fo} {N N' : Nat} {E E' a a' : Int} {t t' : ByteArray} (h : Out l i k kids N E a t) (h' : Out l i k' kids' N' E' a' t') : k' = k ∧ kids' = kids ∧ N' = N ∧ E' = E ∧ a' = a ∧ t' = t := by
  rcases h with ⟨h1, h2, rfl, rfl, rfl⟩ | ⟨k1, f1, j1, h1, h2, rfl, rfl, rfl, rfl, rfl, rfl⟩ | ⟨q, h1, rfl, rfl, rfl, rfl, rfl, rfl⟩ <;>
    rcases h' with ⟨g1, g2, rfl, rfl, rfl⟩ | ⟨k2, f2, j2, g1, g2, rfl, rfl, rfl, rfl, rfl, rfl⟩ | ⟨p, g1, rfl, rfl, rfl, rfl, rfl, rfl⟩
  · injection g1.det h1 with e1 e2 e3; exact ⟨e1, e2, e3, rfl, rfl, rfl⟩
  · injection g1.det h1 with e1 e2 e3; subst e1; subst e2; exact absurd h2 g2
  · cases g1.det h1
  · injection g1.det h1 with e1 e2 e3; subst e1; subst e2; exact absurd g2 h2
  · injection g1.det h1 with e1 e2 e3; subst e1; subst e2; exact ⟨rfl, rfl, rfl, rfl, rfl, rfl⟩
  · cases g1.det h1
  · cases g1.det h1
  · cases g1.det h1
  · injection g1.det h1 with e1; subst e1; exact ⟨rfl, rfl, rfl, rfl, rfl, rfl⟩
end Rd
end Go.Proofs.YtocehfklacjgbaaGreatDoor
namespace Go.Proofs.YtocehfklacjgbaaGreatDoor
open Go.RowKit Rd

theorem rdr_set {w : World} {rb n c i : Nat} {A : Option Addr} (h : Rdr w rb A n c i) (j : Nat) : Rdr (w.setCell ⟨rb, 1, none⟩ (.int .i64 j)) rb A n c j := by
  unfold Rdr at h ⊢
  simp [World.setCell, Array.getElem?_modify, h]

set_option maxHeartbeats 4000000 in
set_option maxRecDepth 100000 in
theorem want_yes (A : Option Addr) (n c rb i : Nat) (w : World) (hi : i < maxLen) (hR : Rdr w rb A n c i) :
    Calls Tryz.prog 193 #[.pointer (some ⟨rb, 0, none⟩), .bool true] w fun e w' => e = .returned (.tuple #[]) ∧ Rdr w' rb A n c (i + 1) ∧ w.grownBy w' (some rb) := by
  obtain ⟨r0, r1, f0, f1, hrl⟩ := own2 hR
  have HR := Lib.hid (rdr_set hR (i + 1))
  have j1 : (i : Int) + 1 ≤ 9223372036854775807 := by unfold maxLen at hi; omega
  have hcast : ((i + 1 : Nat) : Int) = (i : Int) + 1 := by omega
  rw [hcast] at HR
  have HG : Hid (w.grownBy (w.setCell ⟨rb, 1, none⟩ (.int .i64 ((i : Int) + 1))) (some rb)) := Lib.hid (only_setCell (only_refl w rb) (.inl rfl) _)
  clear hR hcast
  go_enter Tryz.func193, Tryz.ntmps193
  go_wp2_with fail
  go_end0
  exact ⟨rfl, HR.out, HG.out⟩

/-- what giving up leaves: a fault, in new memory -/
def GaveUp (l : List W4) (i : Nat) (w : World) (e : Ending) (w' : World) : Prop :=
  ∃ g, e = .panicked [{ v := .iface 65 (.pointer (some ⟨g, 0, none⟩)), recovered := false }] ∧ w'.heap[g]? = some (.cells #[.int .i64 40, .int .i64 (Rd.fAt l i), .string (Rd.fWord l i)] 84 (0, 0)) ∧ w.heap.size ≤ g ∧ Below w.heap.size w w'

set_option maxHeartbeats 4000000 in
set_option maxRecDepth 100000 in
theorem want_no (l : List W4) (A : Option Addr) (c rb i : Nat) (w : World) (hl : l.length ≤ maxLen) (hi : i ≤ l.length) (hsm : ∀ x ∈ l, x.text.size ≤ 281474976710656) (hR : Rdr w rb A l.length c i) (hW : WRow w A l) :
    Calls Tryz.prog 193 #[.pointer (some ⟨rb, 0, none⟩), .bool false] w (GaveUp l i w) := by
  have HF := Lib.hid (fault_any l A c rb i w hl hi hsm hR hW)
  clear hR hW hsm
  go_enter Tryz.func193, Tryz.ntmps193
  go_wp2_with fail
  refine HF.out.mono ?_
  rintro e w2 ⟨g, rfl, hg, hgl, hb⟩
  have HP := Lib.hid (show GaveUp l i w _ w2 from ⟨g, rfl, hg, hgl, hb⟩)
  clear hg hgl hb
  go_wp2_with fail
  exact ⟨rfl, HP.out⟩
end Go.Proofs.YtocehfklacjgbaaGreatDoor
namespace Go.Proofs.YtocehfklacjgbaaGreatDoor
open Go.RowKit Rd

theorem WRow.below {w w' : World} {A : Option Addr} {l : List W4} (h : WRow w A l) (hb : Below w.heap.size w w') : WRow w' A l := fun i x hx => by
  obtain ⟨g, o, e, h0, h1, h2, h3⟩ := h i x hx
  have hc := fun (q : Nat) => hb.cell (p := ⟨g, q, none⟩) (Ty.cell_lt h0)
  exact ⟨g, o, e, by rw [hc]; exact h0, by rw [hc]; exact h1, by rw [hc]; exact h2, by rw [hc]; exact h3⟩

/-- what kind(0) tells -/
def kind0V (l : List W4) (i : Nat) : Value := match Rd.atK l i with | some k => .tuple #[.int .i8 k, .bool true] | none => .tuple #[.int .i8 0, .bool false]
set_option maxHeartbeats 8000000 in
set_option maxRecDepth 100000 in
theorem kind0_any (l : List W4) (A : Option Addr) (c rb i : Nat) (w : World) (hl : l.length ≤ maxLen) (hi : i ≤ l.length) (hS : Shapes w) (hR : Rdr w rb A l.length c i) (hW : WRow w A l) :
    Calls Tryz.prog 191 #[.pointer (some ⟨rb, 0, none⟩), .int .i64 0] w fun e w' => e = .returned (kind0V l i) ∧ Below w.heap.size w w' := by
  have CS := Lib.hid (fun (W : World) (hb : Below w.heap.size w W) (k : Int) (s : ByteArray) => sees_any l A c rb i k s W hl hi (heap_below hb (heap_lt hR) hR) (hW.below hb))
  have HS := Lib.hid hS
  obtain ⟨R, hRR⟩ : ∃ R, R = kind0V l i := ⟨_, rfl⟩
  rw [← hRR]
  have HRR := Lib.hid hRR
  clear hS hR hW hRR hl hi
  go_enter Tryz.func191, Tryz.ntmps191
  go_wp2_with fail
  go_loopw [8] (fun v wr => ∃ k : Nat, v = .int .i64 k ∧ k ≤ 6 ∧ Below w.heap.size w wr ∧ (1 ≤ k → Rd.sees l i 4 [63] = false) ∧ (2 ≤ k → Rd.sees l i 3 sInt = false) ∧ (3 ≤ k → Rd.sees l i 3 sBool = false)) (fun v _ => 6 - (intOf v).toNat)
  case atStart => exact ⟨0, rfl, by omega, Below.refl _ _, fun h => absurd h (by omega), fun h => absurd h (by omega), fun h => absurd h (by omega)⟩
  case round =>
    obtain ⟨k, rfl, hk, hb, n0, n1, n2⟩ := hrel
    have hS := HS.out.below hb
    obtain ⟨hsl, hsc⟩ := hS
    have HN := Lib.hid (And.intro n0 (And.intro n1 n2))
    have HB := Lib.hid hb
    have zb := hb.size
    clear n0 n1 n2 hb
    rcases (by omega : k = 0 ∨ k = 1 ∨ k = 2 ∨ k = 3 ∨ k = 4 ∨ k = 5 ∨ k = 6) with rfl | rfl | rfl | rfl | rfl | rfl | rfl
    · have s0 := hsc 0 _ rfl
      have s1 := hsc 1 _ rfl
      have s2 := hsc 2 _ rfl
      have s3 := hsc 3 _ rfl
      clear hsc
      have hlit : (⟨#[63]⟩ : ByteArray).toList = [63] := (Lib.toList_data _).trans rfl
      have hb1 : Below w.heap.size w (wr.alloc (.cells #[.int .i8 4, .string ⟨#[63]⟩, .int .i64 0, .int .i64 4] 149)) := HB.out.alloc zb _
      have cs := CS.out _ hb1 4 ⟨#[63]⟩
      rw [hlit] at cs
      cases hse : Rd.sees l i 4 [63]
      · rw [hse] at cs
        have CC := Lib.hid cs
        have HE := Lib.hid hse
        have HB1 := Lib.hid hb1
        clear cs hse hlit hb1
        go_wp2_with fail
        refine CC.out.mono ?_
        rintro e w2 ⟨rfl, m, rfl⟩
        have HB2 := Lib.hid (below_drewN HB1.out m)
        go_wp2_with fail
        go_roundw
        case rel =>
          have hse := HE.out
          exact ⟨1, by go_num, by omega, HB2.out, by first | exact fun _ => hse | exact hse | trivial, by first | exact fun h => absurd h (by omega) | trivial, by first | exact fun h => absurd h (by omega) | trivial⟩
        case measure => simp [intOf]
      · rw [hse] at cs
        have CC := Lib.hid cs
        have HB1 := Lib.hid hb1
        have hv : R = .tuple #[.int .i8 0, .bool true] := by
          rw [HRR.out]
          unfold kind0V Rd.atK
          simp [hse]
        clear cs hse hlit hb1
        subst hv
        go_wp2_with fail
        refine CC.out.mono ?_
        rintro e w2 ⟨rfl, m, rfl⟩
        have HB2 := Lib.hid (below_drewN HB1.out m)
        go_wp2_with fail
        go_ret2
        exact ⟨rfl, HB2.out⟩
    · have s0 := hsc 4 _ rfl
      have s1 := hsc 5 _ rfl
      have s2 := hsc 6 _ rfl
      have s3 := hsc 7 _ rfl
      clear hsc
      have hlit : (⟨#[105, 110, 116]⟩ : ByteArray).toList = sInt := (Lib.toList_data _).trans rfl
      have hb1 : Below w.heap.size w (wr.alloc (.cells #[.int .i8 3, .string ⟨#[105, 110, 116]⟩, .int .i64 0, .int .i64 4] 149)) := HB.out.alloc zb _
      have cs := CS.out _ hb1 3 ⟨#[105, 110, 116]⟩
      rw [hlit] at cs
      cases hse : Rd.sees l i 3 sInt
      · rw [hse] at cs
        have CC := Lib.hid cs
        have HE := Lib.hid hse
        have HB1 := Lib.hid hb1
        clear cs hse hlit hb1
        go_wp2_with fail
        refine CC.out.mono ?_
        rintro e w2 ⟨rfl, m, rfl⟩
        have HB2 := Lib.hid (below_drewN HB1.out m)
        go_wp2_with fail
        go_roundw
        case rel =>
          have hse := HE.out
          exact ⟨2, by go_num, by omega, HB2.out, by first | exact fun _ => HN.out.1 (by omega) | exact HN.out.1 (by omega) | trivial, by first | exact fun _ => hse | exact hse | trivial, by first | exact fun h => absurd h (by omega) | trivial⟩
        case measure => simp [intOf]
      · rw [hse] at cs
        have CC := Lib.hid cs
        have HB1 := Lib.hid hb1
        have hv : R = .tuple #[.int .i8 1, .bool true] := by
          rw [HRR.out]
          unfold kind0V Rd.atK
          simp [hse, (HN.out.1 (by omega))]
        clear cs hse hlit hb1
        subst hv
        go_wp2_with fail
        refine CC.out.mono ?_
        rintro e w2 ⟨rfl, m, rfl⟩
        have HB2 := Lib.hid (below_drewN HB1.out m)
        go_wp2_with fail
        go_ret2
        exact ⟨rfl, HB2.out⟩
    · have s0 := hsc 8 _ rfl
      have s1 := hsc 9 _ rfl
      have s2 := hsc 10 _ rfl
      have s3 := hsc 11 _ rfl
      clear hsc
      have hlit : (⟨#[98, 111, 111, 108]⟩ : ByteArray).toList = sBool := (Lib.toList_data _).trans rfl
      have hb1 : Below w.heap.size w (wr.alloc (.cells #[.int .i8 3, .string ⟨#[98, 111, 111, 108]⟩, .int .i64 0, .int .i64 4] 149)) := HB.out.alloc zb _
      have cs := CS.out _ hb1 3 ⟨#[98, 111, 111, 108]⟩
      rw [hlit] at cs
      cases hse : Rd.sees l i 3 sBool
      · rw [hse] at cs
        have CC := Lib.hid cs
        have HE := Lib.hid hse
        have HB1 := Lib.hid hb1
        clear cs hse hlit hb1
        go_wp2_with fail
        refine CC.out.mono ?_
        rintro e w2 ⟨rfl, m, rfl⟩
        have HB2 := Lib.hid (below_drewN HB1.out m)
        go_wp2_with fail
        go_roundw
        case rel =>
          have hse := HE.out
          exact ⟨3, by go_num, by omega, HB2.out, by first | exact fun _ => HN.out.1 (by omega) | exact HN.out.1 (by omega) | trivial, by first | exact fun _ => HN.out.2.1 (by omega) | exact HN.out.2.1 (by omega) | trivial, by first | exact fun _ => hse | exact hse | trivial⟩
        case measure => simp [intOf]
      · rw [hse] at cs
        have CC := Lib.hid cs
        have HB1 := Lib.hid hb1
        have hv : R = .tuple #[.int .i8 2, .bool true] := by
          rw [HRR.out]
          unfold kind0V Rd.atK
          simp [hse, (HN.out.1 (by omega)), (HN.out.2.1 (by omega))]
        clear cs hse hlit hb1
        subst hv
        go_wp2_with fail
        refine CC.out.mono ?_
        rintro e w2 ⟨rfl, m, rfl⟩
        have HB2 := Lib.hid (below_drewN HB1.out m)
        go_wp2_with fail
        go_ret2
        exact ⟨rfl, HB2.out⟩
    · have s0 := hsc 12 _ rfl
      have s1 := hsc 13 _ rfl
      have s2 := hsc 14 _ rfl
      have s3 := hsc 15 _ rfl
      clear hsc
      have hb1 := Lib.hid (HB.out.alloc zb (.cells #[.int .i8 4, .string ⟨#[45, 62]⟩, .int .i64 2, .int .i64 1] 149))
      go_wp2_with fail
      go_roundw
      case rel => exact ⟨4, by go_num, by omega, hb1.out, by first | exact fun _ => HN.out.1 (by omega) | exact HN.out.1 (by omega) | trivial, by first | exact fun _ => HN.out.2.1 (by omega) | exact HN.out.2.1 (by omega) | trivial, by first | exact fun _ => HN.out.2.2 (by omega) | exact HN.out.2.2 (by omega) | trivial⟩
      case measure => simp [intOf]
    · have s0 := hsc 16 _ rfl
      have s1 := hsc 17 _ rfl
      have s2 := hsc 18 _ rfl
      have s3 := hsc 19 _ rfl
      clear hsc
      have hb1 := Lib.hid (HB.out.alloc zb (.cells #[.int .i8 4, .string ⟨#[42]⟩, .int .i64 2, .int .i64 3] 149))
      go_wp2_with fail
      go_roundw
      case rel => exact ⟨5, by go_num, by omega, hb1.out, by first | exact fun _ => HN.out.1 (by omega) | exact HN.out.1 (by omega) | trivial, by first | exact fun _ => HN.out.2.1 (by omega) | exact HN.out.2.1 (by omega) | trivial, by first | exact fun _ => HN.out.2.2 (by omega) | exact HN.out.2.2 (by omega) | trivial⟩
      case measure => simp [intOf]
    · have s0 := hsc 20 _ rfl
      have s1 := hsc 21 _ rfl
      have s2 := hsc 22 _ rfl
      have s3 := hsc 23 _ rfl
      clear hsc
      have hb1 := Lib.hid (HB.out.alloc zb (.cells #[.int .i8 4, .string ⟨#[43]⟩, .int .i64 2, .int .i64 2] 149))
      go_wp2_with fail
      go_roundw
      case rel => exact ⟨6, by go_num, by omega, hb1.out, by first | exact fun _ => HN.out.1 (by omega) | exact HN.out.1 (by omega) | trivial, by first | exact fun _ => HN.out.2.1 (by omega) | exact HN.out.2.1 (by omega) | trivial, by first | exact fun _ => HN.out.2.2 (by omega) | exact HN.out.2.2 (by omega) | trivial⟩
      case measure => simp [intOf]
    · have hv : R = .tuple #[.int .i8 0, .bool false] := by
        rw [HRR.out]
        unfold kind0V Rd.atK
        simp [HN.out.1 (by omega), HN.out.2.1 (by omega), HN.out.2.2 (by omega)]
      clear hsc
      subst hv
      go_wp2_with fail
      go_ret2
      exact ⟨rfl, HB.out⟩

/-- what kind(2) tells -/
def kind2V (l : List W4) (i : Nat) : Value := if Rd.opK l i = 0 then .tuple #[.int .i8 0, .bool false] else .tuple #[.int .i8 (Rd.opK l i), .bool true]
set_option maxHeartbeats 8000000 in
set_option maxRecDepth 100000 in
theorem kind2_any (l : List W4) (A : Option Addr) (c rb i : Nat) (w : World) (hl : l.length ≤ maxLen) (hi : i ≤ l.length) (hS : Shapes w) (hR : Rdr w rb A l.length c i) (hW : WRow w A l) :
    Calls Tryz.prog 191 #[.pointer (some ⟨rb, 0, none⟩), .int .i64 2] w fun e w' => e = .returned (kind2V l i) ∧ Below w.heap.size w w' := by
  have CS := Lib.hid (fun (W : World) (hb : Below w.heap.size w W) (k : Int) (s : ByteArray) => sees_any l A c rb i k s W hl hi (heap_below hb (heap_lt hR) hR) (hW.below hb))
  have HS := Lib.hid hS
  obtain ⟨R, hRR⟩ : ∃ R, R = kind2V l i := ⟨_, rfl⟩
  rw [← hRR]
  have HRR := Lib.hid hRR
  clear hS hR hW hRR hl hi
  go_enter Tryz.func191, Tryz.ntmps191
  go_wp2_with fail
  go_loopw [8] (fun v wr => ∃ k : Nat, v = .int .i64 k ∧ k ≤ 6 ∧ Below w.heap.size w wr ∧ (4 ≤ k → Rd.sees l i 4 sArrow = false) ∧ (5 ≤ k → Rd.sees l i 4 [42] = false) ∧ (6 ≤ k → Rd.sees l i 4 [43] = false)) (fun v _ => 6 - (intOf v).toNat)
  case atStart => exact ⟨0, rfl, by omega, Below.refl _ _, fun h => absurd h (by omega), fun h => absurd h (by omega), fun h => absurd h (by omega)⟩
  case round =>
    obtain ⟨k, rfl, hk, hb, n0, n1, n2⟩ := hrel
    have hS := HS.out.below hb
    obtain ⟨hsl, hsc⟩ := hS
    have HN := Lib.hid (And.intro n0 (And.intro n1 n2))
    have HB := Lib.hid hb
    have zb := hb.size
    clear n0 n1 n2 hb
    rcases (by omega : k = 0 ∨ k = 1 ∨ k = 2 ∨ k = 3 ∨ k = 4 ∨ k = 5 ∨ k = 6) with rfl | rfl | rfl | rfl | rfl | rfl | rfl
    · have s0 := hsc 0 _ rfl
      have s1 := hsc 1 _ rfl
      have s2 := hsc 2 _ rfl
      have s3 := hsc 3 _ rfl
      clear hsc
      have hb1 := Lib.hid (HB.out.alloc zb (.cells #[.int .i8 4, .string ⟨#[63]⟩, .int .i64 0, .int .i64 4] 149))
      go_wp2_with fail
      go_roundw
      case rel => exact ⟨1, by go_num, by omega, hb1.out, by first | exact fun h => absurd h (by omega) | trivial, by first | exact fun h => absurd h (by omega) | trivial, by first | exact fun h => absurd h (by omega) | trivial⟩
      case measure => simp [intOf]
    · have s0 := hsc 4 _ rfl
      have s1 := hsc 5 _ rfl
      have s2 := hsc 6 _ rfl
      have s3 := hsc 7 _ rfl
      clear hsc
      have hb1 := Lib.hid (HB.out.alloc zb (.cells #[.int .i8 3, .string ⟨#[105, 110, 116]⟩, .int .i64 0, .int .i64 4] 149))
      go_wp2_with fail
      go_roundw
      case rel => exact ⟨2, by go_num, by omega, hb1.out, by first | exact fun h => absurd h (by omega) | trivial, by first | exact fun h => absurd h (by omega) | trivial, by first | exact fun h => absurd h (by omega) | trivial⟩
      case measure => simp [intOf]
    · have s0 := hsc 8 _ rfl
      have s1 := hsc 9 _ rfl
      have s2 := hsc 10 _ rfl
      have s3 := hsc 11 _ rfl
      clear hsc
      have hb1 := Lib.hid (HB.out.alloc zb (.cells #[.int .i8 3, .string ⟨#[98, 111, 111, 108]⟩, .int .i64 0, .int .i64 4] 149))
      go_wp2_with fail
      go_roundw
      case rel => exact ⟨3, by go_num, by omega, hb1.out, by first | exact fun h => absurd h (by omega) | trivial, by first | exact fun h => absurd h (by omega) | trivial, by first | exact fun h => absurd h (by omega) | trivial⟩
      case measure => simp [intOf]
    · have s0 := hsc 12 _ rfl
      have s1 := hsc 13 _ rfl
      have s2 := hsc 14 _ rfl
      have s3 := hsc 15 _ rfl
      clear hsc
      have hlit : (⟨#[45, 62]⟩ : ByteArray).toList = sArrow := (Lib.toList_data _).trans rfl
      have hb1 : Below w.heap.size w (wr.alloc (.cells #[.int .i8 4, .string ⟨#[45, 62]⟩, .int .i64 2, .int .i64 1] 149)) := HB.out.alloc zb _
      have cs := CS.out _ hb1 4 ⟨#[45, 62]⟩
      rw [hlit] at cs
      cases hse : Rd.sees l i 4 sArrow
      · rw [hse] at cs
        have CC := Lib.hid cs
        have HE := Lib.hid hse
        have HB1 := Lib.hid hb1
        clear cs hse hlit hb1
        go_wp2_with fail
        refine CC.out.mono ?_
        rintro e w2 ⟨rfl, m, rfl⟩
        have HB2 := Lib.hid (below_drewN HB1.out m)
        go_wp2_with fail
        go_roundw
        case rel =>
          have hse := HE.out
          exact ⟨4, by go_num, by omega, HB2.out, by first | exact fun _ => hse | exact hse | trivial, by first | exact fun h => absurd h (by omega) | trivial, by first | exact fun h => absurd h (by omega) | trivial⟩
        case measure => simp [intOf]
      · rw [hse] at cs
        have CC := Lib.hid cs
        have HB1 := Lib.hid hb1
        have hv : R = .tuple #[.int .i8 3, .bool true] := by
          rw [HRR.out]
          unfold kind2V Rd.opK
          simp [hse]
        clear cs hse hlit hb1
        subst hv
        go_wp2_with fail
        refine CC.out.mono ?_
        rintro e w2 ⟨rfl, m, rfl⟩
        have HB2 := Lib.hid (below_drewN HB1.out m)
        go_wp2_with fail
        go_ret2
        exact ⟨rfl, HB2.out⟩
    · have s0 := hsc 16 _ rfl
      have s1 := hsc 17 _ rfl
      have s2 := hsc 18 _ rfl
      have s3 := hsc 19 _ rfl
      clear hsc
      have hlit : (⟨#[42]⟩ : ByteArray).toList = [42] := (Lib.toList_data _).trans rfl
      have hb1 : Below w.heap.size w (wr.alloc (.cells #[.int .i8 4, .string ⟨#[42]⟩, .int .i64 2, .int .i64 3] 149)) := HB.out.alloc zb _
      have cs := CS.out _ hb1 4 ⟨#[42]⟩
      rw [hlit] at cs
      cases hse : Rd.sees l i 4 [42]
      · rw [hse] at cs
        have CC := Lib.hid cs
        have HE := Lib.hid hse
        have HB1 := Lib.hid hb1
        clear cs hse hlit hb1
        go_wp2_with fail
        refine CC.out.mono ?_
        rintro e w2 ⟨rfl, m, rfl⟩
        have HB2 := Lib.hid (below_drewN HB1.out m)
        go_wp2_with fail
        go_roundw
        case rel =>
          have hse := HE.out
          exact ⟨5, by go_num, by omega, HB2.out, by first | exact fun _ => HN.out.1 (by omega) | exact HN.out.1 (by omega) | trivial, by first | exact fun _ => hse | exact hse | trivial, by first | exact fun h => absurd h (by omega) | trivial⟩
        case measure => simp [intOf]
      · rw [hse] at cs
        have CC := Lib.hid cs
        have HB1 := Lib.hid hb1
        have hv : R = .tuple #[.int .i8 4, .bool true] := by
          rw [HRR.out]
          unfold kind2V Rd.opK
          simp [hse, (HN.out.1 (by omega))]
        clear cs hse hlit hb1
        subst hv
        go_wp2_with fail
        refine CC.out.mono ?_
        rintro e w2 ⟨rfl, m, rfl⟩
        have HB2 := Lib.hid (below_drewN HB1.out m)
        go_wp2_with fail
        go_ret2
        exact ⟨rfl, HB2.out⟩
    · have s0 := hsc 20 _ rfl
      have s1 := hsc 21 _ rfl
      have s2 := hsc 22 _ rfl
      have s3 := hsc 23 _ rfl
      clear hsc
      have hlit : (⟨#[43]⟩ : ByteArray).toList = [43] := (Lib.toList_data _).trans rfl
      have hb1 : Below w.heap.size w (wr.alloc (.cells #[.int .i8 4, .string ⟨#[43]⟩, .int .i64 2, .int .i64 2] 149)) := HB.out.alloc zb _
      have cs := CS.out _ hb1 4 ⟨#[43]⟩
      rw [hlit] at cs
      cases hse : Rd.sees l i 4 [43]
      · rw [hse] at cs
        have CC := Lib.hid cs
        have HE := Lib.hid hse
        have HB1 := Lib.hid hb1
        clear cs hse hlit hb1
        go_wp2_with fail
        refine CC.out.mono ?_
        rintro e w2 ⟨rfl, m, rfl⟩
        have HB2 := Lib.hid (below_drewN HB1.out m)
        go_wp2_with fail
        go_roundw
        case rel =>
          have hse := HE.out
          exact ⟨6, by go_num, by omega, HB2.out, by first | exact fun _ => HN.out.1 (by omega) | exact HN.out.1 (by omega) | trivial, by first | exact fun _ => HN.out.2.1 (by omega) | exact HN.out.2.1 (by omega) | trivial, by first | exact fun _ => hse | exact hse | trivial⟩
        case measure => simp [intOf]
      · rw [hse] at cs
        have CC := Lib.hid cs
        have HB1 := Lib.hid hb1
        have hv : R = .tuple #[.int .i8 5, .bool true] := by
          rw [HRR.out]
          unfold kind2V Rd.opK
          simp [hse, (HN.out.1 (by omega)), (HN.out.2.1 (by omega))]
        clear cs hse hlit hb1
        subst hv
        go_wp2_with fail
        refine CC.out.mono ?_
        rintro e w2 ⟨rfl, m, rfl⟩
        have HB2 := Lib.hid (below_drewN HB1.out m)
        go_wp2_with fail
        go_ret2
        exact ⟨rfl, HB2.out⟩
    · have hv : R = .tuple #[.int .i8 0, .bool false] := by
        rw [HRR.out]
        unfold kind2V Rd.opK
        simp [HN.out.1 (by omega), HN.out.2.1 (by omega), HN.out.2.2 (by omega)]
      clear hsc
      subst hv
      go_wp2_with fail
      go_ret2
      exact ⟨rfl, HB.out⟩
end Go.Proofs.YtocehfklacjgbaaGreatDoor
namespace Go.Proofs.YtocehfklacjgbaaGreatDoor
open Go.RowKit Rd

/-- a type that lies in blocks from n0 on -/
def Far (n0 : Nat) (w : World) (k : Int) (kids : Fo) (G : Option Addr) (m c : Nat) : Prop := ∀ u : World, (∀ b o v, n0 ≤ b → w.cell? ⟨b, o, none⟩ = some v → u.cell? ⟨b, o, none⟩ = some v) → Ty.Is u k kids G m c
theorem Far.is {n0 : Nat} {w : World} {k : Int} {kids : Fo} {G : Option Addr} {m c : Nat} (h : Far n0 w k kids G m c) : Ty.Is w k kids G m c := h w fun _ _ _ _ h => h
theorem Far.keep {n0 : Nat} {w w' : World} {k : Int} {kids : Fo} {G : Option Addr} {m c : Nat} (h : Far n0 w k kids G m c) (hk : ∀ b o v, n0 ≤ b → w.cell? ⟨b, o, none⟩ = some v → w'.cell? ⟨b, o, none⟩ = some v) : Far n0 w' k kids G m c :=
  fun u hu => h u fun b o v hb hc => hu b o v hb (hk b o v hb hc)
theorem Far.below {n0 : Nat} {w w' : World} {k : Int} {kids : Fo} {G : Option Addr} {m c : Nat} (h : Far n0 w k kids G m c) (hb : Below w.heap.size w w') : Far n0 w' k kids G m c :=
  h.keep fun b o v _ hc => by rw [hb.cell (p := ⟨b, o, none⟩) (Ty.cell_lt hc)]; exact hc
theorem Far.low {n0 n1 : Nat} {w : World} {k : Int} {kids : Fo} {G : Option Addr} {m c : Nat} (h : Far n1 w k kids G m c) (hn : n0 ≤ n1) : Far n0 w k kids G m c := fun u hu => h u fun b o v hb hc => hu b o v (by omega) hc
theorem far_nil (n0 : Nat) (w : World) (k : Int) (h1 : -128 ≤ k) (h2 : k ≤ 127) : Far n0 w k .nil none 0 0 := fun _ _ => ⟨trivial, rfl, Nat.le_refl _, Nat.zero_le _, h1, h2⟩

/-- the reader stands at the i-th word -/
structure RdS (l : List W4) (A : Option Addr) (c rb : Nat) (w : World) (i : Nat) : Prop where
  rdr : Rdr w rb A l.length c i
  row : WRow w A l
  ne : ∀ g o, A = some ⟨g, o, none⟩ → l ≠ [] → g ≠ rb
  le : i ≤ l.length
  sh : Shapes w
  len : l.length < maxLen
  small : ∀ x ∈ l, x.text.size ≤ 281474976710656
theorem shapes_ne {w : World} {rb n c i : Nat} {A : Option Addr} (hS : Shapes w) (hR : Rdr w rb A n c i) : 1 ≠ rb := fun e => by
  subst e
  have h0 := hS.2 0 _ rfl
  have h1 := (own2 hR).1
  rw [h0] at h1
  cases h1
theorem RdS.step {l : List W4} {A : Option Addr} {c rb i j : Nat} {w w' : World} (h : RdS l A c rb w i) (hg : w.grownBy w' (some rb)) (hR : Rdr w' rb A l.length c j) (hj : j ≤ l.length) : RdS l A c rb w' j := by
  refine ⟨hR, h.row.grown h.ne hg, h.ne, hj, ⟨Nat.lt_of_lt_of_le h.sh.1 hg.size, fun q v hv => ?_⟩, h.len, h.small⟩
  have h0 := h.sh.2 q v hv
  rw [World.cell?_of_block (hg.block _ (Ty.cell_lt h0) (fun e => shapes_ne h.sh h.rdr (by injection e)))]
  exact h0
theorem RdS.below {l : List W4} {A : Option Addr} {c rb i : Nat} {w w' : World} (h : RdS l A c rb w i) (hb : Below w.heap.size w w') : RdS l A c rb w' i :=
  ⟨heap_below hb (heap_lt h.rdr) h.rdr, h.row.below hb, h.ne, h.le, h.sh.below hb, h.len, h.small⟩
theorem only_below {w u : World} {rb : Nat} (hb : Below w.heap.size w u) : w.grownBy u (some rb) := ⟨hb.os, hb.tape, hb.output, hb.size, fun k hk _ => hb.block k hk⟩

def ROk (l : List W4) (A : Option Addr) (c rb : Nat) (w : World) (k : Int) (kids : Fo) (j : Nat) (e : Ending) (w' : World) : Prop :=
  ∃ G m cg, e = .returned (.agg #[.int .i8 k, .slice G m cg]) ∧ Far w.heap.size w' k kids G m cg ∧ Rdr w' rb A l.length c j ∧ w.grownBy w' (some rb)
def RBad (l : List W4) (rb : Nat) (w : World) (i : Nat) (e : Ending) (w' : World) : Prop :=
  ∃ g, e = .panicked [{ v := .iface 65 (.pointer (some ⟨g, 0, none⟩)), recovered := false }] ∧ w'.heap[g]? = some (.cells #[.int .i64 40, .int .i64 (Rd.fAt l i), .string (Rd.fWord l i)] 84 (0, 0)) ∧ w.heap.size ≤ g ∧ w.grownBy w' (some rb)
/-- what a reading leaves -/
def RPost (l : List W4) (A : Option Addr) (c rb : Nat) (w : World) (t : Tg) (e : Ending) (w' : World) : Prop :=
  (∃ k kids j, R l t (.ok k kids j) ∧ ROk l A c rb w k kids j e w') ∨ (∃ i, R l t (.bad i) ∧ RBad l rb w i e w')
theorem GaveUp.bad {l : List W4} {i rb : Nat} {w u : World} {e : Ending} {w' : World} (h : GaveUp l i u e w') (hg : w.grownBy u (some rb)) : RBad l rb w i e w' := by
  obtain ⟨g, he, hh, hl, hb⟩ := h
  exact ⟨g, he, hh, Nat.le_trans hg.size hl, only_trans hg (only_below hb)⟩
theorem RBad.from {l : List W4} {i rb : Nat} {w u : World} {e : Ending} {w' : World} (h : RBad l rb u i e w') (hg : w.grownBy u (some rb)) : RBad l rb w i e w' := by
  obtain ⟨g, he, hh, hl, hb⟩ := h
  exact ⟨g, he, hh, Nat.le_trans hg.size hl, only_trans hg hb⟩

set_option maxHeartbeats 4000000 in
set_option maxRecDepth 100000 in
theorem atom_word (l : List W4) (A : Option Addr) (c rb i : Nat) (w : World) (h : RdS l A c rb w i) (hno : Rd.sees l i 4 [40] = false) :
    Calls Tryz.prog 190 #[.pointer (some ⟨rb, 0, none⟩)] w (RPost l A c rb w (.one i)) := by
  have hb0 : Below w.heap.size w (w.alloc (.cells #[.int .i8 0, .slice none 0 0] 27)) := (Below.refl _ _).alloc (Nat.le_refl _) _
  have hX := heap_new w (.cells #[.int .i8 0, .slice none 0 0] 27)
  have hlit : (⟨#[40]⟩ : ByteArray).toList = [40] := (Lib.toList_data _).trans rfl
  have hl : l.length ≤ maxLen := Nat.le_of_lt h.len
  have CS := Lib.hid (fun (W : World) (hb : Below w.heap.size w W) => (show Calls Tryz.prog 192 #[.pointer (some ⟨rb, 0, none⟩), .int .i8 4, .string ⟨#[40]⟩] W (fun e w' => e = .returned (.bool false) ∧ ∃ m, w' = W.drewN m) from by
    have q := sees_any l A c rb i 4 ⟨#[40]⟩ W hl h.le (h.below hb).rdr (h.below hb).row
    rw [hlit, hno] at q; exact q))
  have CK := Lib.hid (fun (W : World) (hb : Below w.heap.size w W) => kind0_any l A c rb i W hl h.le (h.below hb).sh (h.below hb).rdr (h.below hb).row)
  have H := Lib.hid h
  have HX := Lib.hid hX
  have HB0 := Lib.hid hb0
  have HNO := Lib.hid hno
  clear hlit hl hX hb0 hno h
  cases hk : Rd.atK l i with
  | none =>
    have hv : kind0V l i = .tuple #[.int .i8 0, .bool false] := by unfold kind0V; rw [hk]
    rw [hv] at CK
    have HK := Lib.hid hk
    clear hv hk
    go_enter Tryz.func190, Tryz.ntmps190
    go_wp2_with fail
    refine (CS.out _ HB0.out).mono ?_
    rintro e w2 ⟨rfl, m, rfl⟩
    have HB1 := Lib.hid (below_drewN HB0.out m)
    go_wp2_with fail
    refine (CK.out _ HB1.out).mono ?_
    rintro e w3 ⟨rfl, hb⟩
    have HB2 := Lib.hid (HB1.out.trans (hb.mono HB1.out.size))
    clear hb
    go_wp2_with fail
    have hs := H.out.below HB2.out
    refine (want_no l A c rb i w3 (Nat.le_of_lt hs.len) hs.le hs.small hs.rdr hs.row).mono ?_
    intro e w4 hg
    have HP := Lib.hid (show RPost l A c rb w (.one i) e w4 from .inr ⟨i, .no HK.out HNO.out, hg.bad (only_below HB2.out)⟩)
    obtain ⟨g, rfl, -⟩ := hg
    exact ⟨rfl, HP.out⟩
  | some k =>
    have hv : kind0V l i = .tuple #[.int .i8 k, .bool true] := by unfold kind0V; rw [hk]
    have hkr : k = 0 ∨ k = 1 ∨ k = 2 := by
      unfold Rd.atK at hk
      split at hk
      · injection hk with e; exact .inl e.symm
      · split at hk
        · injection hk with e; exact .inr (.inl e.symm)
        · split at hk
          · injection hk with e; exact .inr (.inr e.symm)
          · cases hk
    have hil := Rd.atK_lt hk
    rw [hv] at CK
    have HK := Lib.hid hk
    clear hv hk
    go_enter Tryz.func190, Tryz.ntmps190
    go_wp2_with fail
    refine (CS.out _ HB0.out).mono ?_
    rintro e w2 ⟨rfl, m, rfl⟩
    have HB1 := Lib.hid (below_drewN HB0.out m)
    have HX1 : Hid (((w.alloc (.cells #[.int .i8 0, .slice none 0 0] 27)).drewN m).heap[w.heap.size]? = _) := Lib.hid HX.out
    go_wp2_with fail
    refine (CK.out _ HB1.out).mono ?_
    rintro e w3 ⟨rfl, hb⟩
    have HB2 := Lib.hid (HB1.out.trans (hb.mono HB1.out.size))
    have HX2 := Lib.hid (heap_below hb (heap_lt HX1.out) HX1.out)
    clear hb
    go_wp2_with fail
    have hs := H.out.below HB2.out
    refine (want_yes A l.length c rb i w3 (by have := hs.len; omega) hs.rdr).mono ?_
    rintro e w4 ⟨rfl, hR, hg⟩
    have hne : w.heap.size ≠ rb := by have := heap_lt H.out.rdr; omega
    have hx4 := heap_grown hg hne HX2.out
    obtain ⟨x0, x1, f0, f1, xl⟩ := own2 hx4
    have HR := Lib.hid hR
    have HG := Lib.hid (only_trans (only_below HB2.out) hg)
    have hkb : -128 ≤ k ∧ k ≤ 127 := by omega
    clear hR hg hs hx4
    go_wp2_with fail
    refine bodyPost_ret (v := .agg #[.int .i8 k, .slice none 0 0]) (by simp [results, Tryz.results190, go_sem, *]) rfl (.inl ⟨k, .nil, i + 1, .word HK.out HNO.out, none, 0, 0, rfl, far_nil _ _ k hkb.1 hkb.2, ?_, only_setCell (only_setCell HG.out (.inr (Nat.le_refl _)) _) (.inr (Nat.le_refl _)) _⟩)
    have hr := HR.out
    unfold Rdr at hr ⊢
    rw [Below.heap_setCell _ _ _ _ (fun e => hne e.symm), Below.heap_setCell _ _ _ _ (fun e => hne e.symm)]
    exact hr
end Go.Proofs.YtocehfklacjgbaaGreatDoor
namespace Go.Proofs.YtocehfklacjgbaaGreatDoor
open Go.RowKit Rd

set_option maxHeartbeats 8000000 in
set_option maxRecDepth 100000 in
theorem atom_br (l : List W4) (A : Option Addr) (c rb i : Nat) (w : World) (h : RdS l A c rb w i) (hyes : Rd.sees l i 4 [40] = true)
    (hw : ∀ W : World, RdS l A c rb W (i + 1) → Calls Tryz.prog 188 #[.pointer (some ⟨rb, 0, none⟩), .int .i64 1] W (RPost l A c rb W (.wh 1 (i + 1)))) :
    Calls Tryz.prog 190 #[.pointer (some ⟨rb, 0, none⟩)] w (RPost l A c rb w (.one i)) := by
  have hb0 : Below w.heap.size w (w.alloc (.cells #[.int .i8 0, .slice none 0 0] 27)) := (Below.refl _ _).alloc (Nat.le_refl _) _
  have hX := heap_new w (.cells #[.int .i8 0, .slice none 0 0] 27)
  have hlit : (⟨#[40]⟩ : ByteArray).toList = [40] := (Lib.toList_data _).trans rfl
  have hlit2 : (⟨#[41]⟩ : ByteArray).toList = [41] := (Lib.toList_data _).trans rfl
  have hl : l.length ≤ maxLen := Nat.le_of_lt h.len
  have hil := Rd.sees_lt hyes
  have CS := Lib.hid (fun (W : World) (hb : Below w.heap.size w W) => (show Calls Tryz.prog 192 #[.pointer (some ⟨rb, 0, none⟩), .int .i8 4, .string ⟨#[40]⟩] W (fun e w' => e = .returned (.bool true) ∧ ∃ m, w' = W.drewN m) from by
    have q := sees_any l A c rb i 4 ⟨#[40]⟩ W hl h.le (h.below hb).rdr (h.below hb).row
    rw [hlit, hyes] at q; exact q))
  have CS2 := Lib.hid (fun (j : Nat) (b : Bool) (hj : Rd.sees l j 4 [41] = b) (W : World) (hr : RdS l A c rb W j) => (show Calls Tryz.prog 192 #[.pointer (some ⟨rb, 0, none⟩), .int .i8 4, .string ⟨#[41]⟩] W (fun e w' => e = .returned (.bool b) ∧ ∃ m, w' = W.drewN m) from by
    have q := sees_any l A c rb j 4 ⟨#[41]⟩ W hl hr.le hr.rdr hr.row
    rw [hlit2, hj] at q; exact q))
  have H := Lib.hid h
  have HX := Lib.hid hX
  have HB0 := Lib.hid hb0
  have HY := Lib.hid hyes
  have HWH := Lib.hid hw
  have hne : w.heap.size ≠ rb := by have := heap_lt h.rdr; omega
  have hii : (i : Int) + 1 ≤ 9223372036854775807 := by have := h.len; unfold maxLen at this; omega
  have HIL := Lib.hid hil
  clear hlit hlit2 hl hX hb0 hyes h hw hil
  go_enter Tryz.func190, Tryz.ntmps190
  go_wp2_with fail
  refine (CS.out _ HB0.out).mono ?_
  rintro e w2 ⟨rfl, m, rfl⟩
  have HB1 := Lib.hid (below_drewN HB0.out m)
  have hs1 := H.out.below HB1.out
  have HX1 : Hid (((w.alloc (.cells #[.int .i8 0, .slice none 0 0] 27)).drewN m).heap[w.heap.size]? = _) := Lib.hid HX.out
  generalize (w.alloc (.cells #[.int .i8 0, .slice none 0 0] 27)).drewN m = u1 at *
  obtain ⟨r0, r1, f0, f1, rl⟩ := own2 hs1.rdr
  have hg2 : u1.grownBy (u1.setCell ⟨rb, 1, none⟩ (.int .i64 ((i : Int) + 1))) (some rb) := only_setCell (only_refl u1 rb) (.inl rfl) _
  have hr2 := rdr_set hs1.rdr (i + 1)
  rw [show ((i + 1 : Nat) : Int) = (i : Int) + 1 by omega] at hr2
  have HS2 := Lib.hid (hs1.step hg2 hr2 (by have := HIL.out; omega))
  have HG2 := Lib.hid (only_trans (only_below HB1.out) hg2)
  have HX2 := Lib.hid (heap_grown hg2 hne HX1.out)
  clear hs1 hg2 hr2 HX1 HX HB0 HB1
  go_wp2_with fail
  refine (HWH.out _ HS2.out).mono ?_
  rintro e w3 (⟨k, kids, j, hRk, G, mg, cg, rfl, hF, hRd, hg⟩ | ⟨q, hRq, hB⟩)
  · have hjl := hRk.goes (by show i + 1 ≤ l.length; have := HIL.out; omega)
    have hjj : j ≤ l.length := hjl.2
    have hx3 := heap_grown hg hne HX2.out
    have hs3 := HS2.out.step hg hRd hjj
    have hb4 : Below w3.heap.size w3 (w3.alloc (.cells #[.int .i8 k, .slice G mg cg] 27)) := (Below.refl _ _).alloc (Nat.le_refl _) _
    have HS4 := Lib.hid (hs3.below hb4)
    have HX4 := Lib.hid (heap_old hx3 (.cells #[.int .i8 k, .slice G mg cg] 27))
    have HY4 := Lib.hid (heap_new w3 (.cells #[.int .i8 k, .slice G mg cg] 27))
    have HG4 := Lib.hid (only_trans HG2.out (only_alloc hg (.cells #[.int .i8 k, .slice G mg cg] 27)))
    have HF4 := Lib.hid ((hF.below hb4).low (show w.heap.size + 1 ≤ _ from heap_lt HX2.out))
    have hn4 : w3.heap.size ≠ rb := by have := heap_lt hRd; omega
    have hn5 : w.heap.size ≠ w3.heap.size := by have := heap_lt hx3; omega
    have HRk := Lib.hid hRk
    clear hjl hx3 hs3 hb4 hF hRd hg hRk
    go_upto_region 4 with fail
    generalize w3.alloc (.cells #[.int .i8 k, .slice G mg cg] 27) = w4 at *
    generalize w3.heap.size = Y at *
    cases hse : Rd.sees l j 4 [41]
    · have CC := Lib.hid (CS2.out j false hse w4 HS4.out)
      have HSE := Lib.hid hse
      clear hse
      go_wp2_with fail
      refine CC.out.mono ?_
      rintro e w5 ⟨rfl, m2, rfl⟩
      have hb5 := below_drewN (Below.refl w4.heap.size w4) m2
      have hs5 := HS4.out.below hb5
      have HG5 := Lib.hid (only_trans HG4.out (only_below (rb := rb) hb5))
      have HW5 := Lib.hid (want_no l A c rb j _ (Nat.le_of_lt hs5.len) hs5.le hs5.small hs5.rdr hs5.row)
      clear hb5 hs5
      go_wp2_with fail
      refine HW5.out.mono ?_
      intro e w6 hg
      have HP := Lib.hid (show RPost l A c rb w (.one i) e w6 from .inr ⟨j, .brNo HY.out HRk.out HSE.out, hg.bad HG5.out⟩)
      obtain ⟨g, rfl, -⟩ := hg
      exact ⟨rfl, HP.out⟩
    · have CC := Lib.hid (CS2.out j true hse w4 HS4.out)
      have HSE := Lib.hid hse
      clear hse
      go_wp2_with fail
      refine CC.out.mono ?_
      rintro e w5 ⟨rfl, m2, rfl⟩
      have hb5 := below_drewN (Below.refl w4.heap.size w4) m2
      have hs5 := HS4.out.below hb5
      have HG5 := Lib.hid (only_trans HG4.out (only_below (rb := rb) hb5))
      have HF5 := Lib.hid (HF4.out.below hb5)
      have HX5 : Hid ((w4.drewN m2).heap[w.heap.size]? = _) := Lib.hid HX4.out
      have HY5 : Hid ((w4.drewN m2).heap[Y]? = _) := Lib.hid HY4.out
      have HW5 := Lib.hid (want_yes A l.length c rb j _ (by have := Rd.sees_lt HSE.out; have := hs5.len; omega) hs5.rdr)
      clear hb5 hs5
      generalize w4.drewN m2 = w5 at *
      go_wp2_with fail
      refine HW5.out.mono ?_
      rintro e w6 ⟨rfl, hR, hg⟩
      obtain ⟨x0, x1, g0, g1, xl⟩ := own2 (heap_grown hg hne HX5.out)
      obtain ⟨y0, y1, -, -, yl⟩ := own2 (heap_grown hg hn4 HY5.out)
      have HR := Lib.hid hR
      have HG6 := Lib.hid (only_trans HG5.out hg)
      have HF6 := Lib.hid (HF5.out.keep (w' := w6) fun b o v hb hc => by
        rw [World.cell?_of_block (hg.block b (Ty.cell_lt hc) (fun e => by injection e with e; have := heap_lt H.out.rdr; omega))]; exact hc)
      clear hR hg
      go_wp2_with fail
      refine bodyPost_ret (v := .agg #[.int .i8 k, .slice G mg cg]) (by simp [results, Tryz.results190, go_sem, *]) rfl (.inl ⟨k, kids, j + 1, .br HY.out HRk.out HSE.out, G, mg, cg, rfl, ?_, ?_, only_setCell (only_setCell HG6.out (.inr (Nat.le_refl _)) _) (.inr (Nat.le_refl _)) _⟩)
      · refine (HF6.out.keep fun b o v hb hc => ?_).low (Nat.le_succ _)
        rw [World.cell?_setCell_other _ _ _ _ (fun e => by injection e with e; omega), World.cell?_setCell_other _ _ _ _ (fun e => by injection e with e; omega)]
        exact hc
      · have hr := HR.out
        unfold Rdr at hr ⊢
        rw [Below.heap_setCell _ _ _ _ (fun e => hne e.symm), Below.heap_setCell _ _ _ _ (fun e => hne e.symm)]
        exact hr
  · have HP := Lib.hid (show RPost l A c rb w (.one i) e w3 from .inr ⟨q, .brBad HY.out hRq, hB.from HG2.out⟩)
    obtain ⟨g, rfl, -⟩ := hB
    exact ⟨rfl, HP.out⟩
end Go.Proofs.YtocehfklacjgbaaGreatDoor
namespace Go.Proofs.YtocehfklacjgbaaGreatDoor
open Go.RowKit Rd

set_option maxHeartbeats 1000000 in
theorem needsR_any (k : Int) (hk : k = 3 ∨ k = 4 ∨ k = 5) (w : World) (hS : Shapes w) :
    ∃ lf : Int, Calls Tryz.prog 83 #[.int .i8 k] w fun e w' => e = .returned (.tuple #[.int .i64 lf, .int .i64 (Rd.rgt k)]) ∧ w' = w := by
  obtain ⟨hs1, hs2⟩ := hS
  have s15 := hs2 15 _ rfl
  have s19 := hs2 19 _ rfl
  have s23 := hs2 23 _ rfl
  clear hs2
  rcases hk with rfl | rfl | rfl
  · refine ⟨2, ?_⟩
    go_enter Tryz.func83, Tryz.ntmps83
    go_wp2_with fail
    go_ret2
    exact ⟨rfl, rfl⟩
  · refine ⟨3, ?_⟩
    go_enter Tryz.func83, Tryz.ntmps83
    go_wp2_with fail
    go_ret2
    exact ⟨rfl, rfl⟩
  · refine ⟨2, ?_⟩
    go_enter Tryz.func83, Tryz.ntmps83
    go_wp2_with fail
    go_ret2
    exact ⟨rfl, rfl⟩

theorem atom_any (l : List W4) (A : Option Addr) (c rb i : Nat) (w : World) (h : RdS l A c rb w i)
    (hw : Rd.sees l i 4 [40] = true → ∀ W : World, RdS l A c rb W (i + 1) → Calls Tryz.prog 188 #[.pointer (some ⟨rb, 0, none⟩), .int .i64 1] W (RPost l A c rb W (.wh 1 (i + 1)))) :
    Calls Tryz.prog 190 #[.pointer (some ⟨rb, 0, none⟩)] w (RPost l A c rb w (.one i)) := by
  cases hb : Rd.sees l i 4 [40] with
  | true => exact atom_br l A c rb i w h hb (hw hb)
  | false => exact atom_word l A c rb i w h hb
end Go.Proofs.YtocehfklacjgbaaGreatDoor
namespace Go.Proofs.YtocehfklacjgbaaGreatDoor
open Go.RowKit Rd

/-- a type that lies in such blocks alone -/
def FarP (P : Nat → Prop) (w : World) (k : Int) (kids : Fo) (G : Option Addr) (m c : Nat) : Prop := ∀ u : World, (∀ b o v, P b → w.cell? ⟨b, o, none⟩ = some v → u.cell? ⟨b, o, none⟩ = some v) → Ty.Is u k kids G m c
theorem FarP.is {P : Nat → Prop} {w : World} {k : Int} {kids : Fo} {G : Option Addr} {m c : Nat} (h : FarP P w k kids G m c) : Ty.Is w k kids G m c := h w fun _ _ _ _ h => h
theorem FarP.keep {P : Nat → Prop} {w w' : World} {k : Int} {kids : Fo} {G : Option Addr} {m c : Nat} (h : FarP P w k kids G m c) (hk : ∀ b o v, P b → w.cell? ⟨b, o, none⟩ = some v → w'.cell? ⟨b, o, none⟩ = some v) : FarP P w' k kids G m c :=
  fun u hu => h u fun b o v hb hc => hu b o v hb (hk b o v hb hc)
theorem FarP.mono {P Q : Nat → Prop} {w : World} {k : Int} {kids : Fo} {G : Option Addr} {m c : Nat} (h : FarP P w k kids G m c) (hq : ∀ b o v, w.cell? ⟨b, o, none⟩ = some v → P b → Q b) : FarP Q w k kids G m c :=
  fun u hu => h u fun b o v hb hc => hu b o v (hq b o v hc hb) hc
theorem Far.toP {n0 : Nat} {w : World} {k : Int} {kids : Fo} {G : Option Addr} {m c : Nat} (h : Far n0 w k kids G m c) : FarP (fun b => n0 ≤ b) w k kids G m c := h
theorem FarP.below {P : Nat → Prop} {w w' : World} {k : Int} {kids : Fo} {G : Option Addr} {m c : Nat} (h : FarP P w k kids G m c) (hb : Below w.heap.size w w') : FarP P w' k kids G m c :=
  h.keep fun b o v _ hc => by rw [hb.cell (p := ⟨b, o, none⟩) (Ty.cell_lt hc)]; exact hc
/-- two types in a row of their own -/
theorem far_two {P : Nat → Prop} {w : World} {k k1 k2 : Int} {kids1 kids2 : Fo} {G1 G2 : Option Addr} {m1 m2 c1 c2 Y : Nat} (h1 : FarP P w k1 kids1 G1 m1 c1) (h2 : FarP P w k2 kids2 G2 m2 c2) (hY : P Y)
    (y0 : w.cell? ⟨Y, 0, none⟩ = some (.int .i8 k1)) (y1 : w.cell? ⟨Y, 1, none⟩ = some (.slice G1 m1 c1)) (y2 : w.cell? ⟨Y, 2, none⟩ = some (.int .i8 k2)) (y3 : w.cell? ⟨Y, 3, none⟩ = some (.slice G2 m2 c2)) (hk : -128 ≤ k ∧ k ≤ 127) :
    FarP P w k (two k1 kids1 k2 kids2) (some ⟨Y, 0, none⟩) 2 2 := by
  intro u hu
  have i1 := h1 u hu
  have i2 := h2 u hu
  have e1 := i1.n_eq
  have e2 := i2.n_eq
  subst e1; subst e2
  refine ⟨⟨Y, 0, G1, c1, rfl, ⟨i1.lo, i1.hi⟩, ?_, ?_, i1.n_le, i1.c_le, i1.lies, Y, 0, G2, c2, rfl, ⟨i2.lo, i2.hi⟩, ?_, ?_, i2.n_le, i2.c_le, i2.lies, trivial⟩, rfl, by omega, by decide, hk.1, hk.2⟩
  · exact hu Y _ _ hY y0
  · exact hu Y _ _ hY y1
  · exact hu Y _ _ hY y2
  · exact hu Y _ _ hY y3

/-- the loop's state: the part so far is in the box X -/
structure WSt (l : List W4) (A : Option Addr) (c rb least i : Nat) (w : World) (X : Nat) (k : Int) (kids : Fo) (j : Nat) (G : Option Addr) (mg cg : Nat) (wr : World) : Prop where
  gt : i + 1 ≤ j
  rd : RdS l A c rb wr j
  box : wr.heap[X]? = some (.cells #[.int .i8 k, .slice G mg cg] 27)
  res : wr.heap[w.heap.size]? = some (.cells #[.int .i8 0, .slice none 0 0] 27)
  far : FarP (fun b => w.heap.size < b ∧ b ≠ X) wr k kids G mg cg
  only : w.grownBy wr (some rb)
  on : ∀ r, R l (.lp least k kids j) r → R l (.wh least i) r

/-- a way that ends in a panic, inside a region whose order is drawn: what is left to show, as the end of a region of no operations -/
theorem panic_end' {P : Program} {G : Prop} {w : World} (h : wpAny P .any #[] (fun _ _ _ => G) 0 #[] { tmps := #[], defers := [] } w) : G := h.2
theorem set_two {w : World} {X : Nat} {a b u v : Value} {t : TypeId} (h : w.heap[X]? = some (.cells #[a, b] t (0, 0))) : ((w.setCell ⟨X, 0, none⟩ u).setCell ⟨X, 1, none⟩ v).heap[X]? = some (.cells #[u, v] t (0, 0)) := by
  simp [World.setCell, Array.getElem?_modify, h]
theorem rdr_far {w : World} {rb n c i X : Nat} {A : Option Addr} (h : Rdr w rb A n c i) (hX : X ≠ rb) (o : Nat) (v : Value) : Rdr (w.setCell ⟨X, o, none⟩ v) rb A n c i := by
  unfold Rdr at h ⊢
  rw [Below.heap_setCell _ _ _ _ (fun e => hX e.symm)]
  exact h
/-- the part so far is the answer -/
theorem WSt.done {l : List W4} {A : Option Addr} {c rb least i j X mg cg : Nat} {w wr w5 : World} {k : Int} {kids : Fo} {G : Option Addr} (h : WSt l A c rb least i w X k kids j G mg cg wr) (hb : Below wr.heap.size wr w5) (hwr : w.heap.size ≠ rb) (hs : opK l j = 0 ∨ binds (opK l j) < least) :
    RPost l A c rb w (.wh least i) (.returned (.agg #[.int .i8 k, .slice G mg cg])) ((w5.setCell ⟨w.heap.size, 0, none⟩ (.int .i8 k)).setCell ⟨w.heap.size, 1, none⟩ (.slice G mg cg)) := by
  refine .inl ⟨k, kids, j, h.on _ (.stop hs), G, mg, cg, rfl, ?_, rdr_far (rdr_far (h.rd.below hb).rdr hwr _ _) hwr _ _, only_setCell (only_setCell (only_trans h.only (only_below hb)) (.inr (Nat.le_refl _)) _) (.inr (Nat.le_refl _)) _⟩
  have h1 := (h.far.below hb).keep (w' := (w5.setCell ⟨w.heap.size, 0, none⟩ (.int .i8 k)).setCell ⟨w.heap.size, 1, none⟩ (.slice G mg cg)) fun b o v hP hc => by
    rw [World.cell?_setCell_other _ _ _ _ (fun e => by injection e with e; omega), World.cell?_setCell_other _ _ _ _ (fun e => by injection e with e; omega)]
    exact hc
  exact h1.mono fun b o v _ hP => Nat.le_of_lt hP.1
/-- a word between two parts, and the part behind it -/
theorem WSt.next {l : List W4} {A : Option Addr} {c rb least i j j2 X mg cg m2 c2 : Nat} {w wr w7 u : World} {k k2 : Int} {kids kids2 : Fo} {G G2 : Option Addr} (h : WSt l A c rb least i w X k kids j G mg cg wr) (g7 : wr.grownBy w7 (some rb))
    (hH : RdS l A c rb w i) (hX : w.heap.size < X) (hle : least ≤ binds (opK l j)) (h0 : opK l j ≠ 0) (hok : R l (.wh (rgt (opK l j)) (j + 1)) (.ok k2 kids2 j2)) (hF : Far w7.heap.size u k2 kids2 G2 m2 c2) (hR : Rdr u rb A l.length c j2) (hg : w7.grownBy u (some rb)) (o : Int) (ho : opK l j = o) (t : TypeId) :
    WSt l A c rb least i w X o (two k kids k2 kids2) j2 (some ⟨u.heap.size, 0, none⟩) 2 2 (((u.setCell ⟨X, 0, none⟩ (.int .i8 o)).setCell ⟨X, 1, none⟩ (.slice (some ⟨u.heap.size, 0, none⟩) 2 2)).alloc (.cells #[.int .i8 k, .slice G mg cg, .int .i8 k2, .slice G2 m2 c2] t)) := by
  have hX9 := heap_lt (heap_grown (only_trans g7 hg) (show X ≠ rb by have := heap_lt hH.rdr; omega) h.box)
  rw [← World.setCell_alloc_past _ X 1 _ (by simpa using hX9), ← World.setCell_alloc_past _ X 0 _ hX9]
  have hrb := heap_lt hH.rdr
  have hXr : X ≠ rb := by omega
  have hg2 := only_trans g7 hg
  have hj := hok.goes (show j + 1 ≤ l.length from opK_lt h0)
  simp only [Tg.start] at hj
  have hbox := heap_old (heap_grown hg2 hXr h.box) (.cells #[.int .i8 k, .slice G mg cg, .int .i8 k2, .slice G2 m2 c2] t)
  have hres := heap_old (heap_grown hg2 (show w.heap.size ≠ rb by omega) h.res) (.cells #[.int .i8 k, .slice G mg cg, .int .i8 k2, .slice G2 m2 c2] t)
  have hXl := heap_lt h.box
  have hgt := h.gt
  have h7 := g7.size
  have hu := hg.size
  have hb : Below u.heap.size u (u.alloc (.cells #[.int .i8 k, .slice G mg cg, .int .i8 k2, .slice G2 m2 c2] t)) := (Below.refl _ _).alloc (Nat.le_refl _) _
  obtain ⟨y0, y1, y2, y3, -⟩ := own4 (heap_new u (.cells #[.int .i8 k, .slice G mg cg, .int .i8 k2, .slice G2 m2 c2] t))
  have hon := only_setCell (only_setCell (only_trans (only_trans h.only hg2) (only_below (rb := rb) hb)) (.inr (Nat.le_of_lt hX)) (.int .i8 o) (p := ⟨X, 0, none⟩)) (.inr (Nat.le_of_lt hX)) (.slice (some ⟨u.heap.size, 0, none⟩) 2 2) (p := ⟨X, 1, none⟩)
  have hRd := rdr_far (rdr_far (heap_below hb (heap_lt hR) hR : Rdr _ rb A l.length c j2) hXr 0 (.int .i8 o)) hXr 1 (.slice (some ⟨u.heap.size, 0, none⟩) 2 2)
  have F1 := ((h.far.keep (w' := u) fun b q v hP hc => by
    rw [World.cell?_of_block (hg2.block b (Ty.cell_lt hc) (fun e => by injection e with e; omega))]; exact hc).below hb)
  have F2 := (hF.toP.mono (Q := fun b => w.heap.size < b ∧ b ≠ X) (fun b q v _ (hP : w7.heap.size ≤ b) => ⟨by omega, by omega⟩)).below hb
  refine ⟨by omega, hH.step hon hRd (by omega), set_two hbox, ?_, ?_, hon, fun r hr => h.on r (.op h0 hle hok (by rw [ho]; exact hr))⟩
  · rw [Below.heap_setCell _ _ _ _ (show w.heap.size ≠ X by omega), Below.heap_setCell _ _ _ _ (show w.heap.size ≠ X by omega)]
    exact hres
  · have F := far_two (k := o) F1 F2 (show w.heap.size < u.heap.size ∧ u.heap.size ≠ X by omega) y0 y1 y2 y3 (by rcases opK_cases l j with e | e | e | e <;> rw [ho] at e <;> omega)
    exact F.keep fun b q v hP hc => by
      rw [World.cell?_setCell_other _ _ _ _ (fun e => by injection e with e; omega), World.cell?_setCell_other _ _ _ _ (fun e => by injection e with e; omega)]
      exact hc

set_option maxHeartbeats 8000000 in
set_option maxRecDepth 100000 in
theorem whole_step (l : List W4) (A : Option Addr) (c rb i least : Nat) (w : World) (h : RdS l A c rb w i) (h4 : least ≤ 4)
    (hw : ∀ (W : World) (j q : Nat), i < j → q ≤ 4 → RdS l A c rb W j → Calls Tryz.prog 188 #[.pointer (some ⟨rb, 0, none⟩), .int .i64 q] W (RPost l A c rb W (.wh q j))) :
    Calls Tryz.prog 188 #[.pointer (some ⟨rb, 0, none⟩), .int .i64 least] w (RPost l A c rb w (.wh least i)) := by
  have CA := Lib.hid (fun (W : World) (hs : RdS l A c rb W i) => atom_any l A c rb i W hs (fun _ U hu => hw U (i + 1) 1 (by omega) (by omega) hu))
  have H := Lib.hid h
  have HWH := Lib.hid hw
  have HX0 := Lib.hid (heap_new w (.cells #[.int .i8 0, .slice none 0 0] 27))
  have HB0 := Lib.hid (show Below w.heap.size w (w.alloc (.cells #[.int .i8 0, .slice none 0 0] 27)) from (Below.refl _ _).alloc (Nat.le_refl _) _)
  clear h hw
  go_enter Tryz.func188, Tryz.ntmps188
  go_wp2_with fail
  have HS0 := Lib.hid (H.out.below HB0.out)
  have HG0 := Lib.hid (only_below (rb := rb) HB0.out)
  generalize w.alloc (.cells #[.int .i8 0, .slice none 0 0] 27) = w1 at *
  refine (CA.out _ HS0.out).mono ?_
  rintro e w2 (⟨k, kids, j, hRk, G, mg, cg, rfl, hF, hRd, hg⟩ | ⟨q, hRq, hB⟩)
  · have hjl := hRk.goes (show i ≤ l.length from H.out.le)
    have hij : i + 1 ≤ j := hjl.1
    have hjj : j ≤ l.length := hjl.2
    have hx2 := heap_grown hg (show w.heap.size ≠ rb by have := heap_lt H.out.rdr; omega) HX0.out
    have HS2 := Lib.hid (HS0.out.step hg hRd hjj)
    have HX2 := Lib.hid hx2
    have HG2 := Lib.hid (only_trans HG0.out hg)
    have HF2 := Lib.hid hF
    have HR2 := Lib.hid hRk
    clear hjl hx2 hF hRd hg hRk
    go_wp2_with fail
    have HW3 := Lib.hid (show WSt l A c rb least i w w2.heap.size k kids j G mg cg (w2.alloc (.cells #[.int .i8 k, .slice G mg cg] 27)) from by
      have hb3 : Below w2.heap.size w2 (w2.alloc (.cells #[.int .i8 k, .slice G mg cg] 27)) := (Below.refl _ _).alloc (Nat.le_refl _) _
      refine ⟨hij, HS2.out.below hb3, heap_new w2 _, heap_old HX2.out _, ?_, only_alloc HG2.out _, fun r hr => .whGo HR2.out hr⟩
      have h1 := heap_lt HX0.out
      exact (HF2.out.toP.mono (fun b o v hc (hb : w1.heap.size ≤ b) => (⟨by omega, by have := Ty.cell_lt hc; omega⟩ : w.heap.size < b ∧ b ≠ w2.heap.size))).below hb3)
    have hXn : w2.heap.size ≠ w.heap.size := by have := heap_lt HX2.out; omega
    have hXr : w2.heap.size ≠ rb := by have := heap_lt HS2.out.rdr; omega
    have hwr : w.heap.size ≠ rb := by have := heap_lt H.out.rdr; omega
    have hXg : w.heap.size < w2.heap.size := heap_lt HX2.out
    generalize w2.alloc (.cells #[.int .i8 k, .slice G mg cg] 27) = w3 at *
    clear HS2 HX2 HG2 HF2 HR2 hij hjj HX0 HB0 HS0 HG0 CA
    generalize hXX : w2.heap.size = X at *
    clear hXX
    go_loopg [9] (l.length - j) (fun g v wr => ∃ k kids j G mg cg, g = l.length - j ∧ Hid (WSt l A c rb least i w X k kids j G mg cg wr))
    case atStart => exact ⟨k, kids, j, G, mg, cg, rfl, HW3⟩
    case round =>
      obtain ⟨k, kids, j, G, mg, cg, hgk, HW⟩ := hrel
      have hs := HW.out.rd
      have hjl : j ≤ l.length := hs.le
      have CK := Lib.hid (kind2_any l A c rb j wr (Nat.le_of_lt hs.len) hs.le hs.sh hs.rdr hs.row)
      clear hs
      by_cases h0 : Rd.opK l j = 0
      · have hv : kind2V l j = .tuple #[.int .i8 0, .bool false] := by unfold kind2V; rw [if_pos h0]
        rw [hv] at CK
        have H0 := Lib.hid h0
        clear hv h0
        go_wp2_with fail
        refine CK.out.mono ?_
        rintro e w5 ⟨rfl, hb⟩
        have x5 := heap_below hb (heap_lt HW.out.box) HW.out.box
        have y5 := heap_below hb (heap_lt HW.out.res) HW.out.res
        obtain ⟨b0, b1, bf0, bf1, bl⟩ := own2 x5
        obtain ⟨d0, d1, df0, df1, dl⟩ := own2 y5
        have HB := Lib.hid hb
        clear x5 y5 hb
        go_wp2_with fail
        refine bodyPost_ret (v := .agg #[.int .i8 k, .slice G mg cg]) (by simp [results, Tryz.results188, go_sem, *]) rfl (HW.out.done HB.out hwr (.inl H0.out))
      · have hv : kind2V l j = .tuple #[.int .i8 (Rd.opK l j), .bool true] := by unfold kind2V; rw [if_neg h0]
        rw [hv] at CK
        obtain ⟨o, ho⟩ : ∃ o, o = Rd.opK l j := ⟨_, rfl⟩
        rw [← ho] at CK
        have ho3 : o = 3 ∨ o = 4 ∨ o = 5 := by
          rcases opK_cases l j with e | e | e | e
          · exact absurd e h0
          · left; omega
          · right; left; omega
          · right; right; omega
        have H0 := Lib.hid h0
        have HO := Lib.hid ho
        have hjlt := opK_lt h0
        clear hv h0 ho
        go_wp2_with fail
        refine CK.out.mono ?_
        rintro e w5 ⟨rfl, hb⟩
        have HS5 := Lib.hid (HW.out.rd.below hb)
        have x5 := heap_below hb (heap_lt HW.out.box) HW.out.box
        have y5 := heap_below hb (heap_lt HW.out.res) HW.out.res
        have hsh := HS5.out.sh
        obtain ⟨b0, b1, bf0, bf1, bl⟩ := own2 x5
        obtain ⟨d0, d1, df0, df1, dl⟩ := own2 y5
        have HX5 := Lib.hid x5
        have HB := Lib.hid hb
        obtain ⟨sl, sc⟩ := hsh
        have s15 := sc 15 _ rfl
        have s19 := sc 19 _ rfl
        have s23 := sc 23 _ rfl
        clear x5 y5 hb sc
        have HO3 := Lib.hid ho3
        have hbk : Hid (w5.cell? ⟨1, o.toNat * 4 + 3, none⟩ = some (.int .i64 (binds o))) := Lib.hid (by
          rcases HO3.out with rfl | rfl | rfl
          · exact s15
          · exact s19
          · exact s23)
        by_cases hlt : binds o < least
        · have HL := Lib.hid (show opK l j = 0 ∨ binds (opK l j) < least from .inr (by rw [← HO.out]; exact hlt))
          rcases ho3 with rfl | rfl | rfl
          · have hlt2 : (1 : Int) < least := by
              have e : binds 3 = 1 := by decide
              omega
            clear hlt hbk
            go_wp2_with fail
            refine bodyPost_ret (v := .agg #[.int .i8 k, .slice G mg cg]) (by simp [results, Tryz.results188, go_sem, *]) rfl (HW.out.done HB.out hwr HL.out)
          · have hlt2 : (3 : Int) < least := by
              have e : binds 4 = 3 := by decide
              omega
            clear hlt hbk
            go_wp2_with fail
            refine bodyPost_ret (v := .agg #[.int .i8 k, .slice G mg cg]) (by simp [results, Tryz.results188, go_sem, *]) rfl (HW.out.done HB.out hwr HL.out)
          · have hlt2 : (2 : Int) < least := by
              have e : binds 5 = 2 := by decide
              omega
            clear hlt hbk
            go_wp2_with fail
            refine bodyPost_ret (v := .agg #[.int .i8 k, .slice G mg cg]) (by simp [results, Tryz.results188, go_sem, *]) rfl (HW.out.done HB.out hwr HL.out)
        · have HL := Lib.hid (show least ≤ binds (opK l j) from by rw [← HO.out]; omega)
          have hg6 : w5.grownBy (w5.setCell ⟨rb, 1, none⟩ (.int .i64 ((j : Int) + 1))) (some rb) := only_setCell (only_refl w5 rb) (.inl rfl) _
          have hr6 := rdr_set HS5.out.rdr (j + 1)
          rw [show ((j + 1 : Nat) : Int) = (j : Int) + 1 by omega] at hr6
          have HS6 := Lib.hid (HS5.out.step hg6 hr6 (by omega))
          have HG6 := Lib.hid (only_trans (only_below HB.out) hg6)
          have HX6 := Lib.hid (heap_grown hg6 hXr HX5.out)
          clear hg6 hr6
          obtain ⟨r, hr⟩ := R.wh_total l (rgt (opK l j)) (j + 1)
          have HJ := Lib.hid (show i < j + 1 from by have := HW.out.gt; omega)
          have HRR := Lib.hid hr
          clear hr
          rcases ho3 with rfl | rfl | rfl
          · have hlt2 : (least : Int) ≤ 1 := by
              have e : binds 3 = 1 := by decide
              omega
            clear hlt hbk
            have hbX := Lib.hid s15
            obtain ⟨lf, cn⟩ := needsR_any 3 HO3.out _ HS6.out.sh
            have CN := Lib.hid (show Calls Tryz.prog 83 #[.int .i8 3] (w5.setCell ⟨rb, 1, none⟩ (.int .i64 ((j : Int) + 1))) (fun e w' => e = .returned (.tuple #[.int .i64 lf, .int .i64 1]) ∧ w' = w5.setCell ⟨rb, 1, none⟩ (.int .i64 ((j : Int) + 1))) from cn)
            clear cn
            clear s15 s19 s23 d0 d1 df0 df1
            have sX := hbX.out
            clear hbX
            go_upto_region 5 with fail
            have HGK := Lib.hid (And.intro hgk hjlt)
            clear sX hlt2 b0 b1 bf0 bf1 bl dl sl hgk hjl hjlt h4
            obtain ⟨r0, r1, rf0, rf1, rl⟩ := own2 HS5.out.rdr
            have hjj : (j : Int) + 1 ≤ 9223372036854775807 := by have := HS5.out.len; have := HS5.out.le; unfold maxLen at *; omega
            go_upto_region 6 with fail

            clear r0 r1 rf0 rf1 rl
            go_wp2_with fail
            refine CN.out.mono ?_
            rintro e w6 ⟨rfl, hw6⟩
            subst hw6
            go_upto_region 7 with fail
            generalize w5.setCell ⟨rb, 1, none⟩ (.int .i64 ((j : Int) + 1)) = w6 at *
            obtain ⟨z0, z1, zf0, zf1, zl⟩ := own2 HX6.out
            have HD := Lib.hid (Below.refl w6.heap.size w6).drew
            have hr := HRR.out
            rw [← HO.out] at hr
            clear HRR
            cases r with
            | bad q =>
              have CB := Lib.hid (fun (U : World) (hb : Below w6.heap.size w6 U) => (show Calls Tryz.prog 188 #[.pointer (some ⟨rb, 0, none⟩), .int .i64 1] U (fun e u => RBad l rb U q e u) from
                (HWH.out U (j + 1) (rgt 3) HJ.out (by decide) (HS6.out.below hb)).mono fun e u hp => by
                  rcases hp with ⟨k2, kids2, j2, hR2, -⟩ | ⟨q2, hR2, hB⟩
                  · cases hr.det hR2
                  · injection hr.det hR2 with e; subst e; exact hB))
              have HRB := Lib.hid (show R l (.wh least i) (.bad q) from HW.out.on _ (.opBad H0.out HL.out (by rw [← HO.out]; exact hr)))
              have HGB := Lib.hid (only_trans HW.out.only (only_trans HG6.out (only_below (rb := rb) HD.out)))
              clear hr
              have D0 := HD.out
              go_region_with (first
                | (go_at_call 188; (with_reducible refine (CB.out _ D0).mono ?_); rintro e u hB; have HP := Lib.hid (show RPost l A c rb w (.wh least i) e u from .inr ⟨q, HRB.out, hB.from HGB.out⟩); obtain ⟨g, rfl, -⟩ := hB; refine panic_end' (P := Tryz.prog) (w := u) ?_))
              all_goals exact ⟨rfl, HP.out⟩
            | ok k2 kids2 j2 =>
              have CB := Lib.hid (fun (U : World) (hb : Below w6.heap.size w6 U) => (show Calls Tryz.prog 188 #[.pointer (some ⟨rb, 0, none⟩), .int .i64 1] U (fun e u => ROk l A c rb U k2 kids2 j2 e u) from
                (HWH.out U (j + 1) (rgt 3) HJ.out (by decide) (HS6.out.below hb)).mono fun e u hp => by
                  rcases hp with ⟨k3, kids3, j3, hR2, hO⟩ | ⟨q2, hR2, hB⟩
                  · injection hr.det hR2 with e1 e2 e3; subst e1; subst e2; subst e3; exact hO
                  · cases hr.det hR2))
              have HNX := Lib.hid (fun (u : World) (G2 : Option Addr) (m2 c2 : Nat) (hF : Far w6.drew.heap.size u k2 kids2 G2 m2 c2) (hR : Rdr u rb A l.length c j2) (hg : w6.drew.grownBy u (some rb)) (t : TypeId) =>
                HW.out.next (only_trans HG6.out (only_below HD.out)) H.out hXg HL.out H0.out (by rw [← HO.out]; exact hr) hF hR hg 3 HO.out.symm t)
              have HGD := Lib.hid (heap_grown (only_below (rb := rb) HD.out) hXr HX6.out)
              have hj2 := hr.goes (show j + 1 ≤ l.length from HS6.out.le)
              have HJ2 := Lib.hid (show j + 1 + 1 ≤ j2 ∧ j2 ≤ l.length from hj2)
              have HR := Lib.hid hr
              clear hr hj2
              go_region_law (first
                | (go_simp; go_at_call 188; (with_reducible refine (CB.out _ HD.out).mono ?_); rintro e u ⟨G2, m2, c2, rfl, hF, hR, hg⟩; have FIN := Lib.hid (HNX.out u G2 m2 c2 hF hR hg); obtain ⟨q0, q1, qf0, qf1, ql⟩ := own2 (heap_grown hg hXr HGD.out); clear hF hR hg; go_wp2_with fail))
              all_goals
                go_wp2_with fail
                go_roundg (l.length - j2)
                case measure => have := HJ2.out; have := HGK.out; omega
                case rel => exact ⟨_, _, _, _, _, _, rfl, Lib.hid (FIN.out _)⟩
          · have hlt2 : (least : Int) ≤ 3 := by
              have e : binds 4 = 3 := by decide
              omega
            clear hlt hbk
            have hbX := Lib.hid s19
            obtain ⟨lf, cn⟩ := needsR_any 4 HO3.out _ HS6.out.sh
            have CN := Lib.hid (show Calls Tryz.prog 83 #[.int .i8 4] (w5.setCell ⟨rb, 1, none⟩ (.int .i64 ((j : Int) + 1))) (fun e w' => e = .returned (.tuple #[.int .i64 lf, .int .i64 4]) ∧ w' = w5.setCell ⟨rb, 1, none⟩ (.int .i64 ((j : Int) + 1))) from cn)
            clear cn
            clear s15 s19 s23 d0 d1 df0 df1
            have sX := hbX.out
            clear hbX
            go_upto_region 5 with fail
            have HGK := Lib.hid (And.intro hgk hjlt)
            clear sX hlt2 b0 b1 bf0 bf1 bl dl sl hgk hjl hjlt h4
            obtain ⟨r0, r1, rf0, rf1, rl⟩ := own2 HS5.out.rdr
            have hjj : (j : Int) + 1 ≤ 9223372036854775807 := by have := HS5.out.len; have := HS5.out.le; unfold maxLen at *; omega
            go_upto_region 6 with fail

            clear r0 r1 rf0 rf1 rl
            go_wp2_with fail
            refine CN.out.mono ?_
            rintro e w6 ⟨rfl, hw6⟩
            subst hw6
            go_upto_region 7 with fail
            generalize w5.setCell ⟨rb, 1, none⟩ (.int .i64 ((j : Int) + 1)) = w6 at *
            obtain ⟨z0, z1, zf0, zf1, zl⟩ := own2 HX6.out
            have HD := Lib.hid (Below.refl w6.heap.size w6).drew
            have hr := HRR.out
            rw [← HO.out] at hr
            clear HRR
            cases r with
            | bad q =>
              have CB := Lib.hid (fun (U : World) (hb : Below w6.heap.size w6 U) => (show Calls Tryz.prog 188 #[.pointer (some ⟨rb, 0, none⟩), .int .i64 4] U (fun e u => RBad l rb U q e u) from
                (HWH.out U (j + 1) (rgt 4) HJ.out (by decide) (HS6.out.below hb)).mono fun e u hp => by
                  rcases hp with ⟨k2, kids2, j2, hR2, -⟩ | ⟨q2, hR2, hB⟩
                  · cases hr.det hR2
                  · injection hr.det hR2 with e; subst e; exact hB))
              have HRB := Lib.hid (show R l (.wh least i) (.bad q) from HW.out.on _ (.opBad H0.out HL.out (by rw [← HO.out]; exact hr)))
              have HGB := Lib.hid (only_trans HW.out.only (only_trans HG6.out (only_below (rb := rb) HD.out)))
              clear hr
              have D0 := HD.out
              go_region_with (first
                | (go_at_call 188; (with_reducible refine (CB.out _ D0).mono ?_); rintro e u hB; have HP := Lib.hid (show RPost l A c rb w (.wh least i) e u from .inr ⟨q, HRB.out, hB.from HGB.out⟩); obtain ⟨g, rfl, -⟩ := hB; refine panic_end' (P := Tryz.prog) (w := u) ?_))
              all_goals exact ⟨rfl, HP.out⟩
            | ok k2 kids2 j2 =>
              have CB := Lib.hid (fun (U : World) (hb : Below w6.heap.size w6 U) => (show Calls Tryz.prog 188 #[.pointer (some ⟨rb, 0, none⟩), .int .i64 4] U (fun e u => ROk l A c rb U k2 kids2 j2 e u) from
                (HWH.out U (j + 1) (rgt 4) HJ.out (by decide) (HS6.out.below hb)).mono fun e u hp => by
                  rcases hp with ⟨k3, kids3, j3, hR2, hO⟩ | ⟨q2, hR2, hB⟩
                  · injection hr.det hR2 with e1 e2 e3; subst e1; subst e2; subst e3; exact hO
                  · cases hr.det hR2))
              have HNX := Lib.hid (fun (u : World) (G2 : Option Addr) (m2 c2 : Nat) (hF : Far w6.drew.heap.size u k2 kids2 G2 m2 c2) (hR : Rdr u rb A l.length c j2) (hg : w6.drew.grownBy u (some rb)) (t : TypeId) =>
                HW.out.next (only_trans HG6.out (only_below HD.out)) H.out hXg HL.out H0.out (by rw [← HO.out]; exact hr) hF hR hg 4 HO.out.symm t)
              have HGD := Lib.hid (heap_grown (only_below (rb := rb) HD.out) hXr HX6.out)
              have hj2 := hr.goes (show j + 1 ≤ l.length from HS6.out.le)
              have HJ2 := Lib.hid (show j + 1 + 1 ≤ j2 ∧ j2 ≤ l.length from hj2)
              have HR := Lib.hid hr
              clear hr hj2
              go_region_law (first
                | (go_simp; go_at_call 188; (with_reducible refine (CB.out _ HD.out).mono ?_); rintro e u ⟨G2, m2, c2, rfl, hF, hR, hg⟩; have FIN := Lib.hid (HNX.out u G2 m2 c2 hF hR hg); obtain ⟨q0, q1, qf0, qf1, ql⟩ := own2 (heap_grown hg hXr HGD.out); clear hF hR hg; go_wp2_with fail))
              all_goals
                go_wp2_with fail
                go_roundg (l.length - j2)
                case measure => have := HJ2.out; have := HGK.out; omega
                case rel => exact ⟨_, _, _, _, _, _, rfl, Lib.hid (FIN.out _)⟩
          · have hlt2 : (least : Int) ≤ 2 := by
              have e : binds 5 = 2 := by decide
              omega
            clear hlt hbk
            have hbX := Lib.hid s23
            obtain ⟨lf, cn⟩ := needsR_any 5 HO3.out _ HS6.out.sh
            have CN := Lib.hid (show Calls Tryz.prog 83 #[.int .i8 5] (w5.setCell ⟨rb, 1, none⟩ (.int .i64 ((j : Int) + 1))) (fun e w' => e = .returned (.tuple #[.int .i64 lf, .int .i64 3]) ∧ w' = w5.setCell ⟨rb, 1, none⟩ (.int .i64 ((j : Int) + 1))) from cn)
            clear cn
            clear s15 s19 s23 d0 d1 df0 df1
            have sX := hbX.out
            clear hbX
            go_upto_region 5 with fail
            have HGK := Lib.hid (And.intro hgk hjlt)
            clear sX hlt2 b0 b1 bf0 bf1 bl dl sl hgk hjl hjlt h4
            obtain ⟨r0, r1, rf0, rf1, rl⟩ := own2 HS5.out.rdr
            have hjj : (j : Int) + 1 ≤ 9223372036854775807 := by have := HS5.out.len; have := HS5.out.le; unfold maxLen at *; omega
            go_upto_region 6 with fail

            clear r0 r1 rf0 rf1 rl
            go_wp2_with fail
            refine CN.out.mono ?_
            rintro e w6 ⟨rfl, hw6⟩
            subst hw6
            go_upto_region 7 with fail
            generalize w5.setCell ⟨rb, 1, none⟩ (.int .i64 ((j : Int) + 1)) = w6 at *
            obtain ⟨z0, z1, zf0, zf1, zl⟩ := own2 HX6.out
            have HD := Lib.hid (Below.refl w6.heap.size w6).drew
            have hr := HRR.out
            rw [← HO.out] at hr
            clear HRR
            cases r with
            | bad q =>
              have CB := Lib.hid (fun (U : World) (hb : Below w6.heap.size w6 U) => (show Calls Tryz.prog 188 #[.pointer (some ⟨rb, 0, none⟩), .int .i64 3] U (fun e u => RBad l rb U q e u) from
                (HWH.out U (j + 1) (rgt 5) HJ.out (by decide) (HS6.out.below hb)).mono fun e u hp => by
                  rcases hp with ⟨k2, kids2, j2, hR2, -⟩ | ⟨q2, hR2, hB⟩
                  · cases hr.det hR2
                  · injection hr.det hR2 with e; subst e; exact hB))
              have HRB := Lib.hid (show R l (.wh least i) (.bad q) from HW.out.on _ (.opBad H0.out HL.out (by rw [← HO.out]; exact hr)))
              have HGB := Lib.hid (only_trans HW.out.only (only_trans HG6.out (only_below (rb := rb) HD.out)))
              clear hr
              have D0 := HD.out
              go_region_with (first
                | (go_at_call 188; (with_reducible refine (CB.out _ D0).mono ?_); rintro e u hB; have HP := Lib.hid (show RPost l A c rb w (.wh least i) e u from .inr ⟨q, HRB.out, hB.from HGB.out⟩); obtain ⟨g, rfl, -⟩ := hB; refine panic_end' (P := Tryz.prog) (w := u) ?_))
              all_goals exact ⟨rfl, HP.out⟩
            | ok k2 kids2 j2 =>
              have CB := Lib.hid (fun (U : World) (hb : Below w6.heap.size w6 U) => (show Calls Tryz.prog 188 #[.pointer (some ⟨rb, 0, none⟩), .int .i64 3] U (fun e u => ROk l A c rb U k2 kids2 j2 e u) from
                (HWH.out U (j + 1) (rgt 5) HJ.out (by decide) (HS6.out.below hb)).mono fun e u hp => by
                  rcases hp with ⟨k3, kids3, j3, hR2, hO⟩ | ⟨q2, hR2, hB⟩
                  · injection hr.det hR2 with e1 e2 e3; subst e1; subst e2; subst e3; exact hO
                  · cases hr.det hR2))
              have HNX := Lib.hid (fun (u : World) (G2 : Option Addr) (m2 c2 : Nat) (hF : Far w6.drew.heap.size u k2 kids2 G2 m2 c2) (hR : Rdr u rb A l.length c j2) (hg : w6.drew.grownBy u (some rb)) (t : TypeId) =>
                HW.out.next (only_trans HG6.out (only_below HD.out)) H.out hXg HL.out H0.out (by rw [← HO.out]; exact hr) hF hR hg 5 HO.out.symm t)
              have HGD := Lib.hid (heap_grown (only_below (rb := rb) HD.out) hXr HX6.out)
              have hj2 := hr.goes (show j + 1 ≤ l.length from HS6.out.le)
              have HJ2 := Lib.hid (show j + 1 + 1 ≤ j2 ∧ j2 ≤ l.length from hj2)
              have HR := Lib.hid hr
              clear hr hj2
              go_region_law (first
                | (go_simp; go_at_call 188; (with_reducible refine (CB.out _ HD.out).mono ?_); rintro e u ⟨G2, m2, c2, rfl, hF, hR, hg⟩; have FIN := Lib.hid (HNX.out u G2 m2 c2 hF hR hg); obtain ⟨q0, q1, qf0, qf1, ql⟩ := own2 (heap_grown hg hXr HGD.out); clear hF hR hg; go_wp2_with fail))
              all_goals
                go_wp2_with fail
                go_roundg (l.length - j2)
                case measure => have := HJ2.out; have := HGK.out; omega
                case rel => exact ⟨_, _, _, _, _, _, rfl, Lib.hid (FIN.out _)⟩
  · have HP := Lib.hid (show RPost l A c rb w (.wh least i) e w2 from .inr ⟨q, .whBad hRq, hB.from HG0.out⟩)
    obtain ⟨g, rfl, -⟩ := hB
    exact ⟨rfl, HP.out⟩

theorem whole_lt (l : List W4) (A : Option Addr) (c rb : Nat) : ∀ (n least i : Nat) (w : World), l.length - i < n → least ≤ 4 → RdS l A c rb w i →
    Calls Tryz.prog 188 #[.pointer (some ⟨rb, 0, none⟩), .int .i64 least] w (RPost l A c rb w (.wh least i))
  | 0, _, _, _, h, _, _ => absurd h (by omega)
  | n + 1, least, i, w, hn, h4, h => whole_step l A c rb i least w h h4 fun W j q hj hq hs => whole_lt l A c rb n q j W (by have := hs.le; omega) hq hs
/-- whole reads by the grammar, to its end or to the word that can't stand there -/
theorem whole_any (l : List W4) (A : Option Addr) (c rb least i : Nat) (w : World) (h4 : least ≤ 4) (h : RdS l A c rb w i) :
    Calls Tryz.prog 188 #[.pointer (some ⟨rb, 0, none⟩), .int .i64 least] w (RPost l A c rb w (.wh least i)) :=
  whole_lt l A c rb _ least i w (Nat.lt_succ_self _) h4 h
end Go.Proofs.YtocehfklacjgbaaGreatDoor
namespace Go.Proofs.YtocehfklacjgbaaGreatDoor
open Go.RowKit Rd

theorem asFault (p : Option Addr) (w : World) : (Instr.typeAssert (.iface 65 (.pointer p)) 20 65 true).run Tryz.prog w = .ok (.tuple #[.pointer p, .bool true]) w := by kernel_rfl
theorem asNone (w : World) : (Instr.typeAssert .nilIface 20 65 true).run Tryz.prog w = .ok (.tuple #[.pointer none, .bool false]) w := by kernel_rfl

set_option maxHeartbeats 4000000 in
set_option maxRecDepth 100000 in
theorem catch_fault (P Q R : Nat) (g : Addr) (x0 x1 y z : Value) (w : World) (h0 : w.cell? ⟨P, 0, none⟩ = some x0) (h1 : w.cell? ⟨P, 1, none⟩ = some x1) (hq : w.cell? ⟨Q, 0, none⟩ = some y) (hr : w.cell? ⟨R, 0, none⟩ = some z)
    (hPQ : P ≠ Q) (hPR : P ≠ R) (hQR : Q ≠ R) (f0 : w.frozen? ⟨P, 0, none⟩ = false) (f1 : w.frozen? ⟨P, 1, none⟩ = false) (fq : w.frozen? ⟨Q, 0, none⟩ = false) (fr : w.frozen? ⟨R, 0, none⟩ = false) :
    CallsD Tryz.prog 187 #[.pointer (some ⟨P, 0, none⟩), .pointer (some ⟨Q, 0, none⟩), .pointer (some ⟨R, 0, none⟩)] (.panicking [{ v := .iface 65 (.pointer (some g)), recovered := false }]) w fun e u' w' =>
      e = .returned (.tuple #[]) ∧ u' = .panicking [{ v := .iface 65 (.pointer (some g)), recovered := true }] ∧ w' = (((w.setCell ⟨P, 0, none⟩ (.int .i8 0)).setCell ⟨P, 1, none⟩ (.slice none 0 0)).setCell ⟨Q, 0, none⟩ (.int .i64 0)).setCell ⟨R, 0, none⟩ (.iface 65 (.pointer (some g))) := by
  have e1 := asFault
  have k1 : (w.setCell ⟨P, 0, none⟩ (.int .i8 0)).cell? ⟨P, 1, none⟩ = some x1 := by
    rw [World.cell?_setCell_other _ _ _ _ (fun e => by injection e with e1 e2; omega)]; exact h1
  have kq : ((w.setCell ⟨P, 0, none⟩ (.int .i8 0)).setCell ⟨P, 1, none⟩ (.slice none 0 0)).cell? ⟨Q, 0, none⟩ = some y := by
    rw [World.cell?_setCell_other _ _ _ _ (fun e => by injection e with e1 e2; omega), World.cell?_setCell_other _ _ _ _ (fun e => by injection e with e1 e2; omega)]; exact hq
  have kr : (((w.setCell ⟨P, 0, none⟩ (.int .i8 0)).setCell ⟨P, 1, none⟩ (.slice none 0 0)).setCell ⟨Q, 0, none⟩ (.int .i64 0)).cell? ⟨R, 0, none⟩ = some z := by
    rw [World.cell?_setCell_other _ _ _ _ (fun e => by injection e with e1 e2; omega), World.cell?_setCell_other _ _ _ _ (fun e => by injection e with e1 e2; omega), World.cell?_setCell_other _ _ _ _ (fun e => by injection e with e1 e2; omega)]; exact hr
  refine callsD_of_wpS Tryz.func187 rfl fun c₀ cs hu => ?_
  apply wpS_seq
  apply wpS_region
  simp [wpOpsS, go_sem, recoverD, hu, Tryz.ntmps187, Exit.thenS]
  refine wpS_of_wp ?_
  change Code.wp _ _ _ { tmps := #[.pointer (some ⟨P, 0, none⟩), .pointer (some ⟨Q, 0, none⟩), .pointer (some ⟨R, 0, none⟩), .iface 65 (.pointer (some g)), undef, undef, .iface 65 (.pointer (some g)), undef, undef, undef, undef, undef, undef, undef, undef, undef, undef, undef, undef], defers := [] } w
  clear hu
  go_wp2_with fail
  exact ⟨rfl, _, rfl, .tuple #[], by simp [results, Tryz.results187], rfl, rfl, rfl⟩

set_option maxHeartbeats 4000000 in
set_option maxRecDepth 100000 in
theorem catch_none (p q r : Addr) (w : World) :
    CallsD Tryz.prog 187 #[.pointer (some p), .pointer (some q), .pointer (some r)] .returning w fun e u' w' => e = .returned (.tuple #[]) ∧ u' = .returning ∧ w' = w := by
  have e1 := asNone
  have e2 := neqNone
  refine callsD_of_wpS Tryz.func187 rfl fun c₀ cs hu => ?_
  apply wpS_seq
  apply wpS_region
  simp [wpOpsS, go_sem, recoverD, hu, Tryz.ntmps187, Exit.thenS]
  refine wpS_of_wp ?_
  change Code.wp _ _ _ { tmps := #[.pointer (some p), .pointer (some q), .pointer (some r), .nilIface, undef, undef, .nilIface, undef, undef, undef, undef, undef, undef, undef, undef, undef, undef, undef, undef], defers := [] } w
  go_wp2_with fail
  exact ⟨rfl, .returning, by cases c₀; simp_all, .tuple #[], by simp [results, Tryz.results187], rfl, rfl, rfl⟩
end Go.Proofs.YtocehfklacjgbaaGreatDoor
