/-
  The reader of words as a type: its word at hand.
-/
import Derived.Test.YtkpdddlonmkebaaDoorRd0
import Derived.Test.YtkpdddlonmkebaaDoorMem
import Derived.Test.YtkpdddlonmkebaaDoorMeasure
import Derived.Test.YtkpdddlonmkebaaDoorFormed
import Derived.Test.YtkpdddlonmkebaaDoorWord
import Derived.BigQuiet
import Derived.Deep.QuietTactic
import Derived.Deep.RegionLaw
import Derived.StillTailTactics
import Derived.IntWalk
import Derived.Deep.DeepCutAuto
namespace Go.Proofs.YtkpdddlonmkebaaDoor
open Go.RowKit Rd

/-- words in memory -/
def WRow (w : World) (A : Option Addr) (l : List W4) : Prop := ∀ (i : Nat) (x : W4), l[i]? = some x → ∃ g o, A = some ⟨g, o, none⟩ ∧ w.cell? ⟨g, o + i * 4, none⟩ = some (.int .i8 x.kind) ∧ w.cell? ⟨g, o + i * 4 + 1, none⟩ = some (.string x.text) ∧ w.cell? ⟨g, o + i * 4 + 2, none⟩ = some (.int .i64 x.num) ∧ w.cell? ⟨g, o + i * 4 + 3, none⟩ = some (.int .i64 x.pos)
/-- the reader's block -/
def Rdr (w : World) (rb : Nat) (A : Option Addr) (n c i : Nat) : Prop := w.heap[rb]? = some (.cells #[.slice A n c, .int .i64 i] 56 (0, 0))
theorem WRow.grown {w w' : World} {A : Option Addr} {l : List W4} {rb : Nat} (h : WRow w A l) (hne : ∀ g o, A = some ⟨g, o, none⟩ → l ≠ [] → g ≠ rb) (hg : w.grownBy w' (some rb)) : WRow w' A l := fun i x hx => by
  obtain ⟨g, o, e, h0, h1, h2, h3⟩ := h i x hx
  have hc := fun (q : Nat) => World.cell?_of_block (w := w) (w' := w') (a := ⟨g, q, none⟩) (hg.block g (Ty.cell_lt h0) (fun z => hne g o e (by rintro rfl; cases hx) (by injection z)))
  exact ⟨g, o, e, by rw [hc]; exact h0, by rw [hc]; exact h1, by rw [hc]; exact h2, by rw [hc]; exact h3⟩

theorem WRow.lt {w : World} {A : Option Addr} {l : List W4} (h : WRow w A l) : ∀ g o, A = some ⟨g, o, none⟩ → l ≠ [] → g < w.heap.size := by
  intro g o e hne
  cases l with
  | nil => exact absurd rfl hne
  | cons x r =>
    obtain ⟨g', o', e', h0, -⟩ := h 0 x rfl
    rw [e] at e'; injection e' with e'; injection e' with e1 e2; subst e1
    exact Ty.cell_lt h0

set_option maxHeartbeats 4000000 in
set_option maxRecDepth 100000 in
theorem sees_any (l : List W4) (A : Option Addr) (c rb i : Nat) (k : Int) (s : ByteArray) (w : World) (hl : l.length ≤ maxLen) (hi : i ≤ l.length) (hR : Rdr w rb A l.length c i) (hW : WRow w A l) :
    Calls Tryd.prog 60 #[.pointer (some ⟨rb, 0, none⟩), .int .i8 k, .string s] w fun e w' => e = .returned (.bool (Rd.sees l i k s.toList)) ∧ ∃ m, w' = w.drewN m := by
  obtain ⟨r0, r1, -, -, hrl⟩ := own2 hR
  obtain ⟨n, hn⟩ : ∃ n, n = l.length := ⟨_, rfl⟩
  rw [← hn] at hl hi r0
  have i5 : (n : Int) ≤ 9223372036854775807 := by unfold maxLen at hl; omega
  by_cases hin : i < n
  · obtain ⟨x, hx⟩ : ∃ x, l[i]? = some x := ⟨l[i]'(by omega), List.getElem?_eq_getElem _⟩
    obtain ⟨g, o, hA, h0, h1, -, -⟩ := hW i x hx
    have hs : Rd.sees l i k s.toList = (x.kind == k && x.text.toList == s.toList) := by unfold Rd.sees; rw [hx]
    rw [hs]
    have j1 : (i : Int) < n := by omega
    have j2 : (0 : Int) ≤ i ∧ (i : Int) < n := by omega
    clear hs hx hW hR hn
    obtain rfl := hA
    cases hk : (x.kind == k)
    · go_enter Tryd.func60, Tryd.ntmps60
      go_wp2_with fail
      go_quiet (fail)
      go_wp2_with fail
      go_ret
      exact ⟨rfl, nq, rfl⟩
    · cases ht : (x.text.toList == s.toList)
      all_goals
        go_enter Tryd.func60, Tryd.ntmps60
        go_wp2_with fail
        go_quiet (fail)
        go_wp2_with fail
        go_ret
        exact ⟨rfl, nq, rfl⟩
  · have hs : Rd.sees l i k s.toList = false := by unfold Rd.sees; rw [List.getElem?_eq_none (by omega)]
    rw [hs]
    have hz : decide ((i : Int) < n) = false := by simp; omega
    clear hs hW hR hn
    go_enter Tryd.func60, Tryd.ntmps60
    go_wp2_with fail
    go_quiet (fail)
    go_wp2_with fail
    go_ret
    exact ⟨rfl, nq, rfl⟩

namespace Rd
/-- where a fault at the i-th word stands, and its word -/
def fAt (l : List W4) (i : Nat) : Int := match l[i]? with
  | some x => x.pos
  | none => if 0 < i then (match l[i - 1]? with | some x => wrap64 (x.pos + (x.text.size : Int)) | none => 0) else 0
def fWord (l : List W4) (i : Nat) : ByteArray := match l[i]? with
  | some x => x.text
  | none => ⟨#[]⟩
end Rd
/-- a fault, in new memory -/
def FaultPost (l : List W4) (i : Nat) (w : World) (e : Ending) (w' : World) : Prop :=
  ∃ g, e = .returned (.pointer (some ⟨g, 0, none⟩)) ∧ w'.heap[g]? = some (.cells #[.int .i64 40, .int .i64 (Rd.fAt l i), .string (Rd.fWord l i)] 59 (0, 0)) ∧ w.heap.size ≤ g ∧ Below w.heap.size w w'
theorem own3' {w : World} {b : Nat} {v0 v1 v2 : Value} {t : TypeId} (h : w.heap[b]? = some (.cells #[v0, v1, v2] t (0, 0))) :
    w.cell? ⟨b, 0, none⟩ = some v0 ∧ w.cell? ⟨b, 1, none⟩ = some v1 ∧ w.cell? ⟨b, 2, none⟩ = some v2 ∧ w.frozen? ⟨b, 0, none⟩ = false ∧ w.frozen? ⟨b, 1, none⟩ = false ∧ w.frozen? ⟨b, 2, none⟩ = false ∧ b < w.heap.size := by
  refine ⟨?_, ?_, ?_, ?_, ?_, ?_, heap_lt h⟩ <;> simp [World.cell?, World.frozen?, h]

set_option maxHeartbeats 4000000 in
set_option maxRecDepth 100000 in
theorem fault_any (l : List W4) (A : Option Addr) (c rb i : Nat) (w : World) (hl : l.length ≤ maxLen) (hi : i ≤ l.length) (hsm : ∀ x ∈ l, x.text.size ≤ 281474976710656) (hR : Rdr w rb A l.length c i) (hW : WRow w A l) :
    Calls Tryd.prog 77 #[.pointer (some ⟨rb, 0, none⟩)] w (FaultPost l i w) := by
  have hb0 : Below w.heap.size w (w.alloc (.cells #[.int .i64 40, .int .i64 0, .string ⟨#[]⟩] 59)) := (Below.refl _ _).alloc (Nat.le_refl _) _
  have HX := Lib.hid (heap_new w (.cells #[.int .i64 40, .int .i64 0, .string ⟨#[]⟩] 59))
  have hR1 := heap_old hR (.cells #[.int .i64 40, .int .i64 0, .string ⟨#[]⟩] 59)
  obtain ⟨r0, r1, -, -, hrl⟩ := own2 hR1
  have HR1 := Lib.hid hR1
  have HB0 := Lib.hid hb0
  obtain ⟨n, hn⟩ : ∃ n, n = l.length := ⟨_, rfl⟩
  rw [← hn] at hl hi r0
  have i5 : (n : Int) ≤ 9223372036854775807 := by unfold maxLen at hl; omega
  by_cases hin : i < n
  · obtain ⟨x, hx⟩ : ∃ x, l[i]? = some x := ⟨l[i]'(by omega), List.getElem?_eq_getElem _⟩
    obtain ⟨g, o, hA, h0, h1, h2, h3⟩ := hW i x hx
    have ea : Rd.fAt l i = x.pos := by unfold Rd.fAt; rw [hx]
    have ew : Rd.fWord l i = x.text := by unfold Rd.fWord; rw [hx]
    have CN := Lib.hid (fun (W : World) => clone_any x.text (hsm x (List.mem_of_getElem? hx)) W)
    unfold FaultPost
    rw [ea, ew]
    have j1 : (i : Int) < n := by omega
    have j2 : (0 : Int) ≤ i ∧ (i : Int) < n := by omega
    have hc := fun (q : Nat) (v : Value) (h : w.cell? ⟨g, q, none⟩ = some v) => (show (w.alloc (.cells #[.int .i64 40, .int .i64 0, .string ⟨#[]⟩] 59)).cell? ⟨g, q, none⟩ = some v by rw [hb0.cell (p := ⟨g, q, none⟩) (Ty.cell_lt h)]; exact h)
    have g0 := hc _ _ h0
    have g1 := hc _ _ h1
    have g2 := hc _ _ h2
    have g3 := hc _ _ h3
    clear ea ew hx hW hR hn hR1 hb0 hc h0 h1 h2 h3 hsm
    obtain rfl := hA
    generalize hw1 : w.alloc (.cells #[.int .i64 40, .int .i64 0, .string ⟨#[]⟩] 59) = w1 at *
    have HW := Lib.hid hw1
    clear hw1
    go_enter Tryd.func77, Tryd.ntmps77
    go_wp2_with fail
    rw [HW.out]
    go_quiet (fail)
    go_wp2_with fail
    have HX2 : Hid ((w1.drewN nq).heap[w.heap.size]? = _) := Lib.hid HX.out
    have HB2 := Lib.hid (below_drewN HB0.out nq)
    have p0 : (w1.drewN nq).cell? ⟨rb, 0, none⟩ = _ := r0
    have p1 : (w1.drewN nq).cell? ⟨rb, 1, none⟩ = _ := r1
    have q0 : (w1.drewN nq).cell? ⟨g, o + i * 4, none⟩ = _ := g0
    have q1 : (w1.drewN nq).cell? ⟨g, o + i * 4 + 1, none⟩ = _ := g1
    have q2 : (w1.drewN nq).cell? ⟨g, o + i * 4 + 2, none⟩ = _ := g2
    have q3 : (w1.drewN nq).cell? ⟨g, o + i * 4 + 3, none⟩ = _ := g3
    clear r0 r1 g0 g1 g2 g3 HX HB0 HW HR1 hrl
    generalize w1.drewN nq = w2 at *
    have bl := heap_lt HX2.out
    have gl := Ty.cell_lt q0
    have rl := Ty.cell_lt p0
    go_cut [4] (fun s4 wx => ∃ X, s4 = .pointer (some ⟨X, 0, none⟩) ∧ wx.heap[X]? = some (.cells #[.int .i8 x.kind, .string x.text, .int .i64 x.num, .int .i64 x.pos] 26 (0, 0)) ∧ X ≠ w.heap.size ∧ Below w2.heap.size w2 wx)
    case first =>
      go_region_law (fail)
      all_goals
        go_wp2_with fail
        go_meet
        exact ⟨_, rfl, heap_new _ _, by omega, ((Below.refl _ _).alloc (Nat.le_refl _) _).drew⟩
    case rest =>
      obtain ⟨X, rfl, hX, hne, hb⟩ := hcut
      have hF := heap_below hb bl HX2.out
      obtain ⟨y0, y1, y2, y3, -, -, -, -, yl⟩ := own4 hX
      obtain ⟨f0, f1, f2, z0, z1, z2, fl⟩ := own3' hF
      have HXX := Lib.hid hX
      have HFF := Lib.hid hF
      have HB3 := Lib.hid (HB2.out.trans (hb.mono HB2.out.size))
      clear hX hF hb p0 p1 q0 q1 q2 q3
      go_wp2_with fail
      go_region_law (first
        | (go_simp; go_at_call 76; (with_reducible refine (CN.out _).mono ?_); rintro e u ⟨rfl, hb⟩; have XU := heap_below hb (show X < wc.drew.heap.size from yl) (show wc.drew.heap[X]? = _ from HXX.out); have FU := heap_below hb (show w.heap.size < wc.drew.heap.size from fl) (show wc.drew.heap[w.heap.size]? = _ from HFF.out); obtain ⟨v0, v1, v2, v3, -, -, -, -, vl⟩ := own4 XU; obtain ⟨k0, k1, k2, m0, m1, m2, kl⟩ := own3' FU; have FUU := Lib.hid FU; have HB4 := Lib.hid (HB3.out.drew.trans (hb.mono HB3.out.drew.size)); clear XU FU hb; go_wp2_with fail))
      all_goals
        go_wp2_with fail
        go_ret
        refine ⟨w.heap.size, rfl, ?_, Nat.le_refl _, (HB4.out.setCell (p := ⟨w.heap.size, _, none⟩) (Nat.le_refl _) _).setCell (p := ⟨w.heap.size, _, none⟩) (Nat.le_refl _) _⟩
        simp [World.setCell, Array.getElem?_modify, FUU.out]
  · have hi2 : i = n := by omega
    subst hi2
    have ex : l[i]? = none := List.getElem?_eq_none (by omega)
    have ew : Rd.fWord l i = ⟨#[]⟩ := by unfold Rd.fWord; rw [ex]
    unfold FaultPost
    rw [ew]
    have hz : decide ((i : Int) < i) = false := by simp
    by_cases hi0 : i = 0
    · have ea : Rd.fAt l i = 0 := by unfold Rd.fAt; rw [ex]; simp [hi0]
      rw [ea]
      have j0 : ¬ ((0 : Int) < i) := by omega
      clear ea ew ex hW hR hn hR1 hb0 hsm hi0
      generalize hw1 : w.alloc (.cells #[.int .i64 40, .int .i64 0, .string ⟨#[]⟩] 59) = w1 at *
      have HW := Lib.hid hw1
      clear hw1
      go_enter Tryd.func77, Tryd.ntmps77
      go_wp2_with fail
      rw [HW.out]
      go_quiet (fail)
      go_wp2_with fail
      go_ret
      exact ⟨w.heap.size, rfl, HX.out, Nat.le_refl _, below_drewN HB0.out nq⟩
    · obtain ⟨x, hx⟩ : ∃ x, l[i - 1]? = some x := ⟨l[i - 1]'(by omega), List.getElem?_eq_getElem _⟩
      have ea : Rd.fAt l i = wrap64 (x.pos + (x.text.size : Int)) := by unfold Rd.fAt; rw [ex]; simp only; rw [if_pos (by omega), hx]
      rw [ea]
      obtain ⟨m, rfl⟩ : ∃ m, i = m + 1 := ⟨i - 1, by omega⟩
      rw [Nat.add_sub_cancel] at hx
      obtain ⟨g, o, hA, h0, h1, h2, h3⟩ := hW m x hx
      have hc := fun (q : Nat) (v : Value) (h : w.cell? ⟨g, q, none⟩ = some v) => (show (w.alloc (.cells #[.int .i64 40, .int .i64 0, .string ⟨#[]⟩] 59)).cell? ⟨g, q, none⟩ = some v by rw [hb0.cell (p := ⟨g, q, none⟩) (Ty.cell_lt h)]; exact h)
      have g0 := hc _ _ h0
      have g1 := hc _ _ h1
      have g2 := hc _ _ h2
      have g3 := hc _ _ h3
      have hcast : ((m + 1 : Nat) : Int) = (m : Int) + 1 := by omega
      rw [hcast] at *
      have j1 : (0 : Int) < (m : Int) + 1 := by omega
      have j2 : (0 : Int) ≤ m ∧ (m : Int) < (m : Int) + 1 := by omega
      have j3 : (m : Int) + 1 ≤ 9223372036854775807 := by omega
      clear ea ew ex hx hW hR hn hR1 hb0 hsm hi0 hc h0 h1 h2 h3 hcast
      obtain rfl := hA
      generalize hw1 : w.alloc (.cells #[.int .i64 40, .int .i64 0, .string ⟨#[]⟩] 59) = w1 at *
      have HW := Lib.hid hw1
      clear hw1
      go_enter Tryd.func77, Tryd.ntmps77
      go_wp2_with fail
      rw [HW.out]
      go_quiet (fail)
      have HX2 : Hid ((w1.drewN nq).heap[w.heap.size]? = _) := Lib.hid HX.out
      have HB2 := Lib.hid (below_drewN HB0.out nq)
      have p0 : (w1.drewN nq).cell? ⟨rb, 0, none⟩ = _ := r0
      have p1 : (w1.drewN nq).cell? ⟨rb, 1, none⟩ = _ := r1
      have q0 : (w1.drewN nq).cell? ⟨g, o + m * 4, none⟩ = _ := g0
      have q1 : (w1.drewN nq).cell? ⟨g, o + m * 4 + 1, none⟩ = _ := g1
      have q2 : (w1.drewN nq).cell? ⟨g, o + m * 4 + 2, none⟩ = _ := g2
      have q3 : (w1.drewN nq).cell? ⟨g, o + m * 4 + 3, none⟩ = _ := g3
      clear r0 r1 g0 g1 g2 g3 HX HB0 HW HR1 hrl
      generalize w1.drewN nq = w2 at *
      have bl := heap_lt HX2.out
      have gl := Ty.cell_lt q0
      have rl := Ty.cell_lt p0
      have hs : IntKind.i64.wrap (m : Int) = (m : Int) := IntWalk.i64_in _ (by omega)
      go_wp2_with fail
      go_cut [5] (fun s4 wx => ∃ X, s4 = .pointer (some ⟨X, 0, none⟩) ∧ wx.heap[X]? = some (.cells #[.int .i8 x.kind, .string x.text, .int .i64 x.num, .int .i64 x.pos] 26 (0, 0)) ∧ X ≠ w.heap.size ∧ Below w2.heap.size w2 wx)
      case first =>
        go_region_law (fail)
        all_goals
          go_wp2_with fail
          go_meet
          exact ⟨_, rfl, heap_new _ _, by omega, ((Below.refl _ _).alloc (Nat.le_refl _) _).drew⟩
      case rest =>
        obtain ⟨X, rfl, hX, hne, hb⟩ := hcut
        have hF := heap_below hb bl HX2.out
        obtain ⟨y0, y1, y2, y3, -, -, -, -, yl⟩ := own4 hX
        obtain ⟨f0, f1, f2, z0, z1, z2, fl⟩ := own3' hF
        have HFF := Lib.hid hF
        have HB3 := Lib.hid (HB2.out.trans (hb.mono HB2.out.size))
        clear hX hF hb p0 p1 q0 q1 q2 q3
        go_wp2_with fail
        go_ret
        refine ⟨w.heap.size, rfl, ?_, Nat.le_refl _, (HB3.out.setCell (p := ⟨w.heap.size, _, none⟩) (Nat.le_refl _) _)⟩
        simp [World.setCell, Array.getElem?_modify, HFF.out]
end Go.Proofs.YtkpdddlonmkebaaDoor
