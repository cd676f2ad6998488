import Derived.Deep.RegionLaw
import Derived.IntWalk
import Derived.Deep.DeepCutAuto
import Derived.Test.YtgjemmmbnpkamaaGreatDoorM8
import Derived.Test.YtgjemmmbnpkamaaGreatDoorWord
namespace Go.Proofs.YtgjemmmbnpkamaaGreatDoor
open Go.RowKit
theorem zGG {P : Prop} (h : P := by
  have HGD := k0_ (zQ (zJ (rb := rb) HD.out) hXr HX6.out)
  have hj2 := hr.goes (show j + 1 ≤ l.length from HS6.out.le)
  have HJ2 := k0_ (show j + 1 + 1 ≤ j2 ∧ j2 ≤ l.length from hj2)
  have HR := k0_ hr
  clear hr hj2
  go_region_law (first
    | (go_simp; go_at_call 148; (with_reducible refine (CB.out _ HD.out).mono ?_); rintro e u ⟨G2, m2, c2, rfl, hF, hR, hg⟩; have FIN := k0_ (HNX.out u G2 m2 c2 hF hR hg); obtain ⟨q0, q1, qf0, qf1, ql⟩ := zM (zQ hg hXr HGD.out); clear hF hR hg; go_wp2_with fail))
  all_goals
    go_wp2_with fail
    go_roundg (l.length - j2)
    case measure => have := HJ2.out; have := HGK.out; omega
    case rel => exact ⟨_, _, _, _, _, _, rfl, k0_ (FIN.out _)⟩) : P := h
theorem zGF {P : Prop} (h : P := by
  have HRB := k0_ (show R l (.wh least i) (.bad q) from HW.out.on _ (.opBad H0.out HL.out (by rw [← HO.out]; exact hr)))
  have HGB := k0_ (zI HW.out.only (zI HG6.out (zJ (rb := rb) HD.out)))
  clear hr
  have D0 := HD.out
  go_region_with (first
    | (go_at_call 148; (with_reducible refine (CB.out _ D0).mono ?_); rintro e u hB; have HP := k0_ (show RPost l A c rb w (.wh least i) e u from .inr ⟨q, HRB.out, hB.from HGB.out⟩); obtain ⟨g, rfl, -⟩ := hB; refine zAv (P := Tryz.prog) (w := u) ?_))
  all_goals exact ⟨rfl, HP.out⟩) : P := h
theorem zD5 {P : Prop} (h : P := by
  clear cs hse hlit hb1
  subst hv
  go_wp2_with fail
  refine CC.out.mono ?_
  rintro e w2 ⟨rfl, m, rfl⟩
  have HB2 := k0_ (below_drewN HB1.out m)
  go_wp2_with fail
  go_ret2
  exact ⟨rfl, HB2.out⟩) : P := h
theorem zGB {P : Prop} (h : P := by
  clear hlt hbk
  go_wp2_with fail
  refine bodyPost_ret (v := .agg #[.int .i8 k, .slice G mg cg]) (by simp [results, Tryz.results148, go_sem, *]) rfl (HW.out.done HB.out hwr HL.out)) : P := h
theorem zGA {P : Prop} (h : P := by
  rw [World.cell?_setCell_other _ _ _ _ (fun e => by injection e with e; omega), World.cell?_setCell_other _ _ _ _ (fun e => by injection e with e; omega)]
  exact hc) : P := h
theorem zG9 {P : Prop} (h : P := by
  go_enter Tryz.func154, Tryz.ntmps154
  go_wp2_with fail
  go_quiet (fail)
  go_wp2_with fail
  go_ret
  exact ⟨rfl, nq, rfl⟩) : P := h
theorem zHE {P : Prop} (h : P := by
  all_goals
    go_wp2_with fail
    go_ret
    refine ⟨w.heap.size, rfl, ?_, Nat.le_refl _, (HB4.out.setCell (p := ⟨w.heap.size, _, none⟩) (Nat.le_refl _) _).setCell (p := ⟨w.heap.size, _, none⟩) (Nat.le_refl _) _⟩
    simp [World.setCell, Array.getElem?_modify, FUU.out]) : P := h
theorem zGz {P : Prop} (h : P := by
  go_region_law (fail)
  all_goals
    go_wp2_with fail
    go_meet
    exact ⟨_, rfl, zF _ _, by omega, ((Below.refl _ _).alloc (Nat.le_refl _) _).drew⟩) : P := h
theorem zG3 {P : Prop} (h : P := by
  go_enter Tryz.func152, Tryz.ntmps152
  go_wp2_with fail
  go_ret2
  exact ⟨rfl, rfl⟩) : P := h
theorem zGk {P : Prop} (h : P := by
  have hr := HR.out
  unfold Rdr at hr ⊢
  rw [Below.heap_setCell _ _ _ _ (fun e => hne e.symm), Below.heap_setCell _ _ _ _ (fun e => hne e.symm)]
  exact hr) : P := h
end Go.Proofs.YtgjemmmbnpkamaaGreatDoor
namespace Go.Proofs.YtgjemmmbnpkamaaGreatDoor
set_option maxHeartbeats 4000000
set_option maxRecDepth 100000
open Go.RowKit Rd
def WRow (w : World) (A : Option Addr) (l : List W4) : Prop := ∀ (i : Nat) (x : W4), l[i]? = some x → ∃ g o, A = some ⟨g, o, none⟩ ∧ w.cell? ⟨g, o + i * 4, none⟩ = some (.int .i8 x.kind) ∧ w.cell? ⟨g, o + i * 4 + 1, none⟩ = some (.string x.text) ∧ w.cell? ⟨g, o + i * 4 + 2, none⟩ = some (.int .i64 x.num) ∧ w.cell? ⟨g, o + i * 4 + 3, none⟩ = some (.int .i64 x.pos)
def Rdr (w : World) (rb : Nat) (A : Option Addr) (n c i : Nat) : Prop := w.heap[rb]? = some (.cells #[.slice A n c, .int .i64 i] 216 (0, 0))
theorem WRow.grown {w w' : World} {A : Option Addr} {l : List W4} {rb : Nat} (h : WRow w A l) (hne : ∀ g o, A = some ⟨g, o, none⟩ → l ≠ [] → g ≠ rb) (hg : w.grownBy w' (some rb)) : WRow w' A l := fun i x hx => by
  obtain ⟨g, o, e, h0, h1, h2, h3⟩ := h i x hx
  have hc := fun (q : Nat) => World.cell?_of_block (w := w) (w' := w') (a := ⟨g, q, none⟩) (hg.block g (Ty.zR h0) (fun z => hne g o e (by rintro rfl; cases hx) (by injection z)))
  exact ⟨g, o, e, by rw [hc]; exact h0, by rw [hc]; exact h1, by rw [hc]; exact h2, by rw [hc]; exact h3⟩
theorem WRow.lt {w : World} {A : Option Addr} {l : List W4} (h : WRow w A l) : ∀ g o, A = some ⟨g, o, none⟩ → l ≠ [] → g < w.heap.size := by
  intro g o e hne
  cases l with
  | nil => exact absurd rfl hne
  | cons x r =>
    obtain ⟨g', o', e', h0, -⟩ := h 0 x rfl
    rw [e] at e'; injection e' with e'; injection e' with e1 e2; subst e1
    exact Ty.zR h0
theorem jc (l : List W4) (A : Option Addr) (c rb i : Nat) (k : Int) (s : ByteArray) (w : World) (hl : l.length ≤ maxLen) (hi : i ≤ l.length) (hR : Rdr w rb A l.length c i) (hW : WRow w A l) :
    Calls Tryz.prog 154 #[.pointer (some ⟨rb, 0, none⟩), .int .i8 k, .string s] w fun e w' => e = .returned (.bool (Rd.sees l i k s.toList)) ∧ ∃ m, w' = w.drewN m := by
  obtain ⟨r0, r1, -, -, hrl⟩ := zM hR
  obtain ⟨n, hn⟩ : ∃ n, n = l.length := ⟨_, rfl⟩
  rw [← hn] at hl hi r0
  have i5 : (n : Int) ≤ 9223372036854775807 := by unfold maxLen at hl; omega
  by_cases hin : i < n
  · obtain ⟨x, hx⟩ : ∃ x, l[i]? = some x := ⟨l[i]'(by omega), List.getElem?_eq_getElem _⟩
    obtain ⟨g, o, hA, h0, h1, -, -⟩ := hW i x hx
    have hs : Rd.sees l i k s.toList = (x.kind == k && x.text.toList == s.toList) := by unfold Rd.sees; rw [hx]
    rw [hs]
    have j1 : (i : Int) < n := by omega
    have j2 : (0 : Int) ≤ i ∧ (i : Int) < n := by omega
    clear hs hx hW hR hn
    obtain rfl := hA
    cases hk : (x.kind == k)
    · exact zG9
    · cases ht : (x.text.toList == s.toList)
      all_goals
        exact zG9
  · have hs : Rd.sees l i k s.toList = false := by unfold Rd.sees; rw [List.getElem?_eq_none (by omega)]
    rw [hs]
    have hz : decide ((i : Int) < n) = false := by simp; omega
    clear hs hW hR hn
    exact zG9
namespace Rd
def fAt (l : List W4) (i : Nat) : Int := match l[i]? with
  | some x => x.pos
  | none => if 0 < i then (match l[i - 1]? with | some x => wrap64 (x.pos + (x.text.size : Int)) | none => 0) else 0
def fWord (l : List W4) (i : Nat) : ByteArray := match l[i]? with
  | some x => x.text
  | none => ⟨#[]⟩
end Rd
def FaultPost (l : List W4) (i : Nat) (w : World) (e : Ending) (w' : World) : Prop :=
  ∃ g, e = .returned (.pointer (some ⟨g, 0, none⟩)) ∧ w'.heap[g]? = some (.cells #[.int .i64 40, .int .i64 (Rd.fAt l i), .string (Rd.fWord l i)] 61 (0, 0)) ∧ w.heap.size ≤ g ∧ Below w.heap.size w w'
theorem qB {w : World} {b : Nat} {v0 v1 v2 : Value} {t : TypeId} (h : w.heap[b]? = some (.cells #[v0, v1, v2] t (0, 0))) :
    w.cell? ⟨b, 0, none⟩ = some v0 ∧ w.cell? ⟨b, 1, none⟩ = some v1 ∧ w.cell? ⟨b, 2, none⟩ = some v2 ∧ w.frozen? ⟨b, 0, none⟩ = false ∧ w.frozen? ⟨b, 1, none⟩ = false ∧ w.frozen? ⟨b, 2, none⟩ = false ∧ b < w.heap.size := by
  refine ⟨?_, ?_, ?_, ?_, ?_, ?_, zD h⟩ <;> simp [World.cell?, World.frozen?, h]
theorem zCh (l : List W4) (A : Option Addr) (c rb i : Nat) (w : World) (hl : l.length ≤ maxLen) (hi : i ≤ l.length) (hsm : ∀ x ∈ l, x.text.size ≤ 281474976710656) (hR : Rdr w rb A l.length c i) (hW : WRow w A l) :
    Calls Tryz.prog 160 #[.pointer (some ⟨rb, 0, none⟩)] w (FaultPost l i w) := by
  have hb0 : Below w.heap.size w (w.alloc (.cells #[.int .i64 40, .int .i64 0, .string ⟨#[]⟩] 61)) := (Below.refl _ _).alloc (Nat.le_refl _) _
  have HX := k0_ (zF w (.cells #[.int .i64 40, .int .i64 0, .string ⟨#[]⟩] 61))
  have hR1 := zG hR (.cells #[.int .i64 40, .int .i64 0, .string ⟨#[]⟩] 61)
  obtain ⟨r0, r1, -, -, hrl⟩ := zM hR1
  have HR1 := k0_ hR1
  have HB0 := k0_ hb0
  obtain ⟨n, hn⟩ : ∃ n, n = l.length := ⟨_, rfl⟩
  rw [← hn] at hl hi r0
  have i5 : (n : Int) ≤ 9223372036854775807 := by unfold maxLen at hl; omega
  by_cases hin : i < n
  · obtain ⟨x, hx⟩ : ∃ x, l[i]? = some x := ⟨l[i]'(by omega), List.getElem?_eq_getElem _⟩
    obtain ⟨g, o, hA, h0, h1, h2, h3⟩ := hW i x hx
    have ea : Rd.fAt l i = x.pos := by unfold Rd.fAt; rw [hx]
    have ew : Rd.fWord l i = x.text := by unfold Rd.fWord; rw [hx]
    have CN := k0_ (fun (W : World) => jC x.text (hsm x (List.mem_of_getElem? hx)) W)
    unfold FaultPost
    rw [ea, ew]
    have j1 : (i : Int) < n := by omega
    have j2 : (0 : Int) ≤ i ∧ (i : Int) < n := by omega
    have hc := fun (q : Nat) (v : Value) (h : w.cell? ⟨g, q, none⟩ = some v) => (show (w.alloc (.cells #[.int .i64 40, .int .i64 0, .string ⟨#[]⟩] 61)).cell? ⟨g, q, none⟩ = some v by rw [hb0.cell (p := ⟨g, q, none⟩) (Ty.zR h)]; exact h)
    have g0 := hc _ _ h0
    have g1 := hc _ _ h1
    have g2 := hc _ _ h2
    have g3 := hc _ _ h3
    clear ea ew hx hW hR hn hR1 hb0 hc h0 h1 h2 h3 hsm
    obtain rfl := hA
    generalize hw1 : w.alloc (.cells #[.int .i64 40, .int .i64 0, .string ⟨#[]⟩] 61) = w1 at *
    have HW := k0_ hw1
    clear hw1
    go_enter Tryz.func160, Tryz.ntmps160
    go_wp2_with fail
    rw [HW.out]
    go_quiet (fail)
    go_wp2_with fail
    have HX2 : Hid ((w1.drewN nq).heap[w.heap.size]? = _) := k0_ HX.out
    have HB2 := k0_ (below_drewN HB0.out nq)
    have p0 : (w1.drewN nq).cell? ⟨rb, 0, none⟩ = _ := r0
    have p1 : (w1.drewN nq).cell? ⟨rb, 1, none⟩ = _ := r1
    have q0 : (w1.drewN nq).cell? ⟨g, o + i * 4, none⟩ = _ := g0
    have q1 : (w1.drewN nq).cell? ⟨g, o + i * 4 + 1, none⟩ = _ := g1
    have q2 : (w1.drewN nq).cell? ⟨g, o + i * 4 + 2, none⟩ = _ := g2
    have q3 : (w1.drewN nq).cell? ⟨g, o + i * 4 + 3, none⟩ = _ := g3
    clear r0 r1 g0 g1 g2 g3 HX HB0 HW HR1 hrl
    generalize w1.drewN nq = w2 at *
    have bl := zD HX2.out
    have gl := Ty.zR q0
    have rl := Ty.zR p0
    go_cut [4] (fun s4 wx => ∃ X, s4 = .pointer (some ⟨X, 0, none⟩) ∧ wx.heap[X]? = some (.cells #[.int .i8 x.kind, .string x.text, .int .i64 x.num, .int .i64 x.pos] 48 (0, 0)) ∧ X ≠ w.heap.size ∧ Below w2.heap.size w2 wx)
    case first =>
      exact zGz
    case rest =>
      obtain ⟨X, rfl, hX, hne, hb⟩ := hcut
      have hF := zC hb bl HX2.out
      obtain ⟨y0, y1, y2, y3, -, -, -, -, yl⟩ := zX hX
      obtain ⟨f0, f1, f2, z0, z1, z2, fl⟩ := qB hF
      have HXX := k0_ hX
      have HFF := k0_ hF
      have HB3 := kt_ HB2 hb
      clear hX hF hb p0 p1 q0 q1 q2 q3
      go_wp2_with fail
      go_region_law (first
        | (go_simp; go_at_call 23; (with_reducible refine (CN.out _).mono ?_); rintro e u ⟨rfl, hb⟩; have XU := zC hb (show X < wc.drew.heap.size from yl) (show wc.drew.heap[X]? = _ from HXX.out); have FU := zC hb (show w.heap.size < wc.drew.heap.size from fl) (show wc.drew.heap[w.heap.size]? = _ from HFF.out); obtain ⟨v0, v1, v2, v3, -, -, -, -, vl⟩ := zX XU; obtain ⟨k0, k1, k2, m0, m1, m2, kl⟩ := qB FU; have FUU := k0_ FU; have HB4 := k0_ (HB3.out.drew.trans (hb.mono HB3.out.drew.size)); clear XU FU hb; go_wp2_with fail))
      all_goals exact zHE
  · have hi2 : i = n := by omega
    subst hi2
    have ex : l[i]? = none := List.getElem?_eq_none (by omega)
    have ew : Rd.fWord l i = ⟨#[]⟩ := by unfold Rd.fWord; rw [ex]
    unfold FaultPost
    rw [ew]
    have hz : decide ((i : Int) < i) = false := by simp
    by_cases hi0 : i = 0
    · have ea : Rd.fAt l i = 0 := by unfold Rd.fAt; rw [ex]; simp [hi0]
      rw [ea]
      have j0 : ¬ ((0 : Int) < i) := by omega
      clear ea ew ex hW hR hn hR1 hb0 hsm hi0
      generalize hw1 : w.alloc (.cells #[.int .i64 40, .int .i64 0, .string ⟨#[]⟩] 61) = w1 at *
      have HW := k0_ hw1
      clear hw1
      go_enter Tryz.func160, Tryz.ntmps160
      go_wp2_with fail
      rw [HW.out]
      go_quiet (fail)
      go_wp2_with fail
      go_ret
      exact ⟨w.heap.size, rfl, HX.out, Nat.le_refl _, below_drewN HB0.out nq⟩
    · obtain ⟨x, hx⟩ : ∃ x, l[i - 1]? = some x := ⟨l[i - 1]'(by omega), List.getElem?_eq_getElem _⟩
      have ea : Rd.fAt l i = wrap64 (x.pos + (x.text.size : Int)) := by unfold Rd.fAt; rw [ex]; simp only; rw [if_pos (by omega), hx]
      rw [ea]
      obtain ⟨m, rfl⟩ : ∃ m, i = m + 1 := ⟨i - 1, by omega⟩
      rw [Nat.add_sub_cancel] at hx
      obtain ⟨g, o, hA, h0, h1, h2, h3⟩ := hW m x hx
      have hc := fun (q : Nat) (v : Value) (h : w.cell? ⟨g, q, none⟩ = some v) => (show (w.alloc (.cells #[.int .i64 40, .int .i64 0, .string ⟨#[]⟩] 61)).cell? ⟨g, q, none⟩ = some v by rw [hb0.cell (p := ⟨g, q, none⟩) (Ty.zR h)]; exact h)
      have g0 := hc _ _ h0
      have g1 := hc _ _ h1
      have g2 := hc _ _ h2
      have g3 := hc _ _ h3
      have hcast : ((m + 1 : Nat) : Int) = (m : Int) + 1 := by omega
      rw [hcast] at *
      have j1 : (0 : Int) < (m : Int) + 1 := by omega
      have j2 : (0 : Int) ≤ m ∧ (m : Int) < (m : Int) + 1 := by omega
      have j3 : (m : Int) + 1 ≤ 9223372036854775807 := by omega
      clear ea ew ex hx hW hR hn hR1 hb0 hsm hi0 hc h0 h1 h2 h3 hcast
      obtain rfl := hA
      generalize hw1 : w.alloc (.cells #[.int .i64 40, .int .i64 0, .string ⟨#[]⟩] 61) = w1 at *
      have HW := k0_ hw1
      clear hw1
      go_enter Tryz.func160, Tryz.ntmps160
      go_wp2_with fail
      rw [HW.out]
      go_quiet (fail)
      have HX2 : Hid ((w1.drewN nq).heap[w.heap.size]? = _) := k0_ HX.out
      have HB2 := k0_ (below_drewN HB0.out nq)
      have p0 : (w1.drewN nq).cell? ⟨rb, 0, none⟩ = _ := r0
      have p1 : (w1.drewN nq).cell? ⟨rb, 1, none⟩ = _ := r1
      have q0 : (w1.drewN nq).cell? ⟨g, o + m * 4, none⟩ = _ := g0
      have q1 : (w1.drewN nq).cell? ⟨g, o + m * 4 + 1, none⟩ = _ := g1
      have q2 : (w1.drewN nq).cell? ⟨g, o + m * 4 + 2, none⟩ = _ := g2
      have q3 : (w1.drewN nq).cell? ⟨g, o + m * 4 + 3, none⟩ = _ := g3
      clear r0 r1 g0 g1 g2 g3 HX HB0 HW HR1 hrl
      generalize w1.drewN nq = w2 at *
      have bl := zD HX2.out
      have gl := Ty.zR q0
      have rl := Ty.zR p0
      have hs : IntKind.i64.wrap (m : Int) = (m : Int) := IntWalk.i64_in _ (by omega)
      go_wp2_with fail
      go_cut [5] (fun s4 wx => ∃ X, s4 = .pointer (some ⟨X, 0, none⟩) ∧ wx.heap[X]? = some (.cells #[.int .i8 x.kind, .string x.text, .int .i64 x.num, .int .i64 x.pos] 48 (0, 0)) ∧ X ≠ w.heap.size ∧ Below w2.heap.size w2 wx)
      case first =>
        exact zGz
      case rest =>
        obtain ⟨X, rfl, hX, hne, hb⟩ := hcut
        have hF := zC hb bl HX2.out
        obtain ⟨y0, y1, y2, y3, -, -, -, -, yl⟩ := zX hX
        obtain ⟨f0, f1, f2, z0, z1, z2, fl⟩ := qB hF
        have HFF := k0_ hF
        have HB3 := kt_ HB2 hb
        clear hX hF hb p0 p1 q0 q1 q2 q3
        go_wp2_with fail
        go_ret
        refine ⟨w.heap.size, rfl, ?_, Nat.le_refl _, (HB3.out.setCell (p := ⟨w.heap.size, _, none⟩) (Nat.le_refl _) _)⟩
        simp [World.setCell, Array.getElem?_modify, HFF.out]
set_option maxHeartbeats 4000000
set_option maxRecDepth 100000
open Go.RowKit Rd
theorem wW {w : World} {rb n c i : Nat} {A : Option Addr} (h : Rdr w rb A n c i) (j : Nat) : Rdr (w.setCell ⟨rb, 1, none⟩ (.int .i64 j)) rb A n c j := by
  unfold Rdr at h ⊢
  simp [World.setCell, Array.getElem?_modify, h]
theorem uV (A : Option Addr) (n c rb i : Nat) (w : World) (hi : i < maxLen) (hR : Rdr w rb A n c i) :
    Calls Tryz.prog 155 #[.pointer (some ⟨rb, 0, none⟩), .bool true] w fun e w' => e = .returned (.tuple #[]) ∧ Rdr w' rb A n c (i + 1) ∧ w.grownBy w' (some rb) := by
  obtain ⟨r0, r1, f0, f1, hrl⟩ := zM hR
  have HR := k0_ (wW hR (i + 1))
  have j1 : (i : Int) + 1 ≤ 9223372036854775807 := by unfold maxLen at hi; omega
  have hcast : ((i + 1 : Nat) : Int) = (i : Int) + 1 := by omega
  rw [hcast] at HR
  have HG : Hid (w.grownBy (w.setCell ⟨rb, 1, none⟩ (.int .i64 ((i : Int) + 1))) (some rb)) := k0_ (zK (zw w rb) (.inl rfl) _)
  clear hR hcast
  go_enter Tryz.func155, Tryz.ntmps155
  go_wp2_with fail
  go_end0
  exact ⟨rfl, HR.out, HG.out⟩
def GaveUp (l : List W4) (i : Nat) (w : World) (e : Ending) (w' : World) : Prop :=
  ∃ g, e = .panicked [{ v := .iface 49 (.pointer (some ⟨g, 0, none⟩)), recovered := false }] ∧ w'.heap[g]? = some (.cells #[.int .i64 40, .int .i64 (Rd.fAt l i), .string (Rd.fWord l i)] 61 (0, 0)) ∧ w.heap.size ≤ g ∧ Below w.heap.size w w'
theorem zBa (l : List W4) (A : Option Addr) (c rb i : Nat) (w : World) (hl : l.length ≤ maxLen) (hi : i ≤ l.length) (hsm : ∀ x ∈ l, x.text.size ≤ 281474976710656) (hR : Rdr w rb A l.length c i) (hW : WRow w A l) :
    Calls Tryz.prog 155 #[.pointer (some ⟨rb, 0, none⟩), .bool false] w (GaveUp l i w) := by
  have HF := k0_ (zCh l A c rb i w hl hi hsm hR hW)
  clear hR hW hsm
  go_enter Tryz.func155, Tryz.ntmps155
  go_wp2_with fail
  refine HF.out.mono ?_
  rintro e w2 ⟨g, rfl, hg, hgl, hb⟩
  have HP := k0_ (show GaveUp l i w _ w2 from ⟨g, rfl, hg, hgl, hb⟩)
  clear hg hgl hb
  go_wp2_with fail
  exact ⟨rfl, HP.out⟩
set_option maxHeartbeats 8000000
set_option maxRecDepth 100000
open Go.RowKit Rd
theorem WRow.below {w w' : World} {A : Option Addr} {l : List W4} (h : WRow w A l) (hb : Below w.heap.size w w') : WRow w' A l := fun i x hx => by
  obtain ⟨g, o, e, h0, h1, h2, h3⟩ := h i x hx
  have hc := fun (q : Nat) => hb.cell (p := ⟨g, q, none⟩) (Ty.zR h0)
  exact ⟨g, o, e, by rw [hc]; exact h0, by rw [hc]; exact h1, by rw [hc]; exact h2, by rw [hc]; exact h3⟩
def kind0V (l : List W4) (i : Nat) : Value := match Rd.atK l i with | some k => .tuple #[.int .i8 k, .bool true] | none => .tuple #[.int .i8 0, .bool false]
theorem zCY (l : List W4) (A : Option Addr) (c rb i : Nat) (w : World) (hl : l.length ≤ maxLen) (hi : i ≤ l.length) (hS : Shapes w) (hR : Rdr w rb A l.length c i) (hW : WRow w A l) :
    Calls Tryz.prog 151 #[.pointer (some ⟨rb, 0, none⟩), .int .i64 0] w fun e w' => e = .returned (kind0V l i) ∧ Below w.heap.size w w' := by
  have CS := k0_ (fun (W : World) (hb : Below w.heap.size w W) (k : Int) (s : ByteArray) => jc l A c rb i k s W hl hi (zC hb (zD hR) hR) (hW.below hb))
  have HS := k0_ hS
  obtain ⟨R, hRR⟩ : ∃ R, R = kind0V l i := ⟨_, rfl⟩
  rw [← hRR]
  have HRR := k0_ hRR
  clear hS hR hW hRR hl hi
  go_enter Tryz.func151, Tryz.ntmps151
  go_wp2_with fail
  go_loopw [8] (fun v wr => ∃ k : Nat, v = .int .i64 k ∧ k ≤ 6 ∧ Below w.heap.size w wr ∧ (1 ≤ k → Rd.sees l i 4 [63] = false) ∧ (2 ≤ k → Rd.sees l i 3 sInt = false) ∧ (3 ≤ k → Rd.sees l i 3 sBool = false)) (fun v _ => 6 - (intOf v).toNat)
  case atStart => exact ⟨0, rfl, by omega, Below.refl _ _, fun h => absurd h (by omega), fun h => absurd h (by omega), fun h => absurd h (by omega)⟩
  case round =>
    obtain ⟨k, rfl, hk, hb, n0, n1, n2⟩ := hrel
    have hS := HS.out.below hb
    obtain ⟨hsl, hsc⟩ := hS
    have HN := k0_ (And.intro n0 (And.intro n1 n2))
    have HB := k0_ hb
    have zb := hb.size
    clear n0 n1 n2 hb
    rcases (by omega : k = 0 ∨ k = 1 ∨ k = 2 ∨ k = 3 ∨ k = 4 ∨ k = 5 ∨ k = 6) with rfl | rfl | rfl | rfl | rfl | rfl | rfl
    · have s0 := hsc 0 _ rfl
      have s1 := hsc 1 _ rfl
      have s2 := hsc 2 _ rfl
      have s3 := hsc 3 _ rfl
      clear hsc
      have hlit : (⟨#[63]⟩ : ByteArray).toList = [63] := (Lib.toList_data _).trans rfl
      have hb1 : Below w.heap.size w (wr.alloc (.cells #[.int .i8 4, .string ⟨#[63]⟩, .int .i64 0, .int .i64 4] 189)) := HB.out.alloc zb _
      have cs := CS.out _ hb1 4 ⟨#[63]⟩
      rw [hlit] at cs
      cases hse : Rd.sees l i 4 [63]
      · rw [hse] at cs
        have CC := k0_ cs
        have HE := k0_ hse
        have HB1 := k0_ hb1
        clear cs hse hlit hb1
        go_wp2_with fail
        refine CC.out.mono ?_
        rintro e w2 ⟨rfl, m, rfl⟩
        have HB2 := k0_ (below_drewN HB1.out m)
        go_wp2_with fail
        go_roundw
        case rel =>
          have hse := HE.out
          exact ⟨1, by go_num, by omega, HB2.out, by first | exact fun _ => hse | exact hse | trivial, by first | exact fun h => absurd h (by omega) | trivial, by first | exact fun h => absurd h (by omega) | trivial⟩
        case measure => simp [intOf]
      · rw [hse] at cs
        have CC := k0_ cs
        have HB1 := k0_ hb1
        have hv : R = .tuple #[.int .i8 0, .bool true] := by
          rw [HRR.out]
          unfold kind0V Rd.atK
          simp [hse]
        exact zD5
    · have s0 := hsc 4 _ rfl
      have s1 := hsc 5 _ rfl
      have s2 := hsc 6 _ rfl
      have s3 := hsc 7 _ rfl
      clear hsc
      have hlit : (⟨#[105, 110, 116]⟩ : ByteArray).toList = sInt := (Lib.toList_data _).trans rfl
      have hb1 : Below w.heap.size w (wr.alloc (.cells #[.int .i8 3, .string ⟨#[105, 110, 116]⟩, .int .i64 0, .int .i64 4] 189)) := HB.out.alloc zb _
      have cs := CS.out _ hb1 3 ⟨#[105, 110, 116]⟩
      rw [hlit] at cs
      cases hse : Rd.sees l i 3 sInt
      · rw [hse] at cs
        have CC := k0_ cs
        have HE := k0_ hse
        have HB1 := k0_ hb1
        clear cs hse hlit hb1
        go_wp2_with fail
        refine CC.out.mono ?_
        rintro e w2 ⟨rfl, m, rfl⟩
        have HB2 := k0_ (below_drewN HB1.out m)
        go_wp2_with fail
        go_roundw
        case rel =>
          have hse := HE.out
          exact ⟨2, by go_num, by omega, HB2.out, by first | exact fun _ => HN.out.1 (by omega) | exact HN.out.1 (by omega) | trivial, by first | exact fun _ => hse | exact hse | trivial, by first | exact fun h => absurd h (by omega) | trivial⟩
        case measure => simp [intOf]
      · rw [hse] at cs
        have CC := k0_ cs
        have HB1 := k0_ hb1
        have hv : R = .tuple #[.int .i8 1, .bool true] := by
          rw [HRR.out]
          unfold kind0V Rd.atK
          simp [hse, (HN.out.1 (by omega))]
        exact zD5
    · have s0 := hsc 8 _ rfl
      have s1 := hsc 9 _ rfl
      have s2 := hsc 10 _ rfl
      have s3 := hsc 11 _ rfl
      clear hsc
      have hlit : (⟨#[98, 111, 111, 108]⟩ : ByteArray).toList = sBool := (Lib.toList_data _).trans rfl
      have hb1 : Below w.heap.size w (wr.alloc (.cells #[.int .i8 3, .string ⟨#[98, 111, 111, 108]⟩, .int .i64 0, .int .i64 4] 189)) := HB.out.alloc zb _
      have cs := CS.out _ hb1 3 ⟨#[98, 111, 111, 108]⟩
      rw [hlit] at cs
      cases hse : Rd.sees l i 3 sBool
      · rw [hse] at cs
        have CC := k0_ cs
        have HE := k0_ hse
        have HB1 := k0_ hb1
        clear cs hse hlit hb1
        go_wp2_with fail
        refine CC.out.mono ?_
        rintro e w2 ⟨rfl, m, rfl⟩
        have HB2 := k0_ (below_drewN HB1.out m)
        go_wp2_with fail
        go_roundw
        case rel =>
          have hse := HE.out
          exact ⟨3, by go_num, by omega, HB2.out, by first | exact fun _ => HN.out.1 (by omega) | exact HN.out.1 (by omega) | trivial, by first | exact fun _ => HN.out.2.1 (by omega) | exact HN.out.2.1 (by omega) | trivial, by first | exact fun _ => hse | exact hse | trivial⟩
        case measure => simp [intOf]
      · rw [hse] at cs
        have CC := k0_ cs
        have HB1 := k0_ hb1
        have hv : R = .tuple #[.int .i8 2, .bool true] := by
          rw [HRR.out]
          unfold kind0V Rd.atK
          simp [hse, (HN.out.1 (by omega)), (HN.out.2.1 (by omega))]
        exact zD5
    · have s0 := hsc 12 _ rfl
      have s1 := hsc 13 _ rfl
      have s2 := hsc 14 _ rfl
      have s3 := hsc 15 _ rfl
      clear hsc
      have hb1 := k0_ (HB.out.alloc zb (.cells #[.int .i8 4, .string ⟨#[45, 62]⟩, .int .i64 2, .int .i64 1] 189))
      go_wp2_with fail
      go_roundw
      case rel => exact ⟨4, by go_num, by omega, hb1.out, by first | exact fun _ => HN.out.1 (by omega) | exact HN.out.1 (by omega) | trivial, by first | exact fun _ => HN.out.2.1 (by omega) | exact HN.out.2.1 (by omega) | trivial, by first | exact fun _ => HN.out.2.2 (by omega) | exact HN.out.2.2 (by omega) | trivial⟩
      case measure => simp [intOf]
    · have s0 := hsc 16 _ rfl
      have s1 := hsc 17 _ rfl
      have s2 := hsc 18 _ rfl
      have s3 := hsc 19 _ rfl
      clear hsc
      have hb1 := k0_ (HB.out.alloc zb (.cells #[.int .i8 4, .string ⟨#[42]⟩, .int .i64 2, .int .i64 3] 189))
      go_wp2_with fail
      go_roundw
      case rel => exact ⟨5, by go_num, by omega, hb1.out, by first | exact fun _ => HN.out.1 (by omega) | exact HN.out.1 (by omega) | trivial, by first | exact fun _ => HN.out.2.1 (by omega) | exact HN.out.2.1 (by omega) | trivial, by first | exact fun _ => HN.out.2.2 (by omega) | exact HN.out.2.2 (by omega) | trivial⟩
      case measure => simp [intOf]
    · have s0 := hsc 20 _ rfl
      have s1 := hsc 21 _ rfl
      have s2 := hsc 22 _ rfl
      have s3 := hsc 23 _ rfl
      clear hsc
      have hb1 := k0_ (HB.out.alloc zb (.cells #[.int .i8 4, .string ⟨#[43]⟩, .int .i64 2, .int .i64 2] 189))
      go_wp2_with fail
      go_roundw
      case rel => exact ⟨6, by go_num, by omega, hb1.out, by first | exact fun _ => HN.out.1 (by omega) | exact HN.out.1 (by omega) | trivial, by first | exact fun _ => HN.out.2.1 (by omega) | exact HN.out.2.1 (by omega) | trivial, by first | exact fun _ => HN.out.2.2 (by omega) | exact HN.out.2.2 (by omega) | trivial⟩
      case measure => simp [intOf]
    · have hv : R = .tuple #[.int .i8 0, .bool false] := by
        rw [HRR.out]
        unfold kind0V Rd.atK
        simp [HN.out.1 (by omega), HN.out.2.1 (by omega), HN.out.2.2 (by omega)]
      clear hsc
      subst hv
      go_wp2_with fail
      go_ret2
      exact ⟨rfl, HB.out⟩
def kind2V (l : List W4) (i : Nat) : Value := if Rd.opK l i = 0 then .tuple #[.int .i8 0, .bool false] else .tuple #[.int .i8 (Rd.opK l i), .bool true]
theorem zCX (l : List W4) (A : Option Addr) (c rb i : Nat) (w : World) (hl : l.length ≤ maxLen) (hi : i ≤ l.length) (hS : Shapes w) (hR : Rdr w rb A l.length c i) (hW : WRow w A l) :
    Calls Tryz.prog 151 #[.pointer (some ⟨rb, 0, none⟩), .int .i64 2] w fun e w' => e = .returned (kind2V l i) ∧ Below w.heap.size w w' := by
  have CS := k0_ (fun (W : World) (hb : Below w.heap.size w W) (k : Int) (s : ByteArray) => jc l A c rb i k s W hl hi (zC hb (zD hR) hR) (hW.below hb))
  have HS := k0_ hS
  obtain ⟨R, hRR⟩ : ∃ R, R = kind2V l i := ⟨_, rfl⟩
  rw [← hRR]
  have HRR := k0_ hRR
  clear hS hR hW hRR hl hi
  go_enter Tryz.func151, Tryz.ntmps151
  go_wp2_with fail
  go_loopw [8] (fun v wr => ∃ k : Nat, v = .int .i64 k ∧ k ≤ 6 ∧ Below w.heap.size w wr ∧ (4 ≤ k → Rd.sees l i 4 sArrow = false) ∧ (5 ≤ k → Rd.sees l i 4 [42] = false) ∧ (6 ≤ k → Rd.sees l i 4 [43] = false)) (fun v _ => 6 - (intOf v).toNat)
  case atStart => exact ⟨0, rfl, by omega, Below.refl _ _, fun h => absurd h (by omega), fun h => absurd h (by omega), fun h => absurd h (by omega)⟩
  case round =>
    obtain ⟨k, rfl, hk, hb, n0, n1, n2⟩ := hrel
    have hS := HS.out.below hb
    obtain ⟨hsl, hsc⟩ := hS
    have HN := k0_ (And.intro n0 (And.intro n1 n2))
    have HB := k0_ hb
    have zb := hb.size
    clear n0 n1 n2 hb
    rcases (by omega : k = 0 ∨ k = 1 ∨ k = 2 ∨ k = 3 ∨ k = 4 ∨ k = 5 ∨ k = 6) with rfl | rfl | rfl | rfl | rfl | rfl | rfl
    · have s0 := hsc 0 _ rfl
      have s1 := hsc 1 _ rfl
      have s2 := hsc 2 _ rfl
      have s3 := hsc 3 _ rfl
      clear hsc
      have hb1 := k0_ (HB.out.alloc zb (.cells #[.int .i8 4, .string ⟨#[63]⟩, .int .i64 0, .int .i64 4] 189))
      go_wp2_with fail
      go_roundw
      case rel => exact ⟨1, by go_num, by omega, hb1.out, by first | exact fun h => absurd h (by omega) | trivial, by first | exact fun h => absurd h (by omega) | trivial, by first | exact fun h => absurd h (by omega) | trivial⟩
      case measure => simp [intOf]
    · have s0 := hsc 4 _ rfl
      have s1 := hsc 5 _ rfl
      have s2 := hsc 6 _ rfl
      have s3 := hsc 7 _ rfl
      clear hsc
      have hb1 := k0_ (HB.out.alloc zb (.cells #[.int .i8 3, .string ⟨#[105, 110, 116]⟩, .int .i64 0, .int .i64 4] 189))
      go_wp2_with fail
      go_roundw
      case rel => exact ⟨2, by go_num, by omega, hb1.out, by first | exact fun h => absurd h (by omega) | trivial, by first | exact fun h => absurd h (by omega) | trivial, by first | exact fun h => absurd h (by omega) | trivial⟩
      case measure => simp [intOf]
    · have s0 := hsc 8 _ rfl
      have s1 := hsc 9 _ rfl
      have s2 := hsc 10 _ rfl
      have s3 := hsc 11 _ rfl
      clear hsc
      have hb1 := k0_ (HB.out.alloc zb (.cells #[.int .i8 3, .string ⟨#[98, 111, 111, 108]⟩, .int .i64 0, .int .i64 4] 189))
      go_wp2_with fail
      go_roundw
      case rel => exact ⟨3, by go_num, by omega, hb1.out, by first | exact fun h => absurd h (by omega) | trivial, by first | exact fun h => absurd h (by omega) | trivial, by first | exact fun h => absurd h (by omega) | trivial⟩
      case measure => simp [intOf]
    · have s0 := hsc 12 _ rfl
      have s1 := hsc 13 _ rfl
      have s2 := hsc 14 _ rfl
      have s3 := hsc 15 _ rfl
      clear hsc
      have hlit : (⟨#[45, 62]⟩ : ByteArray).toList = sArrow := (Lib.toList_data _).trans rfl
      have hb1 : Below w.heap.size w (wr.alloc (.cells #[.int .i8 4, .string ⟨#[45, 62]⟩, .int .i64 2, .int .i64 1] 189)) := HB.out.alloc zb _
      have cs := CS.out _ hb1 4 ⟨#[45, 62]⟩
      rw [hlit] at cs
      cases hse : Rd.sees l i 4 sArrow
      · rw [hse] at cs
        have CC := k0_ cs
        have HE := k0_ hse
        have HB1 := k0_ hb1
        clear cs hse hlit hb1
        go_wp2_with fail
        refine CC.out.mono ?_
        rintro e w2 ⟨rfl, m, rfl⟩
        have HB2 := k0_ (below_drewN HB1.out m)
        go_wp2_with fail
        go_roundw
        case rel =>
          have hse := HE.out
          exact ⟨4, by go_num, by omega, HB2.out, by first | exact fun _ => hse | exact hse | trivial, by first | exact fun h => absurd h (by omega) | trivial, by first | exact fun h => absurd h (by omega) | trivial⟩
        case measure => simp [intOf]
      · rw [hse] at cs
        have CC := k0_ cs
        have HB1 := k0_ hb1
        have hv : R = .tuple #[.int .i8 3, .bool true] := by
          rw [HRR.out]
          unfold kind2V Rd.opK
          simp [hse]
        exact zD5
    · have s0 := hsc 16 _ rfl
      have s1 := hsc 17 _ rfl
      have s2 := hsc 18 _ rfl
      have s3 := hsc 19 _ rfl
      clear hsc
      have hlit : (⟨#[42]⟩ : ByteArray).toList = [42] := (Lib.toList_data _).trans rfl
      have hb1 : Below w.heap.size w (wr.alloc (.cells #[.int .i8 4, .string ⟨#[42]⟩, .int .i64 2, .int .i64 3] 189)) := HB.out.alloc zb _
      have cs := CS.out _ hb1 4 ⟨#[42]⟩
      rw [hlit] at cs
      cases hse : Rd.sees l i 4 [42]
      · rw [hse] at cs
        have CC := k0_ cs
        have HE := k0_ hse
        have HB1 := k0_ hb1
        clear cs hse hlit hb1
        go_wp2_with fail
        refine CC.out.mono ?_
        rintro e w2 ⟨rfl, m, rfl⟩
        have HB2 := k0_ (below_drewN HB1.out m)
        go_wp2_with fail
        go_roundw
        case rel =>
          have hse := HE.out
          exact ⟨5, by go_num, by omega, HB2.out, by first | exact fun _ => HN.out.1 (by omega) | exact HN.out.1 (by omega) | trivial, by first | exact fun _ => hse | exact hse | trivial, by first | exact fun h => absurd h (by omega) | trivial⟩
        case measure => simp [intOf]
      · rw [hse] at cs
        have CC := k0_ cs
        have HB1 := k0_ hb1
        have hv : R = .tuple #[.int .i8 4, .bool true] := by
          rw [HRR.out]
          unfold kind2V Rd.opK
          simp [hse, (HN.out.1 (by omega))]
        exact zD5
    · have s0 := hsc 20 _ rfl
      have s1 := hsc 21 _ rfl
      have s2 := hsc 22 _ rfl
      have s3 := hsc 23 _ rfl
      clear hsc
      have hlit : (⟨#[43]⟩ : ByteArray).toList = [43] := (Lib.toList_data _).trans rfl
      have hb1 : Below w.heap.size w (wr.alloc (.cells #[.int .i8 4, .string ⟨#[43]⟩, .int .i64 2, .int .i64 2] 189)) := HB.out.alloc zb _
      have cs := CS.out _ hb1 4 ⟨#[43]⟩
      rw [hlit] at cs
      cases hse : Rd.sees l i 4 [43]
      · rw [hse] at cs
        have CC := k0_ cs
        have HE := k0_ hse
        have HB1 := k0_ hb1
        clear cs hse hlit hb1
        go_wp2_with fail
        refine CC.out.mono ?_
        rintro e w2 ⟨rfl, m, rfl⟩
        have HB2 := k0_ (below_drewN HB1.out m)
        go_wp2_with fail
        go_roundw
        case rel =>
          have hse := HE.out
          exact ⟨6, by go_num, by omega, HB2.out, by first | exact fun _ => HN.out.1 (by omega) | exact HN.out.1 (by omega) | trivial, by first | exact fun _ => HN.out.2.1 (by omega) | exact HN.out.2.1 (by omega) | trivial, by first | exact fun _ => hse | exact hse | trivial⟩
        case measure => simp [intOf]
      · rw [hse] at cs
        have CC := k0_ cs
        have HB1 := k0_ hb1
        have hv : R = .tuple #[.int .i8 5, .bool true] := by
          rw [HRR.out]
          unfold kind2V Rd.opK
          simp [hse, (HN.out.1 (by omega)), (HN.out.2.1 (by omega))]
        exact zD5
    · have hv : R = .tuple #[.int .i8 0, .bool false] := by
        rw [HRR.out]
        unfold kind2V Rd.opK
        simp [HN.out.1 (by omega), HN.out.2.1 (by omega), HN.out.2.2 (by omega)]
      clear hsc
      subst hv
      go_wp2_with fail
      go_ret2
      exact ⟨rfl, HB.out⟩
end Go.Proofs.YtgjemmmbnpkamaaGreatDoor
