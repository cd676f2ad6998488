/-
  order.meet's own closure; order.together held against it; order.meet.
-/
import Derived.Test.YtfkbdpehdabepaaDoorOr3
import Derived.Test.YtfkbdpehdabepaaDoorInP
import Derived.Deep.DeepCutAuto
namespace Go.Proofs.YtfkbdpehdabepaaDoor
open Go.RowKit

namespace Ty
theorem SepF.inP {w : World} {P : Nat → Prop} : ∀ (f : Fo) (g i lo hi : Nat), P g → (∀ b, lo ≤ b → b < hi → P b) → SepF w g f i lo hi → LiesP P w f (some ⟨g, 0, none⟩) i
  | .nil, _, _, _, _, _, _, _ => trivial
  | .node _ _ _ kids r, g, i, lo, hi, hg, hb, h => by
    obtain ⟨A, c, lo', hi', a1, a2, a3, a4, a5, a6, a7, a8, a9, a10⟩ := h
    have hle := SepF.le r _ _ _ a10
    refine ⟨g, 0, A, c, rfl, hg, a4, by rw [Nat.zero_add]; exact a7, by rw [Nat.zero_add]; exact a8, a5, a6, ?_, SepF.inP r g (i + 1) hi' hi hg (fun b h1 h2 => hb b (by omega) h2) a10⟩
    rcases a9 with rfl | ⟨g', rfl, b2, b3, b4, b5⟩
    · trivial
    · exact SepF.inP kids g' 0 lo' hi' (hb g' (by omega) (by omega)) (fun b h1 h2 => hb b (by omega) (by omega)) b5
theorem SepK.inP {w : World} {k : Int} {kids : Fo} {A : Option Addr} {lo hi c : Nat} (h : SepK w kids A lo hi) (hk : -128 ≤ k ∧ k ≤ 127) (h1 : len kids ≤ c) (h2 : c ≤ maxLen) : IsP (fun b => lo ≤ b ∧ b < hi) w k kids A (len kids) c := by
  refine ⟨?_, rfl, h1, h2, hk.1, hk.2⟩
  rcases h with rfl | ⟨g', rfl, a2, a3, a4, a5⟩
  · trivial
  · exact SepF.inP kids g' 0 lo hi ⟨a2, a3⟩ (fun b h1 h2 => ⟨h1, h2⟩) a5
end Ty
/-- what a call that may write two cells and some blocks leaves -/
structure Turn (w w' : World) (p q lo hi : Nat) : Prop where
  os : w'.os = w.os
  tape : w'.tape = w.tape
  output : w'.output = w.output
  size : w.heap.size ≤ w'.heap.size
  block : ∀ b, b < w.heap.size → (b < lo ∨ hi ≤ b) → b ≠ p → w'.heap[b]? = w.heap[b]?
  cell : ∀ o, o ≠ q → o ≠ q + 1 → w'.cell? ⟨p, o, none⟩ = w.cell? ⟨p, o, none⟩
  froz : ∀ o, w'.frozen? ⟨p, o, none⟩ = w.frozen? ⟨p, o, none⟩
theorem Turn.of {w w' : World} {p q lo hi : Nat} (h : Below w.heap.size w w') (hp : p < w.heap.size) : Turn w w' p q lo hi :=
  ⟨h.os, h.tape, h.output, h.size, fun b hb _ _ => h.block b hb, fun o _ _ => h.cell (p := ⟨p, o, none⟩) hp, fun o => h.frozen (p := ⟨p, o, none⟩) hp⟩
theorem Turn.trans {a b c : World} {p q lo hi : Nat} (h : Turn a b p q lo hi) (k : Turn b c p q lo hi) : Turn a c p q lo hi :=
  ⟨k.os.trans h.os, k.tape.trans h.tape, k.output.trans h.output, Nat.le_trans h.size k.size, fun i h1 h2 h3 => (k.block i (Nat.lt_of_lt_of_le h1 h.size) h2 h3).trans (h.block i h1 h2 h3),
    fun o h1 h2 => (k.cell o h1 h2).trans (h.cell o h1 h2), fun o => (k.froz o).trans (h.froz o)⟩
theorem Turn.sub {w w' : World} {g q' lo' hi' p q lo hi : Nat} (h : Turn w w' g q' lo' hi') (hg1 : lo ≤ g) (hg2 : g < hi) (h1 : lo ≤ lo') (h2 : hi' ≤ hi) (hp : p < lo ∨ hi ≤ p) (hps : p < w.heap.size) : Turn w w' p q lo hi := by
  have hpb := h.block p hps (by omega) (by omega)
  exact ⟨h.os, h.tape, h.output, h.size, fun b b1 b2 b3 => h.block b b1 (by omega) (by omega), fun o _ _ => World.cell?_of_block (w := w) (a := ⟨p, o, none⟩) hpb, fun o => World.frozen?_of_block (w := w) (a := ⟨p, o, none⟩) hpb⟩
theorem Turn.sets {w u : World} {p q lo hi : Nat} (h : Below w.heap.size w u) (hp : p < w.heap.size) (x y : Value) : Turn w ((u.setCell ⟨p, q, none⟩ x).setCell ⟨p, q + 1, none⟩ y) p q lo hi := by
  refine ⟨h.os, h.tape, h.output, by simp [World.setCell]; exact h.size, fun b b1 _ b3 => ?_, fun o h1 h2 => ?_, fun o => ?_⟩
  · rw [Below.heap_setCell _ _ _ b b3, Below.heap_setCell _ _ _ b b3]; exact h.block b b1
  · rw [World.cell?_setCell_other _ _ _ _ (fun e => by injection e with _ e; omega), World.cell?_setCell_other _ _ _ _ (fun e => by injection e with _ e; omega)]; exact h.cell (p := ⟨p, o, none⟩) hp
  · rw [World.frozen?_setCell, World.frozen?_setCell]; exact h.frozen (p := ⟨p, o, none⟩) hp
theorem Turn.below {w w' : World} {p q lo hi n0 : Nat} (h : Turn w w' p q lo hi) (hlo : n0 ≤ lo) (hp : n0 ≤ p) (hs : n0 ≤ w.heap.size) : Below n0 w w' :=
  ⟨h.os, h.tape, h.output, h.size, fun b hb => h.block b (by omega) (by omega) (by omega)⟩

theorem cf_meet1 (args : Array Value) (W : World) : (callFunc 36 args).run Tryd.prog W = .ok (.enter 36 args) W := by simp [go_sem]

set_option maxHeartbeats 1000000 in
set_option maxRecDepth 100000 in
theorem meet1_zero (k' : Int) (kids' : Fo) (A' : Option Addr) (n' c' : Nat) (p q : Nat) (v1 : Value) (w : World) (h0 : w.cell? ⟨p, q, none⟩ = some (.int .i8 0)) (h1 : w.cell? ⟨p, q + 1, none⟩ = some v1) (f0 : w.frozen? ⟨p, q, none⟩ = false) (f1 : w.frozen? ⟨p, q + 1, none⟩ = false)
    (hIs' : Ty.Is w k' kids' A' n' c') (hsm : Ty.chk k' kids' = 0) (hSh : Shapes w) :
    Calls Tryd.prog 36 #[.pointer (some ⟨p, q, none⟩), .agg #[.int .i8 k', .slice A' n' c']] w fun e w' => e = .returned (.bool true) ∧ ∃ u G c, Below w.heap.size w u ∧ Ty.len kids' ≤ c ∧ c ≤ maxLen ∧ Ty.SepK u kids' G w.heap.size u.heap.size ∧
      w' = (u.setCell ⟨p, q, none⟩ (.int .i8 k')).setCell ⟨p, q + 1, none⟩ (.slice G (Ty.len kids') c) := by
  have hlt := Ty.cell_lt h0
  have hb : Below w.heap.size w (w.alloc (.cells #[.int .i8 k', .slice A' n' c'] 25)) := (Below.refl _ _).alloc (Nat.le_refl _) _
  have hbox := heap_new w (.cells #[.int .i8 k', .slice A' n' c'] 25)
  have hsz : (w.alloc (.cells #[.int .i8 k', .slice A' n' c'] 25)).heap.size = w.heap.size + 1 := by simp
  have HC := Lib.hid (ccopy_any k' kids' A' n' c' _ (hIs'.below hb) (hSh.below hb) hsm)
  obtain ⟨d0, d1, _, _, hd⟩ := own2 hbox
  have HB := Lib.hid hb
  have HF := Lib.hid (And.intro f0 f1)
  have H1 := Lib.hid h1
  have H0 := Lib.hid h0
  have HSZ := Lib.hid hsz
  clear hIs' hb hbox h1 f0 f1 hsz hSh hsm
  go_enter Tryd.func36, Tryd.ntmps36
  go_upto_region 2 with fail
  generalize w.alloc (.cells #[.int .i8 k', .slice A' n' c'] 25) = w1 at *
  go_wp2_with fail
  refine HC.out.mono ?_
  rintro e u ⟨G, c, rfl, hc1, hc2, hsep, hb⟩
  have hB := HB.out.trans (hb.mono HB.out.size)
  have e0 : u.cell? ⟨p, q, none⟩ = some (.int .i8 0) := by rw [hB.cell (p := ⟨p, q, none⟩) hlt]; exact H0.out
  have e1 : u.cell? ⟨p, q + 1, none⟩ = some v1 := by rw [hB.cell (p := ⟨p, q + 1, none⟩) hlt]; exact H1.out
  have e2 : u.frozen? ⟨p, q, none⟩ = false := by rw [hB.frozen (p := ⟨p, q, none⟩) hlt]; exact HF.out.1
  have e3 : u.frozen? ⟨p, q + 1, none⟩ = false := by rw [hB.frozen (p := ⟨p, q + 1, none⟩) hlt]; exact HF.out.2
  have HQ := Lib.hid (And.intro hc1 hc2)
  have HSP := Lib.hid hsep
  have HBB := Lib.hid hB
  clear d0 d1 hd hb hB hc1 hc2 hsep
  go_wp2_with fail
  go_ret
  exact ⟨rfl, u, G, c, HBB.out, HQ.out.1, HQ.out.2, HSP.out.mono (by have := HSZ.out; omega) (Nat.le_refl _), rfl⟩

set_option maxHeartbeats 1000000 in
set_option maxRecDepth 100000 in
theorem meet1_ne (k k' : Int) (A' : Option Addr) (n' c' : Nat) (p q : Nat) (w : World) (h0 : w.cell? ⟨p, q, none⟩ = some (.int .i8 k)) (hk : k ≠ 0) :
    Calls Tryd.prog 36 #[.pointer (some ⟨p, q, none⟩), .agg #[.int .i8 k', .slice A' n' c']] w fun e w' => e = .returned (.bool (k' == 0)) ∧ Below w.heap.size w w' := by
  have hlt := Ty.cell_lt h0
  have hz : (k == 0) = false := by simpa using hk
  have hb : Below w.heap.size w (w.alloc (.cells #[.int .i8 k', .slice A' n' c'] 25)) := (Below.refl _ _).alloc (Nat.le_refl _) _
  clear hk
  go_enter Tryd.func36, Tryd.ntmps36
  go_wp2_with fail
  go_ret
  exact ⟨rfl, hb⟩
end Go.Proofs.YtfkbdpehdabepaaDoor
