/-
  order's copies of types. order.meet's own closure; order.together held against it; order.meet. order.together held against order.meet's own closure.
-/
import Derived.Test.YtknhoagicdfikaaGreatDoorM12
import Derived.Test.YtknhoagicdfikaaGreatDoorM11
import Derived.Test.YtknhoagicdfikaaGreatDoorM1
import Derived.Deep.DeepCutAuto
namespace Go.Proofs.YtknhoagicdfikaaGreatDoor
open Go.RowKit

end Go.Proofs.YtknhoagicdfikaaGreatDoor
namespace Go.Proofs.YtknhoagicdfikaaGreatDoor
open Go.RowKit

namespace Ty
theorem SepF.inP {w : World} {P : Nat → Prop} : ∀ (f : Fo) (g i lo hi : Nat), P g → (∀ b, lo ≤ b → b < hi → P b) → SepF w g f i lo hi → LiesP P w f (some ⟨g, 0, none⟩) i
  | .nil, _, _, _, _, _, _, _ => trivial
  | .node _ _ _ kids r, g, i, lo, hi, hg, hb, h => by
    obtain ⟨A, c, lo', hi', a1, a2, a3, a4, a5, a6, a7, a8, a9, a10⟩ := h
    have hle := SepF.le r _ _ _ a10
    refine ⟨g, 0, A, c, rfl, hg, a4, by rw [Nat.zero_add]; exact a7, by rw [Nat.zero_add]; exact a8, a5, a6, ?_, SepF.inP r g (i + 1) hi' hi hg (fun b h1 h2 => hb b (by omega) h2) a10⟩
    rcases a9 with rfl | ⟨g', rfl, b2, b3, b4, b5⟩
    · trivial
    · exact SepF.inP kids g' 0 lo' hi' (hb g' (by omega) (by omega)) (fun b h1 h2 => hb b (by omega) (by omega)) b5
theorem SepK.inP {w : World} {k : Int} {kids : Fo} {A : Option Addr} {lo hi c : Nat} (h : SepK w kids A lo hi) (hk : -128 ≤ k ∧ k ≤ 127) (h1 : len kids ≤ c) (h2 : c ≤ maxLen) : IsP (fun b => lo ≤ b ∧ b < hi) w k kids A (len kids) c := by
  refine ⟨?_, rfl, h1, h2, hk.1, hk.2⟩
  rcases h with rfl | ⟨g', rfl, a2, a3, a4, a5⟩
  · trivial
  · exact SepF.inP kids g' 0 lo hi ⟨a2, a3⟩ (fun b h1 h2 => ⟨h1, h2⟩) a5
end Ty
/-- what a call that may write two cells and some blocks leaves -/
structure Turn (w w' : World) (p q lo hi : Nat) : Prop where
  os : w'.os = w.os
  tape : w'.tape = w.tape
  output : w'.output = w.output
  size : w.heap.size ≤ w'.heap.size
  block : ∀ b, b < w.heap.size → (b < lo ∨ hi ≤ b) → b ≠ p → w'.heap[b]? = w.heap[b]?
  cell : ∀ o, o ≠ q → o ≠ q + 1 → w'.cell? ⟨p, o, none⟩ = w.cell? ⟨p, o, none⟩
  froz : ∀ o, w'.frozen? ⟨p, o, none⟩ = w.frozen? ⟨p, o, none⟩
theorem Turn.of {w w' : World} {p q lo hi : Nat} (h : Below w.heap.size w w') (hp : p < w.heap.size) : Turn w w' p q lo hi :=
  ⟨h.os, h.tape, h.output, h.size, fun b hb _ _ => h.block b hb, fun o _ _ => h.cell (p := ⟨p, o, none⟩) hp, fun o => h.frozen (p := ⟨p, o, none⟩) hp⟩
theorem Turn.trans {a b c : World} {p q lo hi : Nat} (h : Turn a b p q lo hi) (k : Turn b c p q lo hi) : Turn a c p q lo hi :=
  ⟨k.os.trans h.os, k.tape.trans h.tape, k.output.trans h.output, Nat.le_trans h.size k.size, fun i h1 h2 h3 => (k.block i (Nat.lt_of_lt_of_le h1 h.size) h2 h3).trans (h.block i h1 h2 h3),
    fun o h1 h2 => (k.cell o h1 h2).trans (h.cell o h1 h2), fun o => (k.froz o).trans (h.froz o)⟩
theorem Turn.sub {w w' : World} {g q' lo' hi' p q lo hi : Nat} (h : Turn w w' g q' lo' hi') (hg1 : lo ≤ g) (hg2 : g < hi) (h1 : lo ≤ lo') (h2 : hi' ≤ hi) (hp : p < lo ∨ hi ≤ p) (hps : p < w.heap.size) : Turn w w' p q lo hi := by
  have hpb := h.block p hps (by omega) (by omega)
  exact ⟨h.os, h.tape, h.output, h.size, fun b b1 b2 b3 => h.block b b1 (by omega) (by omega), fun o _ _ => World.cell?_of_block (w := w) (a := ⟨p, o, none⟩) hpb, fun o => World.frozen?_of_block (w := w) (a := ⟨p, o, none⟩) hpb⟩
theorem Turn.sets {w u : World} {p q lo hi : Nat} (h : Below w.heap.size w u) (hp : p < w.heap.size) (x y : Value) : Turn w ((u.setCell ⟨p, q, none⟩ x).setCell ⟨p, q + 1, none⟩ y) p q lo hi := by
  refine ⟨h.os, h.tape, h.output, by simp [World.setCell]; exact h.size, fun b b1 _ b3 => ?_, fun o h1 h2 => ?_, fun o => ?_⟩
  · rw [Below.heap_setCell _ _ _ b b3, Below.heap_setCell _ _ _ b b3]; exact h.block b b1
  · rw [World.cell?_setCell_other _ _ _ _ (fun e => by injection e with _ e; omega), World.cell?_setCell_other _ _ _ _ (fun e => by injection e with _ e; omega)]; exact h.cell (p := ⟨p, o, none⟩) hp
  · rw [World.frozen?_setCell, World.frozen?_setCell]; exact h.frozen (p := ⟨p, o, none⟩) hp
theorem Turn.below {w w' : World} {p q lo hi n0 : Nat} (h : Turn w w' p q lo hi) (hlo : n0 ≤ lo) (hp : n0 ≤ p) (hs : n0 ≤ w.heap.size) : Below n0 w w' :=
  ⟨h.os, h.tape, h.output, h.size, fun b hb => h.block b (by omega) (by omega) (by omega)⟩

theorem cf_meet1 (args : Array Value) (W : World) : (callFunc 69 args).run Tryz.prog W = .ok (.enter 69 args) W := by simp [go_sem]

set_option maxHeartbeats 1000000 in
set_option maxRecDepth 100000 in
theorem meet1_zero (k' : Int) (kids' : Fo) (A' : Option Addr) (n' c' : Nat) (p q : Nat) (v1 : Value) (w : World) (h0 : w.cell? ⟨p, q, none⟩ = some (.int .i8 0)) (h1 : w.cell? ⟨p, q + 1, none⟩ = some v1) (f0 : w.frozen? ⟨p, q, none⟩ = false) (f1 : w.frozen? ⟨p, q + 1, none⟩ = false)
    (hIs' : Ty.Is w k' kids' A' n' c') (hsm : Ty.chk k' kids' = 0) (hSh : Shapes w) :
    Calls Tryz.prog 69 #[.pointer (some ⟨p, q, none⟩), .agg #[.int .i8 k', .slice A' n' c']] w fun e w' => e = .returned (.bool true) ∧ ∃ u G c, Below w.heap.size w u ∧ Ty.len kids' ≤ c ∧ c ≤ maxLen ∧ Ty.SepK u kids' G w.heap.size u.heap.size ∧
      w' = (u.setCell ⟨p, q, none⟩ (.int .i8 k')).setCell ⟨p, q + 1, none⟩ (.slice G (Ty.len kids') c) := by
  have hlt := Ty.cell_lt h0
  have hb : Below w.heap.size w (w.alloc (.cells #[.int .i8 k', .slice A' n' c'] 25)) := (Below.refl _ _).alloc (Nat.le_refl _) _
  have hbox := heap_new w (.cells #[.int .i8 k', .slice A' n' c'] 25)
  have hsz : (w.alloc (.cells #[.int .i8 k', .slice A' n' c'] 25)).heap.size = w.heap.size + 1 := by simp
  have HC := Lib.hid (ccopy_any k' kids' A' n' c' _ (hIs'.below hb) (hSh.below hb) hsm)
  obtain ⟨d0, d1, _, _, hd⟩ := own2 hbox
  have HB := Lib.hid hb
  have HF := Lib.hid (And.intro f0 f1)
  have H1 := Lib.hid h1
  have H0 := Lib.hid h0
  have HSZ := Lib.hid hsz
  clear hIs' hb hbox h1 f0 f1 hsz hSh hsm
  go_enter Tryz.func69, Tryz.ntmps69
  go_upto_region 2 with fail
  generalize w.alloc (.cells #[.int .i8 k', .slice A' n' c'] 25) = w1 at *
  go_wp2_with fail
  refine HC.out.mono ?_
  rintro e u ⟨G, c, rfl, hc1, hc2, hsep, hb⟩
  have hB := HB.out.trans (hb.mono HB.out.size)
  have e0 : u.cell? ⟨p, q, none⟩ = some (.int .i8 0) := by rw [hB.cell (p := ⟨p, q, none⟩) hlt]; exact H0.out
  have e1 : u.cell? ⟨p, q + 1, none⟩ = some v1 := by rw [hB.cell (p := ⟨p, q + 1, none⟩) hlt]; exact H1.out
  have e2 : u.frozen? ⟨p, q, none⟩ = false := by rw [hB.frozen (p := ⟨p, q, none⟩) hlt]; exact HF.out.1
  have e3 : u.frozen? ⟨p, q + 1, none⟩ = false := by rw [hB.frozen (p := ⟨p, q + 1, none⟩) hlt]; exact HF.out.2
  have HQ := Lib.hid (And.intro hc1 hc2)
  have HSP := Lib.hid hsep
  have HBB := Lib.hid hB
  clear d0 d1 hd hb hB hc1 hc2 hsep
  go_wp2_with fail
  go_ret
  exact ⟨rfl, u, G, c, HBB.out, HQ.out.1, HQ.out.2, HSP.out.mono (by have := HSZ.out; omega) (Nat.le_refl _), rfl⟩

set_option maxHeartbeats 1000000 in
set_option maxRecDepth 100000 in
theorem meet1_ne (k k' : Int) (A' : Option Addr) (n' c' : Nat) (p q : Nat) (w : World) (h0 : w.cell? ⟨p, q, none⟩ = some (.int .i8 k)) (hk : k ≠ 0) :
    Calls Tryz.prog 69 #[.pointer (some ⟨p, q, none⟩), .agg #[.int .i8 k', .slice A' n' c']] w fun e w' => e = .returned (.bool (k' == 0)) ∧ Below w.heap.size w w' := by
  have hlt := Ty.cell_lt h0
  have hz : (k == 0) = false := by simpa using hk
  have hb : Below w.heap.size w (w.alloc (.cells #[.int .i8 k', .slice A' n' c'] 25)) := (Below.refl _ _).alloc (Nat.le_refl _) _
  clear hk
  go_enter Tryz.func69, Tryz.ntmps69
  go_wp2_with fail
  go_ret
  exact ⟨rfl, hb⟩
end Go.Proofs.YtknhoagicdfikaaGreatDoor
namespace Go.Proofs.YtknhoagicdfikaaGreatDoor
open Go.RowKit

/-- the result of going down with order.meet's closure -/
def MeetPost (w : World) (p q lo hi : Nat) (k : Int) (kids : Fo) (k' : Int) (kids' : Fo) (e : Ending) (w' : World) : Prop :=
  e = .returned (.bool true) ∧ Turn w w' p q lo hi ∧ ∃ G c, w'.cell? ⟨p, q, none⟩ = some (.int .i8 (Ty.mK k k')) ∧ w'.cell? ⟨p, q + 1, none⟩ = some (.slice G (Ty.len (Ty.mT k kids k' kids')) c) ∧
    Ty.IsP (fun b => (lo ≤ b ∧ b < hi) ∨ w.heap.size ≤ b) w' (Ty.mK k k') (Ty.mT k kids k' kids') G (Ty.len (Ty.mT k kids k' kids')) c
/-- where a type lies that together may turn -/
structure Own (w : World) (k : Int) (kids : Fo) (A : Option Addr) (c p q lo hi n0 : Nat) : Prop where
  c0 : w.cell? ⟨p, q, none⟩ = some (.int .i8 k)
  c1 : w.cell? ⟨p, q + 1, none⟩ = some (.slice A (Ty.len kids) c)
  fz : ∀ o, w.frozen? ⟨p, o, none⟩ = false
  r : -128 ≤ k ∧ k ≤ 127
  lc : Ty.len kids ≤ c
  cm : c ≤ maxLen
  sep : Ty.SepK w kids A lo hi
  le : lo ≤ hi
  hs : hi ≤ w.heap.size
  out : p < lo ∨ hi ≤ p
  nlo : n0 ≤ lo
  np : n0 ≤ p
  sh : Shapes w
  sn : 1 < n0
theorem Own.below {w w' : World} {k : Int} {kids : Fo} {A : Option Addr} {c p q lo hi n0 : Nat} (h : Own w k kids A c p q lo hi n0) (hb : Below w.heap.size w w') : Own w' k kids A c p q lo hi n0 := by
  have hp := Ty.cell_lt h.c0
  have hhs := h.hs
  exact ⟨by rw [hb.cell (p := ⟨p, q, none⟩) hp]; exact h.c0, by rw [hb.cell (p := ⟨p, q + 1, none⟩) hp]; exact h.c1, fun o => by rw [hb.frozen (p := ⟨p, o, none⟩) hp]; exact h.fz o, h.r, h.lc, h.cm,
    h.sep.keep fun b _ h2 => hb.block b (by omega), h.le, Nat.le_trans h.hs hb.size, h.out, h.nlo, h.np, h.sh.below hb, h.sn⟩
theorem IsP_below {n0 : Nat} {w w' : World} {k : Int} {kids : Fo} {A : Option Addr} {n c : Nat} (h : Ty.IsP (fun b => b < n0) w k kids A n c) (hb : Below n0 w w') : Ty.IsP (fun b => b < n0) w' k kids A n c :=
  h.to fun b o v hP hc => ⟨hP, by rw [hb.cell (p := ⟨b, o, none⟩) hP]; exact hc⟩

/-- the two kids of a type that together may turn -/
theorem Own.two {w : World} {k k1 k2 : Int} {f1 f2 : Fo} {a1 a2 a3 a4 : Nat} {A : Option Addr} {c p q lo hi n0 : Nat} (h : Own w k (.node a1 a2 k1 f1 (.node a3 a4 k2 f2 .nil)) A c p q lo hi n0) :
    ∃ g B1 c1 B2 c2 l1 h1 l2 h2, A = some ⟨g, 0, none⟩ ∧ lo ≤ g ∧ g < hi ∧ lo ≤ l1 ∧ h1 ≤ l2 ∧ h2 ≤ hi ∧ Own w k1 f1 B1 c1 g 0 l1 h1 n0 ∧ Own w k2 f2 B2 c2 g 2 l2 h2 n0 := by
  obtain ⟨e0, e1, fz, r, lc, cm, sep, le, hs, out, nlo, np, sh, sn⟩ := h
  rcases sep with h | ⟨g, rfl, g1, g2, g3, g4⟩
  · cases h
  · obtain ⟨B1, c1, l1, h1, x1, x2, x3, x4, x5, x6, x7, x8, x9, B2, c2, l2, h2, y1, y2, y3, y4, y5, y6, y7, y8, y9, y10⟩ := g4
    have y10' : h2 ≤ hi := y10
    refine ⟨g, B1, c1, B2, c2, l1, h1, l2, h2, rfl, g1, g2, x1, y1, y10', ⟨by simpa using x7, by simpa using x8, g3, x4, x5, x6, x9, x2, by omega, x3, by omega, by omega, sh, sn⟩, ⟨by simpa using y7, by simpa using y8, g3, y4, y5, y6, y9, y2, by omega, y3, by omega, by omega, sh, sn⟩⟩
/-- the second kid stays while the first one turns -/
theorem Own.other {w w' : World} {k2 : Int} {f2 : Fo} {B2 : Option Addr} {c2 g l1 h1 l2 h2 n0 : Nat} (h : Own w k2 f2 B2 c2 g 2 l2 h2 n0) (ht : Turn w w' g 0 l1 h1) (h1l : h1 ≤ l2) (hl1 : n0 ≤ l1) : Own w' k2 f2 B2 c2 g 2 l2 h2 n0 := by
  obtain ⟨e0, e1, fz, r, lc, cm, sep, le, hs, out, nlo, np, sh, sn⟩ := h
  exact ⟨by rw [ht.cell 2 (by omega) (by omega)]; exact e0, by rw [ht.cell 3 (by omega) (by omega)]; exact e1, fun o => by rw [ht.froz]; exact fz o, r, lc, cm, sep.keep fun b q1 q2 => ht.block b (by omega) (by omega) (by omega), le, Nat.le_trans hs ht.size, out, nlo, np,
    ⟨Nat.lt_of_lt_of_le sh.1 ht.size, fun i v hv => by rw [World.cell?_of_block (w := w) (a := ⟨1, i, none⟩) (ht.block _ sh.1 (.inl (Nat.lt_of_lt_of_le sn hl1)) (Nat.ne_of_lt (Nat.lt_of_lt_of_le sn np)))]; exact sh.2 i v hv⟩, sn⟩

theorem Turn.undrew {w w' : World} {p q lo hi n : Nat} (h : Turn (w.drewN n) w' p q lo hi) : Turn w w' p q lo hi := ⟨h.os, h.tape, h.output, h.size, h.block, h.cell, h.froz⟩
/-- one kid has turned -/
structure MS1 (w3 wr : World) (k : Int) (g c p q lo hi : Nat) (m1 : Int) (t1 : Fo) (l1 h1 : Nat) : Prop where
  turn : Turn w3 wr p q lo hi
  x0 : wr.cell? ⟨p, q, none⟩ = some (.int .i8 k)
  x1 : wr.cell? ⟨p, q + 1, none⟩ = some (.slice (some ⟨g, 0, none⟩) 2 c)
  kid : ∃ G e, wr.cell? ⟨g, 0, none⟩ = some (.int .i8 m1) ∧ wr.cell? ⟨g, 1, none⟩ = some (.slice G (Ty.len t1) e) ∧ Ty.IsP (fun b => (l1 ≤ b ∧ b < h1) ∨ w3.heap.size ≤ b) wr m1 t1 G (Ty.len t1) e
/-- both have -/
structure MS2 (w3 wr : World) (k : Int) (g c p q lo hi : Nat) (m1 : Int) (t1 : Fo) (m2 : Int) (t2 : Fo) : Prop where
  turn : Turn w3 wr p q lo hi
  x0 : wr.cell? ⟨p, q, none⟩ = some (.int .i8 k)
  x1 : wr.cell? ⟨p, q + 1, none⟩ = some (.slice (some ⟨g, 0, none⟩) 2 c)
  kid1 : ∃ G e, wr.cell? ⟨g, 0, none⟩ = some (.int .i8 m1) ∧ wr.cell? ⟨g, 1, none⟩ = some (.slice G (Ty.len t1) e) ∧ Ty.IsP (fun b => (lo ≤ b ∧ b < hi) ∨ w3.heap.size ≤ b) wr m1 t1 G (Ty.len t1) e
  kid2 : ∃ G e, wr.cell? ⟨g, 2, none⟩ = some (.int .i8 m2) ∧ wr.cell? ⟨g, 3, none⟩ = some (.slice G (Ty.len t2) e) ∧ Ty.IsP (fun b => (lo ≤ b ∧ b < hi) ∨ w3.heap.size ≤ b) wr m2 t2 G (Ty.len t2) e
theorem ms1 {w3 w5 : World} {k p1 p1' p2 : Int} {f1 f1' f2 : Fo} {g c p q lo hi n0 l1 h1 l2 h2 c2 : Nat} {B2 : Option Addr} {e : Ending} (x0 : w3.cell? ⟨p, q, none⟩ = some (.int .i8 k)) (x1 : w3.cell? ⟨p, q + 1, none⟩ = some (.slice (some ⟨g, 0, none⟩) 2 c))
    (hg1 : lo ≤ g) (hg2 : g < hi) (q1 : lo ≤ l1) (q2 : h1 ≤ l2) (q3 : h2 ≤ hi) (out : p < lo ∨ hi ≤ p) (OB : Own w3 p2 f2 B2 c2 g 2 l2 h2 n0) (hl1 : n0 ≤ l1) (hm : MeetPost (w3.drewN 1) g 0 l1 h1 p1 f1 p1' f1' e w5) :
    MS1 w3 w5 k g c p q lo hi (Ty.mK p1 p1') (Ty.mT p1 f1 p1' f1') l1 h1 ∧ Own w5 p2 f2 B2 c2 g 2 l2 h2 n0 := by
  obtain ⟨rfl, ht0, G, e1, y0, y1, hi1⟩ := hm
  have ht := ht0.undrew
  have hps := Ty.cell_lt x0
  have hle := OB.le
  have hpb : w5.heap[p]? = w3.heap[p]? := ht.block p hps (by omega) (by omega)
  exact ⟨⟨ht.sub hg1 hg2 q1 (by omega) out hps, by rw [World.cell?_of_block (w := w3) (a := ⟨p, q, none⟩) hpb]; exact x0, by rw [World.cell?_of_block (w := w3) (a := ⟨p, q + 1, none⟩) hpb]; exact x1, G, e1, y0, y1, hi1⟩, OB.other ht q2 hl1⟩
theorem ms2 {w3 wr w5 : World} {k m1 p2 p2' : Int} {t1 f2 f2' : Fo} {g c p q lo hi n0 l1 h1 l2 h2 c2 : Nat} {B2 : Option Addr} {e : Ending} (hM : MS1 w3 wr k g c p q lo hi m1 t1 l1 h1)
    (hg1 : lo ≤ g) (hg2 : g < hi) (q0 : g < l1 ∨ h1 ≤ g) (q4 : l1 ≤ h1) (q1 : lo ≤ l1) (q2 : h1 ≤ l2) (q3 : h2 ≤ hi) (hhs : hi ≤ w3.heap.size) (out : p < lo ∨ hi ≤ p) (OB : Own wr p2 f2 B2 c2 g 2 l2 h2 n0) (hm : MeetPost (wr.drewN 1) g 2 l2 h2 p2 f2 p2' f2' e w5) :
    MS2 w3 w5 k g c p q lo hi m1 t1 (Ty.mK p2 p2') (Ty.mT p2 f2 p2' f2') := by
  obtain ⟨rfl, ht0, G, e1, y0, y1, hi1⟩ := hm
  have ht := ht0.undrew
  have hle := OB.le
  have hsz := hM.turn.size
  obtain ⟨turn, x0, x1, G1, d1, z0, z1, hi0⟩ := hM
  have hps := Ty.cell_lt x0
  have hpb : w5.heap[p]? = wr.heap[p]? := ht.block p hps (by omega) (by omega)
  refine ⟨turn.trans (ht.sub hg1 hg2 (by omega) q3 out hps), by rw [World.cell?_of_block (w := wr) (a := ⟨p, q, none⟩) hpb]; exact x0, by rw [World.cell?_of_block (w := wr) (a := ⟨p, q + 1, none⟩) hpb]; exact x1,
    ⟨G1, d1, by rw [ht.cell 0 (by omega) (by omega)]; exact z0, by rw [ht.cell 1 (by omega) (by omega)]; exact z1, hi0.to fun b o v hP hc => ?_⟩, ⟨G, e1, y0, y1, hi1.to fun b o v hP hc => ⟨?_, hc⟩⟩⟩
  · have hb := Ty.cell_lt hc
    refine ⟨by rcases hP with hP | hP <;> omega, ?_⟩
    rw [World.cell?_of_block (w := wr) (a := ⟨b, o, none⟩) (ht.block b hb (by omega) (by omega))]
    exact hc
  · have h9 : (wr.drewN 1).heap.size = wr.heap.size := rfl
    rcases hP with hP | hP
    · left; omega
    · right; omega

set_option maxHeartbeats 4000000 in
set_option maxRecDepth 100000 in
theorem tmeet_any (K : Nat) : ∀ (k : Int) (kids : Fo) (A : Option Addr) (c : Nat) (k' : Int) (kids' : Fo) (A' : Option Addr) (n' c' : Nat) (p q lo hi n0 : Nat) (w : World), Ty.nodes kids < K → Own w k kids A c p q lo hi n0 →
    Ty.IsP (fun b => b < n0) w k' kids' A' n' c' → Ty.okT k kids = true → Ty.okT k' kids' = true → Ty.chk k' kids' = 0 → Ty.agT k kids k' kids' = true →
    Calls Tryz.prog 68 #[.pointer (some ⟨p, q, none⟩), .agg #[.int .i8 k', .slice A' n' c'], .func (Fn.func 69) #[] #[]] w (MeetPost w p q lo hi k kids k' kids') := by
  induction K with
  | zero => intro _ _ _ _ _ _ _ _ _ _ _ _ _ _ _ h; omega
  | succ K ih =>
    intro k kids A c k' kids' A' n' c' p q lo hi n0 w hK hO hIs' ho ho' hsm hag
    have hcf := cf_meet1
    have hb1 : Below w.heap.size w (w.alloc (.cells #[.int .i8 k', .slice A' n' c'] 25)) := (Below.refl _ _).alloc (Nat.le_refl _) _
    have hbox := heap_new w (.cells #[.int .i8 k', .slice A' n' c'] 25)
    generalize hw1 : w.alloc (.cells #[.int .i8 k', .slice A' n' c'] 25) = w1 at *
    have HW := Lib.hid hw1
    clear hw1
    have hps := Ty.cell_lt hO.c0
    have hos := hO.hs
    have hn0 : n0 ≤ w.heap.size := by have := hO.nlo; have := hO.le; omega
    have hO1 := hO.below hb1
    have HI' := Lib.hid (IsP_below hIs' (hb1.mono hn0))
    have IH := Lib.hid ih
    have HB1 := Lib.hid hb1
    have HX := Lib.hid hbox
    have HO0 := Lib.hid hO
    have HPS := Lib.hid hps
    have HOS := Lib.hid hos
    have HN0 := Lib.hid hn0
    clear ih hIs' hb1 hbox hO hps hos hn0
    by_cases hk0 : k = 0
    · subst hk0
      have HP := Lib.hid (meet1_zero k' kids' A' n' c' p q _ w1 hO1.c0 hO1.c1 (hO1.fz _) (hO1.fz _) HI'.out.is hsm hO1.sh)
      have HR := Lib.hid (And.intro HI'.out.lo HI'.out.hi)
      have HOO := Lib.hid hO1.out
      clear ho ho' hag hO1
      obtain ⟨d0, d1, _, _, hd0⟩ := own2 HX.out
      go_enter Tryz.func68, Tryz.ntmps68
      go_upto_region 1 with fail
      rw [HW.out]
      go_wp2_with fail
      refine HP.out.mono ?_
      rintro e w2 ⟨rfl, u, G, c2, hb, hc1, hc2, hsep, rfl⟩
      have HBU := Lib.hid (HB1.out.trans (hb.mono HB1.out.size))
      have HSP := Lib.hid hsep
      have HQ := Lib.hid (And.intro hc1 hc2)
      have HEX := Lib.hid (And.intro ((HBU.out.cell (p := ⟨p, q, none⟩) HPS.out).trans HO0.out.c0) ((HBU.out.cell (p := ⟨p, q + 1, none⟩) HPS.out).trans HO0.out.c1))
      generalize hwz : (u.setCell ⟨p, q, none⟩ (.int .i8 k')).setCell ⟨p, q + 1, none⟩ (.slice G (Ty.len kids') c2) = wz at *
      have HWZ := Lib.hid hwz
      clear hb hsep hc1 hc2 hwz
      go_wp2_with fail
      go_ret
      refine ⟨rfl, ?_, G, c2, ?_, ?_, ?_⟩
      · rw [← HWZ.out]; exact Turn.sets HBU.out HPS.out _ _
      · rw [← HWZ.out, World.cell?_setCell_other _ _ _ _ (fun e => by injection e with _ e; omega)]
        exact World.cell?_setCell_same _ _ _ HEX.out.1
      · rw [← HWZ.out]
        exact World.cell?_setCell_same _ _ _ ((World.cell?_setCell_other _ _ _ _ (fun e => by injection e with _ e; omega)).trans HEX.out.2)
      · refine (HSP.out.inP HR.out HQ.out.1 HQ.out.2).to fun b o v hP hc => ⟨.inr (by have := HB1.out.size; omega), ?_⟩
        have h1 := HB1.out.size
        have hne : p ≠ b := by have := HPS.out; omega
        rw [← HWZ.out, World.cell?_setCell_other _ _ _ _ (fun e => hne (by injection e)), World.cell?_setCell_other _ _ _ _ (fun e => hne (by injection e))]
        exact hc
    have HP := Lib.hid (meet1_ne k k' A' n' c' p q w1 hO1.c0 hk0)
    have HO1 := Lib.hid hO1
    clear hO1
    by_cases hk0' : k' = 0
    · subst hk0'
      clear ho ho' hag
      obtain ⟨d0, d1, _, _, hd0⟩ := own2 HX.out
      have HK0 := Lib.hid hk0
      clear hk0
      go_enter Tryz.func68, Tryz.ntmps68
      go_upto_region 1 with fail
      rw [HW.out]
      go_wp2_with fail
      refine HP.out.mono ?_
      rintro e w2 ⟨rfl, hb⟩
      have HBU := Lib.hid (HB1.out.trans (hb.mono HB1.out.size))
      clear hb
      go_wp2_with fail
      go_ret
      have hO2 := HO0.out.below HBU.out
      refine ⟨rfl, Turn.of HBU.out HPS.out, A, c, ?_, ?_, ?_⟩
      · rw [Ty.mK_ne _ HK0.out]; exact hO2.c0
      · rw [Ty.mT_zero' _ _ HK0.out]; exact hO2.c1
      · rw [Ty.mK_ne _ HK0.out, Ty.mT_zero' _ _ HK0.out]
        exact (hO2.sep.inP hO2.r hO2.lc hO2.cm).to fun b o v hP hc => ⟨.inl hP, hc⟩
    obtain rfl : k = k' := by
      by_cases e : k = k'
      · exact e
      · rw [Ty.agT_ne _ _ hk0 hk0' e] at hag; cases hag
    have hz : (k == 0) = false := by simpa using hk0
    rw [hz] at HP
    rw [Ty.agT_eq _ _ hk0] at hag
    have hk2 : (k != k) = false := by simp
    have HK0 := Lib.hid hk0
    by_cases hlow : k ≤ 2
    · obtain rfl := Ty.none_of ho hlow
      obtain rfl := Ty.none_of ho' hlow
      have hn' := HI'.out.n_eq
      simp only [Ty.len] at hn'
      subst hn'
      clear ho ho' hag hlow hk0 hk0'
      obtain ⟨d0, d1, _, _, hd0⟩ := own2 HX.out
      go_enter Tryz.func68, Tryz.ntmps68
      go_upto_region 1 with fail
      rw [HW.out]
      go_wp2_with fail
      refine HP.out.mono ?_
      rintro e w2 ⟨rfl, hb⟩
      clear d0 d1 hd0
      have HBU := Lib.hid (HB1.out.trans (hb.mono HB1.out.size))
      have X2 := Lib.hid (heap_below hb (heap_lt HX.out) HX.out)
      have hO2 := HO0.out.below HBU.out
      obtain ⟨d0, d1, _, _, hd0⟩ := own2 X2.out
      have e0 := hO2.c0
      have e1 := hO2.c1
      simp only [Ty.len] at e1
      clear hb hO2
      go_wp2_with fail
      go_quiet (fail)
      have HB3 := Lib.hid (below_drewN HBU.out nq)
      have g0 : (w2.drewN nq).cell? ⟨p, q, none⟩ = some (.int .i8 k) := e0
      have g1 : (w2.drewN nq).cell? ⟨p, q + 1, none⟩ = some (.slice A 0 c) := e1
      clear e0 e1 d0 d1 hd0
      generalize w2.drewN nq = w3 at *
      go_wp2_with fail
      go_loopw [24] (fun v24 wr => v24 = .int .i64 0 ∧ wr = w3) (fun _ _ => 0)
      case atStart => exact ⟨rfl, rfl⟩
      case round =>
        obtain ⟨rfl, rfl⟩ := hrel
        go_wp2_with fail
        go_ret
        have hO3 := HO0.out.below HB3.out
        have hm : Ty.mT k .nil k .nil = .nil := by rw [Ty.mT_two _ _ HK0.out HK0.out]; rfl
        refine ⟨rfl, Turn.of HB3.out HPS.out, A, c, ?_, ?_, ?_⟩
        · rw [Ty.mK_ne _ HK0.out]; exact hO3.c0
        · rw [hm]; exact hO3.c1
        · rw [Ty.mK_ne _ HK0.out, hm]
          exact ⟨trivial, rfl, Nat.zero_le _, hO3.cm, hO3.r.1, hO3.r.2⟩
    obtain ⟨a1, a2, p1, f1, a3, a4, p2, f2, rfl, o1, o2⟩ := Ty.two_of ho (by omega)
    obtain ⟨a1', a2', p1', f1', a3', a4', p2', f2', rfl, o1', o2'⟩ := Ty.two_of ho' (by omega)
    have hag2 : Ty.agT p1 f1 p1' f1' = true ∧ Ty.agT p2 f2 p2' f2' = true := by
      unfold Ty.agT
      simpa [Ty.agF] using hag
    have hm : Ty.mT k (.node a1 a2 p1 f1 (.node a3 a4 p2 f2 .nil)) k (.node a1' a2' p1' f1' (.node a3' a4' p2' f2' .nil)) = .node a1 a2 (Ty.mK p1 p1') (Ty.mT p1 f1 p1' f1') (.node a3 a4 (Ty.mK p2 p2') (Ty.mT p2 f2 p2' f2') .nil) := by
      rw [Ty.mT_two _ _ HK0.out HK0.out]; rfl
    obtain ⟨g, B1, c1, B2, c2, l1, h1, l2, h2, rfl, hg1, hg2, q1, q2, q3, OA, OB⟩ := HO0.out.two
    obtain rfl : n' = 2 := HI'.out.n_eq
    simp only [Ty.nodes] at hK
    obtain ⟨hsm1, hsm2⟩ := Ty.chk_both hsm
    have hbbn : ∀ b o, A' = some ⟨b, o, none⟩ → b < n0 := by
      obtain ⟨b, o, B, c9, e, hP, -⟩ := HI'.out.lies
      intro b2 o2 e2
      rw [e2] at e; injection e with e; injection e with e3 e4; rw [e3]; exact hP
    obtain ⟨bb, oo, U1, dd1, U2, dd2, rfl, y0, y1, y2, y3, i1, i2⟩ := Ty.LiesP.two HI'.out.lies
    have HBB := Lib.hid (hbbn bb oo rfl)
    have HM := Lib.hid hm
    have HG := Lib.hid (And.intro hg1 (And.intro hg2 (And.intro q1 (And.intro q2 q3))))
    have HOA := Lib.hid OA
    have HOB := Lib.hid OB
    have HOUT := Lib.hid HO0.out.out
    have D1 := Lib.hid (fun (W : World) (hO : Own W p1 f1 B1 c1 g 0 l1 h1 n0) (hI : Ty.IsP (fun b => b < n0) W p1' f1' U1 (Ty.len f1') dd1) => IH.out p1 f1 B1 c1 p1' f1' U1 (Ty.len f1') dd1 g 0 l1 h1 n0 W (by omega) hO hI o1 o1' hsm1 hag2.1)
    have D2 := Lib.hid (fun (W : World) (hO : Own W p2 f2 B2 c2 g 2 l2 h2 n0) (hI : Ty.IsP (fun b => b < n0) W p2' f2' U2 (Ty.len f2') dd2) => IH.out p2 f2 B2 c2 p2' f2' U2 (Ty.len f2') dd2 g 2 l2 h2 n0 W (by omega) hO hI o2 o2' hsm2 hag2.2)
    have I1 := Lib.hid i1
    have I2 := Lib.hid i2
    clear ho ho' hag hag2 hm hlow hk0 hk0' hbbn i1 i2 o1 o2 o1' o2' OA OB hg1 hg2 q1 q2 q3 hK hsm IH
    obtain ⟨d0, d1, _, _, hd0⟩ := own2 HX.out
    have HY := Lib.hid (And.intro y0 (And.intro y1 (And.intro y2 y3)))
    clear y0 y1 y2 y3
    go_enter Tryz.func68, Tryz.ntmps68
    go_upto_region 1 with fail
    rw [HW.out]
    go_wp2_with fail
    refine HP.out.mono ?_
    rintro e w2 ⟨rfl, hb⟩
    clear d0 d1 hd0
    have HBU := Lib.hid (HB1.out.trans (hb.mono HB1.out.size))
    have HBV := Lib.hid (hb.mono (Nat.le_trans HN0.out HB1.out.size))
    have X2 := Lib.hid (heap_below hb (heap_lt HX.out) HX.out)
    have hO2 := HO0.out.below HBU.out
    obtain ⟨d0, d1, _, _, hd0⟩ := own2 X2.out
    have e0 := hO2.c0
    have e1 := hO2.c1
    simp only [Ty.len, Nat.zero_add, Nat.reduceAdd] at e1
    clear hb hO2
    go_wp2_with fail
    go_quiet (fail)
    have HB3 := Lib.hid (below_drewN HBU.out nq)
    have HBV3 := Lib.hid (below_drewN HBV.out nq)
    have g0 : (w2.drewN nq).cell? ⟨p, q, none⟩ = some (.int .i8 k) := e0
    have g1 : (w2.drewN nq).cell? ⟨p, q + 1, none⟩ = some (.slice (some ⟨g, 0, none⟩) 2 c) := e1
    have X3 := Lib.hid (show (w2.drewN nq).heap[w.heap.size]? = _ from X2.out)
    have hws : w1.heap.size ≤ (w2.drewN nq).heap.size := HBV3.out.size
    clear e0 e1 d0 d1 hd0 HBU HBV X2
    generalize w2.drewN nq = w3 at *
    have HX0 := Lib.hid g0
    have HX1 := Lib.hid g1
    have HWS := Lib.hid (show w.heap.size + 1 ≤ w3.heap.size by have := heap_lt X3.out; omega)
    clear hws
    go_wp2_with fail
    clear g0 g1
    go_loopw [24] (fun v24 wr => (v24 = .int .i64 0 ∧ wr = w3) ∨ (v24 = .int .i64 1 ∧ MS1 w3 wr k g c p q lo hi (Ty.mK p1 p1') (Ty.mT p1 f1 p1' f1') l1 h1 ∧ Own wr p2 f2 B2 c2 g 2 l2 h2 n0) ∨
      (v24 = .int .i64 2 ∧ MS2 w3 wr k g c p q lo hi (Ty.mK p1 p1') (Ty.mT p1 f1 p1' f1') (Ty.mK p2 p2') (Ty.mT p2 f2 p2' f2'))) (fun v _ => 2 - (intOf v).toNat)
    case atStart => exact .inl ⟨rfl, rfl⟩
    case round =>
      rcases hrel with ⟨rfl, hw⟩ | ⟨rfl, hM, hOB⟩ | ⟨rfl, hM⟩
      · obtain rfl : w3 = wr := hw.symm
        have hBd := below_drewN (Below.refl w3.heap.size w3) 1
        have e1 := HX1.out
        obtain ⟨d0, d1, _, _, hd0⟩ := own2 X3.out
        have z0 : w3.cell? ⟨bb, oo, none⟩ = some (.int .i8 p1') := by rw [HBV3.out.cell (p := ⟨bb, oo, none⟩) HBB.out]; exact HY.out.1
        have z1 : w3.cell? ⟨bb, oo + 1, none⟩ = some (.slice U1 (Ty.len f1') dd1) := by rw [HBV3.out.cell (p := ⟨bb, oo + 1, none⟩) HBB.out]; exact HY.out.2.1
        have HC := Lib.hid (D1.out (w3.drewN 1) ((HOA.out.below HB3.out).below hBd) (IsP_below I1.out (below_drewN HBV3.out 1)))
        have HN := Lib.hid (fun e w5 hm => ms1 (e := e) (w5 := w5) HX0.out HX1.out HG.out.1 HG.out.2.1 HG.out.2.2.1 HG.out.2.2.2.1 HG.out.2.2.2.2 HOUT.out (HOB.out.below HB3.out) (hl1 := HOA.out.nlo) (f1 := f1) (f1' := f1') (p1 := p1) (p1' := p1') (l1 := l1) hm)
        clear hBd hw
        go_wp2_with fail
        go_still_tail 12, (by kernel_rfl)
        change wpList _ _ _ _ _ (w3.drewN 1)
        clear e1 d0 d1 hd0 z0 z1
        generalize w3.drewN 1 = w4 at *
        go_wp2_with fail
        refine HC.out.mono ?_
        rintro e w5 hm
        have HMS := Lib.hid (HN.out e w5 hm)
        obtain ⟨rfl, -⟩ := hm
        go_wp2_with fail
        go_roundw
        case rel => exact .inr (.inl ⟨by go_num, HMS.out.1, HMS.out.2⟩)
        case measure => simp [intOf]
      · have hTs := hM.turn.size
        have hbx : wr.heap[w.heap.size]? = w3.heap[w.heap.size]? := hM.turn.block _ (heap_lt X3.out) (.inr HOS.out) (by have := HPS.out; omega)
        have hbn : Below n0 w3 wr := hM.turn.below HO0.out.nlo HO0.out.np (Nat.le_trans HN0.out HB3.out.size)
        have hBd := below_drewN (Below.refl wr.heap.size wr) 1
        have e1 := hM.x1
        obtain ⟨d0, d1, _, _, hd0⟩ := own2 (hbx.trans X3.out)
        have z0 : wr.cell? ⟨bb, oo + 2, none⟩ = some (.int .i8 p2') := by rw [(HBV3.out.trans hbn).cell (p := ⟨bb, oo + 2, none⟩) HBB.out]; exact HY.out.2.2.1
        have z1 : wr.cell? ⟨bb, oo + 3, none⟩ = some (.slice U2 (Ty.len f2') dd2) := by rw [(HBV3.out.trans hbn).cell (p := ⟨bb, oo + 3, none⟩) HBB.out]; exact HY.out.2.2.2
        have HC := Lib.hid (D2.out (wr.drewN 1) (hOB.below hBd) (IsP_below I2.out (below_drewN (HBV3.out.trans hbn) 1)))
        have HN := Lib.hid (fun e w5 hm => ms2 (e := e) (w5 := w5) hM HG.out.1 HG.out.2.1 HOA.out.out HOA.out.le HG.out.2.2.1 HG.out.2.2.2.1 HG.out.2.2.2.2 (Nat.le_trans HOS.out HB3.out.size) HOUT.out hOB (f2 := f2) (f2' := f2') (p2 := p2) (p2' := p2') hm)
        clear hBd hM hOB hbx hbn hTs
        go_wp2_with fail
        go_still_tail 12, (by kernel_rfl)
        change wpList _ _ _ _ _ (wr.drewN 1)
        clear e1 d0 d1 hd0 z0 z1
        generalize wr.drewN 1 = w4 at *
        go_wp2_with fail
        refine HC.out.mono ?_
        rintro e w5 hm
        have HMS := Lib.hid (HN.out e w5 hm)
        obtain ⟨rfl, -⟩ := hm
        go_wp2_with fail
        go_roundw
        case rel => exact .inr (.inr ⟨by go_num, HMS.out⟩)
        case measure => simp [intOf]
      · have HMM := Lib.hid hM
        clear hM
        go_wp2_with fail
        go_ret
        have hM := HMM.out
        obtain ⟨G1, d1, k10, k11, k12⟩ := hM.kid1
        obtain ⟨G2, d2, k20, k21, k22⟩ := hM.kid2
        have hO3 := HO0.out
        have hsz := HB3.out.size
        have hPP : ∀ b, ((lo ≤ b ∧ b < hi) ∨ w3.heap.size ≤ b) → ((lo ≤ b ∧ b < hi) ∨ w.heap.size ≤ b) := fun b h => h.imp id (fun h => Nat.le_trans hsz h)
        refine ⟨rfl, (Turn.of HB3.out HPS.out).trans hM.turn, some ⟨g, 0, none⟩, c, ?_, ?_, ?_⟩
        · rw [Ty.mK_ne _ HK0.out]; exact hM.x0
        · rw [HM.out]; exact hM.x1
        · rw [Ty.mK_ne _ HK0.out, HM.out]
          have j1 := k12.to (P' := fun b => (lo ≤ b ∧ b < hi) ∨ w.heap.size ≤ b) (w' := wr) fun b o v hP hc => ⟨hPP b hP, hc⟩
          have j2 := k22.to (P' := fun b => (lo ≤ b ∧ b < hi) ∨ w.heap.size ≤ b) (w' := wr) fun b o v hP hc => ⟨hPP b hP, hc⟩
          refine ⟨⟨g, 0, G1, d1, rfl, .inl ⟨HG.out.1, HG.out.2.1⟩, ⟨j1.lo, j1.hi⟩, k10, k11, j1.n_le, j1.c_le, j1.lies, ?_⟩, rfl, hO3.lc, hO3.cm, hO3.r.1, hO3.r.2⟩
          exact ⟨g, 0, G2, d2, rfl, .inl ⟨HG.out.1, HG.out.2.1⟩, ⟨j2.lo, j2.hi⟩, k20, k21, j2.n_le, j2.c_le, j2.lies, trivial⟩
end Go.Proofs.YtknhoagicdfikaaGreatDoor
