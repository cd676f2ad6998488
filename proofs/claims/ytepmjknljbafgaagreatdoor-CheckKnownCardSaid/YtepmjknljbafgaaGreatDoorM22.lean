import Derived.Test.YtepmjknljbafgaaGreatDoorM23
import Derived.Test.YtepmjknljbafgaaGreatDoorM21
namespace Go.Proofs.YtepmjknljbafgaaGreatDoor
open Go.RowKit
theorem zIJ {P : Prop} (h : P := by
  refine bodyPost_ret (v := .tuple #[.agg #[.int .i8 0, .slice none 0 0], .agg #[.int .i8 0, .slice none 0 0], .bool false]) (by simp [results, Tryz.results41, go_sem, *]) rfl ⟨none, 0, 0, none, 0, 0, rfl, (fun u _ => Ty.vF u), (fun u _ => Ty.vF u), ?_⟩
  exact xU HB2.out (Nat.le_add_right _ _) (by omega) _ _ _ _) : P := h
theorem zGY {P : Prop} (h : P := by
  rw [World.cell?_setCell_other _ _ _ _ (fun e => hne (by injection e)), World.cell?_setCell_other _ _ _ _ (fun e => hne (by injection e))]
  exact hc) : P := h
end Go.Proofs.YtepmjknljbafgaaGreatDoor
namespace Go.Proofs.YtepmjknljbafgaaGreatDoor
set_option maxHeartbeats 1000000
set_option maxRecDepth 100000
open Go.RowKit
namespace Ty
theorem SepF.inP {w : World} {P : Nat -> Prop} : ∀ (f : Fo) (g i lo hi : Nat), P g -> (∀ b, lo <= b -> b < hi -> P b) -> SepF w g f i lo hi -> LiesP P w f (some ⟨g, 0, none⟩) i
  | .nil, _, _, _, _, _, _, _ => trivial
  | .node _ _ _ kids r, g, i, lo, hi, hg, hb, h => by
    obtain ⟨A, c, lo', hi', a1, a2, a3, a4, a5, a6, a7, a8, a9, a10⟩ := h;have hle := SepF.le r _ _ _ a10;refine ⟨g, 0, A, c, rfl, hg, a4, by rw [Nat.zero_add]; exact a7, by rw [Nat.zero_add]; exact a8, a5, a6, ?_, SepF.inP r g (i + 1) hi' hi hg (fun b h1 h2 => hb b (by omega) h2) a10⟩;rcases a9 with rfl | ⟨g', rfl, b2, b3, b4, b5⟩
    · trivial
    · exact SepF.inP kids g' 0 lo' hi' (hb g' (by omega) (by omega)) (fun b h1 h2 => hb b (by omega) (by omega)) b5
theorem SepK.inP {w : World} {k : Int} {kids : Fo} {A : Option Addr} {lo hi c : Nat} (h : SepK w kids A lo hi) (hk : -128 <= k /\ k <= 127) (h1 : len kids <= c) (h2 : c <= maxLen) : IsP (fun b => lo <= b /\ b < hi) w k kids A (len kids) c := by
  refine ⟨?_, rfl, h1, h2, hk.1, hk.2⟩;rcases h with rfl | ⟨g', rfl, a2, a3, a4, a5⟩
  · trivial
  · exact SepF.inP kids g' 0 lo hi ⟨a2, a3⟩ (fun b h1 h2 => ⟨h1, h2⟩) a5
end Ty
structure Turn (w w' : World) (p q lo hi : Nat) : Prop where
  os : w'.os = w.os
  tape : w'.tape = w.tape
  output : w'.output = w.output
  size : w.heap.size <= w'.heap.size
  block : ∀ b, b < w.heap.size -> (b < lo \/ hi <= b) -> b ≠ p -> w'.heap[b]? = w.heap[b]?
  cell : ∀ o, o ≠ q -> o ≠ q + 1 -> w'.cell? ⟨p, o, none⟩ = w.cell? ⟨p, o, none⟩
  froz : ∀ o, w'.frozen? ⟨p, o, none⟩ = w.frozen? ⟨p, o, none⟩
theorem Turn.of {w w' : World} {p q lo hi : Nat} (h : Below w.heap.size w w') (hp : p < w.heap.size) : Turn w w' p q lo hi :=
  ⟨h.os, h.tape, h.output, h.size, fun b hb _ _ => h.block b hb, fun o _ _ => h.cell (p := ⟨p, o, none⟩) hp, fun o => h.frozen (p := ⟨p, o, none⟩) hp⟩
theorem Turn.trans {a b c : World} {p q lo hi : Nat} (h : Turn a b p q lo hi) (k : Turn b c p q lo hi) : Turn a c p q lo hi :=
  ⟨k.os.trans h.os, k.tape.trans h.tape, k.output.trans h.output, Nat.le_trans h.size k.size, fun i h1 h2 h3 => (k.block i (Nat.lt_of_lt_of_le h1 h.size) h2 h3).trans (h.block i h1 h2 h3),
    fun o h1 h2 => (k.cell o h1 h2).trans (h.cell o h1 h2), fun o => (k.froz o).trans (h.froz o)⟩
theorem Turn.sub {w w' : World} {g q' lo' hi' p q lo hi : Nat} (h : Turn w w' g q' lo' hi') (hg1 : lo <= g) (hg2 : g < hi) (h1 : lo <= lo') (h2 : hi' <= hi) (hp : p < lo \/ hi <= p) (hps : p < w.heap.size) : Turn w w' p q lo hi := by
  have hpb := h.block p hps (by omega) (by omega);exact ⟨h.os, h.tape, h.output, h.size, fun b b1 b2 b3 => h.block b b1 (by omega) (by omega), fun o _ _ => World.cell?_of_block (w := w) (a := ⟨p, o, none⟩) hpb, fun o => World.frozen?_of_block (w := w) (a := ⟨p, o, none⟩) hpb⟩
theorem Turn.sets {w u : World} {p q lo hi : Nat} (h : Below w.heap.size w u) (hp : p < w.heap.size) (x y : Value) : Turn w ((u.setCell ⟨p, q, none⟩ x).setCell ⟨p, q + 1, none⟩ y) p q lo hi := by
  refine ⟨h.os, h.tape, h.output, by simp [World.setCell]; exact h.size, fun b b1 _ b3 => ?_, fun o h1 h2 => ?_, fun o => ?_⟩
  · rw [Below.heap_setCell _ _ _ b b3, Below.heap_setCell _ _ _ b b3]; exact h.block b b1
  · rw [World.cell?_setCell_other _ _ _ _ (fun e => by injection e with _ e; omega), World.cell?_setCell_other _ _ _ _ (fun e => by injection e with _ e; omega)]; exact h.cell (p := ⟨p, o, none⟩) hp
  · rw [World.frozen?_setCell, World.frozen?_setCell]; exact h.frozen (p := ⟨p, o, none⟩) hp
theorem Turn.below {w w' : World} {p q lo hi n0 : Nat} (h : Turn w w' p q lo hi) (hlo : n0 <= lo) (hp : n0 <= p) (hs : n0 <= w.heap.size) : Below n0 w w' :=
  ⟨h.os, h.tape, h.output, h.size, fun b hb => h.block b (by omega) (by omega) (by omega)⟩
theorem zF2 (args : Array Value) (W : World) : (callFunc 104 args).run Tryz.prog W = .ok (.enter 104 args) W := by simp [go_sem]
theorem zBc (k' : Int) (kids' : Fo) (A' : Option Addr) (n' c' : Nat) (p q : Nat) (v1 : Value) (w : World) (h0 : w.cell? ⟨p, q, none⟩ = some (.int .i8 0)) (h1 : w.cell? ⟨p, q + 1, none⟩ = some v1) (f0 : w.frozen? ⟨p, q, none⟩ = false) (f1 : w.frozen? ⟨p, q + 1, none⟩ = false)
    (hIs' : Ty.Is w k' kids' A' n' c') (hsm : Ty.chk k' kids' = 0) (hSh : Shapes w) :
    Calls Tryz.prog 104 #[.pointer (some ⟨p, q, none⟩), .agg #[.int .i8 k', .slice A' n' c']] w fun e w' => e = .returned (.bool true) /\ ∃ u G c, Below w.heap.size w u /\ Ty.len kids' <= c /\ c <= maxLen /\ Ty.SepK u kids' G w.heap.size u.heap.size /\
      w' = (u.setCell ⟨p, q, none⟩ (.int .i8 k')).setCell ⟨p, q + 1, none⟩ (.slice G (Ty.len kids') c) := by
  have hlt := Ty.zN h0;have hb : Below w.heap.size w (w.alloc (.cells #[.int .i8 k', .slice A' n' c'] 30)) := (Below.refl _ _).alloc (Nat.le_refl _) _;have hbox := zF w (.cells #[.int .i8 k', .slice A' n' c'] 30);have hsz : (w.alloc (.cells #[.int .i8 k', .slice A' n' c'] 30)).heap.size = w.heap.size + 1 := by simp
  have HC := k0_ (kv k' kids' A' n' c' _ (hIs'.below hb) (hSh.below hb) hsm);obtain ⟨d0, d1, _, _, hd⟩ := zK hbox;have HB := k0_ hb;have HF := k0_ (And.intro f0 f1);have H1 := k0_ h1;have H0 := k0_ h0;have HSZ := k0_ hsz;clear hIs' hb hbox h1 f0 f1 hsz hSh hsm
  go_enter Tryz.func104, Tryz.ntmps104
  go_upto_region 2 with fail
  generalize w.alloc (.cells #[.int .i8 k', .slice A' n' c'] 30) = w1 at *
  go_wp2_with fail
  refine HC.out.mono ?_;rintro e u ⟨G, c, rfl, hc1, hc2, hsep, hb⟩;have hB := HB.out.trans (hb.mono HB.out.size);have e0 : u.cell? ⟨p, q, none⟩ = some (.int .i8 0) := by rw [hB.cell (p := ⟨p, q, none⟩) hlt]; exact H0.out
  have e1 : u.cell? ⟨p, q + 1, none⟩ = some v1 := by rw [hB.cell (p := ⟨p, q + 1, none⟩) hlt]; exact H1.out
  have e2 : u.frozen? ⟨p, q, none⟩ = false := by rw [hB.frozen (p := ⟨p, q, none⟩) hlt]; exact HF.out.1
  have e3 : u.frozen? ⟨p, q + 1, none⟩ = false := by rw [hB.frozen (p := ⟨p, q + 1, none⟩) hlt]; exact HF.out.2
  have HQ := k0_ (And.intro hc1 hc2);have HSP := k0_ hsep;have HBB := k0_ hB;clear d0 d1 hd hb hB hc1 hc2 hsep
  go_wp2_with fail
  go_ret
  exact ⟨rfl, u, G, c, HBB.out, HQ.out.1, HQ.out.2, HSP.out.mono (by have := HSZ.out; omega) (Nat.le_refl _), rfl⟩
theorem zEa (k k' : Int) (A' : Option Addr) (n' c' : Nat) (p q : Nat) (w : World) (h0 : w.cell? ⟨p, q, none⟩ = some (.int .i8 k)) (hk : k ≠ 0) :
    Calls Tryz.prog 104 #[.pointer (some ⟨p, q, none⟩), .agg #[.int .i8 k', .slice A' n' c']] w fun e w' => e = .returned (.bool (k' == 0)) /\ Below w.heap.size w w' := by
  have hlt := Ty.zN h0;have hz : (k == 0) = false := by simpa using hk
  have hb : Below w.heap.size w (w.alloc (.cells #[.int .i8 k', .slice A' n' c'] 30)) := (Below.refl _ _).alloc (Nat.le_refl _) _;clear hk
  go_enter Tryz.func104, Tryz.ntmps104
  go_wp2_with fail
  go_ret
  exact ⟨rfl, hb⟩
end Go.Proofs.YtepmjknljbafgaaGreatDoor
namespace Go.Proofs.YtepmjknljbafgaaGreatDoor
open Go.RowKit
def MeetPost (w : World) (p q lo hi : Nat) (k : Int) (kids : Fo) (k' : Int) (kids' : Fo) (e : Ending) (w' : World) : Prop :=
  e = .returned (.bool true) /\ Turn w w' p q lo hi /\ ∃ G c, w'.cell? ⟨p, q, none⟩ = some (.int .i8 (Ty.mK k k')) /\ w'.cell? ⟨p, q + 1, none⟩ = some (.slice G (Ty.len (Ty.mT k kids k' kids')) c) /\
    Ty.IsP (fun b => (lo <= b /\ b < hi) \/ w.heap.size <= b) w' (Ty.mK k k') (Ty.mT k kids k' kids') G (Ty.len (Ty.mT k kids k' kids')) c
structure Own (w : World) (k : Int) (kids : Fo) (A : Option Addr) (c p q lo hi n0 : Nat) : Prop where
  c0 : w.cell? ⟨p, q, none⟩ = some (.int .i8 k)
  c1 : w.cell? ⟨p, q + 1, none⟩ = some (.slice A (Ty.len kids) c)
  fz : ∀ o, w.frozen? ⟨p, o, none⟩ = false
  r : -128 <= k /\ k <= 127
  lc : Ty.len kids <= c
  cm : c <= maxLen
  sep : Ty.SepK w kids A lo hi
  le : lo <= hi
  hs : hi <= w.heap.size
  out : p < lo \/ hi <= p
  nlo : n0 <= lo
  np : n0 <= p
  sh : Shapes w
  sn : 1 < n0
theorem Own.below {w w' : World} {k : Int} {kids : Fo} {A : Option Addr} {c p q lo hi n0 : Nat} (h : Own w k kids A c p q lo hi n0) (hb : Below w.heap.size w w') : Own w' k kids A c p q lo hi n0 := by
  have hp := Ty.zN h.c0;have hhs := h.hs
  exact ⟨by rw [hb.cell (p := ⟨p, q, none⟩) hp]; exact h.c0, by rw [hb.cell (p := ⟨p, q + 1, none⟩) hp]; exact h.c1, fun o => by rw [hb.frozen (p := ⟨p, o, none⟩) hp]; exact h.fz o, h.r, h.lc, h.cm,
    h.sep.keep fun b _ h2 => hb.block b (by omega), h.le, Nat.le_trans h.hs hb.size, h.out, h.nlo, h.np, h.sh.below hb, h.sn⟩
theorem yA {n0 : Nat} {w w' : World} {k : Int} {kids : Fo} {A : Option Addr} {n c : Nat} (h : Ty.IsP (fun b => b < n0) w k kids A n c) (hb : Below n0 w w') : Ty.IsP (fun b => b < n0) w' k kids A n c :=
  h.to fun b o v hP hc => ⟨hP, by rw [hb.cell (p := ⟨b, o, none⟩) hP]; exact hc⟩
theorem Own.two {w : World} {k k1 k2 : Int} {f1 f2 : Fo} {a1 a2 a3 a4 : Nat} {A : Option Addr} {c p q lo hi n0 : Nat} (h : Own w k (.node a1 a2 k1 f1 (.node a3 a4 k2 f2 .nil)) A c p q lo hi n0) :
    ∃ g B1 c1 B2 c2 l1 h1 l2 h2, A = some ⟨g, 0, none⟩ /\ lo <= g /\ g < hi /\ lo <= l1 /\ h1 <= l2 /\ h2 <= hi /\ Own w k1 f1 B1 c1 g 0 l1 h1 n0 /\ Own w k2 f2 B2 c2 g 2 l2 h2 n0 := by
  obtain ⟨e0, e1, fz, r, lc, cm, sep, le, hs, out, nlo, np, sh, sn⟩ := h;rcases sep with h | ⟨g, rfl, g1, g2, g3, g4⟩
  · cases h
  · obtain ⟨B1, c1, l1, h1, x1, x2, x3, x4, x5, x6, x7, x8, x9, B2, c2, l2, h2, y1, y2, y3, y4, y5, y6, y7, y8, y9, y10⟩ := g4
    have y10' : h2 <= hi := y10;refine ⟨g, B1, c1, B2, c2, l1, h1, l2, h2, rfl, g1, g2, x1, y1, y10', ⟨by simpa using x7, by simpa using x8, g3, x4, x5, x6, x9, x2, by omega, x3, by omega, by omega, sh, sn⟩, ⟨by simpa using y7, by simpa using y8, g3, y4, y5, y6, y9, y2, by omega, y3, by omega, by omega, sh, sn⟩⟩
theorem Own.other {w w' : World} {k2 : Int} {f2 : Fo} {B2 : Option Addr} {c2 g l1 h1 l2 h2 n0 : Nat} (h : Own w k2 f2 B2 c2 g 2 l2 h2 n0) (ht : Turn w w' g 0 l1 h1) (h1l : h1 <= l2) (hl1 : n0 <= l1) : Own w' k2 f2 B2 c2 g 2 l2 h2 n0 := by
  obtain ⟨e0, e1, fz, r, lc, cm, sep, le, hs, out, nlo, np, sh, sn⟩ := h
  exact ⟨by rw [ht.cell 2 (by omega) (by omega)]; exact e0, by rw [ht.cell 3 (by omega) (by omega)]; exact e1, fun o => by rw [ht.froz]; exact fz o, r, lc, cm, sep.keep fun b q1 q2 => ht.block b (by omega) (by omega) (by omega), le, Nat.le_trans hs ht.size, out, nlo, np,
    ⟨Nat.lt_of_lt_of_le sh.1 ht.size, fun i v hv => by rw [World.cell?_of_block (w := w) (a := ⟨1, i, none⟩) (ht.block _ sh.1 (.inl (Nat.lt_of_lt_of_le sn hl1)) (Nat.ne_of_lt (Nat.lt_of_lt_of_le sn np)))]; exact sh.2 i v hv⟩, sn⟩
theorem Turn.zDx {w w' : World} {p q lo hi n : Nat} (h : Turn (w.drewN n) w' p q lo hi) : Turn w w' p q lo hi := ⟨h.os, h.tape, h.output, h.size, h.block, h.cell, h.froz⟩
structure MS1 (w3 wr : World) (k : Int) (g c p q lo hi : Nat) (m1 : Int) (t1 : Fo) (l1 h1 : Nat) : Prop where
  turn : Turn w3 wr p q lo hi
  x0 : wr.cell? ⟨p, q, none⟩ = some (.int .i8 k)
  x1 : wr.cell? ⟨p, q + 1, none⟩ = some (.slice (some ⟨g, 0, none⟩) 2 c)
  kid : ∃ G e, wr.cell? ⟨g, 0, none⟩ = some (.int .i8 m1) /\ wr.cell? ⟨g, 1, none⟩ = some (.slice G (Ty.len t1) e) /\ Ty.IsP (fun b => (l1 <= b /\ b < h1) \/ w3.heap.size <= b) wr m1 t1 G (Ty.len t1) e
structure MS2 (w3 wr : World) (k : Int) (g c p q lo hi : Nat) (m1 : Int) (t1 : Fo) (m2 : Int) (t2 : Fo) : Prop where
  turn : Turn w3 wr p q lo hi
  x0 : wr.cell? ⟨p, q, none⟩ = some (.int .i8 k)
  x1 : wr.cell? ⟨p, q + 1, none⟩ = some (.slice (some ⟨g, 0, none⟩) 2 c)
  kid1 : ∃ G e, wr.cell? ⟨g, 0, none⟩ = some (.int .i8 m1) /\ wr.cell? ⟨g, 1, none⟩ = some (.slice G (Ty.len t1) e) /\ Ty.IsP (fun b => (lo <= b /\ b < hi) \/ w3.heap.size <= b) wr m1 t1 G (Ty.len t1) e
  kid2 : ∃ G e, wr.cell? ⟨g, 2, none⟩ = some (.int .i8 m2) /\ wr.cell? ⟨g, 3, none⟩ = some (.slice G (Ty.len t2) e) /\ Ty.IsP (fun b => (lo <= b /\ b < hi) \/ w3.heap.size <= b) wr m2 t2 G (Ty.len t2) e
theorem ms1 {w3 w5 : World} {k p1 p1' p2 : Int} {f1 f1' f2 : Fo} {g c p q lo hi n0 l1 h1 l2 h2 c2 : Nat} {B2 : Option Addr} {e : Ending} (x0 : w3.cell? ⟨p, q, none⟩ = some (.int .i8 k)) (x1 : w3.cell? ⟨p, q + 1, none⟩ = some (.slice (some ⟨g, 0, none⟩) 2 c))
    (hg1 : lo <= g) (hg2 : g < hi) (q1 : lo <= l1) (q2 : h1 <= l2) (q3 : h2 <= hi) (out : p < lo \/ hi <= p) (OB : Own w3 p2 f2 B2 c2 g 2 l2 h2 n0) (hl1 : n0 <= l1) (hm : MeetPost (w3.drewN 1) g 0 l1 h1 p1 f1 p1' f1' e w5) :
    MS1 w3 w5 k g c p q lo hi (Ty.mK p1 p1') (Ty.mT p1 f1 p1' f1') l1 h1 /\ Own w5 p2 f2 B2 c2 g 2 l2 h2 n0 := by
  obtain ⟨rfl, ht0, G, e1, y0, y1, hi1⟩ := hm;have ht := ht0.zDx;have hps := Ty.zN x0;have hle := OB.le;have hpb : w5.heap[p]? = w3.heap[p]? := ht.block p hps (by omega) (by omega);exact ⟨⟨ht.sub hg1 hg2 q1 (by omega) out hps, by rw [World.cell?_of_block (w := w3) (a := ⟨p, q, none⟩) hpb]; exact x0, by rw [World.cell?_of_block (w := w3) (a := ⟨p, q + 1, none⟩) hpb]; exact x1, G, e1, y0, y1, hi1⟩, OB.other ht q2 hl1⟩
theorem ms2 {w3 wr w5 : World} {k m1 p2 p2' : Int} {t1 f2 f2' : Fo} {g c p q lo hi n0 l1 h1 l2 h2 c2 : Nat} {B2 : Option Addr} {e : Ending} (hM : MS1 w3 wr k g c p q lo hi m1 t1 l1 h1)
    (hg1 : lo <= g) (hg2 : g < hi) (q0 : g < l1 \/ h1 <= g) (q4 : l1 <= h1) (q1 : lo <= l1) (q2 : h1 <= l2) (q3 : h2 <= hi) (hhs : hi <= w3.heap.size) (out : p < lo \/ hi <= p) (OB : Own wr p2 f2 B2 c2 g 2 l2 h2 n0) (hm : MeetPost (wr.drewN 1) g 2 l2 h2 p2 f2 p2' f2' e w5) :
    MS2 w3 w5 k g c p q lo hi m1 t1 (Ty.mK p2 p2') (Ty.mT p2 f2 p2' f2') := by
  obtain ⟨rfl, ht0, G, e1, y0, y1, hi1⟩ := hm;have ht := ht0.zDx;have hle := OB.le;have hsz := hM.turn.size;obtain ⟨turn, x0, x1, G1, d1, z0, z1, hi0⟩ := hM;have hps := Ty.zN x0;have hpb : w5.heap[p]? = wr.heap[p]? := ht.block p hps (by omega) (by omega)
  refine ⟨turn.trans (ht.sub hg1 hg2 (by omega) q3 out hps), by rw [World.cell?_of_block (w := wr) (a := ⟨p, q, none⟩) hpb]; exact x0, by rw [World.cell?_of_block (w := wr) (a := ⟨p, q + 1, none⟩) hpb]; exact x1,
    ⟨G1, d1, by rw [ht.cell 0 (by omega) (by omega)]; exact z0, by rw [ht.cell 1 (by omega) (by omega)]; exact z1, hi0.to fun b o v hP hc => ?_⟩, ⟨G, e1, y0, y1, hi1.to fun b o v hP hc => ⟨?_, hc⟩⟩⟩
  · have hb := Ty.zN hc
    refine ⟨by rcases hP with hP | hP <;> omega, ?_⟩;rw [World.cell?_of_block (w := wr) (a := ⟨b, o, none⟩) (ht.block b hb (by omega) (by omega))];exact hc
  · have h9 : (wr.drewN 1).heap.size = wr.heap.size := rfl
    rcases hP with hP | hP
    · left; omega
    · right; omega
set_option maxHeartbeats 4000000 in
set_option maxRecDepth 100000 in
theorem zCj (K : Nat) : ∀ (k : Int) (kids : Fo) (A : Option Addr) (c : Nat) (k' : Int) (kids' : Fo) (A' : Option Addr) (n' c' : Nat) (p q lo hi n0 : Nat) (w : World), Ty.nodes kids < K -> Own w k kids A c p q lo hi n0 ->
    Ty.IsP (fun b => b < n0) w k' kids' A' n' c' -> Ty.okT k kids = true -> Ty.okT k' kids' = true -> Ty.chk k' kids' = 0 -> Ty.agT k kids k' kids' = true ->
    Calls Tryz.prog 103 #[.pointer (some ⟨p, q, none⟩), .agg #[.int .i8 k', .slice A' n' c'], .func (Fn.func 104) #[] #[]] w (MeetPost w p q lo hi k kids k' kids') := by
  induction K with
  | zero => intro _ _ _ _ _ _ _ _ _ _ _ _ _ _ _ h; omega
  | succ K ih =>
    intro k kids A c k' kids' A' n' c' p q lo hi n0 w hK hO hIs' ho ho' hsm hag;have hcf := zF2;have hb1 : Below w.heap.size w (w.alloc (.cells #[.int .i8 k', .slice A' n' c'] 30)) := (Below.refl _ _).alloc (Nat.le_refl _) _;have hbox := zF w (.cells #[.int .i8 k', .slice A' n' c'] 30);generalize hw1 : w.alloc (.cells #[.int .i8 k', .slice A' n' c'] 30) = w1 at *;have HW := k0_ hw1;clear hw1;have hps := Ty.zN hO.c0;have hos := hO.hs;have hn0 : n0 <= w.heap.size := by have := hO.nlo; have := hO.le; omega
    have hO1 := hO.below hb1;have HI' := k0_ (yA hIs' (hb1.mono hn0));have IH := k0_ ih;have HB1 := k0_ hb1;have HX := k0_ hbox;have HO0 := k0_ hO;have HPS := k0_ hps;have HOS := k0_ hos;have HN0 := k0_ hn0;clear ih hIs' hb1 hbox hO hps hos hn0
    by_cases hk0 : k = 0
    · subst hk0
      have HP := k0_ (zBc k' kids' A' n' c' p q _ w1 hO1.c0 hO1.c1 (hO1.fz _) (hO1.fz _) HI'.out.is hsm hO1.sh);have HR := k0_ (And.intro HI'.out.lo HI'.out.hi);have HOO := k0_ hO1.out;clear ho ho' hag hO1;obtain ⟨d0, d1, _, _, hd0⟩ := zK HX.out
      go_enter Tryz.func103, Tryz.ntmps103
      go_upto_region 1 with fail
      rw [HW.out]
      go_wp2_with fail
      refine HP.out.mono ?_;rintro e w2 ⟨rfl, u, G, c2, hb, hc1, hc2, hsep, rfl⟩;have HBU := kt_ HB1 hb;have HSP := k0_ hsep;have HQ := k0_ (And.intro hc1 hc2);have HEX := k0_ (And.intro ((HBU.out.cell (p := ⟨p, q, none⟩) HPS.out).trans HO0.out.c0) ((HBU.out.cell (p := ⟨p, q + 1, none⟩) HPS.out).trans HO0.out.c1));generalize hwz : (u.setCell ⟨p, q, none⟩ (.int .i8 k')).setCell ⟨p, q + 1, none⟩ (.slice G (Ty.len kids') c2) = wz at *;have HWZ := k0_ hwz;clear hb hsep hc1 hc2 hwz
      go_wp2_with fail
      go_ret
      refine ⟨rfl, ?_, G, c2, ?_, ?_, ?_⟩
      · rw [← HWZ.out]; exact Turn.sets HBU.out HPS.out _ _
      · rw [← HWZ.out, World.cell?_setCell_other _ _ _ _ (fun e => by injection e with _ e; omega)]
        exact World.cell?_setCell_same _ _ _ HEX.out.1
      · rw [← HWZ.out]
        exact World.cell?_setCell_same _ _ _ ((World.cell?_setCell_other _ _ _ _ (fun e => by injection e with _ e; omega)).trans HEX.out.2)
      · refine (HSP.out.inP HR.out HQ.out.1 HQ.out.2).to fun b o v hP hc => ⟨.inr (by have := HB1.out.size; omega), ?_⟩
        have h1 := HB1.out.size;have hne : p ≠ b := by have := HPS.out; omega
        rw [← HWZ.out, World.cell?_setCell_other _ _ _ _ (fun e => hne (by injection e)), World.cell?_setCell_other _ _ _ _ (fun e => hne (by injection e))];exact hc
    have HP := k0_ (zEa k k' A' n' c' p q w1 hO1.c0 hk0);have HO1 := k0_ hO1;clear hO1
    by_cases hk0' : k' = 0
    · subst hk0'
      clear ho ho' hag;obtain ⟨d0, d1, _, _, hd0⟩ := zK HX.out;have HK0 := k0_ hk0;clear hk0
      go_enter Tryz.func103, Tryz.ntmps103
      go_upto_region 1 with fail
      rw [HW.out]
      go_wp2_with fail
      refine HP.out.mono ?_;rintro e w2 ⟨rfl, hb⟩;have HBU := kt_ HB1 hb;clear hb
      go_wp2_with fail
      go_ret
      have hO2 := HO0.out.below HBU.out;refine ⟨rfl, Turn.of HBU.out HPS.out, A, c, ?_, ?_, ?_⟩
      · rw [Ty.wT _ HK0.out]; exact hO2.c0
      · rw [Ty.zAY _ _ HK0.out]; exact hO2.c1
      · rw [Ty.wT _ HK0.out, Ty.zAY _ _ HK0.out]
        exact (hO2.sep.inP hO2.r hO2.lc hO2.cm).to fun b o v hP hc => ⟨.inl hP, hc⟩
    obtain rfl : k = k' := by
      by_cases e : k = k'
      · exact e
      · rw [Ty.zFE _ _ hk0 hk0' e] at hag; cases hag
    have hz : (k == 0) = false := by simpa using hk0
    rw [hz] at HP;rw [Ty.zCC _ _ hk0] at hag;have hk2 : (k != k) = false := by simp
    have HK0 := k0_ hk0
    by_cases hlow : k <= 2
    · obtain rfl := Ty.kD ho hlow
      obtain rfl := Ty.kD ho' hlow;have hn' := HI'.out.n_eq;simp only [Ty.len] at hn';subst hn';clear ho ho' hag hlow hk0 hk0';obtain ⟨d0, d1, _, _, hd0⟩ := zK HX.out
      go_enter Tryz.func103, Tryz.ntmps103
      go_upto_region 1 with fail
      rw [HW.out]
      go_wp2_with fail
      refine HP.out.mono ?_;rintro e w2 ⟨rfl, hb⟩;clear d0 d1 hd0;have HBU := kt_ HB1 hb;have X2 := kp_ hb HX;have hO2 := HO0.out.below HBU.out;obtain ⟨d0, d1, _, _, hd0⟩ := zK X2.out;have e0 := hO2.c0;have e1 := hO2.c1;simp only [Ty.len] at e1;clear hb hO2
      go_wp2_with fail
      go_quiet (fail)
      have HB3 := k0_ (below_drewN HBU.out nq);have g0 : (w2.drewN nq).cell? ⟨p, q, none⟩ = some (.int .i8 k) := e0;have g1 : (w2.drewN nq).cell? ⟨p, q + 1, none⟩ = some (.slice A 0 c) := e1;clear e0 e1 d0 d1 hd0;generalize w2.drewN nq = w3 at *
      go_wp2_with fail
      go_loopw [24] (fun v24 wr => v24 = .int .i64 0 /\ wr = w3) (fun _ _ => 0)
      case atStart => exact ⟨rfl, rfl⟩
      case round =>
        obtain ⟨rfl, rfl⟩ := hrel
        go_wp2_with fail
        go_ret
        have hO3 := HO0.out.below HB3.out;have hm : Ty.mT k .nil k .nil = .nil := by rw [Ty.zEc _ _ HK0.out HK0.out]; rfl
        refine ⟨rfl, Turn.of HB3.out HPS.out, A, c, ?_, ?_, ?_⟩
        · rw [Ty.wT _ HK0.out]; exact hO3.c0
        · rw [hm]; exact hO3.c1
        · rw [Ty.wT _ HK0.out, hm]
          exact ⟨trivial, rfl, Nat.zero_le _, hO3.cm, hO3.r.1, hO3.r.2⟩
    obtain ⟨a1, a2, p1, f1, a3, a4, p2, f2, rfl, o1, o2⟩ := Ty.yU ho (by omega);obtain ⟨a1', a2', p1', f1', a3', a4', p2', f2', rfl, o1', o2'⟩ := Ty.yU ho' (by omega)
    have hag2 : Ty.agT p1 f1 p1' f1' = true /\ Ty.agT p2 f2 p2' f2' = true := by
      unfold Ty.agT
      simpa [Ty.agF] using hag
    have hm : Ty.mT k (.node a1 a2 p1 f1 (.node a3 a4 p2 f2 .nil)) k (.node a1' a2' p1' f1' (.node a3' a4' p2' f2' .nil)) = .node a1 a2 (Ty.mK p1 p1') (Ty.mT p1 f1 p1' f1') (.node a3 a4 (Ty.mK p2 p2') (Ty.mT p2 f2 p2' f2') .nil) := by
      rw [Ty.zEc _ _ HK0.out HK0.out]; rfl
    obtain ⟨g, B1, c1, B2, c2, l1, h1, l2, h2, rfl, hg1, hg2, q1, q2, q3, OA, OB⟩ := HO0.out.two;obtain rfl : n' = 2 := HI'.out.n_eq;simp only [Ty.nodes] at hK;obtain ⟨hsm1, hsm2⟩ := Ty.zAq hsm
    have hbbn : ∀ b o, A' = some ⟨b, o, none⟩ -> b < n0 := by
      obtain ⟨b, o, B, c9, e, hP, -⟩ := HI'.out.lies;intro b2 o2 e2;rw [e2] at e; injection e with e; injection e with e3 e4; rw [e3]; exact hP
    obtain ⟨bb, oo, U1, dd1, U2, dd2, rfl, y0, y1, y2, y3, i1, i2⟩ := Ty.LiesP.two HI'.out.lies;have HBB := k0_ (hbbn bb oo rfl);have HM := k0_ hm;have HG := k0_ (And.intro hg1 (And.intro hg2 (And.intro q1 (And.intro q2 q3))));have HOA := k0_ OA;have HOB := k0_ OB;have HOUT := k0_ HO0.out.out;have D1 := k0_ (fun (W : World) (hO : Own W p1 f1 B1 c1 g 0 l1 h1 n0) (hI : Ty.IsP (fun b => b < n0) W p1' f1' U1 (Ty.len f1') dd1) => IH.out p1 f1 B1 c1 p1' f1' U1 (Ty.len f1') dd1 g 0 l1 h1 n0 W (by omega) hO hI o1 o1' hsm1 hag2.1);have D2 := k0_ (fun (W : World) (hO : Own W p2 f2 B2 c2 g 2 l2 h2 n0) (hI : Ty.IsP (fun b => b < n0) W p2' f2' U2 (Ty.len f2') dd2) => IH.out p2 f2 B2 c2 p2' f2' U2 (Ty.len f2') dd2 g 2 l2 h2 n0 W (by omega) hO hI o2 o2' hsm2 hag2.2);have I1 := k0_ i1;have I2 := k0_ i2;clear ho ho' hag hag2 hm hlow hk0 hk0' hbbn i1 i2 o1 o2 o1' o2' OA OB hg1 hg2 q1 q2 q3 hK hsm IH;obtain ⟨d0, d1, _, _, hd0⟩ := zK HX.out;have HY := k0_ (And.intro y0 (And.intro y1 (And.intro y2 y3)));clear y0 y1 y2 y3
    go_enter Tryz.func103, Tryz.ntmps103
    go_upto_region 1 with fail
    rw [HW.out]
    go_wp2_with fail
    refine HP.out.mono ?_;rintro e w2 ⟨rfl, hb⟩;clear d0 d1 hd0;have HBU := kt_ HB1 hb;have HBV := k0_ (hb.mono (Nat.le_trans HN0.out HB1.out.size));have X2 := kp_ hb HX;have hO2 := HO0.out.below HBU.out;obtain ⟨d0, d1, _, _, hd0⟩ := zK X2.out;have e0 := hO2.c0;have e1 := hO2.c1;simp only [Ty.len, Nat.zero_add, Nat.reduceAdd] at e1;clear hb hO2
    go_wp2_with fail
    go_quiet (fail)
    have HB3 := k0_ (below_drewN HBU.out nq);have HBV3 := k0_ (below_drewN HBV.out nq);have g0 : (w2.drewN nq).cell? ⟨p, q, none⟩ = some (.int .i8 k) := e0;have g1 : (w2.drewN nq).cell? ⟨p, q + 1, none⟩ = some (.slice (some ⟨g, 0, none⟩) 2 c) := e1;have X3 := k0_ (show (w2.drewN nq).heap[w.heap.size]? = _ from X2.out);have hws : w1.heap.size <= (w2.drewN nq).heap.size := HBV3.out.size;clear e0 e1 d0 d1 hd0 HBU HBV X2;generalize w2.drewN nq = w3 at *;have HX0 := k0_ g0;have HX1 := k0_ g1;have HWS := k0_ (show w.heap.size + 1 <= w3.heap.size by have := zD X3.out; omega);clear hws
    go_wp2_with fail
    clear g0 g1
    go_loopw [24] (fun v24 wr => (v24 = .int .i64 0 /\ wr = w3) \/ (v24 = .int .i64 1 /\ MS1 w3 wr k g c p q lo hi (Ty.mK p1 p1') (Ty.mT p1 f1 p1' f1') l1 h1 /\ Own wr p2 f2 B2 c2 g 2 l2 h2 n0) \/
      (v24 = .int .i64 2 /\ MS2 w3 wr k g c p q lo hi (Ty.mK p1 p1') (Ty.mT p1 f1 p1' f1') (Ty.mK p2 p2') (Ty.mT p2 f2 p2' f2'))) (fun v _ => 2 - (intOf v).toNat)
    case atStart => exact .inl ⟨rfl, rfl⟩
    case round =>
      rcases hrel with ⟨rfl, hw⟩ | ⟨rfl, hM, hOB⟩ | ⟨rfl, hM⟩
      · obtain rfl : w3 = wr := hw.symm
        have hBd := below_drewN (Below.refl w3.heap.size w3) 1;have e1 := HX1.out;obtain ⟨d0, d1, _, _, hd0⟩ := zK X3.out;have z0 : w3.cell? ⟨bb, oo, none⟩ = some (.int .i8 p1') := by rw [HBV3.out.cell (p := ⟨bb, oo, none⟩) HBB.out]; exact HY.out.1
        have z1 : w3.cell? ⟨bb, oo + 1, none⟩ = some (.slice U1 (Ty.len f1') dd1) := by rw [HBV3.out.cell (p := ⟨bb, oo + 1, none⟩) HBB.out]; exact HY.out.2.1
        have HC := k0_ (D1.out (w3.drewN 1) ((HOA.out.below HB3.out).below hBd) (yA I1.out (below_drewN HBV3.out 1)));have HN := k0_ (fun e w5 hm => ms1 (e := e) (w5 := w5) HX0.out HX1.out HG.out.1 HG.out.2.1 HG.out.2.2.1 HG.out.2.2.2.1 HG.out.2.2.2.2 HOUT.out (HOB.out.below HB3.out) (hl1 := HOA.out.nlo) (f1 := f1) (f1' := f1') (p1 := p1) (p1' := p1') (l1 := l1) hm);clear hBd hw
        go_wp2_with fail
        go_still_tail 12, (by kernel_rfl)
        change wpList _ _ _ _ _ (w3.drewN 1);clear e1 d0 d1 hd0 z0 z1;generalize w3.drewN 1 = w4 at *
        go_wp2_with fail
        refine HC.out.mono ?_;rintro e w5 hm;have HMS := k0_ (HN.out e w5 hm);obtain ⟨rfl, -⟩ := hm
        go_wp2_with fail
        go_roundw
        case rel => exact .inr (.inl ⟨by go_num, HMS.out.1, HMS.out.2⟩)
        case measure => simp [intOf]
      · have hTs := hM.turn.size
        have hbx : wr.heap[w.heap.size]? = w3.heap[w.heap.size]? := hM.turn.block _ (zD X3.out) (.inr HOS.out) (by have := HPS.out; omega);have hbn : Below n0 w3 wr := hM.turn.below HO0.out.nlo HO0.out.np (Nat.le_trans HN0.out HB3.out.size);have hBd := below_drewN (Below.refl wr.heap.size wr) 1;have e1 := hM.x1;obtain ⟨d0, d1, _, _, hd0⟩ := zK (hbx.trans X3.out);have z0 : wr.cell? ⟨bb, oo + 2, none⟩ = some (.int .i8 p2') := by rw [(HBV3.out.trans hbn).cell (p := ⟨bb, oo + 2, none⟩) HBB.out]; exact HY.out.2.2.1
        have z1 : wr.cell? ⟨bb, oo + 3, none⟩ = some (.slice U2 (Ty.len f2') dd2) := by rw [(HBV3.out.trans hbn).cell (p := ⟨bb, oo + 3, none⟩) HBB.out]; exact HY.out.2.2.2
        have HC := k0_ (D2.out (wr.drewN 1) (hOB.below hBd) (yA I2.out (below_drewN (HBV3.out.trans hbn) 1)));have HN := k0_ (fun e w5 hm => ms2 (e := e) (w5 := w5) hM HG.out.1 HG.out.2.1 HOA.out.out HOA.out.le HG.out.2.2.1 HG.out.2.2.2.1 HG.out.2.2.2.2 (Nat.le_trans HOS.out HB3.out.size) HOUT.out hOB (f2 := f2) (f2' := f2') (p2 := p2) (p2' := p2') hm);clear hBd hM hOB hbx hbn hTs
        go_wp2_with fail
        go_still_tail 12, (by kernel_rfl)
        change wpList _ _ _ _ _ (wr.drewN 1);clear e1 d0 d1 hd0 z0 z1;generalize wr.drewN 1 = w4 at *
        go_wp2_with fail
        refine HC.out.mono ?_;rintro e w5 hm;have HMS := k0_ (HN.out e w5 hm);obtain ⟨rfl, -⟩ := hm
        go_wp2_with fail
        go_roundw
        case rel => exact .inr (.inr ⟨by go_num, HMS.out⟩)
        case measure => simp [intOf]
      · have HMM := k0_ hM
        clear hM
        go_wp2_with fail
        go_ret
        have hM := HMM.out;obtain ⟨G1, d1, k10, k11, k12⟩ := hM.kid1;obtain ⟨G2, d2, k20, k21, k22⟩ := hM.kid2;have hO3 := HO0.out;have hsz := HB3.out.size;have hPP : ∀ b, ((lo <= b /\ b < hi) \/ w3.heap.size <= b) -> ((lo <= b /\ b < hi) \/ w.heap.size <= b) := fun b h => h.imp id (fun h => Nat.le_trans hsz h)
        refine ⟨rfl, (Turn.of HB3.out HPS.out).trans hM.turn, some ⟨g, 0, none⟩, c, ?_, ?_, ?_⟩
        · rw [Ty.wT _ HK0.out]; exact hM.x0
        · rw [HM.out]; exact hM.x1
        · rw [Ty.wT _ HK0.out, HM.out]
          have j1 := k12.to (P' := fun b => (lo <= b /\ b < hi) \/ w.heap.size <= b) (w' := wr) fun b o v hP hc => ⟨hPP b hP, hc⟩
          have j2 := k22.to (P' := fun b => (lo <= b /\ b < hi) \/ w.heap.size <= b) (w' := wr) fun b o v hP hc => ⟨hPP b hP, hc⟩
          refine ⟨⟨g, 0, G1, d1, rfl, .inl ⟨HG.out.1, HG.out.2.1⟩, ⟨j1.lo, j1.hi⟩, k10, k11, j1.n_le, j1.c_le, j1.lies, ?_⟩, rfl, hO3.lc, hO3.cm, hO3.r.1, hO3.r.2⟩;exact ⟨g, 0, G2, d2, rfl, .inl ⟨HG.out.1, HG.out.2.1⟩, ⟨j2.lo, j2.hi⟩, k20, k21, j2.n_le, j2.c_le, j2.lies, trivial⟩
theorem wH (w : World) (o1 o2 o3 : Obj) : (((w.alloc o1).alloc o2).alloc o3).heap[w.heap.size]? = some o1 /\ (((w.alloc o1).alloc o2).alloc o3).heap[w.heap.size + 1]? = some o2 /\ (((w.alloc o1).alloc o2).alloc o3).heap[w.heap.size + 1 + 1]? = some o3 /\ (((w.alloc o1).alloc o2).alloc o3).heap.size = w.heap.size + 3 := by
  obtain ⟨h1, h2, h3⟩ := qf w o1 o2;refine ⟨zG h1 _, zG h2 _, ?_, by simp⟩;have := zF ((w.alloc o1).alloc o2) o3
  rwa [h3] at this
theorem zAf {w : World} {b : Nat} {cs : Array Value} {t : TypeId} (h : w.heap[b]? = some (.cells cs t (0, 0))) : ∀ o, w.frozen? ⟨b, o, none⟩ = false := fun o => by simp [World.frozen?, h]
theorem yI (w : World) (o1 o2 o3 : Obj) : Below w.heap.size w (((w.alloc o1).alloc o2).alloc o3) := (((Below.refl _ _).alloc (Nat.le_refl _) _).alloc (by simp) _).alloc (by simp; omega) _
set_option maxHeartbeats 2000000 in
set_option maxRecDepth 100000 in
theorem zD5 (k : Int) (kids : Fo) (A : Option Addr) (n c : Nat) (k' : Int) (kids' : Fo) (A' : Option Addr) (n' c' : Nat) (w : World) (hIs : Ty.Is w k kids A n c) (hIs' : Ty.Is w k' kids' A' n' c') (hs : Ty.chk k kids = 0) (hs' : Ty.chk k' kids' = 0) (hSh : Shapes w) (hag : Ty.agT k kids k' kids' = true) :
    Calls Tryz.prog 75 #[.agg #[.int .i8 k, .slice A n c], .agg #[.int .i8 k', .slice A' n' c']] w fun e w' => ∃ G m c2, e = .returned (.agg #[.int .i8 (Ty.mK k k'), .slice G m c2]) /\ Ty.IsP (fun b => w.heap.size <= b) w' (Ty.mK k k') (Ty.mT k kids k' kids') G m c2 /\ Below w.heap.size w w' := by
  obtain ⟨hA0, hA1, hA2, hsz⟩ := wH w (.cells #[.int .i8 k, .slice A n c] 30) (.cells #[.int .i8 k', .slice A' n' c'] 30) (.cells #[.int .i8 0, .slice none 0 0] 30);have hB1 := yI w (.cells #[.int .i8 k, .slice A n c] 30) (.cells #[.int .i8 k', .slice A' n' c'] 30) (.cells #[.int .i8 0, .slice none 0 0] 30);generalize hw1 : ((w.alloc (.cells #[.int .i8 k, .slice A n c] 30)).alloc (.cells #[.int .i8 k', .slice A' n' c'] 30)).alloc (.cells #[.int .i8 0, .slice none 0 0] 30) = w1 at *;have HW1 := k0_ hw1;have HSZ := k0_ hsz;have HB1 := k0_ hB1;have HX := k0_ hA0;have HY := k0_ hA1;have HZ := k0_ hA2;have ho := (Ty.qp hs).1;have ho' := (Ty.qp hs').1;have HC := k0_ (kv k kids A n c w1 (hIs.below hB1) (hSh.below hB1) hs);have HSH := k0_ hSh;have HR := k0_ (And.intro hIs.lo hIs.hi);have HI' := k0_ hIs'.inP;have HT := k0_ (fun (A2 : Option Addr) (c2 p q lo hi n0 : Nat) (W : World) h1 h2 => zCj (Ty.nodes kids + 1) k kids A2 c2 k' kids' A' n' c' p q lo hi n0 W (Nat.lt_succ_self _) h1 h2 ho ho' hs' hag);clear hA0 hA1 hA2 hsz hB1 hw1 hIs hIs' ho ho' hs hs' hag hSh;obtain ⟨x0, x1, _, _, hxl⟩ := zK HX.out
  go_enter Tryz.func75, Tryz.ntmps75
  go_upto_region 1 with fail
  rw [HW1.out]
  go_wp2_with fail
  refine HC.out.mono ?_;rintro e u ⟨G, cg, rfl, hc1, hc2, hsep, hb⟩;have hb5 : Below u.heap.size u (u.alloc (.cells #[.int .i8 k, .slice G (Ty.len kids) cg] 30)) := (Below.refl _ _).alloc (Nat.le_refl _) _;have hP := zF u (.cells #[.int .i8 k, .slice G (Ty.len kids) cg] 30);have hu5 : u.heap.size + 1 = (u.alloc (.cells #[.int .i8 k, .slice G (Ty.len kids) cg] 30)).heap.size := by simp
  have HU5 := k0_ hu5;have hbb := hb.trans (hb5.mono hb.size);have HB5 := kt_ HB1 hbb;have HBB := k0_ hbb;have HY5 := kp_ hbb HY;have HZ5 := kp_ hbb HZ;have hu1 := hb.size
  have HO := k0_ (show Own (u.alloc (.cells #[.int .i8 k, .slice G (Ty.len kids) cg] 30)) k kids G cg u.heap.size 0 w1.heap.size u.heap.size w.heap.size from
    ⟨(zK hP).1, (zK hP).2.1, zAf hP, HR.out, hc1, hc2, hsep.keep fun b _ h2 => hb5.block b h2, hu1, by omega, .inr (Nat.le_refl _), HB1.out.size, by have := HB1.out.size; omega, HSH.out.below HB5.out, HSH.out.1⟩)
  have HU1 := k0_ hu1;clear hb hb5 hP hu5 hbb hc1 hc2 hsep x0 x1 hxl hu1
  go_upto_region 2 with fail
  generalize hw5 : u.alloc (.cells #[.int .i8 k, .slice G (Ty.len kids) cg] 30) = w5 at *;have HC2 := k0_ (HT.out G cg u.heap.size 0 w1.heap.size u.heap.size w.heap.size w5 HO.out (HI'.out.to fun b o v hP hc => ⟨hP, by rw [HB5.out.cell (p := ⟨b, o, none⟩) hP]; exact hc⟩));obtain ⟨y0, y1, _, _, hyl⟩ := zK HY5.out;clear hw5
  go_wp2_with fail
  refine HC2.out.mono ?_;rintro e w6 ⟨rfl, ht, G2, c2, z0, z1, hi⟩;have HZ6 := k0_ ((ht.block (w.heap.size + 1 + 1) (zD HZ5.out) (.inl (by have := HSZ.out; omega)) (by have := HSZ.out; have := HU1.out; omega)).trans HZ5.out);have HB6 := k0_ (HB5.out.trans (ht.below HB1.out.size (by have := HB1.out.size; have := HU1.out; omega) HB5.out.size));have HTS := k0_ ht.size;have HI := k0_ hi;obtain ⟨r0, r1, r2, r3, hrl⟩ := zK HZ6.out;clear ht hi y0 y1 hyl
  go_wp2_with fail
  refine bodyPost_ret (v := .agg #[.int .i8 (Ty.mK k k'), .slice G2 (Ty.len (Ty.mT k kids k' kids')) c2]) (by simp [results, Tryz.results75, go_sem, *]) rfl ⟨G2, _, c2, rfl, ?_, ?_⟩
  · refine HI.out.to fun b o v hP hc => ⟨by have := HSZ.out; have := HU1.out; have := HU5.out; rcases hP with hP | hP <;> omega, ?_⟩
    have hne : w.heap.size + 1 + 1 ≠ b := by have := HSZ.out; have := HU1.out; have := HU5.out; rcases hP with hP | hP <;> omega
    exact zGY
  · exact (HB6.out.setCell (p := ⟨w.heap.size + 1 + 1, 0, none⟩) (by simp; omega) _).setCell (p := ⟨w.heap.size + 1 + 1, 1, none⟩) (by simp; omega) _
theorem Ty.zDs {k : Int} {kids : Fo} {k' : Int} {kids' : Fo} (h : Ty.agreeT k kids k' kids' = true) : Ty.chk k kids = 0 /\ Ty.chk k' kids' = 0 := by
  unfold Ty.agreeT at h;simp only [Bool.and_eq_true, beq_iff_eq] at h;exact h.1
theorem zFD {k : Int} {kids : Fo} {k' : Int} {kids' : Fo} (h : Ty.agreeT k kids k' kids' = true) : (Ty.okT k kids = true /\ Ty.nodes kids <= 8192) /\ (Ty.okT k' kids' = true /\ Ty.nodes kids' <= 8192) /\ Ty.agT k kids k' kids' = true := by
  unfold Ty.agreeT at h;simp only [Bool.and_eq_true, beq_iff_eq] at h;have h1 := Ty.qp h.1.1;have h2 := Ty.qp h.1.2;exact ⟨⟨h1.1, by omega⟩, ⟨h2.1, by omega⟩, h.2⟩
end Go.Proofs.YtepmjknljbafgaaGreatDoor
namespace Go.Proofs.YtepmjknljbafgaaGreatDoor
set_option maxHeartbeats 4000000
set_option maxRecDepth 100000
open Go.RowKit
def AsPostP (w : World) (ok : Bool) (l r : Int × Fo) (e : Ending) (w' : World) : Prop :=
  ∃ G1 m1 c1 G2 m2 c2, e = .returned (.tuple #[.agg #[.int .i8 l.1, .slice G1 m1 c1], .agg #[.int .i8 r.1, .slice G2 m2 c2], .bool ok]) /\ Lone (fun b => w.heap.size <= b) w' l.1 l.2 G1 m1 c1 /\ Lone (fun b => w.heap.size <= b) w' r.1 r.2 G2 m2 c2 /\ Below w.heap.size w w'
theorem zGG (kd k : Int) (kids : Fo) (A : Option Addr) (n c : Nat) (w : World) (hIs : Ty.Is w k kids A n c) (hS : Shapes w) :
    Calls Tryz.prog 41 #[.int .i8 kd, .agg #[.int .i8 k, .slice A n c]] w (AsPostP w (Ty.asOk kd k kids) (Ty.asL kd k kids) (Ty.asR kd k kids)) := by
  have hB0 : Below w.heap.size w (((w.alloc (.cells #[.int .i8 k, .slice A n c] 30)).alloc (.cells #[.int .i8 0, .slice none 0 0] 30)).alloc (.cells #[.int .i8 0, .slice none 0 0] 30)) := (((Below.refl _ _).alloc (Nat.le_refl _) _).alloc (by simp) _).alloc (by simp; omega) _;obtain ⟨r0, r1, r2⟩ := qf w (.cells #[.int .i8 k, .slice A n c] 30) (.cells #[.int .i8 0, .slice none 0 0] 30);have h0 := zG r0 (.cells #[.int .i8 0, .slice none 0 0] 30);have h1 := zG r1 (.cells #[.int .i8 0, .slice none 0 0] 30);have h2 := zF ((w.alloc (.cells #[.int .i8 k, .slice A n c] 30)).alloc (.cells #[.int .i8 0, .slice none 0 0] 30)) (.cells #[.int .i8 0, .slice none 0 0] 30);rw [r2] at h2;generalize hw1 : (((w.alloc (.cells #[.int .i8 k, .slice A n c] 30)).alloc (.cells #[.int .i8 0, .slice none 0 0] 30)).alloc (.cells #[.int .i8 0, .slice none 0 0] 30)) = w1 at *;have HW1 := k0_ hw1;have HB0 := k0_ hB0;have HC := k0_ (qc k kids A n c w1 (hIs.below hB0) (hS.below hB0));have HSH := k0_ (hS.below hB0);have HI := k0_ hIs;have H0 := k0_ h0;have H1 := k0_ h1;have H2 := k0_ h2;obtain ⟨b0, b1, _, _, hb0⟩ := zK h0;clear r0 r1 r2 h0 h1 h2 hw1 hB0 hIs hS
  by_cases hc0 : Ty.chk k kids = 0
  case neg =>
    have hno : Ty.asOk kd k kids = false := by unfold Ty.asOk; simp [hc0]
    obtain ⟨e1, e2⟩ := Ty.zGg hno;rw [hno, e1, e2];have hcn : (((Ty.chk k kids : Nat) : Int) != 0) = true := by simp; omega
    generalize Ty.chk k kids = C at *;clear hno e1 e2 hc0
    go_enter Tryz.func41, Tryz.ntmps41
    go_wp2_with fail
    rw [HW1.out]
    go_wp2_with fail
    refine HC.out.mono ?_;rintro e w2 ⟨rfl, hb⟩;obtain ⟨d0, d1, df0, df1, hd0⟩ := zK (zB hb (zD H1.out) H1.out);obtain ⟨g0, g1, gf0, gf1, hg0⟩ := zK (zB hb (zD H2.out) H2.out);have HB2 := kt_ HB0 hb;clear hb
    go_wp2_with fail
    exact zIJ
  have hok := (Ty.qp hc0).1;have hr := Ty.jV hok;have hsm := (Ty.qp hc0).2.1;rw [hc0] at HC
  by_cases hA : k = kd /\ 3 <= k
  · obtain ⟨rfl, h3⟩ := hA
    obtain ⟨a1, a2, p1, f1, a3, a4, p2, f2, rfl, o1, o2⟩ := Ty.yU hok h3;obtain ⟨e1, e2, e3⟩ := Ty.zHG h3 (by omega) hc0;obtain ⟨hk1, hk2⟩ := Ty.zAq hc0;rw [e1, e2, e3];have hn := HI.out.n_eq;simp only [Ty.len] at hn;subst hn;simp only [Ty.nodes] at hsm;have hL := Ty.zEe (HI.out.below HB0.out).lies;obtain ⟨bb, oo, B1, c1, B2, c2, rfl, x0, x1, x2, x3, i1, i2⟩ := hL;have hr2 : k = 3 \/ k = 4 \/ k = 5 := by omega
    have C1 := k0_ (fun (u : World) (hE : Below w1.heap.size w1 u) => vY p1 f1 B1 _ c1 u (i1.below hE) (HSH.out.below hE) hk1);have C2 := k0_ (fun (u : World) (hE : Below w1.heap.size w1 u) => vY p2 f2 B2 _ c2 u (i2.below hE) (HSH.out.below hE) hk2);have X0 := k0_ x0;have X1 := k0_ x1;have X2 := k0_ x2;have X3 := k0_ x3;clear e1 e2 e3 hok hr h3 hc0 o1 o2 hsm i1 i2 x0 x1 x2 x3;generalize Ty.len f1 = m1 at *;generalize Ty.len f2 = m2 at *;rcases hr2 with rfl | rfl | rfl
    all_goals
      have e1 := fun W => zW 3 3 3 3 W
      have e2 := fun W => zW 4 4 3 3 W
      have e3 := fun W => zW 4 4 4 4 W
      have e4 := fun W => zW 5 5 3 3 W
      have e5 := fun W => zW 5 5 4 4 W
      have e6 := fun W => zW 5 5 5 5 W
      go_enter Tryz.func41, Tryz.ntmps41
      go_wp2_with fail
      rw [HW1.out]
      go_wp2_with fail
      refine HC.out.mono ?_;rintro e w2 ⟨rfl, hb⟩;have HD1 := kp_ hb H1;have HD2 := kp_ hb H2;have HD0 := kp_ hb H0;obtain ⟨b0, b1, _, _, hb0⟩ := zK HD0.out;have x0 := (jF X0.out hb);have x1 := (jF X1.out hb);have x2 := (jF X2.out hb);have x3 := (jF X3.out hb);have HBW := k0_ hb;clear hb
      go_wp2_with fail
      have E1 : Below w1.heap.size w1 w2.drew := HBW.out.drew
      go_region_law (first
        | (go_simp; go_at_call 45; (with_reducible refine (C1.out _ E1).mono ?_); rintro e u1 ⟨G1, n1, q1, rfl, hn1, hb1⟩; have HU1 := k0_ hb1; have HN1 := k0_ hn1; have E2 := E1.trans (hb1.mono E1.size); have b0 := jF (show w2.drew.cell? _ = _ from b0) hb1; have b1 := jF (show w2.drew.cell? _ = _ from b1) hb1; have x2 := jF (show w2.drew.cell? _ = _ from x2) hb1; have x3 := jF (show w2.drew.cell? _ = _ from x3) hb1; clear hn1 hb1; go_wp2_with fail)
        | (go_simp; go_at_call 45; (with_reducible refine (C2.out _ E2).mono ?_); rintro e u2 ⟨G2, n2, q2, rfl, hn2, hb2⟩; have HU2 := k0_ hb2; have HN2 := k0_ hn2; have E3 := E2.trans (hb2.mono E2.size); obtain ⟨d0, d1, df0, df1, hd0⟩ := zK (zB (E1.trans ((HU1.out.trans (hb2.mono HU1.out.size)).mono E1.size)) (zD H1.out) H1.out); obtain ⟨g0, g1, gf0, gf1, hg0⟩ := zK (zB (E1.trans ((HU1.out.trans (hb2.mono HU1.out.size)).mono E1.size)) (zD H2.out) H2.out); clear hn2 hb2; go_wp2_with fail))
      all_goals
        go_wp2_with fail
        have hz1 : w1.heap.size = w.heap.size + 3 := by rw [← HW1.out]; simp
        have hz2 := E1.size;have hz3 := E2.size;refine bodyPost_ret (v := .tuple #[.agg #[.int .i8 p1, .slice G1 n1 q1], .agg #[.int .i8 p2, .slice G2 n2 q2], .bool true]) (by simp [results, Tryz.results41, go_sem, *]) rfl ⟨G1, n1, q1, G2, n2, q2, rfl, ?_, ?_, ?_⟩
        · exact HN1.out.to fun b o v hb hc => ⟨Nat.le_trans (show w.heap.size <= w1.heap.size by omega) (by first | exact Nat.le_trans hz2 hb | exact Nat.le_trans hz3 hb), wX (P := fun b => w1.heap.size <= b) (by omega) (by omega) b o v (show w1.heap.size <= b from Nat.le_trans hz2 hb) (jF hc HU2.out)⟩
        · exact HN2.out.to fun b o v hb hc => ⟨Nat.le_trans (show w.heap.size <= w1.heap.size by omega) (by first | exact Nat.le_trans hz2 hb | exact Nat.le_trans hz3 hb), wX (P := fun b => w1.heap.size <= b) (by omega) (by omega) b o v (show w1.heap.size <= b from Nat.le_trans hz3 hb) hc⟩
        · exact xU (HB0.out.trans (E3.mono HB0.out.size)) (Nat.le_add_right _ _) (by omega) _ _ _ _
  · by_cases hB : k = 0 /\ 3 <= kd /\ kd <= 5
    · obtain ⟨rfl, h3, h5⟩ := hB
      obtain rfl := Ty.kD hok (by omega);obtain ⟨e1, e2, e3⟩ := Ty.zGE h3 h5;rw [e1, e2, e3];have hr2 : kd = 3 \/ kd = 4 \/ kd = 5 := by omega
      clear e1 e2 e3 hok hr h3 h5 hc0 hsm hA;rcases hr2 with rfl | rfl | rfl
      all_goals
        have e1 := fun W => zW 3 0 3 3 W
        have e2 := fun W => zW 3 0 4 4 W
        have e3 := fun W => zW 3 0 5 5 W
        have e4 := fun W => zW 4 0 3 3 W
        have e5 := fun W => zW 4 0 4 4 W
        have e6 := fun W => zW 4 0 5 5 W
        have f1 := fun W => zW 5 0 3 3 W
        have f2 := fun W => zW 5 0 4 4 W
        have f3 := fun W => zW 5 0 5 5 W
        have g1 := fun W => zW 3 0 3 0 W
        have g2 := fun W => zW 4 0 3 0 W
        have g3 := fun W => zW 4 0 4 0 W
        have g4 := fun W => zW 5 0 3 0 W
        have g5 := fun W => zW 5 0 4 0 W
        have g6 := fun W => zW 5 0 5 0 W
        go_enter Tryz.func41, Tryz.ntmps41
        go_wp2_with fail
        rw [HW1.out]
        go_wp2_with fail
        refine HC.out.mono ?_;rintro e w2 ⟨rfl, hb⟩;obtain ⟨b0, b1, _, _, hb0⟩ := zK (zB hb (zD H0.out) H0.out);obtain ⟨d0, d1, df0, df1, hd0⟩ := zK (zB hb (zD H1.out) H1.out);obtain ⟨q0, q1, gf0, gf1, hg0⟩ := zK (zB hb (zD H2.out) H2.out);have HB2 := kt_ HB0 hb;clear hb
        go_wp2_with fail
        clear e1 e2 e3 e4 e5 e6 f1 f2 f3 g1 g2 g3 g4 g5 g6;refine bodyPost_ret (v := .tuple #[.agg #[.int .i8 0, .slice none 0 0], .agg #[.int .i8 0, .slice none 0 0], .bool true]) (by simp [results, Tryz.results41, go_sem, *]) rfl ⟨none, 0, 0, none, 0, 0, rfl, (fun u _ => Ty.vF u), (fun u _ => Ty.vF u), ?_⟩;exact xU HB2.out (Nat.le_add_right _ _) (by omega) _ _ _ _
    · have hno : Ty.asOk kd k kids = false := by
        unfold Ty.asOk
        by_cases q1 : 3 <= kd /\ kd <= 5
        · have n1 : k ≠ kd := fun e => hA ⟨e, by omega⟩
          have n2 : k ≠ 0 := fun e => hB ⟨e, q1⟩
          simp [n1, n2]
        · simp; omega
      obtain ⟨e1, e2⟩ := Ty.zGg hno;rw [hno, e1, e2]
      have mk : ∀ (x y : Int), (3 <= x /\ x <= 5 /\ (y = x \/ y = 0)) -> ∀ W, (binOp .eql 153 (.agg #[.int .i8 kd, .int .i8 k]) (.agg #[.int .i8 x, .int .i8 y])).run Tryz.prog W = .ok (.bool false) W := fun x y hxy W => by
        rw [zW]; simp; omega
      have f1 := mk 3 3 (by omega);have f2 := mk 4 4 (by omega);have f3 := mk 5 5 (by omega);have f4 := mk 3 0 (by omega);have f5 := mk 4 0 (by omega);have f6 := mk 5 0 (by omega);clear mk hno e1 e2 hc0 hA hB hok hr hsm
      go_enter Tryz.func41, Tryz.ntmps41
      go_wp2_with fail
      rw [HW1.out]
      go_wp2_with fail
      refine HC.out.mono ?_;rintro e w2 ⟨rfl, hb⟩;obtain ⟨b0, b1, _, _, hb0⟩ := zK (zB hb (zD H0.out) H0.out);obtain ⟨d0, d1, df0, df1, hd0⟩ := zK (zB hb (zD H1.out) H1.out);obtain ⟨q0, q1, gf0, gf1, hg0⟩ := zK (zB hb (zD H2.out) H2.out);have HB2 := kt_ HB0 hb;clear hb
      go_wp2_with fail
      clear f1 f2 f3 f4 f5 f6;exact zIJ
def MeetTellsP (w : World) (k : Int) (kids : Fo) (k' : Int) (kids' : Fo) (e : Ending) (w' : World) : Prop :=
  ∃ G m c, e = .returned (.tuple #[.agg #[.int .i8 (if Ty.agreeT k kids k' kids' then Ty.mK k k' else 0), .slice G m c], .bool (Ty.agreeT k kids k' kids')]) /\
    Lone (fun b => w.heap.size <= b) w' (if Ty.agreeT k kids k' kids' then Ty.mK k k' else 0) (if Ty.agreeT k kids k' kids' then Ty.mT k kids k' kids' else .nil) G m c /\ Below w.heap.size w w'
theorem zBW (k : Int) (kids : Fo) (A : Option Addr) (n c : Nat) (k' : Int) (kids' : Fo) (A' : Option Addr) (n' c' : Nat) (w : World) (hIs : Ty.Is w k kids A n c) (hIs' : Ty.Is w k' kids' A' n' c') (hS : Shapes w) :
    Calls Tryz.prog 43 #[.agg #[.int .i8 k, .slice A n c], .agg #[.int .i8 k', .slice A' n' c']] w (MeetTellsP w k kids k' kids') := by
  obtain ⟨hA0, hA1, hA2, hsz⟩ := wH w (.cells #[.int .i8 k, .slice A n c] 30) (.cells #[.int .i8 k', .slice A' n' c'] 30) (.cells #[.int .i8 0, .slice none 0 0] 30);have hB1 := yI w (.cells #[.int .i8 k, .slice A n c] 30) (.cells #[.int .i8 k', .slice A' n' c'] 30) (.cells #[.int .i8 0, .slice none 0 0] 30);generalize hw1 : ((w.alloc (.cells #[.int .i8 k, .slice A n c] 30)).alloc (.cells #[.int .i8 k', .slice A' n' c'] 30)).alloc (.cells #[.int .i8 0, .slice none 0 0] 30) = w1 at *;have HW1 := k0_ hw1;have HB1 := k0_ hB1;have HX := k0_ hA0;have HY := k0_ hA1;have HZ := k0_ hA2;have HC := k0_ (uC k kids A n c k' kids' A' n' c' w1 (hIs.below hB1) (hIs'.below hB1) (hS.below hB1));have HSH := k0_ hS;have HQ := k0_ (zFD (k := k) (kids := kids) (k' := k') (kids' := kids'));have HI := k0_ hIs;have HI' := k0_ hIs';clear hA0 hA1 hA2 hsz hB1 hw1 hIs hIs' hS;obtain ⟨x0, x1, _, _, hxl⟩ := zK HX.out;obtain ⟨y0, y1, _, _, hyl⟩ := zK HY.out;cases hR : Ty.agreeT k kids k' kids'
  · rw [hR] at HC
    have hp : ∀ (e : Ending) (w' : World), (∃ G m c, e = .returned (.tuple #[.agg #[.int .i8 0, .slice G m c], .bool false]) /\ Lone (fun b => w.heap.size <= b) w' 0 .nil G m c /\ Below w.heap.size w w') -> MeetTellsP w k kids k' kids' e w' := fun e w' h => by unfold MeetTellsP; rw [hR]; exact h
    refine Calls.mono ?_ hp;clear hp hR HQ
    go_enter Tryz.func43, Tryz.ntmps43
    go_upto_region 1 with fail
    rw [HW1.out]
    go_wp2_with fail
    refine HC.out.mono ?_;rintro e w2 ⟨rfl, hb⟩;have HB2 := kt_ HB1 hb;have HZ2 := kp_ hb HZ;obtain ⟨r0, r1, r2, r3, hrl⟩ := zK HZ2.out;clear hb x0 x1 hxl y0 y1 hyl
    go_wp2_with fail
    refine bodyPost_ret (v := .tuple #[.agg #[.int .i8 0, .slice none 0 0], .bool false]) (by simp [results, Tryz.results43, go_sem, *]) rfl ⟨none, 0, 0, rfl, fun u _ => ⟨trivial, rfl, Nat.le_refl _, Nat.zero_le _, by decide, by decide⟩, ?_⟩;exact (HB2.out.setCell (p := ⟨w.heap.size + 1 + 1, 0, none⟩) (by simp; omega) _).setCell (p := ⟨w.heap.size + 1 + 1, 1, none⟩) (by simp; omega) _
  · rw [hR] at HC
    obtain ⟨-, -, ha⟩ := HQ.out hR;obtain ⟨s1, s2⟩ := Ty.zDs hR;have HM := k0_ (fun (W : World) (hb : Below w.heap.size w W) => zD5 k kids A n c k' kids' A' n' c' W (HI.out.below hb) (HI'.out.below hb) s1 s2 (HSH.out.below hb) ha);have hp : ∀ (e : Ending) (w' : World), (∃ G m c, e = .returned (.tuple #[.agg #[.int .i8 (Ty.mK k k'), .slice G m c], .bool true]) /\ Lone (fun b => w.heap.size <= b) w' (Ty.mK k k') (Ty.mT k kids k' kids') G m c /\ Below w.heap.size w w') -> MeetTellsP w k kids k' kids' e w' := fun e w' h => by unfold MeetTellsP; rw [hR]; exact h
    refine Calls.mono ?_ hp;generalize Ty.mK k k' = MK at *;generalize Ty.mT k kids k' kids' = MT at *;clear hp hR HQ s1 s2 ha
    go_enter Tryz.func43, Tryz.ntmps43
    go_upto_region 1 with fail
    rw [HW1.out]
    go_wp2_with fail
    refine HC.out.mono ?_;rintro e w2 ⟨rfl, hb⟩;have HB2 := kt_ HB1 hb;have HX2 := kp_ hb HX;have HY2 := kp_ hb HY;have HZ2 := kp_ hb HZ;clear hb x0 x1 hxl y0 y1 hyl;obtain ⟨x0, x1, _, _, hxl⟩ := zK HX2.out;obtain ⟨y0, y1, _, _, hyl⟩ := zK HY2.out
    go_wp2_with fail
    refine (HM.out _ HB2.out).mono ?_;rintro e w3 ⟨G, m, cg, rfl, hi, hb⟩;have HB3 := kt_ HB2 hb;have HZ3 := kp_ hb HZ2;have HJ := k0_ hi;obtain ⟨r0, r1, r2, r3, hrl⟩ := zK HZ3.out;clear hb x0 x1 hxl y0 y1 hyl hi
    go_wp2_with fail
    refine bodyPost_ret (v := .tuple #[.agg #[.int .i8 MK, .slice G m cg], .bool true]) (by simp [results, Tryz.results43, go_sem, *]) rfl ⟨G, m, cg, rfl, ?_, ?_⟩
    · intro u hu
      refine (HJ.out.to (P' := fun _ => True) fun b o v hP hc => ⟨trivial, hu b o v (show w.heap.size <= b by have := HB2.out.size; have hP' : w2.heap.size <= b := hP; omega) ?_⟩).is;have hne : w.heap.size + 1 + 1 ≠ b := by have := zD HZ2.out; have hP' : w2.heap.size <= b := hP; omega
      exact zGY
    · exact (HB3.out.setCell (p := ⟨w.heap.size + 1 + 1, 0, none⟩) (by simp; omega) _).setCell (p := ⟨w.heap.size + 1 + 1, 1, none⟩) (by simp; omega) _
end Go.Proofs.YtepmjknljbafgaaGreatDoor
