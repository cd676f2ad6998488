/-
  Terms in memory of their own, each part apart from each other one.
-/
import Derived.Test.YtfkbdpehdabepaaGreatDoorCopyT
namespace Go.Proofs.YtfkbdpehdabepaaGreatDoor
open Go.RowKit

/-- the blocks from lo to below hi -/
@[reducible] def rng (lo hi : Nat) : Nat → Bool := fun b => decide (lo ≤ b) && decide (b < hi)
theorem rng_of {lo hi b : Nat} (h1 : lo ≤ b) (h2 : b < hi) : rng lo hi b = true := by simp [h1, h2]
theorem rng_at {lo hi b : Nat} (h : rng lo hi b = true) : lo ≤ b ∧ b < hi := by simpa using h
theorem rng_kept {w w' : World} {lo hi lo2 hi2 : Nat} (h1 : lo2 ≤ lo) (h2 : hi ≤ hi2) (hb : ∀ b, lo ≤ b → b < hi → w'.heap[b]? = w.heap[b]?) : Tm.Kept (mask (rng lo hi) w) (mask (rng lo2 hi2) w') :=
  kept_mask fun b o v hP hv => by
    obtain ⟨p1, p2⟩ := rng_at hP
    exact ⟨rng_of (by omega) (by omega), by rw [World.cell?_of_block (hb b p1 p2)]; exact hv⟩
namespace Tm
/-- a list of terms, the elements of the row in block g from the i-th place on: what each holds lies in blocks from lo to below hi, each element's apart from the other ones', g in none; a term's types lie ahead of its kids -/
def SepF (w : World) (g : Nat) : Tm → Nat → Nat → Nat → Prop
  | .nil, _, lo, hi => lo ≤ hi
  | .node h kids r, i, lo, hi => ∃ p lo' t hi', lo ≤ lo' ∧ lo' ≤ t ∧ t ≤ hi' ∧ (g < lo' ∨ hi' ≤ g) ∧ (∀ j v, (h.cells p)[j]? = some v → w.cell? ⟨g, i * 11 + j, none⟩ = some v) ∧ Fit (mask (rng lo' t) w) h p (len kids) ∧
      (kids = .nil ∨ ∃ g', p.A = some ⟨g', 0, none⟩ ∧ t ≤ g' ∧ g' < hi' ∧ (∀ o, w.frozen? ⟨g', o, none⟩ = false) ∧ SepF w g' kids 0 t hi') ∧ SepF w g r (i + 1) hi' hi
/-- a term in memory of its own -/
def SepK (w : World) (h : Hd) (kids : Tm) (p : Pl) (lo hi : Nat) : Prop :=
  ∃ t, lo ≤ t ∧ t ≤ hi ∧ Fit (mask (rng lo t) w) h p (len kids) ∧
      (kids = .nil ∨ ∃ g', p.A = some ⟨g', 0, none⟩ ∧ t ≤ g' ∧ g' < hi ∧ (∀ o, w.frozen? ⟨g', o, none⟩ = false) ∧ SepF w g' kids 0 t hi)
theorem SepF.le {w : World} {g : Nat} : ∀ (f : Tm) (i lo hi : Nat), SepF w g f i lo hi → lo ≤ hi
  | .nil, _, _, _, h => h
  | .node _ _ r, i, lo, hi, h => by
    obtain ⟨p, lo', t, hi', h1, h2, h3, -, -, -, -, h4⟩ := h
    have := SepF.le r _ _ _ h4
    omega
theorem SepF.mono {w : World} {g : Nat} : ∀ (f : Tm) (i lo hi lo2 hi2 : Nat), lo2 ≤ lo → hi ≤ hi2 → SepF w g f i lo hi → SepF w g f i lo2 hi2
  | .nil, _, lo, hi, lo2, hi2, h1, h2, h => by have h' : lo ≤ hi := h; show lo2 ≤ hi2; omega
  | .node _ _ r, i, lo, hi, lo2, hi2, h1, h2, h => by
    obtain ⟨p, lo', t, hi', a1, a2, a3, a4, a5, a6, a7, a8⟩ := h
    exact ⟨p, lo', t, hi', by omega, a2, a3, a4, a5, a6, a7, SepF.mono r _ _ _ _ _ (Nat.le_refl _) h2 a8⟩
theorem SepK.mono {w : World} {h : Hd} {kids : Tm} {p : Pl} {lo hi lo2 hi2 : Nat} (h1 : lo2 ≤ lo) (h2 : hi ≤ hi2) (e : SepK w h kids p lo hi) : SepK w h kids p lo2 hi2 := by
  obtain ⟨t, a1, a2, a3, a4⟩ := e
  refine ⟨t, by omega, by omega, a3.kept (rng_kept h1 (Nat.le_refl _) fun _ _ _ => rfl), ?_⟩
  rcases a4 with e | ⟨g', b1, b2, b3, b4, b5⟩
  · exact .inl e
  · exact .inr ⟨g', b1, b2, by omega, b4, SepF.mono _ _ _ _ _ _ (Nat.le_refl _) h2 b5⟩
theorem SepK.le {w : World} {h : Hd} {kids : Tm} {p : Pl} {lo hi : Nat} (e : SepK w h kids p lo hi) : lo ≤ hi := by obtain ⟨t, a1, a2, -, -⟩ := e; omega
/-- the row's own cells from i on, and the blocks between, being as they were -/
theorem SepF.keep {w w' : World} : ∀ (f : Tm) (g i lo hi : Nat), (∀ o v, i * 11 ≤ o → o < (i + len f) * 11 → w.cell? ⟨g, o, none⟩ = some v → w'.cell? ⟨g, o, none⟩ = some v) → (∀ b, lo ≤ b → b < hi → b ≠ g → w'.heap[b]? = w.heap[b]?) → SepF w g f i lo hi → SepF w' g f i lo hi
  | .nil, _, _, _, _, _, _, h => h
  | .node hd kids r, g, i, lo, hi, hg, hb, h => by
    obtain ⟨p, lo', t, hi', a1, a2, a3, a4, a5, a6, a7, a8⟩ := h
    have hle := SepF.le r _ _ _ a8
    have hbk := fun b (h1 : lo' ≤ b) (h2 : b < hi') => hb b (by omega) (by omega) (by rcases a4 with a4 | a4 <;> omega)
    simp only [len] at hg
    refine ⟨p, lo', t, hi', a1, a2, a3, a4, fun j v hv => ?_, a6.kept (rng_kept (Nat.le_refl _) (Nat.le_refl _) fun b q1 q2 => hbk b q1 (by omega)), ?_, SepF.keep r g (i + 1) hi' hi (fun o v ho ho2 => hg o v (by omega) (by omega)) (fun b h1 h2 => hb b (by omega) h2) a8⟩
    · have hj : j < 11 := by
        rcases Nat.lt_or_ge j 11 with q | q
        · exact q
        · rw [List.getElem?_eq_none (by simpa using q)] at hv; cases hv
      exact hg _ _ (by omega) (by omega) (a5 j v hv)
    · rcases a7 with e | ⟨g', b1, b2, b3, b4, b5⟩
      · exact .inl e
      · exact .inr ⟨g', b1, b2, b3, fun o => by rw [World.frozen?_of_block (hbk g' (by omega) b3)]; exact b4 o, SepF.keep kids g' 0 t hi' (fun o v _ _ hc => by rw [World.cell?_of_block (hbk g' (by omega) b3)]; exact hc) (fun b h1 h2 _ => hbk b (by omega) h2) b5⟩
theorem SepK.keep {w w' : World} {h : Hd} {kids : Tm} {p : Pl} {lo hi : Nat} (hb : ∀ b, lo ≤ b → b < hi → w'.heap[b]? = w.heap[b]?) (e : SepK w h kids p lo hi) : SepK w' h kids p lo hi := by
  obtain ⟨t, a1, a2, a3, a4⟩ := e
  refine ⟨t, a1, a2, a3.kept (rng_kept (Nat.le_refl _) (Nat.le_refl _) fun b q1 q2 => hb b q1 (by omega)), ?_⟩
  rcases a4 with e | ⟨g', b1, b2, b3, b4, b5⟩
  · exact .inl e
  · exact .inr ⟨g', b1, b2, b3, fun o => by rw [World.frozen?_of_block (hb g' (by omega) b3)]; exact b4 o, SepF.keep kids g' 0 t hi (fun o v _ _ hc => by rw [World.cell?_of_block (hb g' (by omega) b3)]; exact hc) (fun b h1 h2 _ => hb b (by omega) h2) b5⟩
theorem SepF.lies {w u : World} : ∀ (f : Tm) (g i lo hi : Nat), (∀ o v, w.cell? ⟨g, o, none⟩ = some v → u.cell? ⟨g, o, none⟩ = some v) → (∀ b o v, lo ≤ b → b < hi → w.cell? ⟨b, o, none⟩ = some v → u.cell? ⟨b, o, none⟩ = some v) → SepF w g f i lo hi → Lies u f (some ⟨g, 0, none⟩) i
  | .nil, _, _, _, _, _, _, _ => trivial
  | .node hd kids r, g, i, lo, hi, hg, hb, h => by
    obtain ⟨p, lo', t, hi', a1, a2, a3, a4, a5, a6, a7, a8⟩ := h
    have hle := SepF.le r _ _ _ a8
    refine ⟨g, 0, p, rfl, fun j v hv => by rw [Nat.zero_add]; exact hg _ _ (a5 j v hv), a6.kept fun b _ o v hv => ?_, ?_, SepF.lies r g (i + 1) hi' hi hg (fun b o v h1 h2 => hb b o v (by omega) h2) a8⟩
    · obtain ⟨q1, q2⟩ := mask_at hv
      obtain ⟨q3, q4⟩ := rng_at q1
      exact hb b o v (by omega) (by omega) q2
    rcases a7 with rfl | ⟨g', e, b2, b3, b4, b5⟩
    · trivial
    · rw [e]
      have hbk := fun b o v (h1 : lo' ≤ b) (h2 : b < hi') => hb b o v (by omega) (by omega)
      exact SepF.lies kids g' 0 t hi' (fun o v hc => hbk g' o v (by omega) b3 hc) (fun b o v h1 h2 => hbk b o v (by omega) h2) b5
theorem SepK.is {w u : World} {h : Hd} {kids : Tm} {p : Pl} {lo hi : Nat} (e : SepK w h kids p lo hi) (hb : ∀ b o v, lo ≤ b → b < hi → w.cell? ⟨b, o, none⟩ = some v → u.cell? ⟨b, o, none⟩ = some v) : Is u h kids p := by
  obtain ⟨t, a1, a2, a3, a4⟩ := e
  refine ⟨a3.kept fun b _ o v hv => ?_, ?_⟩
  · obtain ⟨q1, q2⟩ := mask_at hv
    obtain ⟨q3, q4⟩ := rng_at q1
    exact hb b o v q3 (by omega) q2
  rcases a4 with rfl | ⟨g', e, b2, b3, b4, b5⟩
  · trivial
  · rw [e]
    exact SepF.lies kids g' 0 t hi (fun o v hc => hb g' o v (by omega) b3 hc) (fun b o v h1 h2 => hb b o v (by omega) h2) b5
/-- one more element behind the others -/
theorem SepF.snoc {w : World} {g lo' hi' : Nat} {h : Hd} {kids : Tm} {p : Pl} (h2 : g < lo' ∨ hi' ≤ g) (h5 : SepK w h kids p lo' hi') :
    ∀ (f : Tm) (i lo hi : Nat), (∀ j v, (h.cells p)[j]? = some v → w.cell? ⟨g, (i + len f) * 11 + j, none⟩ = some v) → hi ≤ lo' → SepF w g f i lo hi → SepF w g (app f (.node h kids .nil)) i lo hi'
  | .nil, i, lo, hi, hc, hh, e => by
    obtain ⟨t, a1, a2, a3, a4⟩ := h5
    have e' : lo ≤ hi := e
    exact ⟨p, lo', t, hi', by omega, a1, a2, h2, hc, a3, a4, Nat.le_refl _⟩
  | .node _ _ r, i, lo, hi, hc, hh, e => by
    obtain ⟨p', lo2, t, hi2, a1, a2, a3, a4, a5, a6, a7, a8⟩ := e
    exact ⟨p', lo2, t, hi2, a1, a2, a3, a4, a5, a6, a7, SepF.snoc h2 h5 r (i + 1) hi2 hi (fun j v hv => by have := hc j v hv; simp only [len] at this; rwa [show i + 1 + len r = i + (len r + 1) by omega]) hh a8⟩
/-- a row that grows: its elements, what they hold -/
def FlatS (w : World) (vb : Option Nat) : Tm → List Value → Nat → Nat → Prop
  | .nil, xs, lo, hi => xs = [] ∧ lo ≤ hi
  | .node h kids r, xs, lo, hi => ∃ p lo' hi' ys, xs = h.cells p ++ ys ∧ lo ≤ lo' ∧ (∀ g, vb = some g → g < lo' ∨ hi' ≤ g) ∧ SepK w h kids p lo' hi' ∧ FlatS w vb r ys hi' hi
theorem FlatS.le {w : World} {vb : Option Nat} : ∀ (f : Tm) (xs : List Value) (lo hi : Nat), FlatS w vb f xs lo hi → lo ≤ hi
  | .nil, _, _, _, h => h.2
  | .node _ _ r, _, lo, hi, h => by
    obtain ⟨p, lo', hi', ys, rfl, h1, _, h2, h3⟩ := h
    have := FlatS.le r _ _ _ h3
    have := h2.le
    omega
theorem FlatS.snoc {w : World} {vb : Option Nat} {h : Hd} {kids : Tm} {p : Pl} {lo' hi' : Nat} (h2 : ∀ g, vb = some g → g < lo' ∨ hi' ≤ g) (h5 : SepK w h kids p lo' hi') :
    ∀ (f : Tm) (xs : List Value) (lo hi : Nat), hi ≤ lo' → FlatS w vb f xs lo hi → FlatS w vb (app f (.node h kids .nil)) (xs ++ h.cells p) lo hi'
  | .nil, xs, lo, hi, hh, e => by
    obtain ⟨rfl, hl⟩ := e
    exact ⟨p, lo', hi', [], by simp, by omega, h2, h5, rfl, Nat.le_refl _⟩
  | .node _ _ r, xs, lo, hi, hh, e => by
    obtain ⟨p', lo2, hi2, ys, rfl, a1, a2, a3, a4⟩ := e
    exact ⟨p', lo2, hi2, _, by rw [List.append_assoc], a1, a2, a3, FlatS.snoc h2 h5 r ys hi2 hi hh a4⟩
theorem FlatS.to {w w' : World} {vb vb' : Option Nat} : ∀ (f : Tm) (xs : List Value) (lo hi : Nat), (∀ b, lo ≤ b → b < hi → vb ≠ some b → w'.heap[b]? = w.heap[b]?) → (∀ g, vb' = some g → vb = some g ∨ hi ≤ g) → FlatS w vb f xs lo hi → FlatS w' vb' f xs lo hi
  | .nil, _, _, _, _, _, h => h
  | .node _ _ r, xs, lo, hi, hb, hv, h => by
    obtain ⟨p', lo2, hi2, ys, rfl, a1, a2, a3, a4⟩ := h
    have hle := FlatS.le r _ _ _ a4
    have hle3 := a3.le
    refine ⟨p', lo2, hi2, ys, rfl, a1, fun g hg => ?_, a3.keep fun b h1 h2 => hb b (by omega) (by omega) (fun e => by rcases a2 b e with h | h <;> omega), FlatS.to r ys hi2 hi (fun b h1 h2 => hb b (by omega) h2) hv a4⟩
    rcases hv g hg with h | h
    · exact a2 g h
    · right; omega
theorem FlatS.up {w : World} {vb : Option Nat} : ∀ (f : Tm) (xs : List Value) (lo hi hi2 : Nat), hi ≤ hi2 → FlatS w vb f xs lo hi → FlatS w vb f xs lo hi2
  | .nil, _, _, _, _, hh, h => ⟨h.1, Nat.le_trans h.2 hh⟩
  | .node _ _ r, _, lo, hi, hi2, hh, h => by
    obtain ⟨p, lo', hi', ys, e, h1, h2, h3, h4⟩ := h
    exact ⟨p, lo', hi', ys, e, h1, h2, h3, FlatS.up r ys hi' hi hi2 hh h4⟩
theorem FlatS.sep {w : World} {g : Nat} : ∀ (f : Tm) (xs : List Value) (i lo hi : Nat), FlatS w (some g) f xs lo hi → (∀ j x, xs[j]? = some x → w.cell? ⟨g, i * 11 + j, none⟩ = some x) → SepF w g f i lo hi
  | .nil, _, _, _, _, h, _ => h.2
  | .node h kids r, _, i, lo, hi, e, hc => by
    obtain ⟨p, lo2, hi2, ys, rfl, a1, a2, ⟨t, b1, b2, b3, b4⟩, a4⟩ := e
    have hlen : (h.cells p).length = 11 := rfl
    refine ⟨p, lo2, t, hi2, a1, b1, b2, a2 g rfl, fun j v hv => ?_, b3, b4, FlatS.sep r ys (i + 1) hi2 hi a4 fun j x hx => ?_⟩
    · have hj : j < (h.cells p).length := by
        rcases Nat.lt_or_ge j (h.cells p).length with q | q
        · exact q
        · rw [List.getElem?_eq_none q] at hv; cases hv
      exact hc j v (by rw [List.getElem?_append_left hj]; exact hv)
    · have := hc (j + 11) x (by rw [List.getElem?_append_right (by rw [hlen]; omega), hlen, show j + 11 - 11 = j by omega]; exact hx)
      rwa [show i * 11 + (j + 11) = (i + 1) * 11 + j by omega] at this
end Tm
/-- blocks between lo and hi may have turned, no others -/
structure Apart (lo hi : Nat) (w w' : World) : Prop where
  os : w'.os = w.os
  tape : w'.tape = w.tape
  output : w'.output = w.output
  size : w.heap.size ≤ w'.heap.size
  block : ∀ b, b < w.heap.size → b < lo ∨ hi ≤ b → w'.heap[b]? = w.heap[b]?
theorem Apart.refl (lo hi : Nat) (w : World) : Apart lo hi w w := ⟨rfl, rfl, rfl, Nat.le_refl _, fun _ _ _ => rfl⟩
theorem Apart.of_below {lo hi : Nat} {w w' : World} (h : Below w.heap.size w w') : Apart lo hi w w' := ⟨h.os, h.tape, h.output, h.size, fun b hb _ => h.block b hb⟩
theorem Apart.trans {lo hi : Nat} {a b c : World} (h : Apart lo hi a b) (k : Apart lo hi b c) : Apart lo hi a c :=
  ⟨k.os.trans h.os, k.tape.trans h.tape, k.output.trans h.output, Nat.le_trans h.size k.size, fun x hx ho => (k.block x (Nat.lt_of_lt_of_le hx h.size) ho).trans (h.block x hx ho)⟩
theorem Apart.mono {lo hi lo2 hi2 : Nat} {w w' : World} (h : Apart lo hi w w') (h1 : lo2 ≤ lo) (h2 : hi ≤ hi2) : Apart lo2 hi2 w w' :=
  ⟨h.os, h.tape, h.output, h.size, fun b hb ho => h.block b hb (by omega)⟩
theorem Apart.heap {lo hi : Nat} {w w' : World} (h : Apart lo hi w w') {b : Nat} {x : Obj} (hx : w.heap[b]? = some x) (ho : b < lo ∨ hi ≤ b) : w'.heap[b]? = some x := by rw [h.block b (heap_lt hx) ho]; exact hx
theorem Apart.below {lo hi B : Nat} {w w' : World} (h : Apart lo hi w w') (h1 : B ≤ lo) (h2 : B ≤ w.heap.size) : Below B w w' := ⟨h.os, h.tape, h.output, h.size, fun b hb => h.block b (by omega) (by omega)⟩
end Go.Proofs.YtfkbdpehdabepaaGreatDoor
