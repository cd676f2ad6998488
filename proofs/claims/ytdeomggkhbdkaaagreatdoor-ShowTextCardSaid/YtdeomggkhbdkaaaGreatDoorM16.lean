/-
  show: any right term that can be written, at a strength. gen_sh11.py wrote this. show: how long a right term's words are; unwritable.
-/
import Derived.Test.YtdeomggkhbdkaaaGreatDoorM14
import Derived.Test.YtdeomggkhbdkaaaGreatDoorM15
namespace Go.Proofs.YtdeomggkhbdkaaaGreatDoor
open Go.RowKit

namespace Sh
/-- what no words make -/
def badH (h : Hd) : Bool := (h.kind == 17) || ((h.kind == 1) && (h.num == -9223372036854775808))
def badF : Tm → Bool
  | .nil => false
  | .node h kids r => (badH h || badF kids) || badF r
def badT (h : Hd) (kids : Tm) : Bool := badH h || badF kids
/-- numbers are int64s -/
def nuH (h : Hd) : Bool := decide (-9223372036854775808 ≤ h.num ∧ h.num ≤ 9223372036854775807)
def nuF : Tm → Bool
  | .nil => true
  | .node h kids r => (nuH h && nuF kids) && nuF r
def nuT (h : Hd) (kids : Tm) : Bool := nuH h && nuF kids
structure Good (h : Hd) (kids : Tm) : Prop where
  ok : Tm.okT h kids = true
  nb : badT h kids = false
  nu : nuT h kids = true
structure GoodF (f : Tm) : Prop where
  ok : Tm.okF f = true
  nb : badF f = false
  nu : nuF f = true
theorem Good.kids {h : Hd} {kids : Tm} (g : Good h kids) : GoodF kids := by
  obtain ⟨h1, h2, h3⟩ := g
  unfold Tm.okT at h1; unfold badT at h2; unfold nuT at h3
  rw [Bool.and_eq_true] at h1 h3
  rw [Bool.or_eq_false_iff] at h2
  exact ⟨h1.2, h2.2, h3.2⟩
theorem GoodF.node {h : Hd} {kids r : Tm} (g : GoodF (.node h kids r)) : Good h kids ∧ GoodF r := by
  obtain ⟨h1, h2, h3⟩ := g
  simp only [Tm.okF, badF, nuF, Bool.and_eq_true, Bool.or_eq_false_iff] at h1 h2 h3
  exact ⟨⟨by unfold Tm.okT; rw [Bool.and_eq_true]; exact h1.1, by unfold badT; rw [Bool.or_eq_false_iff]; exact h2.1, by unfold nuT; rw [Bool.and_eq_true]; exact h3.1⟩, h1.2, h2.2, h3.2⟩
theorem Good.head {h : Hd} {kids : Tm} (g : Good h kids) : (0 ≤ h.kind ∧ h.kind ≤ 16) ∧ Tm.len kids = Tm.kidsN h.kind ∧ (Tm.hasType h.kind = true → Ty.chk h.tk h.tkids = 0) ∧ (Tm.hasTo h.kind = true → Ty.chk h.uk h.ukids = 0) ∧ (h.kind = 1 → -9223372036854775808 < h.num ∧ h.num ≤ 9223372036854775807) := by
  obtain ⟨h1, h2, h3⟩ := g
  unfold Tm.okT Tm.headOk Tm.tysOk Tm.isKind at h1; unfold badT badH at h2; unfold nuT nuH at h3
  simp only [Bool.and_eq_true, Bool.or_eq_false_iff, decide_eq_true_eq, Bool.or_eq_true, Bool.not_eq_true', beq_iff_eq, beq_eq_false_iff_ne] at h1 h2 h3
  refine ⟨by have := h2.1.1; omega, h1.1.1.1.1.2, fun hq => ?_, fun hq => ?_, fun hq => ?_⟩
  · rcases h1.1.2.1 with e | e
    · rw [hq] at e; cases e
    · exact e
  · rcases h1.1.2.2 with e | e
    · rw [hq] at e; cases e
    · exact e
  · have h4 := h2.1.2
    rw [hq] at h4
    simp at h4
    omega
theorem len0 {f : Tm} (h : Tm.len f = 0) : f = .nil := by cases f with
  | nil => rfl
  | node _ _ _ => simp [Tm.len] at h
theorem len1 {f : Tm} {n : Nat} (h : Tm.len f = n + 1) : ∃ h1 k1 r, f = .node h1 k1 r ∧ Tm.len r = n := by cases f with
  | nil => simp [Tm.len] at h
  | node h1 k1 r => exact ⟨h1, k1, r, rfl, by simpa [Tm.len] using h⟩
end Sh
/-- a kid, and what is behind it -/
theorem kid_at {b : Nat} {w0 : World} {p : Pl} {i : Nat} {h1 : Hd} {k1 r : Tm} (hl : Tm.Lies w0 (.node h1 k1 r) p.A i) (hlt : i < p.n) (hmx : (p.n : Int) ≤ 9223372036854775807)
    (ih : ∀ q, Tm.Is w0 h1 k1 q → StandOK w0.heap.size b w0 h1 k1 q) : (∃ q, KidAt w0.heap.size b w0 p i h1 k1 q) ∧ Tm.Lies w0 r p.A (i + 1) := by
  obtain ⟨bb, oo, q, hA, hc, hf, hk, hr⟩ := hl
  refine ⟨⟨q, ⟨bb, oo, hA, ?_, hc⟩, hlt, hmx, ih q ⟨hf, hk⟩⟩, hr⟩
  exact Ty.cell_lt (hc 0 _ rfl)

theorem sstand_any (b : Nat) (w0 : World) (hS : Shapes w0) (ht : Tens w0) (K : Nat) : ∀ (h : Hd) (kids : Tm) (p : Pl), Tm.nodes kids < K → Tm.Is w0 h kids p → Sh.Good h kids → StandOK w0.heap.size b w0 h kids p := by
  induction K with
  | zero => intro _ _ _ hK; omega
  | succ K ih =>
    intro h kids p hK hIs hg
    obtain ⟨hk, hlen, hty, hto, hnum⟩ := hg.head
    have hmx : (p.n : Int) ≤ 9223372036854775807 := by have h1 := hIs.fit.n_le; have h2 := hIs.fit.c_le; unfold maxLen at h2; omega
    have hn := hIs.fit.n_eq
    have hli := hIs.lies
    have hgk := hg.kids
    refine stand_of _ b w0 h kids p hk fun l W hb0 hB hbl hl => ?_
    have C : OwnCtx w0.heap.size b w0 W h p := ⟨rfl, hb0, hIs.fit.ty, hIs.fit.to, hS, hB⟩
    have hcase : h.kind = 0 ∨ h.kind = 1 ∨ h.kind = 2 ∨ h.kind = 3 ∨ h.kind = 4 ∨ h.kind = 5 ∨ h.kind = 6 ∨ h.kind = 7 ∨ h.kind = 8 ∨ h.kind = 9 ∨ h.kind = 10 ∨ h.kind = 11 ∨ h.kind = 12 ∨ h.kind = 13 ∨ h.kind = 14 ∨ h.kind = 15 ∨ h.kind = 16 := by omega
    rcases hcase with hq | hq | hq | hq | hq | hq | hq | hq | hq | hq | hq | hq | hq | hq | hq | hq | hq
    · have hl0 : Tm.len kids = 0 := by rw [hlen, hq]; rfl
      obtain rfl := Sh.len0 hl0
      exact own_0 _ b l w0 W h p hq C hbl hl
    · have hl0 : Tm.len kids = 0 := by rw [hlen, hq]; rfl
      obtain rfl := Sh.len0 hl0
      exact own_1 _ b l w0 W h p hq C (hnum hq).1 (hnum hq).2 ht hbl hl
    · have hl0 : Tm.len kids = 0 := by rw [hlen, hq]; rfl
      obtain rfl := Sh.len0 hl0
      exact own_2 _ b l w0 W h p hq C hbl hl
    · have hl0 : Tm.len kids = 0 := by rw [hlen, hq]; rfl
      obtain rfl := Sh.len0 hl0
      exact own_3 _ b l w0 W h p hq C hbl hl
    · have hl0 : Tm.len kids = 1 := by rw [hlen, hq]; rfl
      obtain ⟨h1, k1, r1, rfl, hl1⟩ := Sh.len1 hl0
      obtain rfl := Sh.len0 hl1
      simp only [Tm.nodes] at hK
      simp only [Tm.len] at hn
      obtain ⟨g1, hgk1⟩ := hgk.node
      obtain ⟨⟨q1, K0⟩, hli1⟩ := kid_at (b := b) hli (by omega) hmx (fun q hI => ih h1 k1 q (by omega) hI g1)
      exact own_open _ b l w0 W h p _ (by omega) C hbl (fun W2 C2 _ hbl2 => open_4 _ b l w0 W2 h p h1 k1 q1 hq C2 (hty (by rw [hq]; rfl)) K0 hbl2 hl)
    · have hl0 : Tm.len kids = 1 := by rw [hlen, hq]; rfl
      obtain ⟨h1, k1, r1, rfl, hl1⟩ := Sh.len1 hl0
      obtain rfl := Sh.len0 hl1
      simp only [Tm.nodes] at hK
      simp only [Tm.len] at hn
      obtain ⟨g1, hgk1⟩ := hgk.node
      obtain ⟨⟨q1, K0⟩, hli1⟩ := kid_at (b := b) hli (by omega) hmx (fun q hI => ih h1 k1 q (by omega) hI g1)
      exact own_open _ b l w0 W h p _ (by omega) C hbl (fun W2 C2 _ hbl2 => open_5 _ b l w0 W2 h p h1 k1 q1 hq C2 (hty (by rw [hq]; rfl)) (hto (by rw [hq]; rfl)) K0 hbl2 hl)
    · have hl0 : Tm.len kids = 2 := by rw [hlen, hq]; rfl
      obtain ⟨h1, k1, r1, rfl, hl1⟩ := Sh.len1 hl0
      obtain ⟨h2, k2, r2, rfl, hl2⟩ := Sh.len1 hl1
      obtain rfl := Sh.len0 hl2
      simp only [Tm.nodes] at hK
      simp only [Tm.len] at hn
      obtain ⟨g1, hgk1⟩ := hgk.node
      obtain ⟨⟨q1, K0⟩, hli1⟩ := kid_at (b := b) hli (by omega) hmx (fun q hI => ih h1 k1 q (by omega) hI g1)
      obtain ⟨g2, hgk2⟩ := hgk1.node
      obtain ⟨⟨q2, K1⟩, hli2⟩ := kid_at (b := b) hli1 (by omega) hmx (fun q hI => ih h2 k2 q (by omega) hI g2)
      exact own_6 _ b l w0 W h p h1 k1 q1 h2 k2 q2 hq C K0 K1 hbl hl
    · have hl0 : Tm.len kids = 2 := by rw [hlen, hq]; rfl
      obtain ⟨h1, k1, r1, rfl, hl1⟩ := Sh.len1 hl0
      obtain ⟨h2, k2, r2, rfl, hl2⟩ := Sh.len1 hl1
      obtain rfl := Sh.len0 hl2
      simp only [Tm.nodes] at hK
      simp only [Tm.len] at hn
      obtain ⟨g1, hgk1⟩ := hgk.node
      obtain ⟨⟨q1, K0⟩, hli1⟩ := kid_at (b := b) hli (by omega) hmx (fun q hI => ih h1 k1 q (by omega) hI g1)
      obtain ⟨g2, hgk2⟩ := hgk1.node
      obtain ⟨⟨q2, K1⟩, hli2⟩ := kid_at (b := b) hli1 (by omega) hmx (fun q hI => ih h2 k2 q (by omega) hI g2)
      exact own_open _ b l w0 W h p _ (by omega) C hbl (fun W2 C2 _ hbl2 => open_7 _ b l w0 W2 h p h1 k1 q1 h2 k2 q2 hq C2 (hty (by rw [hq]; rfl)) K0 K1 hbl2 hl)
    · have hl0 : Tm.len kids = 3 := by rw [hlen, hq]; rfl
      obtain ⟨h1, k1, r1, rfl, hl1⟩ := Sh.len1 hl0
      obtain ⟨h2, k2, r2, rfl, hl2⟩ := Sh.len1 hl1
      obtain ⟨h3, k3, r3, rfl, hl3⟩ := Sh.len1 hl2
      obtain rfl := Sh.len0 hl3
      simp only [Tm.nodes] at hK
      simp only [Tm.len] at hn
      obtain ⟨g1, hgk1⟩ := hgk.node
      obtain ⟨⟨q1, K0⟩, hli1⟩ := kid_at (b := b) hli (by omega) hmx (fun q hI => ih h1 k1 q (by omega) hI g1)
      obtain ⟨g2, hgk2⟩ := hgk1.node
      obtain ⟨⟨q2, K1⟩, hli2⟩ := kid_at (b := b) hli1 (by omega) hmx (fun q hI => ih h2 k2 q (by omega) hI g2)
      obtain ⟨g3, hgk3⟩ := hgk2.node
      obtain ⟨⟨q3, K2⟩, hli3⟩ := kid_at (b := b) hli2 (by omega) hmx (fun q hI => ih h3 k3 q (by omega) hI g3)
      exact own_open _ b l w0 W h p _ (by omega) C hbl (fun W2 C2 _ hbl2 => open_8 _ b l w0 W2 h p h1 k1 q1 h2 k2 q2 h3 k3 q3 hq C2 K0 K1 K2 hbl2 hl)
    · have hl0 : Tm.len kids = 2 := by rw [hlen, hq]; rfl
      obtain ⟨h1, k1, r1, rfl, hl1⟩ := Sh.len1 hl0
      obtain ⟨h2, k2, r2, rfl, hl2⟩ := Sh.len1 hl1
      obtain rfl := Sh.len0 hl2
      simp only [Tm.nodes] at hK
      simp only [Tm.len] at hn
      obtain ⟨g1, hgk1⟩ := hgk.node
      obtain ⟨⟨q1, K0⟩, hli1⟩ := kid_at (b := b) hli (by omega) hmx (fun q hI => ih h1 k1 q (by omega) hI g1)
      obtain ⟨g2, hgk2⟩ := hgk1.node
      obtain ⟨⟨q2, K1⟩, hli2⟩ := kid_at (b := b) hli1 (by omega) hmx (fun q hI => ih h2 k2 q (by omega) hI g2)
      exact own_9 _ b l w0 W h p h1 k1 q1 h2 k2 q2 hq C K0 K1 hbl hl
    · have hl0 : Tm.len kids = 1 := by rw [hlen, hq]; rfl
      obtain ⟨h1, k1, r1, rfl, hl1⟩ := Sh.len1 hl0
      obtain rfl := Sh.len0 hl1
      simp only [Tm.nodes] at hK
      simp only [Tm.len] at hn
      obtain ⟨g1, hgk1⟩ := hgk.node
      obtain ⟨⟨q1, K0⟩, hli1⟩ := kid_at (b := b) hli (by omega) hmx (fun q hI => ih h1 k1 q (by omega) hI g1)
      exact own_10 _ b l w0 W h p h1 k1 q1 hq C K0 hbl hl
    · have hl0 : Tm.len kids = 1 := by rw [hlen, hq]; rfl
      obtain ⟨h1, k1, r1, rfl, hl1⟩ := Sh.len1 hl0
      obtain rfl := Sh.len0 hl1
      simp only [Tm.nodes] at hK
      simp only [Tm.len] at hn
      obtain ⟨g1, hgk1⟩ := hgk.node
      obtain ⟨⟨q1, K0⟩, hli1⟩ := kid_at (b := b) hli (by omega) hmx (fun q hI => ih h1 k1 q (by omega) hI g1)
      exact own_11 _ b l w0 W h p h1 k1 q1 hq C K0 hbl hl
    · have hl0 : Tm.len kids = 1 := by rw [hlen, hq]; rfl
      obtain ⟨h1, k1, r1, rfl, hl1⟩ := Sh.len1 hl0
      obtain rfl := Sh.len0 hl1
      simp only [Tm.nodes] at hK
      simp only [Tm.len] at hn
      obtain ⟨g1, hgk1⟩ := hgk.node
      obtain ⟨⟨q1, K0⟩, hli1⟩ := kid_at (b := b) hli (by omega) hmx (fun q hI => ih h1 k1 q (by omega) hI g1)
      exact own_12 _ b l w0 W h p h1 k1 q1 hq C (hty (by rw [hq]; rfl)) K0 hbl hl
    · have hl0 : Tm.len kids = 1 := by rw [hlen, hq]; rfl
      obtain ⟨h1, k1, r1, rfl, hl1⟩ := Sh.len1 hl0
      obtain rfl := Sh.len0 hl1
      simp only [Tm.nodes] at hK
      simp only [Tm.len] at hn
      obtain ⟨g1, hgk1⟩ := hgk.node
      obtain ⟨⟨q1, K0⟩, hli1⟩ := kid_at (b := b) hli (by omega) hmx (fun q hI => ih h1 k1 q (by omega) hI g1)
      exact own_13 _ b l w0 W h p h1 k1 q1 hq C (hty (by rw [hq]; rfl)) K0 hbl hl
    · have hl0 : Tm.len kids = 3 := by rw [hlen, hq]; rfl
      obtain ⟨h1, k1, r1, rfl, hl1⟩ := Sh.len1 hl0
      obtain ⟨h2, k2, r2, rfl, hl2⟩ := Sh.len1 hl1
      obtain ⟨h3, k3, r3, rfl, hl3⟩ := Sh.len1 hl2
      obtain rfl := Sh.len0 hl3
      simp only [Tm.nodes] at hK
      simp only [Tm.len] at hn
      obtain ⟨g1, hgk1⟩ := hgk.node
      obtain ⟨⟨q1, K0⟩, hli1⟩ := kid_at (b := b) hli (by omega) hmx (fun q hI => ih h1 k1 q (by omega) hI g1)
      obtain ⟨g2, hgk2⟩ := hgk1.node
      obtain ⟨⟨q2, K1⟩, hli2⟩ := kid_at (b := b) hli1 (by omega) hmx (fun q hI => ih h2 k2 q (by omega) hI g2)
      obtain ⟨g3, hgk3⟩ := hgk2.node
      obtain ⟨⟨q3, K2⟩, hli3⟩ := kid_at (b := b) hli2 (by omega) hmx (fun q hI => ih h3 k3 q (by omega) hI g3)
      exact own_open _ b l w0 W h p _ (by omega) C hbl (fun W2 C2 _ hbl2 => open_14 _ b l w0 W2 h p h1 k1 q1 h2 k2 q2 h3 k3 q3 hq C2 K0 K1 K2 hbl2 hl)
    · have hl0 : Tm.len kids = 2 := by rw [hlen, hq]; rfl
      obtain ⟨h1, k1, r1, rfl, hl1⟩ := Sh.len1 hl0
      obtain ⟨h2, k2, r2, rfl, hl2⟩ := Sh.len1 hl1
      obtain rfl := Sh.len0 hl2
      simp only [Tm.nodes] at hK
      simp only [Tm.len] at hn
      obtain ⟨g1, hgk1⟩ := hgk.node
      obtain ⟨⟨q1, K0⟩, hli1⟩ := kid_at (b := b) hli (by omega) hmx (fun q hI => ih h1 k1 q (by omega) hI g1)
      obtain ⟨g2, hgk2⟩ := hgk1.node
      obtain ⟨⟨q2, K1⟩, hli2⟩ := kid_at (b := b) hli1 (by omega) hmx (fun q hI => ih h2 k2 q (by omega) hI g2)
      exact own_15 _ b l w0 W h p h1 k1 q1 h2 k2 q2 hq C K0 K1 hbl hl
    · have hl0 : Tm.len kids = 1 := by rw [hlen, hq]; rfl
      obtain ⟨h1, k1, r1, rfl, hl1⟩ := Sh.len1 hl0
      obtain rfl := Sh.len0 hl1
      simp only [Tm.nodes] at hK
      simp only [Tm.len] at hn
      obtain ⟨g1, hgk1⟩ := hgk.node
      obtain ⟨⟨q1, K0⟩, hli1⟩ := kid_at (b := b) hli (by omega) hmx (fun q hI => ih h1 k1 q (by omega) hI g1)
      exact own_16 _ b l w0 W h p h1 k1 q1 hq C (hty (by rw [hq]; rfl)) K0 hbl hl
end Go.Proofs.YtdeomggkhbdkaaaGreatDoor
namespace Go.Proofs.YtdeomggkhbdkaaaGreatDoor
open Go.RowKit

theorem Sc.isName_small {s : ByteArray} (h : Sc.isName s = true) : s.data.toList.length ≤ 64 := by
  unfold Sc.isName at h
  split at h
  · cases h
  · simp only [Bool.and_eq_true, decide_eq_true_eq] at h
    obtain ⟨⟨h1, h2⟩, h3⟩ := h
    have e : s.data.toList.length = s.size := rfl
    unfold Sc.fE at h1
    unfold Sc.fK at h2
    by_cases hl : Sc.lett (Sc.hd s) = true
    · rw [if_pos hl] at h1
      unfold Sc.nameErr at h1
      split at h1 <;> omega
    · rw [if_neg hl] at h2
      split at h2
      · omega
      · split at h2 <;> omega
theorem Tm.isOp_small {s : ByteArray} (h : Tm.isOp s = true) : s.data.toList.length ≤ 64 := by
  rw [Tm.isOp_iff] at h
  rw [Lib.toList_data] at h
  simp only [Bool.or_eq_true, beq_iff_eq] at h
  rcases h with ((((h | h) | h) | h) | h) | h <;> rw [h] <;> decide
namespace Sh
def sumW : List (Int × List Bs) → Nat
  | [] => 0
  | x :: r => tl x.2 + sumW r
theorem atW_tl (k : Int) (x : Int × List Bs) : tl (atW k x) ≤ tl x.2 + 4 := by
  unfold atW
  split
  · omega
  · simp only [tl, tl_app, List.length_cons, List.length_nil]; omega
theorem kid_tl (ks : List (Int × List Bs)) (i : Nat) (k : Int) : tl (kid ks i k) ≤ tl (ks.getD i (0, [])).2 + 4 := atW_tl k _
theorem sum3 : ∀ ks : List (Int × List Bs), tl (ks.getD 0 (0, [])).2 + tl (ks.getD 1 (0, [])).2 + tl (ks.getD 2 (0, [])).2 ≤ sumW ks
  | [] => by simp [tl]
  | [x] => by simp [tl, sumW]
  | [x, y] => by simp [tl, sumW]
  | x :: y :: z :: r => by simp [sumW]; omega
theorem own_tl (h : Hd) (ks : List (Int × List Bs)) (hk : 0 ≤ h.kind ∧ h.kind ≤ 16) (hN : Tm.hasName h.kind = true → h.name.data.toList.length ≤ 64) (hA : Tm.hasArg h.kind = true → h.arg.data.toList.length ≤ 64)
    (hT : Tm.hasType h.kind = true → (tyW h.tk h.tkids).length ≤ 10 * Ty.nod h.tkids) (hU : Tm.hasTo h.kind = true → (tyW h.uk h.ukids).length ≤ 10 * Ty.nod h.ukids) (hM : h.kind = 1 → tl (numW h.num) ≤ 23) : tl (ownW h ks) ≤ 250 + 10 * Tm.tyN h + sumW ks := by
  have k0 := fun k => kid_tl ks 0 k
  have k1 := fun k => kid_tl ks 1 k
  have k2 := fun k => kid_tl ks 2 k
  have s3 := sum3 ks
  have hcase : h.kind = 0 ∨ h.kind = 1 ∨ h.kind = 2 ∨ h.kind = 3 ∨ h.kind = 4 ∨ h.kind = 5 ∨ h.kind = 6 ∨ h.kind = 7 ∨ h.kind = 8 ∨ h.kind = 9 ∨ h.kind = 10 ∨ h.kind = 11 ∨ h.kind = 12 ∨ h.kind = 13 ∨ h.kind = 14 ∨ h.kind = 15 ∨ h.kind = 16 := by omega
  have a0 := k0 (-1); have a1 := k1 (-1); have a2 := k2 (-1)
  have b0 := k0 5; have c0 := k0 4; have d0 := k0 0; have e0 := k0 (opS h.name).2.1; have e1 := k1 (opS h.name).2.2
  clear k0 k1 k2
  unfold ownW Tm.tyN
  rcases hcase with hq | hq | hq | hq | hq | hq | hq | hq | hq | hq | hq | hq | hq | hq | hq | hq | hq
  all_goals
    simp only [hq] at hN hA hT hU hM ⊢
    simp only [show Tm.hasName 0 = true from rfl, show Tm.hasName 1 = false from rfl, show Tm.hasName 2 = false from rfl, show Tm.hasName 3 = false from rfl, show Tm.hasName 4 = true from rfl, show Tm.hasName 5 = true from rfl, show Tm.hasName 6 = false from rfl, show Tm.hasName 7 = true from rfl, show Tm.hasName 8 = false from rfl, show Tm.hasName 9 = false from rfl, show Tm.hasName 10 = false from rfl, show Tm.hasName 11 = false from rfl, show Tm.hasName 12 = false from rfl, show Tm.hasName 13 = false from rfl, show Tm.hasName 14 = true from rfl, show Tm.hasName 15 = true from rfl, show Tm.hasName 16 = false from rfl,
      show Tm.hasArg 0 = false from rfl, show Tm.hasArg 1 = false from rfl, show Tm.hasArg 2 = false from rfl, show Tm.hasArg 3 = false from rfl, show Tm.hasArg 4 = false from rfl, show Tm.hasArg 5 = true from rfl, show Tm.hasArg 6 = false from rfl, show Tm.hasArg 7 = false from rfl, show Tm.hasArg 8 = false from rfl, show Tm.hasArg 9 = false from rfl, show Tm.hasArg 10 = false from rfl, show Tm.hasArg 11 = false from rfl, show Tm.hasArg 12 = false from rfl, show Tm.hasArg 13 = false from rfl, show Tm.hasArg 14 = true from rfl, show Tm.hasArg 15 = false from rfl, show Tm.hasArg 16 = false from rfl,
      show Tm.hasType 4 = true from rfl, show Tm.hasType 5 = true from rfl, show Tm.hasType 7 = true from rfl, show Tm.hasType 12 = true from rfl, show Tm.hasType 13 = true from rfl, show Tm.hasType 16 = true from rfl, show Tm.hasTo 5 = true from rfl, forall_const] at hN hA hT hU ⊢
    simp [tl, tl_app] at *
    omega
theorem own_good {h : Hd} {kids : Tm} (g : Good h kids) (ks : List (Int × List Bs)) : tl (ownW h ks) ≤ 250 + 10 * Tm.tyN h + sumW ks := by
  obtain ⟨hk, hlen, hty, hto, hnum⟩ := g.head
  have hnm : Tm.nameOk h = true := by
    have h1 := g.ok
    unfold Tm.okT Tm.headOk at h1
    simp only [Bool.and_eq_true] at h1
    exact h1.1.1.1.2
  have hty2 : ∀ (k : Int) (f : Fo), Ty.chk k f = 0 → (tyW k f).length ≤ 10 * Ty.nod f := fun k f hc => by
    have h1 := (Ty.chk_ok hc)
    have h2 := Ty.txt_len k f 1
    unfold tyW Ty.nod
    omega
  refine own_tl h ks hk (fun q => ?_) (fun q => ?_) (fun q => hty2 _ _ (hty q)) (fun q => hty2 _ _ (hto q)) (fun q => by have := hnum q; exact numW_tl (by omega) (by omega))
  · unfold Tm.nameOk at hnm
    split at hnm
    · exact Tm.isOp_small hnm
    · simp only [q, Bool.not_true, Bool.false_or, Bool.and_eq_true] at hnm
      exact Sc.isName_small hnm.1
  · unfold Tm.nameOk at hnm
    split at hnm
    · rename_i h15
      rw [h15] at q
      exact absurd q (by decide)
    · simp only [q, Bool.not_true, Bool.false_or, Bool.and_eq_true] at hnm
      exact Sc.isName_small hnm.2
theorem sum_tl : ∀ f : Tm, GoodF f → sumW (kidsW f) ≤ 300 * Tm.nodes f
  | .nil, _ => by simp [kidsW, sumW]
  | .node h kids r, g => by
    have h1 := sum_tl kids g.node.1.kids
    have h2 := sum_tl r g.node.2
    have h3 := own_good g.node.1 (kidsW kids)
    simp only [kidsW, sumW, Tm.nodes]
    omega
theorem own_bound {h : Hd} {kids : Tm} (g : Good h kids) (hc : Tm.nd h kids ≤ 8192) : tl (own h kids) ≤ 3000000 := by
  have h1 := sum_tl kids g.kids
  have h3 := own_good g (kidsW kids)
  have e : Tm.nd h kids = 1 + Tm.tyN h + Tm.nodes kids := rfl
  unfold own
  omega
theorem stand_bound {h : Hd} {kids : Tm} (g : Good h kids) (hc : Tm.nd h kids ≤ 8192) (k : Int) : tl (stand k h kids) ≤ 100000000 := by
  have h1 := own_bound g hc
  have h2 := atW_tl k (st h, own h kids)
  unfold stand
  simp only at h2
  omega
theorem bad_any : ∀ f : Tm, badF f = Tm.anyF badT f
  | .nil => rfl
  | .node h kids r => by simp only [badF, Tm.anyF]; rw [bad_any r]; rfl
end Sh
end Go.Proofs.YtdeomggkhbdkaaaGreatDoor
