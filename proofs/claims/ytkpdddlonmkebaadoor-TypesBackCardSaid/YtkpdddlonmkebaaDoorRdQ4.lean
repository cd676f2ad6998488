/-
  The document's Read.
-/
import Derived.Test.YtkpdddlonmkebaaDoorRdQ3
import Derived.Test.YtkpdddlonmkebaaDoorRd8
import Derived.Test.YtkpdddlonmkebaaDoorRefRight
namespace Go.Proofs.YtkpdddlonmkebaaDoor
open Go.RowKit Rd

set_option maxHeartbeats 4000000 in
set_option maxRecDepth 100000 in
theorem qnew_any (A : Option Addr) (n c : Nat) (at_ : Int) (w : World) (hn : (n : Int) ≤ 9223372036854775807) :
    Calls Tryd.prog 21 #[.slice A n c, .int .i64 at_] w fun e w' => e = .returned (.pointer (some ⟨w.heap.size, 0, none⟩)) ∧ w' = w.alloc (.cells #[.slice A n c, .int .i64 (placed n at_), .int .i64 0, .int .i64 0, .string ⟨#[]⟩] 63) := by
  have h1 : max 0 (min at_ (n : Int)) = ((placed n at_ : Nat) : Int) := by rw [placed_eq]; omega
  rw [← h1]
  clear h1
  go_enter Tryd.func21, Tryd.ntmps21
  go_wp2_with fail
  go_ret
  exact ⟨rfl, rfl⟩

theorem cell_drew (w : World) (p : Addr) : w.drew.cell? p = w.cell? p := rfl
theorem five_below {a w : World} {P Q : Nat} (h : Below a.heap.size a w) (hP : a.heap.size ≤ P) (hQ : a.heap.size ≤ Q) (u0 u1 v0 v1 v2 : Value) :
    Below a.heap.size a (((((w.setCell ⟨P, 0, none⟩ u0).setCell ⟨P, 1, none⟩ u1).setCell ⟨Q, 0, none⟩ v0).setCell ⟨Q, 1, none⟩ v1).setCell ⟨Q, 2, none⟩ v2).drew := by
  have h1 := h.setCell (p := ⟨P, 0, none⟩) hP u0
  have h2 := h1.setCell (p := ⟨P, 1, none⟩) hP u1
  have h3 := h2.setCell (p := ⟨Q, 0, none⟩) hQ v0
  have h4 := h3.setCell (p := ⟨Q, 1, none⟩) hQ v1
  have h5 := h4.setCell (p := ⟨Q, 2, none⟩) hQ v2
  exact h5.drew
theorem far_five {n0 : Nat} {w : World} {P Q : Nat} {k : Int} {kids : Fo} {G : Option Addr} {m c : Nat} (h : Far n0 w k kids G m c) (hP : P < n0) (hQ : Q < n0) {u0 u1 v0 v1 v2 : Value} :
    Far n0 (((((w.setCell ⟨P, 0, none⟩ u0).setCell ⟨P, 1, none⟩ u1).setCell ⟨Q, 0, none⟩ v0).setCell ⟨Q, 1, none⟩ v1).setCell ⟨Q, 2, none⟩ v2).drew k kids G m c :=
  h.keep fun b o v hb hc => by
    rw [cell_drew, World.cell?_setCell_other _ _ _ _ (fun e => by injection e with e1 e2; omega), World.cell?_setCell_other _ _ _ _ (fun e => by injection e with e1 e2; omega), World.cell?_setCell_other _ _ _ _ (fun e => by injection e with e1 e2; omega), World.cell?_setCell_other _ _ _ _ (fun e => by injection e with e1 e2; omega), World.cell?_setCell_other _ _ _ _ (fun e => by injection e with e1 e2; omega)]; exact hc

/-- what the document's Read leaves -/
def QReadPost (l : List W4) (i : Nat) (w : World) (e : Ending) (w' : World) : Prop :=
  (∃ k kids j, R l (.wh 1 i) (.ok k kids j) ∧ Ty.chk k kids = 0 ∧ ∃ G m c, e = .returned (.tuple #[.agg #[.int .i8 k, .slice G m c], .int .i64 j, .agg #[.int .i64 0, .int .i64 0, .string ⟨#[]⟩]]) ∧ Far w.heap.size w' k kids G m c ∧ Below w.heap.size w w') ∨
  (∃ k kids j, R l (.wh 1 i) (.ok k kids j) ∧ Ty.chk k kids ≠ 0 ∧ e = .returned (.tuple #[.agg #[.int .i8 0, .slice none 0 0], .int .i64 0, .agg #[.int .i64 (Ty.chk k kids), .int .i64 (fAt l i), .string ⟨#[]⟩]]) ∧ Below w.heap.size w w') ∨
  (∃ q, R l (.wh 1 i) (.bad q) ∧ e = .returned (.tuple #[.agg #[.int .i8 0, .slice none 0 0], .int .i64 0, .agg #[.int .i64 40, .int .i64 (fAt l q), .string (fWord l q)]]) ∧ Below w.heap.size w w')

set_option maxHeartbeats 8000000 in
set_option maxRecDepth 100000 in
theorem qread_any (l : List W4) (A : Option Addr) (c : Nat) (at_ : Int) (w : World) (hW : WRow w A l) (hl : l.length < maxLen) :
    Calls Tryd.prog 7 #[.slice A l.length c, .int .i64 at_] w (QReadPost l (placed l.length at_) w) := by
  have i5 : (l.length : Int) ≤ 9223372036854775807 := by unfold maxLen at hl; omega
  obtain ⟨i, hi⟩ : ∃ i, i = placed l.length at_ := ⟨_, rfl⟩
  have hil := placed_le l.length at_
  rw [← hi] at hil ⊢
  obtain ⟨hP1, hQ1, hs1⟩ := two_new w (.cells #[.int .i8 0, .slice none 0 0] 29) (.cells #[.int .i64 0, .int .i64 0, .string ⟨#[]⟩] 36)
  have hb1 := ((Below.refl w.heap.size w).alloc (Nat.le_refl _) (.cells #[.int .i8 0, .slice none 0 0] 29)).alloc (by simp) (.cells #[.int .i64 0, .int .i64 0, .string ⟨#[]⟩] 36)
  have CN := Lib.hid (fun W => qnew_any A l.length c at_ W i5)
  rw [← hi] at CN
  have HP1 := Lib.hid hP1
  have HQ1 := Lib.hid hQ1
  have HS1 := Lib.hid hs1
  have HB1 := Lib.hid hb1
  have HW0 := Lib.hid hW
  have HL := Lib.hid hl
  clear hi hP1 hQ1 hs1 hb1 hW hl
  generalize hw1 : (w.alloc (.cells #[.int .i8 0, .slice none 0 0] 29)).alloc (.cells #[.int .i64 0, .int .i64 0, .string ⟨#[]⟩] 36) = w1 at *
  have HW1 := Lib.hid hw1
  clear hw1
  go_enter Tryd.func7, Tryd.ntmps7
  go_wp2_with fail
  rw [HW1.out]
  refine (CN.out w1).mono ?_
  rintro e w2 ⟨rfl, hw2⟩
  have hr2 : w2.heap[w1.heap.size]? = some (.cells #[.slice A l.length c, .int .i64 i, .int .i64 0, .int .i64 0, .string ⟨#[]⟩] 63) := by rw [hw2]; exact heap_new w1 _
  have hb2 : Below w1.heap.size w1 w2 := by rw [hw2]; exact (Below.refl _ _).alloc (Nat.le_refl _) _
  clear hw2
  have hs1 := HS1.out
  have HB2 := Lib.hid (HB1.out.trans (hb2.mono HB1.out.size))
  have HP2 := Lib.hid (heap_below hb2 (heap_lt HP1.out) HP1.out)
  have HQ2 := Lib.hid (heap_below hb2 (heap_lt HQ1.out) HQ1.out)
  have HS2 := Lib.hid (show QdS l A c w1.heap.size w2 i 0 0 ⟨#[]⟩ from ⟨hr2, HW0.out.below HB2.out, fun g o e hn => by have := HW0.out.lt g o e hn; omega, hil, HL.out⟩)
  clear hb2 hr2 HP1 HQ1 HW1 CN
  generalize hrb : w1.heap.size = rb at *
  have hrw : w.heap.size + 1 < rb := by omega
  have hz2 : rb < w2.heap.size := heap_lt HS2.out.rdr
  clear hrb hs1 HS1 HB1
  obtain ⟨r0, r1, r2, -, -, -, -, -, -, hrl⟩ := own5 HS2.out.rdr
  go_wp2_with fail
  clear r0 r1 r2 hrl
  refine (qtype_any l A c rb i w2 HS2.out).mono ?_
  rintro e w3 (⟨k, kids, j, hRk, G, m, cg, rfl, hF, hR, hg⟩ | ⟨q, hRq, i', hi', k, G, m, cg, rfl, hR, hg⟩)
  all_goals
    have hbx : Below w3.heap.size w3 (w3.alloc (.cells #[.int .i8 k, .slice G m cg] 29)) := (Below.refl _ _).alloc (Nat.le_refl _) _
    have hu := hg.size
    have HY4 := Lib.hid (heap_new w3 (.cells #[.int .i8 k, .slice G m cg] 29))
    have HP4 := Lib.hid (heap_old (heap_grown hg (show w.heap.size ≠ rb by omega) HP2.out) (.cells #[.int .i8 k, .slice G m cg] 29))
    have HQ4 := Lib.hid (heap_old (heap_grown hg (show w.heap.size + 1 ≠ rb by omega) HQ2.out) (.cells #[.int .i8 k, .slice G m cg] 29))
    have HB4 := Lib.hid ((HB2.out.grown hg (by omega) (fun k hk => by injection hk with hk; omega)).alloc (by have := HB2.out.size; omega) (.cells #[.int .i8 k, .slice G m cg] 29))
    have HR4 := Lib.hid (heap_old hR (.cells #[.int .i8 k, .slice G m cg] 29))
    clear HP2 HQ2 HB2
  · have HIS := Lib.hid (hF.below hbx)
    have HJ := Lib.hid (show i + 1 ≤ j ∧ j ≤ l.length from hRk.goes (show i ≤ l.length from hil))
    have HRK := Lib.hid hRk
    clear hbx hF hR hg hRk
    obtain ⟨r0, r1, r2, -, -, -, -, -, -, hrl⟩ := own5 HR4.out
    obtain ⟨y0, y1, -, -, yl⟩ := own2 HY4.out
    go_wp2_with fail
    have hYg : rb < w3.heap.size := by omega
    clear hu
    generalize w3.alloc (.cells #[.int .i8 k, .slice G m cg] 29) = w4 at *
    generalize w3.heap.size = Y at *
    clear r0 r1 r2 hrl y0 y1 yl
    refine (ref_check k kids G m cg _ HIS.out.is).mono ?_
    rintro e w5 ⟨rfl, hb⟩
    have HIS5 := Lib.hid (HIS.out.below hb)
    have HB5 := Lib.hid (HB4.out.trans (hb.mono HB4.out.size))
    have HW5 := Lib.hid (HW0.out.below HB5.out)
    have hp5 := heap_below hb (heap_lt HP4.out) HP4.out
    have hq5 := heap_below hb (heap_lt HQ4.out) HQ4.out
    have hr5 := heap_below hb (heap_lt HR4.out) HR4.out
    have hy5 := heap_below hb (heap_lt HY4.out) HY4.out
    have HPP := Lib.hid hp5
    obtain ⟨p0, p1, pf0, pf1, pl⟩ := own2 hp5
    obtain ⟨q0, q1, q2, qf0, qf1, qf2, ql⟩ := own3' hq5
    obtain ⟨r0, r1, r2, -, -, -, -, -, -, hrl⟩ := own5 hr5
    obtain ⟨y0, y1, -, -, yl⟩ := own2 hy5
    clear hb hp5 hq5 hr5 hy5 HP4 HQ4 HR4 HY4 HIS HB4
    by_cases h0 : Ty.chk k kids = 0
    · have hc : (((Ty.chk k kids : Nat) : Int) != 0) = false := by rw [h0]; rfl
      rw [h0]
      have H0 := Lib.hid h0
      clear hc h0
      go_wp2_with fail
      go_region
      go_wp2_with fail
      refine bodyPost_ret (v := .tuple #[.agg #[.int .i8 k, .slice G m cg], .int .i64 j, .agg #[.int .i64 0, .int .i64 0, .string ⟨#[]⟩]]) (by simp [results, Tryd.results7, go_sem, *]) rfl ?_
      refine .inl ⟨k, kids, j, HRK.out, H0.out, G, m, cg, rfl, ?_, ?_⟩
      · exact (far_five HIS5.out (by omega) (by omega)).low (by omega)
      · exact five_below HB5.out (Nat.le_refl _) (Nat.le_succ _) _ _ _ _ _
    · have hc : (((Ty.chk k kids : Nat) : Int) != 0) = true := by simp; omega
      have H0 := Lib.hid h0
      obtain ⟨C, hC⟩ : ∃ C, C = Ty.chk k kids := ⟨_, rfl⟩
      rw [← hC] at hc ⊢
      have HC := Lib.hid hC
      have hij := HJ.out
      obtain ⟨x, hx⟩ : ∃ x, l[i]? = some x := ⟨l[i]'(by omega), List.getElem?_eq_getElem _⟩
      obtain ⟨b, o, hA, h0, h1, h2, h3⟩ := HW5.out i x hx
      have j2 : (0 : Int) ≤ i ∧ (i : Int) < l.length := by omega
      have hfa : fAt l i = x.pos := by unfold fAt; rw [hx]
      have HX := Lib.hid hfa
      clear hC hij hx hfa
      obtain rfl := hA
      go_wp2_with fail
      go_region
      go_wp2_with fail
      refine bodyPost_ret (v := .tuple #[.agg #[.int .i8 0, .slice none 0 0], .int .i64 0, .agg #[.int .i64 C, .int .i64 x.pos, .string ⟨#[]⟩]]) (by simp [results, Tryd.results7, go_sem, *]) rfl ?_
      refine .inr (.inl ⟨k, kids, j, HRK.out, H0.out, by rw [HX.out, ← HC.out], ?_⟩)
      exact five_below HB5.out (Nat.le_refl _) (Nat.le_succ _) _ _ _ _ _
  · have HRQ := Lib.hid hRq
    clear hbx hR hg hRq
    obtain ⟨r0, r1, r2, r3, r4, -, -, -, -, hrl⟩ := own5 HR4.out
    obtain ⟨p0, p1, pf0, pf1, pl⟩ := own2 HP4.out
    obtain ⟨q0, q1, q2, qf0, qf1, qf2, ql⟩ := own3' HQ4.out
    obtain ⟨FA, hFA⟩ : ∃ x, x = fAt l q := ⟨_, rfl⟩
    obtain ⟨FW, hFW⟩ : ∃ x, x = fWord l q := ⟨_, rfl⟩
    rw [← hFA] at r3
    rw [← hFW] at r4
    have HFA := Lib.hid hFA
    have HFW := Lib.hid hFW
    clear hFA hFW HR4
    go_wp2_with fail
    go_region
    go_wp2_with fail
    refine bodyPost_ret (v := .tuple #[.agg #[.int .i8 0, .slice none 0 0], .int .i64 0, .agg #[.int .i64 40, .int .i64 FA, .string FW]]) (by simp [results, Tryd.results7, go_sem, *]) rfl ?_
    exact .inr (.inr ⟨q, HRQ.out, by rw [HFA.out, HFW.out], five_below HB4.out (Nat.le_refl _) (Nat.le_succ _) _ _ _ _ _⟩)

namespace Rd
/-- what reading at the i-th word answers: the type (k, kids), the place N behind it, the fault E, a, t -/
def Out (l : List W4) (i : Nat) (k : Int) (kids : Fo) (N : Nat) (E a : Int) (t : ByteArray) : Prop :=
  (R l (.wh 1 i) (.ok k kids N) ∧ Ty.chk k kids = 0 ∧ E = 0 ∧ a = 0 ∧ t = ⟨#[]⟩) ∨
  (∃ k' kids' j, R l (.wh 1 i) (.ok k' kids' j) ∧ Ty.chk k' kids' ≠ 0 ∧ k = 0 ∧ kids = .nil ∧ N = 0 ∧ E = Ty.chk k' kids' ∧ a = fAt l i ∧ t = ⟨#[]⟩) ∨
  (∃ q, R l (.wh 1 i) (.bad q) ∧ k = 0 ∧ kids = .nil ∧ N = 0 ∧ E = 40 ∧ a = fAt l q ∧ t = fWord l q)
theorem Out.det {l : List W4} {i : Nat} {k k' : Int} {kids kids' : Fo} {N N' : Nat} {E E' a a' : Int} {t t' : ByteArray} (h : Out l i k kids N E a t) (h' : Out l i k' kids' N' E' a' t') : k' = k ∧ kids' = kids ∧ N' = N ∧ E' = E ∧ a' = a ∧ t' = t := by
  rcases h with ⟨h1, h2, rfl, rfl, rfl⟩ | ⟨k1, f1, j1, h1, h2, rfl, rfl, rfl, rfl, rfl, rfl⟩ | ⟨q, h1, rfl, rfl, rfl, rfl, rfl, rfl⟩ <;>
    rcases h' with ⟨g1, g2, rfl, rfl, rfl⟩ | ⟨k2, f2, j2, g1, g2, rfl, rfl, rfl, rfl, rfl, rfl⟩ | ⟨p, g1, rfl, rfl, rfl, rfl, rfl, rfl⟩
  · injection g1.det h1 with e1 e2 e3; exact ⟨e1, e2, e3, rfl, rfl, rfl⟩
  · injection g1.det h1 with e1 e2 e3; subst e1; subst e2; exact absurd h2 g2
  · cases g1.det h1
  · injection g1.det h1 with e1 e2 e3; subst e1; subst e2; exact absurd g2 h2
  · injection g1.det h1 with e1 e2 e3; subst e1; subst e2; exact ⟨rfl, rfl, rfl, rfl, rfl, rfl⟩
  · cases g1.det h1
  · cases g1.det h1
  · cases g1.det h1
  · injection g1.det h1 with e1; subst e1; exact ⟨rfl, rfl, rfl, rfl, rfl, rfl⟩
end Rd
/-- an error tells that fault; nil: none -/
def Tells (w : World) (err : Value) (E a : Int) (t : ByteArray) : Prop :=
  (err = .nilIface ∧ E = 0 ∧ a = 0 ∧ t = ⟨#[]⟩) ∨ (∃ g, err = .iface 53 (.pointer (some ⟨g, 0, none⟩)) ∧ IsFault w g E a t ∧ (E != 0) = true)
theorem Tells.below {w w' : World} {err : Value} {E a : Int} {t : ByteArray} (h : Tells w err E a t) (hb : Below w.heap.size w w') : Tells w' err E a t := by
  rcases h with h | ⟨g, h1, h2, h3⟩
  · exact .inl h
  · exact .inr ⟨g, h1, heap_below hb (heap_lt h2) h2, h3⟩
theorem read_all (l : List W4) (A : Option Addr) (c : Nat) (at_ : Int) (w : World) (hW : WRow w A l) (hS : Shapes w) (hl : l.length < maxLen) (hsm : ∀ x ∈ l, x.text.size ≤ 281474976710656) :
    Calls Tryd.prog 6 #[.slice A l.length c, .int .i64 at_] w fun e w' => ∃ k kids N E a t G m cg err, Out l (placed l.length at_) k kids N E a t ∧ e = .returned (.tuple #[.agg #[.int .i8 k, .slice G m cg], .int .i64 N, err]) ∧ Far w.heap.size w' k kids G m cg ∧ Tells w' err E a t ∧ Below w.heap.size w w' := by
  refine (read_any l A c at_ w hW hS hl hsm).mono ?_
  rintro e w' (⟨k, kids, j, hR, hc, G, m, cg, he, hF, hb⟩ | ⟨k, kids, j, hR, hc, g, he, hI, hg, hb⟩ | ⟨q, hR, g, he, hI, hg, hb⟩)
  · exact ⟨k, kids, j, 0, 0, ⟨#[]⟩, G, m, cg, .nilIface, .inl ⟨hR, hc, rfl, rfl, rfl⟩, he, hF, .inl ⟨rfl, rfl, rfl, rfl⟩, hb⟩
  · exact ⟨0, .nil, 0, Ty.chk k kids, _, ⟨#[]⟩, none, 0, 0, _, .inr (.inl ⟨k, kids, j, hR, hc, rfl, rfl, rfl, rfl, rfl, rfl⟩), he, far_nil _ _ 0 (by decide) (by decide), .inr ⟨g, rfl, hI, by simp; omega⟩, hb⟩
  · exact ⟨0, .nil, 0, 40, _, _, none, 0, 0, _, .inr (.inr ⟨q, hR, rfl, rfl, rfl, rfl, rfl, rfl⟩), he, far_nil _ _ 0 (by decide) (by decide), .inr ⟨g, rfl, hI, by decide⟩, hb⟩
theorem qread_all (l : List W4) (A : Option Addr) (c : Nat) (at_ : Int) (w : World) (hW : WRow w A l) (hl : l.length < maxLen) {k : Int} {kids : Fo} {N : Nat} {E a : Int} {t : ByteArray} (hO : Out l (placed l.length at_) k kids N E a t) :
    Calls Tryd.prog 7 #[.slice A l.length c, .int .i64 at_] w fun e w' => ∃ G m cg, e = .returned (.tuple #[.agg #[.int .i8 k, .slice G m cg], .int .i64 N, .agg #[.int .i64 E, .int .i64 a, .string t]]) ∧ Far w.heap.size w' k kids G m cg ∧ Below w.heap.size w w' := by
  refine (qread_any l A c at_ w hW hl).mono ?_
  rintro e w' (⟨k2, kids2, j, hR, hc, G, m, cg, he, hF, hb⟩ | ⟨k2, kids2, j, hR, hc, he, hb⟩ | ⟨q, hR, he, hb⟩)
  · obtain ⟨rfl, rfl, rfl, rfl, rfl, rfl⟩ := hO.det (.inl ⟨hR, hc, rfl, rfl, rfl⟩)
    exact ⟨G, m, cg, he, hF, hb⟩
  · obtain ⟨rfl, rfl, rfl, rfl, rfl, rfl⟩ := hO.det (.inr (.inl ⟨k2, kids2, j, hR, hc, rfl, rfl, rfl, rfl, rfl, rfl⟩))
    exact ⟨none, 0, 0, he, far_nil _ _ 0 (by decide) (by decide), hb⟩
  · obtain ⟨rfl, rfl, rfl, rfl, rfl, rfl⟩ := hO.det (.inr (.inr ⟨q, hR, rfl, rfl, rfl, rfl, rfl, rfl⟩))
    exact ⟨none, 0, 0, he, far_nil _ _ 0 (by decide) (by decide), hb⟩
end Go.Proofs.YtkpdddlonmkebaaDoor
