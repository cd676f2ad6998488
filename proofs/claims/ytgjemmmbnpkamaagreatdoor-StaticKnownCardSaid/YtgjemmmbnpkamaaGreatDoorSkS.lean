import Derived.Test.YtgjemmmbnpkamaaGreatDoorM20
import Derived.Test.YtgjemmmbnpkamaaGreatDoorM26
namespace Go.Proofs.YtgjemmmbnpkamaaGreatDoor
namespace Sh
open Rd Tt
def sx1 : ByteArray := ⟨#[92, 120, 58, 105, 110, 116, 46, 120]⟩
def sx2 : ByteArray := ⟨#[92, 120, 58, 63, 46, 120]⟩
theorem jv {l : List W4} {i : Nat} {k : Int} {t : List UInt8} (h : sees l i k t = true) : ∃ x, l[i]? = some x ∧ x.kind = k ∧ x.text.toList = t := by
  unfold sees at h
  split at h
  · rename_i x hx
    simp only [Bool.and_eq_true, beq_iff_eq] at h
    exact ⟨x, hx, h.1, h.2⟩
  · cases h
theorem kz {x : ByteArray} (h : x.toList = [120]) : x = ⟨#[120]⟩ := by
  rw [Lib.toList_data] at h
  apply ByteArray.ext
  apply Array.ext'
  exact h
theorem zFZ {l : List W4} {k : Int} (s0 : sees l 0 4 [92] = true) {x1 x5 : W4} (h1 : l[1]? = some x1) (k1 : x1.kind = 1) (s2 : sees l 2 4 [58] = true) (ht : atK l 3 = some k) (hb : sees l 3 4 [40] = false) (ho : opK l 4 = 0) (s4 : sees l 4 4 [46] = true)
    (hc : Ty.chk k .nil = 0) (hf5 : formT l 5 = none) (hO5 : formO l 5 = (0, [.nm], 5, 5)) (h5 : l[5]? = some x5) (k5 : x5.kind = 1) (hop : opr l 6 = none) :
    T l (.term 0) (.ok [.tm { hd0 4 (posAt l 0) with name := x1.text, tk := k, tkids := .nil } (.node { hd0 0 (posAt l 5) with name := x5.text } .nil .nil)] 6) := by
  have P5 : T l (.opnd 5) (.ok [.tm (mk 0 (posAt l 5) [.nm x5.text]).1 (mk 0 (posAt l 5) [.nm x5.text]).2] 6) := by
    have q := T.opnd (l := l) (i := 5) (r := .ok [.nm x5.text] 6) (by rw [hO5]; exact T.nm h5 k5 .nil)
    rw [hO5] at q
    exact q
  have PP := T.part (q := 0) P5 (.stop fun k s lf its h => by rw [hop] at h; cases h)
  have TT := T.term hf5 PP
  have O : Out l 3 k .nil 4 0 0 ⟨#[]⟩ := .inl ⟨.whGo (.word ht hb) (.stop (.inl ho)), hc, rfl, rfl, rfl⟩
  have F0 : formT l 0 = some (4, [.nm, sg 58, .ty, sg 46, .tm]) := by unfold formT; rw [if_pos s0]
  exact T.opn F0 (T.nm h1 k1 (T.word s2 (T.ty O (T.word s4 (T.tm TT .nil)))))
def lg (k : Int) : Hd := { hd0 4 0 with name := ⟨#[120]⟩, tk := k, tkids := .nil }
def lu (p : Int) : Tm := .node { hd0 0 p with name := ⟨#[120]⟩ } .nil .nil
theorem zEU : TxOut sx1 (.ok (lg 1) (lu 7)) := by
  obtain ⟨x1, h1, k1, t1⟩ := jv (l := wl sx1) (i := 1) (k := 1) (t := [120]) (by decide +kernel)
  obtain ⟨x5, h5, k5, t5⟩ := jv (l := wl sx1) (i := 5) (k := 1) (t := [120]) (by decide +kernel)
  obtain ⟨x6, h6, k6, -⟩ := jv (l := wl sx1) (i := 6) (k := 0) (t := []) (by decide +kernel)
  have q := zFZ (l := wl sx1) (k := 1) (by decide +kernel) h1 k1 (by decide +kernel) (by decide +kernel) (by decide +kernel) (by decide +kernel) (by decide +kernel) (by decide +kernel)
    (by unfold formT; rw [if_neg (by decide +kernel), if_neg (by decide +kernel), if_neg (by decide +kernel), if_neg (by decide +kernel), if_neg (by decide +kernel)])
    (by unfold formO; rw [if_neg (by decide +kernel), if_neg (by decide +kernel), if_neg (by decide +kernel), if_neg (by decide +kernel), if_neg (by decide +kernel), if_neg (by decide +kernel), if_neg (by decide +kernel), if_neg (by decide +kernel), if_neg (by decide +kernel), if_pos (by decide +kernel)])
    h5 k5 (by unfold opr; rw [if_neg (by decide +kernel), if_neg (by decide +kernel), if_neg (by decide +kernel), if_neg (by decide +kernel), if_neg (by decide +kernel), if_neg (by decide +kernel), if_neg (by decide +kernel), if_neg (by decide +kernel)])
  rw [kz t1, kz t5, show posAt (wl sx1) 0 = 0 from by decide +kernel, show posAt (wl sx1) 5 = 7 from by decide +kernel] at q
  exact .read (by decide) (by decide +kernel) q (.good (by decide +kernel) h6 k6)
theorem zET : TxOut sx2 (.ok (lg 0) (lu 5)) := by
  obtain ⟨x1, h1, k1, t1⟩ := jv (l := wl sx2) (i := 1) (k := 1) (t := [120]) (by decide +kernel)
  obtain ⟨x5, h5, k5, t5⟩ := jv (l := wl sx2) (i := 5) (k := 1) (t := [120]) (by decide +kernel)
  obtain ⟨x6, h6, k6, -⟩ := jv (l := wl sx2) (i := 6) (k := 0) (t := []) (by decide +kernel)
  have q := zFZ (l := wl sx2) (k := 0) (by decide +kernel) h1 k1 (by decide +kernel) (by decide +kernel) (by decide +kernel) (by decide +kernel) (by decide +kernel) (by decide +kernel)
    (by unfold formT; rw [if_neg (by decide +kernel), if_neg (by decide +kernel), if_neg (by decide +kernel), if_neg (by decide +kernel), if_neg (by decide +kernel)])
    (by unfold formO; rw [if_neg (by decide +kernel), if_neg (by decide +kernel), if_neg (by decide +kernel), if_neg (by decide +kernel), if_neg (by decide +kernel), if_neg (by decide +kernel), if_neg (by decide +kernel), if_neg (by decide +kernel), if_neg (by decide +kernel), if_pos (by decide +kernel)])
    h5 k5 (by unfold opr; rw [if_neg (by decide +kernel), if_neg (by decide +kernel), if_neg (by decide +kernel), if_neg (by decide +kernel), if_neg (by decide +kernel), if_neg (by decide +kernel), if_neg (by decide +kernel), if_neg (by decide +kernel)])
  rw [kz t1, kz t5, show posAt (wl sx2) 0 = 0 from by decide +kernel, show posAt (wl sx2) 5 = 5 from by decide +kernel] at q
  exact .read (by decide) (by decide +kernel) q (.good (by decide +kernel) h6 k6)
theorem zDM : ∃ g u a, TxOut sx1 (.ok g u) ∧ St.ref g u = none ∧ Cg.tellR St.ops (St.ref g u) g u = .ok a ∧ a.1 = 3 := by
  have hr : St.ref (lg 1) (lu 7) = none := by decide +kernel
  have ht : Cg.tellR St.ops none (lg 1) (lu 7) = .ok (Ck.mk2 3 (1, .nil) (1, .nil)) := by kernel_rfl
  refine ⟨lg 1, lu 7, Ck.mk2 3 (1, .nil) (1, .nil), zEU, hr, ?_, rfl⟩
  rw [hr]
  exact ht
theorem zDL : ∃ g u, TxOut sx2 (.ok g u) ∧ St.ref g u = some (110, 0) := ⟨lg 0, lu 5, zET, by decide +kernel⟩
end Sh
end Go.Proofs.YtgjemmmbnpkamaaGreatDoor
