/-
  The document's words of a right term.
-/
import Derived.Test.YtdeomggkhbdkaaaGreatDoorShR4
import Derived.Test.YtdeomggkhbdkaaaGreatDoorM20
import Derived.Test.YtdeomggkhbdkaaaGreatDoorM19
namespace Go.Proofs.YtdeomggkhbdkaaaGreatDoor
open Go.RowKit

namespace Sh
attribute [local simp] jn_cons jn_app jn_one stand_ne
theorem eq_0 (h : Hd) (hq : h.kind = 0) : (h.name : ByteArray) = jn (own h .nil) := by
  unfold own ownW
  rw [hq]
  simp only [if_true]
  simp
  all_goals (apply ByteArray.ext; apply Array.ext'; simp)
theorem eq_1 (h : Hd) (hq : h.kind = 1) : (if h.num < 0 then ⟨#[45, 32]⟩ ++ ⟨(Lib.decDigits (-h.num).toNat).toArray⟩ else ⟨(Lib.decDigits h.num.toNat).toArray⟩ : ByteArray) = jn (own h .nil) := by
  unfold own ownW numW
  rw [hq]
  simp only [show ¬((1 : Int) = 0) by decide, if_false, if_true]
  split
  · rename_i hm
    rw [jn_cons (by simp), jn_one, show h.num.natAbs = (-h.num).toNat by omega]
    apply ByteArray.ext; apply Array.ext'; simp
  · rw [jn_one]
theorem eq_2 (h : Hd) (hq : h.kind = 2) : (⟨#[116, 114, 117, 101]⟩ : ByteArray) = jn (own h .nil) := by
  unfold own ownW
  rw [hq]
  simp only [Int.reduceEq, if_false, if_true]
  simp
  all_goals (apply ByteArray.ext; apply Array.ext'; simp)
theorem eq_3 (h : Hd) (hq : h.kind = 3) : (⟨#[102, 97, 108, 115, 101]⟩ : ByteArray) = jn (own h .nil) := by
  unfold own ownW
  rw [hq]
  simp only [Int.reduceEq, if_false, if_true]
  simp
  all_goals (apply ByteArray.ext; apply Array.ext'; simp)
theorem eq_4 (h : Hd) (h1 : Hd) (k1 : Tm) (hq : h.kind = 4) : (⟨#[92, 32]⟩ ++ h.name ++ ⟨#[32, 58, 32]⟩ ++ ⟨(tyW h.tk h.tkids).toArray⟩ ++ ⟨#[32, 46, 32]⟩ ++ jn (stand (-1) h1 k1) : ByteArray) = jn (own h (.node h1 k1 .nil)) := by
  unfold own ownW
  rw [hq]
  simp only [Int.reduceEq, if_false, if_true, kidsW, kid, List.getD_cons_zero]
  simp only [show ∀ k : Int, atW k (st h1, ownW h1 (kidsW k1)) = stand k h1 k1 from fun _ => rfl]
  simp
  all_goals (apply ByteArray.ext; apply Array.ext'; simp)
theorem eq_5 (h : Hd) (h1 : Hd) (k1 : Tm) (hq : h.kind = 5) : (⟨#[114, 101, 99, 32]⟩ ++ h.name ++ ⟨#[32, 40, 32]⟩ ++ h.arg ++ ⟨#[32, 58, 32]⟩ ++ ⟨(tyW h.tk h.tkids).toArray⟩ ++ ⟨#[32, 41, 32, 58, 32]⟩ ++ ⟨(tyW h.uk h.ukids).toArray⟩ ++ ⟨#[32, 46, 32]⟩ ++ jn (stand (-1) h1 k1) : ByteArray) = jn (own h (.node h1 k1 .nil)) := by
  unfold own ownW
  rw [hq]
  simp only [Int.reduceEq, if_false, if_true, kidsW, kid, List.getD_cons_zero]
  simp only [show ∀ k : Int, atW k (st h1, ownW h1 (kidsW k1)) = stand k h1 k1 from fun _ => rfl]
  simp
  all_goals (apply ByteArray.ext; apply Array.ext'; simp)
theorem eq_6 (h : Hd) (h1 : Hd) (k1 : Tm) (h2 : Hd) (k2 : Tm) (hq : h.kind = 6) : (jn (stand 5 h1 k1) ++ ⟨#[32, 40, 32]⟩ ++ jn (stand (-1) h2 k2) ++ ⟨#[32, 41]⟩ : ByteArray) = jn (own h (.node h1 k1 (.node h2 k2 .nil))) := by
  unfold own ownW
  rw [hq]
  simp only [Int.reduceEq, if_false, if_true, kidsW, kid, List.getD_cons_zero, List.getD_cons_succ]
  simp only [show ∀ k : Int, atW k (st h1, ownW h1 (kidsW k1)) = stand k h1 k1 from fun _ => rfl]
  simp only [show ∀ k : Int, atW k (st h2, ownW h2 (kidsW k2)) = stand k h2 k2 from fun _ => rfl]
  simp
  all_goals (apply ByteArray.ext; apply Array.ext'; simp)
theorem eq_7 (h : Hd) (h1 : Hd) (k1 : Tm) (h2 : Hd) (k2 : Tm) (hq : h.kind = 7) : (⟨#[108, 101, 116, 32]⟩ ++ h.name ++ ⟨#[32, 58, 32]⟩ ++ ⟨(tyW h.tk h.tkids).toArray⟩ ++ ⟨#[32, 61, 32]⟩ ++ jn (stand (-1) h1 k1) ++ ⟨#[32, 105, 110, 32]⟩ ++ jn (stand (-1) h2 k2) : ByteArray) = jn (own h (.node h1 k1 (.node h2 k2 .nil))) := by
  unfold own ownW
  rw [hq]
  simp only [Int.reduceEq, if_false, if_true, kidsW, kid, List.getD_cons_zero, List.getD_cons_succ]
  simp only [show ∀ k : Int, atW k (st h1, ownW h1 (kidsW k1)) = stand k h1 k1 from fun _ => rfl]
  simp only [show ∀ k : Int, atW k (st h2, ownW h2 (kidsW k2)) = stand k h2 k2 from fun _ => rfl]
  simp
  all_goals (apply ByteArray.ext; apply Array.ext'; simp)
theorem eq_8 (h : Hd) (h1 : Hd) (k1 : Tm) (h2 : Hd) (k2 : Tm) (h3 : Hd) (k3 : Tm) (hq : h.kind = 8) : (⟨#[105, 102, 32]⟩ ++ jn (stand (-1) h1 k1) ++ ⟨#[32, 116, 104, 101, 110, 32]⟩ ++ jn (stand (-1) h2 k2) ++ ⟨#[32, 101, 108, 115, 101, 32]⟩ ++ jn (stand (-1) h3 k3) : ByteArray) = jn (own h (.node h1 k1 (.node h2 k2 (.node h3 k3 .nil)))) := by
  unfold own ownW
  rw [hq]
  simp only [Int.reduceEq, if_false, if_true, kidsW, kid, List.getD_cons_zero, List.getD_cons_succ]
  simp only [show ∀ k : Int, atW k (st h1, ownW h1 (kidsW k1)) = stand k h1 k1 from fun _ => rfl]
  simp only [show ∀ k : Int, atW k (st h2, ownW h2 (kidsW k2)) = stand k h2 k2 from fun _ => rfl]
  simp only [show ∀ k : Int, atW k (st h3, ownW h3 (kidsW k3)) = stand k h3 k3 from fun _ => rfl]
  simp
  all_goals (apply ByteArray.ext; apply Array.ext'; simp)
theorem eq_9 (h : Hd) (h1 : Hd) (k1 : Tm) (h2 : Hd) (k2 : Tm) (hq : h.kind = 9) : (⟨#[91, 32]⟩ ++ jn (stand (-1) h1 k1) ++ ⟨#[32, 44, 32]⟩ ++ jn (stand (-1) h2 k2) ++ ⟨#[32, 93]⟩ : ByteArray) = jn (own h (.node h1 k1 (.node h2 k2 .nil))) := by
  unfold own ownW
  rw [hq]
  simp only [Int.reduceEq, if_false, if_true, kidsW, kid, List.getD_cons_zero, List.getD_cons_succ]
  simp only [show ∀ k : Int, atW k (st h1, ownW h1 (kidsW k1)) = stand k h1 k1 from fun _ => rfl]
  simp only [show ∀ k : Int, atW k (st h2, ownW h2 (kidsW k2)) = stand k h2 k2 from fun _ => rfl]
  simp
  all_goals (apply ByteArray.ext; apply Array.ext'; simp)
theorem eq_10 (h : Hd) (h1 : Hd) (k1 : Tm) (hq : h.kind = 10) : (⟨#[102, 115, 116, 32]⟩ ++ jn (stand 4 h1 k1) : ByteArray) = jn (own h (.node h1 k1 .nil)) := by
  unfold own ownW
  rw [hq]
  simp only [Int.reduceEq, if_false, if_true, kidsW, kid, List.getD_cons_zero]
  simp only [show ∀ k : Int, atW k (st h1, ownW h1 (kidsW k1)) = stand k h1 k1 from fun _ => rfl]
  simp
  all_goals (apply ByteArray.ext; apply Array.ext'; simp)
theorem eq_11 (h : Hd) (h1 : Hd) (k1 : Tm) (hq : h.kind = 11) : (⟨#[115, 110, 100, 32]⟩ ++ jn (stand 4 h1 k1) : ByteArray) = jn (own h (.node h1 k1 .nil)) := by
  unfold own ownW
  rw [hq]
  simp only [Int.reduceEq, if_false, if_true, kidsW, kid, List.getD_cons_zero]
  simp only [show ∀ k : Int, atW k (st h1, ownW h1 (kidsW k1)) = stand k h1 k1 from fun _ => rfl]
  simp
  all_goals (apply ByteArray.ext; apply Array.ext'; simp)
theorem eq_12 (h : Hd) (h1 : Hd) (k1 : Tm) (hq : h.kind = 12) : (⟨#[105, 110, 108, 32, 123, 32]⟩ ++ ⟨(tyW h.tk h.tkids).toArray⟩ ++ ⟨#[32, 125, 32]⟩ ++ jn (stand 4 h1 k1) : ByteArray) = jn (own h (.node h1 k1 .nil)) := by
  unfold own ownW
  rw [hq]
  simp only [Int.reduceEq, if_false, if_true, kidsW, kid, List.getD_cons_zero]
  simp only [show ∀ k : Int, atW k (st h1, ownW h1 (kidsW k1)) = stand k h1 k1 from fun _ => rfl]
  simp
  all_goals (apply ByteArray.ext; apply Array.ext'; simp)
theorem eq_13 (h : Hd) (h1 : Hd) (k1 : Tm) (hq : h.kind = 13) : (⟨#[105, 110, 114, 32, 123, 32]⟩ ++ ⟨(tyW h.tk h.tkids).toArray⟩ ++ ⟨#[32, 125, 32]⟩ ++ jn (stand 4 h1 k1) : ByteArray) = jn (own h (.node h1 k1 .nil)) := by
  unfold own ownW
  rw [hq]
  simp only [Int.reduceEq, if_false, if_true, kidsW, kid, List.getD_cons_zero]
  simp only [show ∀ k : Int, atW k (st h1, ownW h1 (kidsW k1)) = stand k h1 k1 from fun _ => rfl]
  simp
  all_goals (apply ByteArray.ext; apply Array.ext'; simp)
theorem eq_14 (h : Hd) (h1 : Hd) (k1 : Tm) (h2 : Hd) (k2 : Tm) (h3 : Hd) (k3 : Tm) (hq : h.kind = 14) : (⟨#[99, 97, 115, 101, 32]⟩ ++ jn (stand (-1) h1 k1) ++ ⟨#[32, 111, 102, 32]⟩ ++ h.name ++ ⟨#[32, 46, 32]⟩ ++ jn (stand (-1) h2 k2) ++ ⟨#[32, 124, 32]⟩ ++ h.arg ++ ⟨#[32, 46, 32]⟩ ++ jn (stand (-1) h3 k3) : ByteArray) = jn (own h (.node h1 k1 (.node h2 k2 (.node h3 k3 .nil)))) := by
  unfold own ownW
  rw [hq]
  simp only [Int.reduceEq, if_false, if_true, kidsW, kid, List.getD_cons_zero, List.getD_cons_succ]
  simp only [show ∀ k : Int, atW k (st h1, ownW h1 (kidsW k1)) = stand k h1 k1 from fun _ => rfl]
  simp only [show ∀ k : Int, atW k (st h2, ownW h2 (kidsW k2)) = stand k h2 k2 from fun _ => rfl]
  simp only [show ∀ k : Int, atW k (st h3, ownW h3 (kidsW k3)) = stand k h3 k3 from fun _ => rfl]
  simp
  all_goals (apply ByteArray.ext; apply Array.ext'; simp)
theorem eq_15 (h : Hd) (h1 : Hd) (k1 : Tm) (h2 : Hd) (k2 : Tm) (hq : h.kind = 15) : (jn (stand (opS h.name).2.1 h1 k1) ++ ⟨#[32]⟩ ++ h.name ++ ⟨#[32]⟩ ++ jn (stand (opS h.name).2.2 h2 k2) : ByteArray) = jn (own h (.node h1 k1 (.node h2 k2 .nil))) := by
  unfold own ownW
  rw [hq]
  simp only [Int.reduceEq, if_false, if_true, kidsW, kid, List.getD_cons_zero, List.getD_cons_succ]
  simp only [show ∀ k : Int, atW k (st h1, ownW h1 (kidsW k1)) = stand k h1 k1 from fun _ => rfl]
  simp only [show ∀ k : Int, atW k (st h2, ownW h2 (kidsW k2)) = stand k h2 k2 from fun _ => rfl]
  simp
  all_goals (apply ByteArray.ext; apply Array.ext'; simp)
theorem eq_16 (h : Hd) (h1 : Hd) (k1 : Tm) (hq : h.kind = 16) : (jn (stand 0 h1 k1) ++ ⟨#[32, 58, 32]⟩ ++ ⟨(tyW h.tk h.tkids).toArray⟩ : ByteArray) = jn (own h (.node h1 k1 .nil)) := by
  unfold own ownW
  rw [hq]
  simp only [Int.reduceEq, if_false, kidsW, kid, List.getD_cons_zero]
  simp only [show ∀ k : Int, atW k (st h1, ownW h1 (kidsW k1)) = stand k h1 k1 from fun _ => rfl]
  simp
  all_goals (apply ByteArray.ext; apply Array.ext'; simp)
end Sh
theorem RKid.below {w w2 : World} {bb o : Nat} {h : Hd} {p : Pl} {k : Int} {S : ByteArray} (g : RKid w bb o h p k S) (hb : Below w.heap.size w w2) : RKid w2 bb o h p k S :=
  ⟨fun j v hj => by rw [(bcell hb).1 _ _ (Ty.cell_lt (g.cells j v hj))]; exact g.cells j v hj, fun W hW => g.says W (hb.trans (hW.mono hb.size)), g.size⟩
theorem rkid_next {w : World} {p : Pl} {bb oo i : Nat} {h1 : Hd} {k1 r : Tm} (hA : p.A = some ⟨bb, oo, none⟩) (hl : Tm.Lies w (.node h1 k1 r) p.A i) :
    (∃ q, (∀ j v, (h1.cells q)[j]? = some v → w.cell? ⟨bb, oo + i * 11 + j, none⟩ = some v) ∧ Tm.Is w h1 k1 q) ∧ Tm.Lies w r p.A (i + 1) := by
  obtain ⟨b2, o2, q, hA2, hc, hf, hk, hr⟩ := hl
  have e := hA
  rw [hA2] at e
  injection e with e
  injection e with e1 e2
  subst e1; subst e2
  exact ⟨⟨q, hc, hf, hk⟩, hr⟩
theorem rkid_start {w : World} {A : Option Addr} {i : Nat} {h1 : Hd} {k1 r : Tm} (hl : Tm.Lies w (.node h1 k1 r) A i) : ∃ bb oo, A = some ⟨bb, oo, none⟩ := by
  obtain ⟨b2, o2, q, hA2, _⟩ := hl
  exact ⟨b2, o2, hA2⟩
theorem rkid_of {w : World} {bb o : Nat} {h1 : Hd} {k1 : Tm} {q1 : Pl} (hc : ∀ j v, (h1.cells q1)[j]? = some v → w.cell? ⟨bb, o + j, none⟩ = some v) (g : Sh.Good h1 k1) (hnd : Tm.nd h1 k1 ≤ 8192) (RW : RWords w h1 k1 q1) (k : Int) : RKid w bb o h1 q1 k (Sh.jn (Sh.stand k h1 k1)) :=
  ⟨hc, fun W hb => rat_any h1 k1 q1 W g.head.1 (fun W2 hb2 => RW W2 (hb.trans (hb2.mono hb.size))) k (by have h1 := Sh.jn_size (Sh.own h1 k1); have h2 := Sh.own_bound g hnd; omega), by have h1 := Sh.jn_size (Sh.stand k h1 k1); have h2 := Sh.stand_bound g hnd k; omega⟩
theorem rty_of {w : World} {k : Int} {f : Fo} {A : Option Addr} {n c : Nat} (hI : Ty.Is w k f A n c) (hc : Ty.chk k f = 0) : RTy w k A n c ⟨(Sh.tyW k f).toArray⟩ :=
  ⟨fun W hb => rkind_any k f A n c W (hI.below hb) hc, by
    have h1 := Ty.chk_ok hc
    have h2 := Ty.txt_len k f 1
    show (Sh.tyW k f).toArray.size ≤ _
    simp only [List.size_toArray]
    unfold Sh.tyW
    omega⟩
theorem ret_s {a b : ByteArray} (h : a = b) : Ending.returned (.string a) = Ending.returned (.string b) := by rw [h]
theorem name_size {h : Hd} {kids : Tm} (g : Sh.Good h kids) : (Tm.hasName h.kind = true → h.name.size ≤ 100000000) ∧ (Tm.hasArg h.kind = true → h.arg.size ≤ 100000000) := by
  have hnm : Tm.nameOk h = true := by
    have h1 := g.ok
    unfold Tm.okT Tm.headOk at h1
    simp only [Bool.and_eq_true] at h1
    exact h1.1.1.1.2
  refine ⟨fun q => ?_, fun q => ?_⟩
  · unfold Tm.nameOk at hnm
    split at hnm
    · have := Tm.isOp_small hnm
      show h.name.data.toList.length ≤ _
      omega
    · simp only [q, Bool.not_true, Bool.false_or, Bool.and_eq_true] at hnm
      have := Sc.isName_small hnm.1
      show h.name.data.toList.length ≤ _
      omega
  · unfold Tm.nameOk at hnm
    split at hnm
    · rename_i h15
      rw [h15] at q
      exact absurd q (by decide)
    · simp only [q, Bool.not_true, Bool.false_or, Bool.and_eq_true] at hnm
      have := Sc.isName_small hnm.2
      show h.arg.data.toList.length ≤ _
      omega

set_option maxHeartbeats 4000000 in
theorem rwords_any (K : Nat) : ∀ (h : Hd) (kids : Tm) (p : Pl) (w : World), Tm.nodes kids < K → Tm.nd h kids ≤ 8192 → Tm.Is w h kids p → Sh.Good h kids →
    Calls Tryz.prog 27 #[.agg #[.int .i8 h.kind, .string h.name, .string h.arg, .int .i64 h.num, .int .i8 h.tk, .slice p.TA p.tn p.tc, .int .i8 h.uk, .slice p.UA p.un p.uc, .int .i64 h.label, .int .i64 h.pos, .slice p.A p.n p.c]] w fun e w' => e = .returned (.string (Sh.jn (Sh.own h kids))) ∧ Below w.heap.size w w' := by
  induction K with
  | zero => intro _ _ _ _ hK; omega
  | succ K ih =>
    intro h kids p w hK hnd hIs hg
    obtain ⟨hk, hlen, hty, hto, hnum⟩ := hg.head
    obtain ⟨hnm, har⟩ := name_size hg
    have hn := hIs.fit.n_eq
    have hli := hIs.lies
    have hgk := hg.kids
    have hnk : Tm.nodes kids ≤ 8192 := by unfold Tm.nd at hnd; omega
    clear hg hnd
    have hcase : h.kind = 0 ∨ h.kind = 1 ∨ h.kind = 2 ∨ h.kind = 3 ∨ h.kind = 4 ∨ h.kind = 5 ∨ h.kind = 6 ∨ h.kind = 7 ∨ h.kind = 8 ∨ h.kind = 9 ∨ h.kind = 10 ∨ h.kind = 11 ∨ h.kind = 12 ∨ h.kind = 13 ∨ h.kind = 14 ∨ h.kind = 15 ∨ h.kind = 16 := by omega
    rcases hcase with hq | hq | hq | hq | hq | hq | hq | hq | hq | hq | hq | hq | hq | hq | hq | hq | hq
    · have hl0 : Tm.len kids = 0 := by rw [hlen, hq]; rfl
      obtain rfl := Sh.len0 hl0
      refine (rw_0 w h p hq).mono ?_
      rintro e w2 ⟨rfl, hb⟩
      refine ⟨ret_s ?_, hb⟩
      exact Sh.eq_0 h hq
    · have hl0 : Tm.len kids = 0 := by rw [hlen, hq]; rfl
      obtain rfl := Sh.len0 hl0
      refine (rw_1 w h p hq (hnum hq).1 (hnum hq).2).mono ?_
      rintro e w2 ⟨rfl, hb⟩
      refine ⟨ret_s ?_, hb⟩
      exact Sh.eq_1 h hq
    · have hl0 : Tm.len kids = 0 := by rw [hlen, hq]; rfl
      obtain rfl := Sh.len0 hl0
      refine (rw_2 w h p hq).mono ?_
      rintro e w2 ⟨rfl, hb⟩
      refine ⟨ret_s ?_, hb⟩
      exact Sh.eq_2 h hq
    · have hl0 : Tm.len kids = 0 := by rw [hlen, hq]; rfl
      obtain rfl := Sh.len0 hl0
      refine (rw_3 w h p hq).mono ?_
      rintro e w2 ⟨rfl, hb⟩
      refine ⟨ret_s ?_, hb⟩
      exact Sh.eq_3 h hq
    · have hl0 : Tm.len kids = 1 := by rw [hlen, hq]; rfl
      obtain ⟨h1, k1, r1, rfl, hl1⟩ := Sh.len1 hl0
      obtain rfl := Sh.len0 hl1
      simp only [Tm.nodes] at hK hnk
      simp only [Tm.len] at hn
      obtain ⟨bb, oo, hA⟩ := rkid_start hli
      obtain ⟨g1, hgk1⟩ := hgk.node
      obtain ⟨⟨q1, hc1, hI1⟩, hli1⟩ := rkid_next hA hli
      have RK1 := fun k => rkid_of (o := oo + 0) hc1 g1 (by unfold Tm.nd; omega) (fun W hb => ih h1 k1 q1 W (by omega) (by unfold Tm.nd; omega) (hI1.below hb) g1) k
      refine (rw_4 w h p bb oo hq hA hn h1 q1 _ _ (RK1 (-1)) (rty_of hIs.fit.ty (hty (by rw [hq]; rfl))) (hnm (by rw [hq]; rfl))).mono ?_
      rintro e w2 ⟨rfl, hb⟩
      refine ⟨ret_s ?_, hb⟩
      exact Sh.eq_4 h h1 k1 hq
    · have hl0 : Tm.len kids = 1 := by rw [hlen, hq]; rfl
      obtain ⟨h1, k1, r1, rfl, hl1⟩ := Sh.len1 hl0
      obtain rfl := Sh.len0 hl1
      simp only [Tm.nodes] at hK hnk
      simp only [Tm.len] at hn
      obtain ⟨bb, oo, hA⟩ := rkid_start hli
      obtain ⟨g1, hgk1⟩ := hgk.node
      obtain ⟨⟨q1, hc1, hI1⟩, hli1⟩ := rkid_next hA hli
      have RK1 := fun k => rkid_of (o := oo + 0) hc1 g1 (by unfold Tm.nd; omega) (fun W hb => ih h1 k1 q1 W (by omega) (by unfold Tm.nd; omega) (hI1.below hb) g1) k
      refine (rw_5 w h p bb oo hq hA hn h1 q1 _ _ _ (RK1 (-1)) (rty_of hIs.fit.ty (hty (by rw [hq]; rfl))) (rty_of hIs.fit.to (hto (by rw [hq]; rfl))) (hnm (by rw [hq]; rfl)) (har (by rw [hq]; rfl))).mono ?_
      rintro e w2 ⟨rfl, hb⟩
      refine ⟨ret_s ?_, hb⟩
      exact Sh.eq_5 h h1 k1 hq
    · have hl0 : Tm.len kids = 2 := by rw [hlen, hq]; rfl
      obtain ⟨h1, k1, r1, rfl, hl1⟩ := Sh.len1 hl0
      obtain ⟨h2, k2, r2, rfl, hl2⟩ := Sh.len1 hl1
      obtain rfl := Sh.len0 hl2
      simp only [Tm.nodes] at hK hnk
      simp only [Tm.len] at hn
      obtain ⟨bb, oo, hA⟩ := rkid_start hli
      obtain ⟨g1, hgk1⟩ := hgk.node
      obtain ⟨⟨q1, hc1, hI1⟩, hli1⟩ := rkid_next hA hli
      have RK1 := fun k => rkid_of (o := oo + 0) hc1 g1 (by unfold Tm.nd; omega) (fun W hb => ih h1 k1 q1 W (by omega) (by unfold Tm.nd; omega) (hI1.below hb) g1) k
      obtain ⟨g2, hgk2⟩ := hgk1.node
      obtain ⟨⟨q2, hc2, hI2⟩, hli2⟩ := rkid_next hA hli1
      have RK2 := fun k => rkid_of (o := oo + 11) hc2 g2 (by unfold Tm.nd; omega) (fun W hb => ih h2 k2 q2 W (by omega) (by unfold Tm.nd; omega) (hI2.below hb) g2) k
      refine (rw_6 w h p bb oo hq hA hn h1 q1 _ h2 q2 _ (RK1 5) (RK2 (-1))).mono ?_
      rintro e w2 ⟨rfl, hb⟩
      refine ⟨ret_s ?_, hb⟩
      exact Sh.eq_6 h h1 k1 h2 k2 hq
    · have hl0 : Tm.len kids = 2 := by rw [hlen, hq]; rfl
      obtain ⟨h1, k1, r1, rfl, hl1⟩ := Sh.len1 hl0
      obtain ⟨h2, k2, r2, rfl, hl2⟩ := Sh.len1 hl1
      obtain rfl := Sh.len0 hl2
      simp only [Tm.nodes] at hK hnk
      simp only [Tm.len] at hn
      obtain ⟨bb, oo, hA⟩ := rkid_start hli
      obtain ⟨g1, hgk1⟩ := hgk.node
      obtain ⟨⟨q1, hc1, hI1⟩, hli1⟩ := rkid_next hA hli
      have RK1 := fun k => rkid_of (o := oo + 0) hc1 g1 (by unfold Tm.nd; omega) (fun W hb => ih h1 k1 q1 W (by omega) (by unfold Tm.nd; omega) (hI1.below hb) g1) k
      obtain ⟨g2, hgk2⟩ := hgk1.node
      obtain ⟨⟨q2, hc2, hI2⟩, hli2⟩ := rkid_next hA hli1
      have RK2 := fun k => rkid_of (o := oo + 11) hc2 g2 (by unfold Tm.nd; omega) (fun W hb => ih h2 k2 q2 W (by omega) (by unfold Tm.nd; omega) (hI2.below hb) g2) k
      refine (rw_7 w h p bb oo hq hA hn h1 q1 _ h2 q2 _ _ (RK1 (-1)) (RK2 (-1)) (rty_of hIs.fit.ty (hty (by rw [hq]; rfl))) (hnm (by rw [hq]; rfl))).mono ?_
      rintro e w2 ⟨rfl, hb⟩
      refine ⟨ret_s ?_, hb⟩
      exact Sh.eq_7 h h1 k1 h2 k2 hq
    · have hl0 : Tm.len kids = 3 := by rw [hlen, hq]; rfl
      obtain ⟨h1, k1, r1, rfl, hl1⟩ := Sh.len1 hl0
      obtain ⟨h2, k2, r2, rfl, hl2⟩ := Sh.len1 hl1
      obtain ⟨h3, k3, r3, rfl, hl3⟩ := Sh.len1 hl2
      obtain rfl := Sh.len0 hl3
      simp only [Tm.nodes] at hK hnk
      simp only [Tm.len] at hn
      obtain ⟨bb, oo, hA⟩ := rkid_start hli
      obtain ⟨g1, hgk1⟩ := hgk.node
      obtain ⟨⟨q1, hc1, hI1⟩, hli1⟩ := rkid_next hA hli
      have RK1 := fun k => rkid_of (o := oo + 0) hc1 g1 (by unfold Tm.nd; omega) (fun W hb => ih h1 k1 q1 W (by omega) (by unfold Tm.nd; omega) (hI1.below hb) g1) k
      obtain ⟨g2, hgk2⟩ := hgk1.node
      obtain ⟨⟨q2, hc2, hI2⟩, hli2⟩ := rkid_next hA hli1
      have RK2 := fun k => rkid_of (o := oo + 11) hc2 g2 (by unfold Tm.nd; omega) (fun W hb => ih h2 k2 q2 W (by omega) (by unfold Tm.nd; omega) (hI2.below hb) g2) k
      obtain ⟨g3, hgk3⟩ := hgk2.node
      obtain ⟨⟨q3, hc3, hI3⟩, hli3⟩ := rkid_next hA hli2
      have RK3 := fun k => rkid_of (o := oo + 22) hc3 g3 (by unfold Tm.nd; omega) (fun W hb => ih h3 k3 q3 W (by omega) (by unfold Tm.nd; omega) (hI3.below hb) g3) k
      refine (rw_8 w h p bb oo hq hA hn h1 q1 _ h2 q2 _ h3 q3 _ (RK1 (-1)) (RK2 (-1)) (RK3 (-1))).mono ?_
      rintro e w2 ⟨rfl, hb⟩
      refine ⟨ret_s ?_, hb⟩
      exact Sh.eq_8 h h1 k1 h2 k2 h3 k3 hq
    · have hl0 : Tm.len kids = 2 := by rw [hlen, hq]; rfl
      obtain ⟨h1, k1, r1, rfl, hl1⟩ := Sh.len1 hl0
      obtain ⟨h2, k2, r2, rfl, hl2⟩ := Sh.len1 hl1
      obtain rfl := Sh.len0 hl2
      simp only [Tm.nodes] at hK hnk
      simp only [Tm.len] at hn
      obtain ⟨bb, oo, hA⟩ := rkid_start hli
      obtain ⟨g1, hgk1⟩ := hgk.node
      obtain ⟨⟨q1, hc1, hI1⟩, hli1⟩ := rkid_next hA hli
      have RK1 := fun k => rkid_of (o := oo + 0) hc1 g1 (by unfold Tm.nd; omega) (fun W hb => ih h1 k1 q1 W (by omega) (by unfold Tm.nd; omega) (hI1.below hb) g1) k
      obtain ⟨g2, hgk2⟩ := hgk1.node
      obtain ⟨⟨q2, hc2, hI2⟩, hli2⟩ := rkid_next hA hli1
      have RK2 := fun k => rkid_of (o := oo + 11) hc2 g2 (by unfold Tm.nd; omega) (fun W hb => ih h2 k2 q2 W (by omega) (by unfold Tm.nd; omega) (hI2.below hb) g2) k
      refine (rw_9 w h p bb oo hq hA hn h1 q1 _ h2 q2 _ (RK1 (-1)) (RK2 (-1))).mono ?_
      rintro e w2 ⟨rfl, hb⟩
      refine ⟨ret_s ?_, hb⟩
      exact Sh.eq_9 h h1 k1 h2 k2 hq
    · have hl0 : Tm.len kids = 1 := by rw [hlen, hq]; rfl
      obtain ⟨h1, k1, r1, rfl, hl1⟩ := Sh.len1 hl0
      obtain rfl := Sh.len0 hl1
      simp only [Tm.nodes] at hK hnk
      simp only [Tm.len] at hn
      obtain ⟨bb, oo, hA⟩ := rkid_start hli
      obtain ⟨g1, hgk1⟩ := hgk.node
      obtain ⟨⟨q1, hc1, hI1⟩, hli1⟩ := rkid_next hA hli
      have RK1 := fun k => rkid_of (o := oo + 0) hc1 g1 (by unfold Tm.nd; omega) (fun W hb => ih h1 k1 q1 W (by omega) (by unfold Tm.nd; omega) (hI1.below hb) g1) k
      refine (rw_10 w h p bb oo hq hA hn h1 q1 _ (RK1 4)).mono ?_
      rintro e w2 ⟨rfl, hb⟩
      refine ⟨ret_s ?_, hb⟩
      exact Sh.eq_10 h h1 k1 hq
    · have hl0 : Tm.len kids = 1 := by rw [hlen, hq]; rfl
      obtain ⟨h1, k1, r1, rfl, hl1⟩ := Sh.len1 hl0
      obtain rfl := Sh.len0 hl1
      simp only [Tm.nodes] at hK hnk
      simp only [Tm.len] at hn
      obtain ⟨bb, oo, hA⟩ := rkid_start hli
      obtain ⟨g1, hgk1⟩ := hgk.node
      obtain ⟨⟨q1, hc1, hI1⟩, hli1⟩ := rkid_next hA hli
      have RK1 := fun k => rkid_of (o := oo + 0) hc1 g1 (by unfold Tm.nd; omega) (fun W hb => ih h1 k1 q1 W (by omega) (by unfold Tm.nd; omega) (hI1.below hb) g1) k
      refine (rw_11 w h p bb oo hq hA hn h1 q1 _ (RK1 4)).mono ?_
      rintro e w2 ⟨rfl, hb⟩
      refine ⟨ret_s ?_, hb⟩
      exact Sh.eq_11 h h1 k1 hq
    · have hl0 : Tm.len kids = 1 := by rw [hlen, hq]; rfl
      obtain ⟨h1, k1, r1, rfl, hl1⟩ := Sh.len1 hl0
      obtain rfl := Sh.len0 hl1
      simp only [Tm.nodes] at hK hnk
      simp only [Tm.len] at hn
      obtain ⟨bb, oo, hA⟩ := rkid_start hli
      obtain ⟨g1, hgk1⟩ := hgk.node
      obtain ⟨⟨q1, hc1, hI1⟩, hli1⟩ := rkid_next hA hli
      have RK1 := fun k => rkid_of (o := oo + 0) hc1 g1 (by unfold Tm.nd; omega) (fun W hb => ih h1 k1 q1 W (by omega) (by unfold Tm.nd; omega) (hI1.below hb) g1) k
      refine (rw_12 w h p bb oo hq hA hn h1 q1 _ _ (RK1 4) (rty_of hIs.fit.ty (hty (by rw [hq]; rfl)))).mono ?_
      rintro e w2 ⟨rfl, hb⟩
      refine ⟨ret_s ?_, hb⟩
      exact Sh.eq_12 h h1 k1 hq
    · have hl0 : Tm.len kids = 1 := by rw [hlen, hq]; rfl
      obtain ⟨h1, k1, r1, rfl, hl1⟩ := Sh.len1 hl0
      obtain rfl := Sh.len0 hl1
      simp only [Tm.nodes] at hK hnk
      simp only [Tm.len] at hn
      obtain ⟨bb, oo, hA⟩ := rkid_start hli
      obtain ⟨g1, hgk1⟩ := hgk.node
      obtain ⟨⟨q1, hc1, hI1⟩, hli1⟩ := rkid_next hA hli
      have RK1 := fun k => rkid_of (o := oo + 0) hc1 g1 (by unfold Tm.nd; omega) (fun W hb => ih h1 k1 q1 W (by omega) (by unfold Tm.nd; omega) (hI1.below hb) g1) k
      refine (rw_13 w h p bb oo hq hA hn h1 q1 _ _ (RK1 4) (rty_of hIs.fit.ty (hty (by rw [hq]; rfl)))).mono ?_
      rintro e w2 ⟨rfl, hb⟩
      refine ⟨ret_s ?_, hb⟩
      exact Sh.eq_13 h h1 k1 hq
    · have hl0 : Tm.len kids = 3 := by rw [hlen, hq]; rfl
      obtain ⟨h1, k1, r1, rfl, hl1⟩ := Sh.len1 hl0
      obtain ⟨h2, k2, r2, rfl, hl2⟩ := Sh.len1 hl1
      obtain ⟨h3, k3, r3, rfl, hl3⟩ := Sh.len1 hl2
      obtain rfl := Sh.len0 hl3
      simp only [Tm.nodes] at hK hnk
      simp only [Tm.len] at hn
      obtain ⟨bb, oo, hA⟩ := rkid_start hli
      obtain ⟨g1, hgk1⟩ := hgk.node
      obtain ⟨⟨q1, hc1, hI1⟩, hli1⟩ := rkid_next hA hli
      have RK1 := fun k => rkid_of (o := oo + 0) hc1 g1 (by unfold Tm.nd; omega) (fun W hb => ih h1 k1 q1 W (by omega) (by unfold Tm.nd; omega) (hI1.below hb) g1) k
      obtain ⟨g2, hgk2⟩ := hgk1.node
      obtain ⟨⟨q2, hc2, hI2⟩, hli2⟩ := rkid_next hA hli1
      have RK2 := fun k => rkid_of (o := oo + 11) hc2 g2 (by unfold Tm.nd; omega) (fun W hb => ih h2 k2 q2 W (by omega) (by unfold Tm.nd; omega) (hI2.below hb) g2) k
      obtain ⟨g3, hgk3⟩ := hgk2.node
      obtain ⟨⟨q3, hc3, hI3⟩, hli3⟩ := rkid_next hA hli2
      have RK3 := fun k => rkid_of (o := oo + 22) hc3 g3 (by unfold Tm.nd; omega) (fun W hb => ih h3 k3 q3 W (by omega) (by unfold Tm.nd; omega) (hI3.below hb) g3) k
      refine (rw_14 w h p bb oo hq hA hn h1 q1 _ h2 q2 _ h3 q3 _ (RK1 (-1)) (RK2 (-1)) (RK3 (-1)) (hnm (by rw [hq]; rfl)) (har (by rw [hq]; rfl))).mono ?_
      rintro e w2 ⟨rfl, hb⟩
      refine ⟨ret_s ?_, hb⟩
      exact Sh.eq_14 h h1 k1 h2 k2 h3 k3 hq
    · have hl0 : Tm.len kids = 2 := by rw [hlen, hq]; rfl
      obtain ⟨h1, k1, r1, rfl, hl1⟩ := Sh.len1 hl0
      obtain ⟨h2, k2, r2, rfl, hl2⟩ := Sh.len1 hl1
      obtain rfl := Sh.len0 hl2
      simp only [Tm.nodes] at hK hnk
      simp only [Tm.len] at hn
      obtain ⟨bb, oo, hA⟩ := rkid_start hli
      obtain ⟨g1, hgk1⟩ := hgk.node
      obtain ⟨⟨q1, hc1, hI1⟩, hli1⟩ := rkid_next hA hli
      have RK1 := fun k => rkid_of (o := oo + 0) hc1 g1 (by unfold Tm.nd; omega) (fun W hb => ih h1 k1 q1 W (by omega) (by unfold Tm.nd; omega) (hI1.below hb) g1) k
      obtain ⟨g2, hgk2⟩ := hgk1.node
      obtain ⟨⟨q2, hc2, hI2⟩, hli2⟩ := rkid_next hA hli1
      have RK2 := fun k => rkid_of (o := oo + 11) hc2 g2 (by unfold Tm.nd; omega) (fun W hb => ih h2 k2 q2 W (by omega) (by unfold Tm.nd; omega) (hI2.below hb) g2) k
      refine (rw_15 w h p hq _ (fun W hb => rop_any W h p bb oo hA hn h1 q1 _ h2 q2 _ (RK1 (Sh.opS h.name).2.1 |>.below hb) (RK2 (Sh.opS h.name).2.2 |>.below hb) (hnm (by rw [hq]; rfl)))).mono ?_
      rintro e w2 ⟨rfl, hb⟩
      refine ⟨ret_s ?_, hb⟩
      exact Sh.eq_15 h h1 k1 h2 k2 hq
    · have hl0 : Tm.len kids = 1 := by rw [hlen, hq]; rfl
      obtain ⟨h1, k1, r1, rfl, hl1⟩ := Sh.len1 hl0
      obtain rfl := Sh.len0 hl1
      simp only [Tm.nodes] at hK hnk
      simp only [Tm.len] at hn
      obtain ⟨bb, oo, hA⟩ := rkid_start hli
      obtain ⟨g1, hgk1⟩ := hgk.node
      obtain ⟨⟨q1, hc1, hI1⟩, hli1⟩ := rkid_next hA hli
      have RK1 := fun k => rkid_of (o := oo + 0) hc1 g1 (by unfold Tm.nd; omega) (fun W hb => ih h1 k1 q1 W (by omega) (by unfold Tm.nd; omega) (hI1.below hb) g1) k
      refine (rw_16 w h p bb oo hq hA hn h1 q1 _ _ (RK1 0) (rty_of hIs.fit.ty (hty (by rw [hq]; rfl)))).mono ?_
      rintro e w2 ⟨rfl, hb⟩
      refine ⟨ret_s ?_, hb⟩
      exact Sh.eq_16 h h1 k1 hq
end Go.Proofs.YtdeomggkhbdkaaaGreatDoor
