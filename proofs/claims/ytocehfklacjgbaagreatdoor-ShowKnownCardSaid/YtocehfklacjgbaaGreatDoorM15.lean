/-
  show.unwritable, show.Text. The document's Text. Words are not empty; both texts are the same. A right term's words are not empty: both texts are the same. A told term's text, scanned: its words, with their kinds. A told term's text gives its words; what counts is the same: as many nodes, as deep. The texts that the chapter tells by hand: which terms they are.
-/
import Derived.Test.YtocehfklacjgbaaGreatDoorM10
import Derived.Laws.EntriesVeiled
import Derived.Test.YtocehfklacjgbaaGreatDoorM9
import Derived.Test.YtocehfklacjgbaaGreatDoorScTy
namespace Go.Proofs.YtocehfklacjgbaaGreatDoor
open Go.RowKit

theorem cf_unw (args : Array Value) (W : World) : (callFunc 24 args).run Tryz.prog W = .ok (.enter 24 args) W := by simp [go_sem]
set_option maxHeartbeats 4000000 in
set_option maxRecDepth 100000 in
theorem unwr_any (K : Nat) : ∀ (h : Hd) (kids : Tm) (p : Pl) (w : World), Tm.nodes kids < K → Tm.Is w h kids p →
    Calls Tryz.prog 24 #[.agg #[.int .i8 h.kind, .string h.name, .string h.arg, .int .i64 h.num, .int .i8 h.tk, .slice p.TA p.tn p.tc, .int .i8 h.uk, .slice p.UA p.un p.uc, .int .i64 h.label, .int .i64 h.pos, .slice p.A p.n p.c]] w fun e w' => e = .returned (.bool (Sh.badT h kids)) ∧ Below w.heap.size w w' := by
  induction K with
  | zero => intro _ _ _ _ hK; omega
  | succ K ih =>
    intro h kids p w hK hIs
    have hB0 : Below w.heap.size w (w.alloc (.cells #[.int .i8 h.kind, .string h.name, .string h.arg, .int .i64 h.num, .int .i8 h.tk, .slice p.TA p.tn p.tc, .int .i8 h.uk, .slice p.UA p.un p.uc, .int .i64 h.label, .int .i64 h.pos, .slice p.A p.n p.c] 30)) := (Below.refl _ _).alloc (Nat.le_refl _) _
    have hI := hIs.below hB0
    have CC := Lib.hid (tm_contains_any 24 Sh.badT kids p.A p.n p.c _ hI.lies hI.fit.n_eq hI.fit.n_le hI.fit.c_le cf_unw (fun h1 k1 q W h2 h3 _ => ih h1 k1 q W (by omega) h3))
    rw [← Sh.bad_any] at CC
    obtain ⟨b0, hb0⟩ : ∃ b, (h.kind == 17) = b := ⟨_, rfl⟩
    obtain ⟨b1, hb1⟩ : ∃ b, (h.kind == 1) = b := ⟨_, rfl⟩
    obtain ⟨b2, hb2⟩ : ∃ b, (h.num == -9223372036854775808) = b := ⟨_, rfl⟩
    obtain ⟨R, hR⟩ : ∃ b, Sh.badF kids = b := ⟨_, rfl⟩
    have hres : Sh.badT h kids = ((b0 || (b1 && b2)) || R) := by unfold Sh.badT Sh.badH; rw [hb0, hb1, hb2, hR]
    rw [hres]
    rw [hR] at CC
    clear ih hIs hI hres hR
    cases b0 <;> cases b1 <;> cases b2
    all_goals
      go_enter Tryz.func24, Tryz.ntmps24
      go_wp2_with fail
      first
        | (go_ret
           exact ⟨rfl, hB0⟩)
        | (refine CC.out.mono ?_
           rintro e w2 ⟨rfl, hb⟩
           go_wp2_with fail
           go_ret
           exact ⟨rfl, hB0.trans (hb.mono hB0.size)⟩)

namespace Sh
/-- what Text tells -/
def outB (h : Hd) (kids : Tm) : Bs := puts [] (stand (-1) h kids)
def txE (h : Hd) (kids : Tm) : Int := if Tm.chk h kids ≠ 0 then Tm.chk h kids else if badT h kids = true then 30 else if 65536 < (outB h kids).length then 3 else 0
def txS (h : Hd) (kids : Tm) : ByteArray := if txE h kids = 0 then ⟨(outB h kids).toArray⟩ else ⟨#[]⟩
end Sh

theorem Sh.chk_good {h : Hd} {kids : Tm} (hc : Tm.chk h kids = 0) : Tm.okT h kids = true ∧ Tm.nd h kids ≤ 8192 := by
  unfold Tm.chk at hc
  split at hc
  · cases hc
  · rename_i h1
    split at hc
    · cases hc
    · split at hc
      · exact ⟨by assumption, by omega⟩
      · cases hc

set_option maxHeartbeats 4000000 in
set_option maxRecDepth 100000 in
theorem stext_any (h : Hd) (kids : Tm) (p : Pl) (w : World) (hIs : Tm.Is w h kids p) (hG : TGlob w) (ht : Tens w) (hnu : Sh.nuT h kids = true) :
    Calls Tryz.prog 10 #[.agg #[.int .i8 h.kind, .string h.name, .string h.arg, .int .i64 h.num, .int .i8 h.tk, .slice p.TA p.tn p.tc, .int .i8 h.uk, .slice p.UA p.un p.uc, .int .i64 h.label, .int .i64 h.pos, .slice p.A p.n p.c]] w fun e w' => e = .returned (.tuple #[.string (Sh.txS h kids), .int .i64 (Sh.txE h kids)]) ∧ Below w.heap.size w w' := by
  have hB0 : Below w.heap.size w (w.alloc (.cells #[.int .i8 h.kind, .string h.name, .string h.arg, .int .i64 h.num, .int .i8 h.tk, .slice p.TA p.tn p.tc, .int .i8 h.uk, .slice p.UA p.un p.uc, .int .i64 h.label, .int .i64 h.pos, .slice p.A p.n p.c] 30)) := (Below.refl _ _).alloc (Nat.le_refl _) _
  have HX := Lib.hid (heap_new w (.cells #[.int .i8 h.kind, .string h.name, .string h.arg, .int .i64 h.num, .int .i8 h.tk, .slice p.TA p.tn p.tc, .int .i8 h.uk, .slice p.UA p.un p.uc, .int .i64 h.label, .int .i64 h.pos, .slice p.A p.n p.c] 30))
  have CK := Lib.hid (fun (W : World) (hb : Below w.heap.size w W) => tcheck_any h kids p W (hIs.below hb) (hG.below hb))
  have CU := Lib.hid (fun (W : World) (hb : Below w.heap.size w W) => unwr_any (Tm.nodes kids + 1) h kids p W (Nat.lt_succ_self _) (hIs.below hb))
  have hlt := heap_lt HX.out
  by_cases h0 : Tm.chk h kids = 0
  · obtain ⟨hok, hnd⟩ := Sh.chk_good h0
    rw [h0] at CK
    cases hbd : Sh.badT h kids
    · rw [hbd] at CU
      have g : Sh.Good h kids := ⟨hok, hbd, hnu⟩
      have CS := Lib.hid (fun (b : Nat) => sstand_any b w hG.types ht (Tm.nodes kids + 1) h kids p (Nat.lt_succ_self _) hIs g)
      have hbd2 := Sh.stand_bound g hnd (-1)
      obtain ⟨T, hT⟩ : ∃ T, Sh.outB h kids = T := ⟨_, rfl⟩
      have hE : Sh.txE h kids = if 65536 < T.length then 3 else 0 := by unfold Sh.txE; rw [if_neg (by simp [h0]), if_neg (by simp [hbd]), hT]
      have hS : Sh.txS h kids = if 65536 < T.length then ⟨#[]⟩ else ⟨T.toArray⟩ := by
        unfold Sh.txS; rw [hE, hT]
        split
        · rw [if_neg (by decide)]
        · rw [if_pos rfl]
      have HTL := Lib.hid (show T.length ≤ 100000000 by rw [← hT]; unfold Sh.outB; have := Sh.puts_len (Sh.stand (-1) h kids) []; simp at this; omega)
      rw [hE, hS]
      obtain ⟨X, hX⟩ : ∃ X : ByteArray, (if 65536 < T.length then ⟨#[]⟩ else ⟨T.toArray⟩) = X := ⟨_, rfl⟩
      obtain ⟨C, hC0⟩ : ∃ C : Int, (if 65536 < T.length then 3 else 0) = C := ⟨_, rfl⟩
      rw [hX, hC0]
      have HX2 := Lib.hid hX
      have HC2 := Lib.hid hC0
      clear hX hC0
      unfold Sh.outB at hT
      have HBD := Lib.hid hbd2
      clear hIs hG ht hnu hok g hnd h0 hbd hE hS hbd2
      have HT := Lib.hid hT
      clear hT
      go_enter Tryz.func10, Tryz.ntmps10
      go_wp2_with fail
      refine (CK.out _ hB0).mono ?_
      rintro e w3 ⟨rfl, hb3⟩
      have hB3 := hB0.trans (hb3.mono hB0.size)
      have R3 := Lib.hid (heap_below hb3 hlt HX.out)
      clear hb3
      obtain ⟨b0, b1, b2, b3, b4, b5, b6, b7, b8, b9, b10, hlt3⟩ := own11 R3.out
      go_wp2_with fail
      refine (CU.out _ hB3).mono ?_
      rintro e w4 ⟨rfl, hb4⟩
      have hB4 := hB3.trans (hb4.mono hB3.size)
      have R4 := Lib.hid (heap_below hb4 hlt3 R3.out)
      clear hb4 b0 b1 b2 b3 b4 b5 b6 b7 b8 b9 b10
      obtain ⟨b0, b1, b2, b3, b4, b5, b6, b7, b8, b9, b10, hlt4⟩ := own11 R4.out
      go_wp2_with fail
      obtain ⟨W5, hW5⟩ : ∃ W5, W5 = ((w4.alloc (.cells #[.pointer none, .slice none 0 0] 70)).alloc (.cells #[.func (Fn.func 25) #[] #[.pointer (some ⟨w4.heap.size, 0, none⟩)]] 77)) := ⟨_, rfl⟩
      rw [← hW5]
      have hC := hB4.size
      have hb5 : Below (w4.heap.size + 1) (w4.alloc (.cells #[.pointer none, .slice none 0 0] 70)) W5 := by
        rw [hW5]
        exact (Below.refl _ _).alloc (by simp) _
      have hB5 : Below w.heap.size w W5 := (hB4.alloc hC _).trans (hb5.mono (by omega))
      have HBl := Lib.hid (show Bld w.heap.size w4.heap.size [] W5 by
        have := Lib.IsBuilderF.of (Lib.fresh_isBuilder 70 5 w4)
        exact Bld.low (bld_low this hC) (hb5.mono (by simp)))
      clear b0 b1 b2 b3 b4 b5 b6 b7 b8 b9 b10 hW5 hb5
      refine (CS.out w4.heap.size (-1) [] W5 hB5 hB5.size HBl.out (by have := HBD.out; simp; omega)).mono ?_
      rintro e w6 ⟨rfl, hbl, hw⟩
      have hB6 := hB5.trans hw.below
      rw [HT.out] at hbl
      have HL := Lib.hid (blen_any w.heap.size w4.heap.size T w6 hbl)
      have HBl2 := Lib.hid hbl
      clear hbl hw HBl CK CU CS HX R3 R4
      go_wp2_with fail
      refine HL.out.mono ?_
      rintro e w7 ⟨rfl, hw7⟩
      rw [hw7]
      clear HL
      by_cases h65 : 65536 < T.length
      · have hX := HX2.out
        have hC0 := HC2.out
        rw [if_pos h65] at hX hC0
        subst hX hC0
        have hd : decide ((T.length : Int) > 65536) = true := by rw [decide_eq_true_eq]; omega
        go_wp2_with fail
        go_ret2
        exact ⟨rfl, hB6⟩
      · have hX := HX2.out
        have hC0 := HC2.out
        rw [if_neg h65] at hX hC0
        subst hX hC0
        have hd : decide ((T.length : Int) > 65536) = false := by rw [decide_eq_false_iff_not]; omega
        go_wp2_with fail
        refine (Tryz.Builder_String_any_k w.heap.size _ T _ HBl2.out hB6.size).mono ?_
        rintro e w8 ⟨rfl, -, hb8, -⟩
        go_wp2_with fail
        go_ret2
        exact ⟨rfl, hB6.trans hb8⟩
    · rw [hbd] at CU
      have hE : Sh.txE h kids = 30 := by unfold Sh.txE; rw [if_neg (by simp [h0]), if_pos hbd]
      have hS : Sh.txS h kids = ⟨#[]⟩ := by unfold Sh.txS; rw [hE, if_neg (by decide)]
      rw [hE, hS]
      clear hIs hG ht hnu hok hnd h0 hbd hE hS
      go_enter Tryz.func10, Tryz.ntmps10
      go_wp2_with fail
      refine (CK.out _ hB0).mono ?_
      rintro e w3 ⟨rfl, hb3⟩
      have hB3 := hB0.trans (hb3.mono hB0.size)
      have R3 := Lib.hid (heap_below hb3 hlt HX.out)
      clear hb3
      obtain ⟨b0, b1, b2, b3, b4, b5, b6, b7, b8, b9, b10, hlt3⟩ := own11 R3.out
      go_wp2_with fail
      refine (CU.out _ hB3).mono ?_
      rintro e w4 ⟨rfl, hb4⟩
      go_wp2_with fail
      go_ret2
      exact ⟨rfl, hB3.trans (hb4.mono hB3.size)⟩
  · have hE : Sh.txE h kids = Tm.chk h kids := by unfold Sh.txE; rw [if_pos h0]
    have hS : Sh.txS h kids = ⟨#[]⟩ := by unfold Sh.txS; rw [hE, if_neg (by omega)]
    have hc : (((Tm.chk h kids : Nat) : Int) != 0) = true := by simp; omega
    rw [hE, hS]
    generalize Tm.chk h kids = C at *
    clear hIs hG ht hnu h0 hE hS
    go_enter Tryz.func10, Tryz.ntmps10
    go_wp2_with fail
    refine (CK.out _ hB0).mono ?_
    rintro e w3 ⟨rfl, hb3⟩
    go_wp2_with fail
    go_ret2
    exact ⟨rfl, hB0.trans (hb3.mono hB0.size)⟩
end Go.Proofs.YtocehfklacjgbaaGreatDoor
namespace Go.Proofs.YtocehfklacjgbaaGreatDoor
open Go.RowKit
namespace Sh
end Sh
end Go.Proofs.YtocehfklacjgbaaGreatDoor
namespace Go.Proofs.YtocehfklacjgbaaGreatDoor
open Go.RowKit
namespace Sh
def NE (ws : List Bs) : Prop := ∀ w ∈ ws, w ≠ []
theorem NE.app {a b : List Bs} (ha : NE a) (hb : NE b) : NE (a ++ b) := fun w hw => (List.mem_append.1 hw).elim (ha w) (hb w)
theorem NE.cons {a : Bs} {b : List Bs} (ha : a ≠ []) (hb : NE b) : NE (a :: b) := fun w hw => (List.mem_cons.1 hw).elim (fun e => e ▸ ha) (hb w)
theorem NE.nil : NE [] := fun _ h => by cases h
theorem NE.at {x : Int × List Bs} (h : NE x.2) (k : Int) : NE (atW k x) := by
  unfold atW
  split
  · exact h
  · exact .cons (by decide) (.app h (.cons (by decide) .nil))
theorem NE.kid {ks : List (Int × List Bs)} (h : ∀ x ∈ ks, NE x.2) (i : Nat) (k : Int) : NE (Sh.kid ks i k) := by
  unfold Sh.kid
  refine NE.at ?_ k
  rw [List.getD_eq_getElem?_getD]
  cases hi : ks[i]? with
  | none => exact NE.nil
  | some x => exact h x (List.mem_of_getElem? hi)
theorem NE.num (n : Int) : NE (numW n) := by
  unfold numW
  split
  · exact .cons (by decide) (.cons (decDigits_ne _) .nil)
  · exact .cons (decDigits_ne _) .nil
theorem ownW_words (h : Hd) (ks : List (Int × List Bs)) (hk : 0 ≤ h.kind ∧ h.kind ≤ 16) (hN : Tm.hasName h.kind = true → h.name.data.toList ≠ []) (hA : Tm.hasArg h.kind = true → h.arg.data.toList ≠ [])
    (hT : Tm.hasType h.kind = true → tyW h.tk h.tkids ≠ []) (hU : Tm.hasTo h.kind = true → tyW h.uk h.ukids ≠ []) (hks : ∀ x ∈ ks, NE x.2) : NE (ownW h ks) := by
  have kd := NE.kid hks
  have nm := NE.num h.num
  have hcase : h.kind = 0 ∨ h.kind = 1 ∨ h.kind = 2 ∨ h.kind = 3 ∨ h.kind = 4 ∨ h.kind = 5 ∨ h.kind = 6 ∨ h.kind = 7 ∨ h.kind = 8 ∨ h.kind = 9 ∨ h.kind = 10 ∨ h.kind = 11 ∨ h.kind = 12 ∨ h.kind = 13 ∨ h.kind = 14 ∨ h.kind = 15 ∨ h.kind = 16 := by omega
  unfold ownW
  rcases hcase with hq | hq | hq | hq | hq | hq | hq | hq | hq | hq | hq | hq | hq | hq | hq | hq | hq
  all_goals
    rw [hq] at hN hA hT hU ⊢
    simp only [Int.reduceEq, if_false, if_true]
    repeat' first
      | exact nm
      | exact kd _ _
      | exact NE.nil
      | exact hN rfl
      | exact hA rfl
      | exact hT rfl
      | exact hU rfl
      | decide
      | apply NE.app
      | apply NE.cons
end Sh
end Go.Proofs.YtocehfklacjgbaaGreatDoor
namespace Go.Proofs.YtocehfklacjgbaaGreatDoor
open Go.RowKit
namespace Sh
theorem tyW_ne {k : Int} {f : Fo} (hc : Ty.chk k f = 0) : tyW k f ≠ [] := by
  have hok := (Ty.chk_ok hc).1
  have hr := Ty.okT_range hok
  unfold tyW
  by_cases hl : k = 3 ∨ k = 4 ∨ k = 5
  · obtain ⟨a, b, k1, f1, a', b', k2, f2, rfl, _, _⟩ := okT_pair hok hl
    unfold Ty.txt Ty.txtOne
    rw [if_neg (by omega), Ty.txt_two]
    split <;> simp
  · have hl2 : k = 0 ∨ k = 1 ∨ k = 2 := by omega
    unfold Ty.txt Ty.txtOne
    rw [if_pos (by omega)]
    rcases hl2 with rfl | rfl | rfl <;> decide
theorem isName_ne {s : ByteArray} (h : Sc.isName s = true) : s.data.toList ≠ [] := by
  unfold Sc.isName at h
  split at h
  · cases h
  · rename_i h0
    intro e
    apply h0
    show s.data.toList.length = 0
    rw [e]; rfl
theorem isOp_ne {s : ByteArray} (h : Tm.isOp s = true) : s.data.toList ≠ [] := by
  rw [Tm.isOp_iff] at h
  rw [Lib.toList_data] at h
  simp only [Bool.or_eq_true, beq_iff_eq] at h
  rcases h with ((((h | h) | h) | h) | h) | h <;> rw [h] <;> decide
theorem Good.names {h : Hd} {kids : Tm} (g : Good h kids) : (Tm.hasName h.kind = true → h.name.data.toList ≠ []) ∧ (Tm.hasArg h.kind = true → h.arg.data.toList ≠ []) := by
  have hnm : Tm.nameOk h = true := by
    have h1 := g.ok
    unfold Tm.okT Tm.headOk at h1
    simp only [Bool.and_eq_true] at h1
    exact h1.1.1.1.2
  refine ⟨fun q => ?_, fun q => ?_⟩
  · unfold Tm.nameOk at hnm
    split at hnm
    · exact isOp_ne hnm
    · simp only [q, Bool.not_true, Bool.false_or, Bool.and_eq_true] at hnm
      exact isName_ne hnm.1
  · unfold Tm.nameOk at hnm
    split at hnm
    · rename_i h15
      rw [h15] at q
      exact absurd q (by decide)
    · simp only [q, Bool.not_true, Bool.false_or, Bool.and_eq_true] at hnm
      exact isName_ne hnm.2
theorem Good.ownNE {h : Hd} {kids : Tm} (g : Good h kids) (hks : ∀ x ∈ kidsW kids, NE x.2) : NE (own h kids) :=
  ownW_words h (kidsW kids) g.head.1 g.names.1 g.names.2 (fun q => tyW_ne (g.head.2.2.1 q)) (fun q => tyW_ne (g.head.2.2.2.1 q)) hks
theorem kidsNE : ∀ f : Tm, GoodF f → ∀ x ∈ kidsW f, NE x.2
  | .nil, _ => fun x hx => by cases hx
  | .node h kids r, g => fun x hx => by
    simp only [kidsW] at hx
    rcases List.mem_cons.1 hx with rfl | hx
    · exact Good.ownNE g.node.1 (kidsNE kids g.node.1.kids)
    · exact kidsNE r g.node.2 x hx
end Sh
end Go.Proofs.YtocehfklacjgbaaGreatDoor
namespace Go.Proofs.YtocehfklacjgbaaGreatDoor
namespace Sc
/-- a blank, or the end -/
def Gap (S : List UInt8) : Prop := S = [] ∨ ∃ r, S = 32 :: r
theorem Gap.hd {S : List UInt8} (h : Gap S) : S.headD 32 = 32 := by
  rcases h with rfl | ⟨r, rfl⟩ <;> rfl
theorem Gap.ends {S : List UInt8} (h : Gap S) : Ends S := by
  unfold Ends
  rw [h.hd]; decide
theorem Gap.span {S : List UInt8} (h : Gap S) (q : Int → Bool) (hq : q 32 = false) : spanN q S = 0 := by
  rcases h with rfl | ⟨r, rfl⟩
  · rfl
  · rw [spanN_cons, show (((32 : UInt8).toNat : Nat) : Int) = 32 from rfl, hq]; rfl
theorem spanN_far (q : Int → Bool) : ∀ (U S : List UInt8), (∀ c ∈ U, q (c.toNat : Int) = true) → spanN q (U ++ S) = U.length + spanN q S
  | [], S, _ => by simp
  | c :: U, S, h => by
    rw [List.cons_append, spanN_cons, h c List.mem_cons_self, if_pos rfl, spanN_far q U S (fun d hd => h d (List.mem_cons_of_mem _ hd))]
    simp only [List.length_cons]; omega
theorem lett_not {r : Int} (h : lett r = true) : blan r = false ∧ r ≠ 35 ∧ digi r = false := by
  unfold lett at h
  unfold blan digi
  simp only [decide_eq_true_eq, decide_eq_false_iff_not] at *
  omega
theorem digi_not {r : Int} (h : digi r = true) : blan r = false ∧ r ≠ 35 ∧ lett r = false := by
  unfold digi at h
  unfold blan lett
  simp only [decide_eq_true_eq, decide_eq_false_iff_not] at *
  omega
theorem cut_rest {s : ByteArray} {P U S : List UInt8} (h : s.data.toList = P ++ (U ++ S)) : ((rest s P.length).extract 0 U.length).toList = U := by
  rw [Lib.toList_data, Lib.extract_data, rest_at h]; simp
theorem Tks.letters {s : ByteArray} {P U S : List UInt8} {k : Int} (h : s.data.toList = P ++ (U ++ S)) (hg : Gap S) (hU : U ≠ []) (hl : lett ((U.headD 0).toNat : Int) = true) (hw : ∀ c ∈ U, lord (c.toNat : Int) = true) (h64 : U.length ≤ 64)
    (hk : (if isKey ⟨U.toArray⟩ then (3 : Int) else 1) = k) : Tks s P U [(k, U)] := by
  have h1 := hd_at h
  have h2 := rest_at h
  have e : ((U ++ S).headD 0) = U.headD 0 := by cases U with
    | nil => exact absurd rfl hU
    | cons _ _ => rfl
  rw [e] at h1
  obtain ⟨hb, h35, -⟩ := lett_not hl
  have hl2 : lett (hd (rest s P.length)) = true := by rw [h1]; exact hl
  have hN : fN (rest s P.length) = U.length := by
    unfold fN
    rw [hl2, if_pos rfl, h2, spanN_far lord U S hw, hg.span lord (by decide)]
    rfl
  have hkey : isKey ((rest s P.length).extract 0 U.length) = isKey ⟨U.toArray⟩ := by
    unfold isKey
    rw [cut_rest h, Lib.toList_data]
  refine Tks.word h hU hb h35 hN ?_ ?_
  · unfold fK
    rw [hl2, if_pos rfl, hN]
    unfold nameKind
    rw [if_neg (by omega), hkey]
    exact hk
  · unfold fE
    rw [hl2, if_pos rfl, hN]
    unfold nameErr
    rw [if_neg (by omega)]
theorem Tks.sig {s : ByteArray} {P S : List UInt8} {c : UInt8} (h : s.data.toList = P ++ ([c] ++ S)) (hg : Gap S) (hl : lett ((c.toNat : Nat) : Int) = false) (hd' : digi ((c.toNat : Nat) : Int) = false) (hs : isSign ((c.toNat : Nat) : Int) = true) (hb : blan ((c.toNat : Nat) : Int) = false) (h35 : ((c.toNat : Nat) : Int) ≠ 35) : Tks s P [c] [(4, [c])] := by
  have h1 := hd_at h
  have h2 := rest_at h
  have hp : Lib.hasPrefix (rest s P.length).data.toList [45, 62] = false := by
    rw [h2]
    rcases hg with rfl | ⟨r, rfl⟩
    · simp [Lib.hasPrefix, List.isPrefixOf]
    · simp [Lib.hasPrefix, List.isPrefixOf]
  have h3 : hd (rest s P.length) = ((c.toNat : Nat) : Int) := h1
  rw [← h3] at hl hd' hs
  refine Tks.word h (by simp) hb h35 ?_ ?_ ?_
  · unfold fN; rw [hl, hd', hp]; rfl
  · unfold fK; rw [hl, hd', hp, hs]; rfl
  · unfold fE; rw [hl, hd', hp, hs]; rfl
/-- what the digits of a number are -/
theorem dec_all (n : Nat) : (∀ c ∈ Lib.decDigits n, digi (c.toNat : Int) = true) ∧ numFrom 0 (Lib.decDigits n) = n ∧ (1 < (Lib.decDigits n).length → (Lib.decDigits n).head? ≠ some 48) ∧ (0 < n → (Lib.decDigits n).head? ≠ some 48) := by
  have dg : ∀ d : Nat, d < 10 → (UInt8.ofNat (48 + d)).toNat = 48 + d := fun d hd => by
    rw [UInt8.toNat_ofNat']; omega
  induction n using Nat.strongRecOn with
  | _ n ih =>
    rw [Lib.decDigits]
    split
    · rename_i h
      refine ⟨fun c hc => ?_, ?_, fun h1 => by simp at h1, fun h0 => ?_⟩
      · obtain rfl := List.mem_singleton.1 hc
        rw [dg n h]; unfold digi; simp only [decide_eq_true_eq]; omega
      · unfold numFrom
        simp only [List.foldl_cons, List.foldl_nil]
        rw [dg n h]; omega
      · intro e
        injection e with e
        have := congrArg UInt8.toNat e
        rw [dg n h] at this
        have h48 : (48 : UInt8).toNat = 48 := rfl
        omega
    · rename_i h
      obtain ⟨a1, a2, a3, a4⟩ := ih (n / 10) (by omega)
      have hne : Lib.decDigits (n / 10) ≠ [] := Sh.decDigits_ne _
      have hh : (Lib.decDigits (n / 10) ++ [UInt8.ofNat (48 + n % 10)]).head? = (Lib.decDigits (n / 10)).head? := by
        cases hq : Lib.decDigits (n / 10) with
        | nil => exact absurd hq hne
        | cons _ _ => rfl
      refine ⟨fun c hc => ?_, ?_, fun _ => ?_, fun _ => ?_⟩
      · rcases List.mem_append.1 hc with hc | hc
        · exact a1 c hc
        · obtain rfl := List.mem_singleton.1 hc
          rw [dg _ (Nat.mod_lt _ (by decide))]; unfold digi; simp only [decide_eq_true_eq]; omega
      · unfold numFrom at a2 ⊢
        rw [List.foldl_append, a2]
        simp only [List.foldl_cons, List.foldl_nil]
        rw [dg _ (Nat.mod_lt _ (by decide))]; omega
      · rw [hh]; exact a4 (by omega)
      · rw [hh]; exact a4 (by omega)
theorem Tks.num {s : ByteArray} {P S : List UInt8} {n : Nat} (h : s.data.toList = P ++ (Lib.decDigits n ++ S)) (hg : Gap S) (hn : n ≤ 9223372036854775807) : Tks s P (Lib.decDigits n) [(2, Lib.decDigits n)] := by
  obtain ⟨a1, a2, a3, -⟩ := dec_all n
  have hU := Sh.decDigits_ne n
  have h1 := hd_at h
  have h2 := rest_at h
  generalize Lib.decDigits n = U at *
  have e : ((U ++ S).headD 0) = U.headD 0 := by cases U with
    | nil => exact absurd rfl hU
    | cons _ _ => rfl
  rw [e] at h1
  have hd0 : digi ((U.headD 0).toNat : Int) = true := by cases U with
    | nil => exact absurd rfl hU
    | cons c _ => exact a1 c List.mem_cons_self
  obtain ⟨hb, h35, hl⟩ := digi_not hd0
  rw [← h1] at hl
  have hd2 : digi (hd (rest s P.length)) = true := by rw [h1]; exact hd0
  have hN : fN (rest s P.length) = U.length := by
    unfold fN
    rw [hl, if_neg (by decide), hd2, if_pos rfl, h2, spanN_far digi U S a1, hg.span digi (by decide)]
    rfl
  refine Tks.word h hU hb h35 hN ?_ ?_
  · unfold fK; rw [hl, hd2]; rfl
  · unfold fE
    rw [hl, hd2, hN]
    show numErr _ _ = 0
    unfold numErr numVal numBad
    rw [h2, List.take_left, a2, if_neg (by omega), List.drop_left, hg.span lett (by decide)]
    have hh : (U ++ S).head? = U.head? := by cases U with
      | nil => exact absurd rfl hU
      | cons _ _ => rfl
    rw [hh]
    by_cases h1l : 1 < U.length
    · simp [a3 h1l]
    · simp [h1l]
end Sc
namespace Sh
open Rd
/-- no blank at the ends, no two side by side -/
structure Pt (l : Bs) : Prop where
  ne : l ≠ []
  low : ∀ c ∈ l, c.toNat < 128
  gap : ∀ i, l[i]? = some 32 → 0 < i ∧ i + 1 < l.length ∧ l[i - 1]? ≠ some 32
theorem Pt.plain {l : Bs} (h : l ≠ []) (hc : ∀ c ∈ l, c.toNat < 128 ∧ c ≠ 32) : Pt l :=
  ⟨h, fun c m => (hc c m).1, fun _ e => absurd rfl (hc _ (List.mem_of_getElem? e)).2⟩
theorem Pt.last {l : Bs} (h : Pt l) {i : Nat} (hi : i + 1 = l.length) : l[i]? ≠ some 32 := fun e => by have := (h.gap i e).2.1; omega
theorem Pt.two {a b : Bs} (ha : Pt a) (hb : Pt b) : Pt (a ++ 32 :: b) := by
  have la := List.length_pos_iff.2 ha.ne
  have lb := List.length_pos_iff.2 hb.ne
  refine ⟨by simp, fun c m => ?_, fun i e => ?_⟩
  · rcases List.mem_append.1 m with m | m
    · exact ha.low c m
    · rcases List.mem_cons.1 m with rfl | m
      · decide
      · exact hb.low c m
  · simp only [List.length_append, List.length_cons]
    rcases Nat.lt_trichotomy i a.length with h | h | h
    · rw [List.getElem?_append_left h] at e
      obtain ⟨h1, h2, h3⟩ := ha.gap i e
      exact ⟨h1, by omega, by rw [List.getElem?_append_left (by omega)]; exact h3⟩
    · subst h
      exact ⟨la, by omega, by rw [List.getElem?_append_left (by omega)]; exact ha.last (by omega)⟩
    · rw [List.getElem?_append_right (by omega), show i - a.length = (i - a.length - 1) + 1 by omega, List.getElem?_cons_succ] at e
      obtain ⟨h1, h2, h3⟩ := hb.gap _ e
      refine ⟨by omega, by omega, ?_⟩
      rw [List.getElem?_append_right (by omega), show i - 1 - a.length = (i - a.length - 1 - 1) + 1 by omega, List.getElem?_cons_succ]
      exact h3
theorem Pt.br {a : Bs} (ha : Pt a) : Pt (40 :: (a ++ [41])) := by
  have la := List.length_pos_iff.2 ha.ne
  refine ⟨by simp, fun c m => ?_, fun i e => ?_⟩
  · rcases List.mem_cons.1 m with rfl | m
    · decide
    · rcases List.mem_append.1 m with m | m
      · exact ha.low c m
      · obtain rfl := List.mem_singleton.1 m; decide
  · simp only [List.length_cons, List.length_append, List.length_nil]
    cases i with
    | zero => simp at e
    | succ i =>
      rw [List.getElem?_cons_succ] at e
      rcases Nat.lt_or_ge i a.length with h | h
      · rw [List.getElem?_append_left h] at e
        obtain ⟨h1, h2, h3⟩ := ha.gap i e
        refine ⟨by omega, by omega, ?_⟩
        rw [show i + 1 - 1 = (i - 1) + 1 by omega, List.getElem?_cons_succ, List.getElem?_append_left (by omega)]
        exact h3
      · rw [List.getElem?_append_right h] at e
        have : i - a.length = 0 := by
          rcases Nat.eq_zero_or_pos (i - a.length) with h0 | h0
          · exact h0
          · rw [List.getElem?_eq_none (by simp; omega)] at e; cases e
        rw [this] at e
        simp at e
theorem pt_ty : ∀ (K : Nat) (k : Int) (f : Fo) (q : Int), Ty.nodes f < K → Ty.okT k f = true → Pt (Ty.txt k f q)
  | 0, _, _, _, h, _ => absurd h (by omega)
  | K + 1, k, f, q, hK, hok => by
    have hok0 := hok
    have hr := Ty.okT_range hok
    by_cases h3 : k ≤ 2
    · have e : Ty.txt k f q = Ty.word k := by unfold Ty.txt Ty.txtOne; rw [if_pos h3]
      rw [e]
      rcases hr with rfl | rfl | rfl | rfl | rfl | rfl
      · exact Pt.plain (by decide) (by decide)
      · exact Pt.plain (by decide) (by decide)
      · exact Pt.plain (by decide) (by decide)
      all_goals omega
    · have h345 : k = 3 ∨ k = 4 ∨ k = 5 := by omega
      obtain ⟨x, y, a, aa, z, u, b, bb, rfl, oa, ob⟩ := okT_pair hok h345
      simp only [Ty.nodes] at hK
      have hw : Pt (Ty.word k) := by rcases h345 with rfl | rfl | rfl <;> exact Pt.plain (by decide) (by decide)
      have ein := Ty.txt_two k x y z u a aa b bb
      have hi : Pt (Ty.txtIn (.node x y a aa (.node z u b bb .nil)) k true) := by
        rw [ein]
        have g1 := pt_ty K a aa (Ty.need k true) (by omega) oa
        have g2 := pt_ty K b bb (Ty.need k false) (by omega) ob
        have := g1.two (hw.two g2)
        simpa using this
      unfold Ty.txt Ty.txtOne
      rw [if_neg (by omega)]
      split
      · exact hi.br
      · exact hi
/-- some bytes among blanks give these words -/
def Scans (b : Bs) (ks : List Wk) : Prop := Pt b ∧ ∀ (s : ByteArray) (P S : List UInt8), s.data.toList = P ++ (b ++ S) → Sc.Gap S → Sc.Tks s P b ks
inductive SW : List Bs → List Wk → Prop where
  | nil : SW [] []
  | cons {b : Bs} {ws : List Bs} {ks r : List Wk} (h : Scans b ks) (g : SW ws r) : SW (b :: ws) (ks ++ r)
theorem SW.app {a b : List Bs} {x y : List Wk} (h : SW a x) (g : SW b y) : SW (a ++ b) (x ++ y) := by
  induction h with
  | nil => exact g
  | cons h _ ih => rw [List.cons_append, List.append_assoc]; exact .cons h ih
theorem SW.cast {a : List Bs} {x y : List Wk} (h : SW a x) (e : x = y) : SW a y := e ▸ h
theorem SW.text {ws : List Bs} {ks : List Wk} (h : SW ws ks) : ws ≠ [] → ∀ (s : ByteArray) (P S : List UInt8), s.data.toList = P ++ (join ws ++ S) → Sc.Gap S → Sc.Tks s P (join ws) ks := by
  induction h with
  | nil => intro e; exact absurd rfl e
  | @cons b ws ks r h g ih =>
    intro _ s P S hs hg
    cases ws with
    | nil =>
      cases g
      rw [List.append_nil]
      exact h.2 s P S hs hg
    | cons c ws =>
      have e : join (b :: c :: ws) = b ++ ([32] ++ join (c :: ws)) := rfl
      rw [e] at hs ⊢
      have g1 := h.2 s P (32 :: (join (c :: ws) ++ S)) (by rw [hs]; simp) (.inr ⟨_, rfl⟩)
      have g2 := Sc.Tks.blank (s := s) (P := P ++ b) (S := join (c :: ws) ++ S) (by rw [hs]; simp)
      have g3 := ih (by simp) s (P ++ b ++ [32]) S (by rw [hs]; simp) hg
      have := g1.app (g2.app g3)
      simpa using this
theorem mem_while (p : UInt8 → Bool) : ∀ (l : List UInt8) (c : UInt8), c ∈ l.takeWhile p → p c = true
  | [], _, h => by cases h
  | d :: l, c, h => by
    rw [List.takeWhile_cons] at h
    split at h
    · rename_i hd
      rcases List.mem_cons.1 h with rfl | h
      · exact hd
      · exact mem_while p l c h
    · cases h
theorem lord_low {c : UInt8} (h : Sc.lord (c.toNat : Int) = true) : c.toNat < 128 ∧ c ≠ 32 := by
  unfold Sc.lord Sc.lett Sc.digi at h
  simp only [Bool.or_eq_true, decide_eq_true_eq] at h
  refine ⟨by omega, ?_⟩
  rintro rfl
  have e : (32 : UInt8).toNat = 32 := rfl
  rw [e] at h
  omega
theorem sc_name {s : ByteArray} (h : Sc.isName s = true) : Scans s.data.toList [(1, s.data.toList)] := by
  have hne := isName_ne h
  have hsm := Sc.isName_small h
  unfold Sc.isName at h
  split at h
  · cases h
  simp only [Bool.and_eq_true, decide_eq_true_eq] at h
  obtain ⟨⟨h1, h2⟩, h3⟩ := h
  have hl : Sc.lett (Sc.hd s) = true := by
    cases hq : Sc.lett (Sc.hd s) with
    | true => rfl
    | false =>
      unfold Sc.fK at h2
      rw [hq] at h2
      simp only [Bool.false_eq_true, if_false] at h2
      split at h2
      · cases h2
      · split at h2 <;> cases h2
  have hsp : Sc.spanN Sc.lord s.data.toList = s.data.toList.length := by
    unfold Sc.fN at h3
    rw [hl, if_pos rfl] at h3
    rw [h3]
    exact (Sc.data_len s).symm
  have hall : ∀ c ∈ s.data.toList, Sc.lord (c.toNat : Int) = true := by
    intro c hc
    have := hsp
    unfold Sc.spanN at this
    have e : (s.data.toList.takeWhile fun b => Sc.lord (b.toNat : Int)) = s.data.toList := (List.takeWhile_sublist _).eq_of_length this
    rw [← e] at hc
    exact mem_while _ _ c hc
  refine ⟨Pt.plain hne fun c hc => lord_low (hall c hc), fun t P S ht hg => Sc.Tks.letters ht hg hne hl hall hsm ?_⟩
  unfold Sc.fK at h2
  rw [hl, if_pos rfl] at h2
  have hx : s.extract 0 (Sc.fN s) = s := by rw [h3]; simp
  rw [hx] at h2
  unfold Sc.nameKind at h2
  have e2 : (⟨s.data.toList.toArray⟩ : ByteArray) = s := by apply ByteArray.ext; simp
  rw [e2]
  split at h2
  · rename_i h64
    rw [h3] at h64
    have := Sc.data_len s
    omega
  · exact h2
theorem sc_key {U : Bs} (hU : U ∈ ([Tt.kLet, Tt.kIn, Tt.kIf, Tt.kThen, Tt.kElse, Tt.kRec, Tt.kCase, Tt.kOf, Tt.kFst, Tt.kSnd, Tt.kInl, Tt.kInr, Tt.kTrue, Tt.kFalse] : List Bs)) : Scans U [(3, U)] := by
  have hf : U ≠ [] ∧ Sc.lett ((U.headD 0).toNat : Int) = true ∧ (∀ c ∈ U, Sc.lord (c.toNat : Int) = true) ∧ U.length ≤ 64 := by
    simp only [List.mem_cons, List.not_mem_nil, or_false] at hU
    rcases hU with rfl | rfl | rfl | rfl | rfl | rfl | rfl | rfl | rfl | rfl | rfl | rfl | rfl | rfl <;> decide
  refine ⟨Pt.plain hf.1 fun c hc => lord_low (hf.2.2.1 c hc), fun t P S ht hg => Sc.Tks.letters ht hg hf.1 hf.2.1 hf.2.2.1 hf.2.2.2 ?_⟩
  rw [if_pos]
  unfold Sc.isKey
  rw [Lib.toList_data]
  simp only [List.mem_cons, List.not_mem_nil, or_false] at hU
  rcases hU with rfl | rfl | rfl | rfl | rfl | rfl | rfl | rfl | rfl | rfl | rfl | rfl | rfl | rfl <;> decide
theorem sc_sig {c : UInt8} (hc : c ∈ ([40, 41, 42, 43, 44, 45, 46, 47, 58, 60, 61, 91, 92, 93, 123, 124, 125] : List UInt8)) : Scans [c] [(4, [c])] := by
  simp only [List.mem_cons, List.not_mem_nil, or_false] at hc
  refine ⟨Pt.plain (by simp) (fun d hd => by obtain rfl := List.mem_singleton.1 hd; rcases hc with rfl | rfl | rfl | rfl | rfl | rfl | rfl | rfl | rfl | rfl | rfl | rfl | rfl | rfl | rfl | rfl | rfl <;> decide), fun t P S ht hg => ?_⟩
  have hf : Sc.lett ((c.toNat : Nat) : Int) = false ∧ Sc.digi ((c.toNat : Nat) : Int) = false ∧ Sc.isSign ((c.toNat : Nat) : Int) = true ∧ Sc.blan ((c.toNat : Nat) : Int) = false ∧ ((c.toNat : Nat) : Int) ≠ 35 := by
    rcases hc with rfl | rfl | rfl | rfl | rfl | rfl | rfl | rfl | rfl | rfl | rfl | rfl | rfl | rfl | rfl | rfl | rfl <;> decide
  exact Sc.Tks.sig ht hg hf.1 hf.2.1 hf.2.2.1 hf.2.2.2.1 hf.2.2.2.2
theorem sc_num {n : Nat} (hn : n ≤ 9223372036854775807) : Scans (Lib.decDigits n) [(2, Lib.decDigits n)] := ⟨Pt.plain (decDigits_ne n) fun c hc => lord_low (by unfold Sc.lord; rw [(Sc.dec_all n).1 c hc]; simp), fun _ _ _ ht hg => Sc.Tks.num ht hg hn⟩
theorem sc_ty {k : Int} {f : Fo} (hc : Ty.chk k f = 0) : Scans (tyW k f) (wds 1 k f) :=
  ⟨pt_ty _ k f 1 (Nat.lt_succ_self _) (Ty.chk_ok hc).1, fun s P S ht hg => Sc.scan_txt s (Ty.nodes f + 1) k f 1 P S (Nat.lt_succ_self _) (Ty.chk_ok hc).1 ht hg.ends⟩
theorem sc_op {s : ByteArray} (h : Tm.isOp s = true) : Scans s.data.toList [(4, s.data.toList)] := by
  unfold Tm.isOp at h
  rw [Lib.toList_data] at h
  simp only [decide_eq_true_eq, List.mem_cons, List.not_mem_nil, or_false] at h
  rcases h with e | e | e | e | e | e <;> rw [e] <;> exact sc_sig (by decide)
theorem SW.pt {ws : List Bs} {ks : List Wk} (h : SW ws ks) : ws ≠ [] → Pt (join ws) := by
  induction h with
  | nil => intro e; exact absurd rfl e
  | @cons b ws ks r h g ih =>
    intro _
    cases ws with
    | nil => exact h.1
    | cons c ws => exact h.1.two (ih (by simp))
end Sh
end Go.Proofs.YtocehfklacjgbaaGreatDoor
namespace Go.Proofs.YtocehfklacjgbaaGreatDoor
namespace Sh
open Rd Tt
theorem SW.at {ws : List Bs} {wk : List Wk} (h : SW ws wk) (k s : Int) : SW (atW k (s, ws)) (atK k (s, wk)) := by
  unfold atW atK
  split
  · exact h
  · exact SW.cast (.cons (sc_sig (by decide)) (.app h (.cons (sc_sig (by decide)) .nil))) (by simp)
theorem sw_num {n : Int} (h0 : -9223372036854775808 < n) (h1 : n ≤ 9223372036854775807) : SW (numW n) (numK n) := by
  unfold numW numK
  split
  · exact SW.cast (.cons (sc_sig (by decide)) (.cons (sc_num (by omega)) .nil)) (by simp)
  · exact SW.cast (.cons (sc_num (by omega)) .nil) (by simp)
def KS (ks : List (Int × List Bs)) (ks' : List (Int × List Wk)) : Prop := ∀ i k, SW (kid ks i k) (kidK ks' i k)
theorem own_sw {h : Hd} {kids : Tm} (g : Good h kids) (kd : KS (kidsW kids) (kidsK kids)) : SW (own h kids) (wkT h kids) := by
  obtain ⟨hk, -, hT, hU, hB⟩ := g.head
  have hnm : Tm.nameOk h = true := by
    have h1 := g.ok
    unfold Tm.okT Tm.headOk at h1
    simp only [Bool.and_eq_true] at h1
    exact h1.1.1.1.2
  unfold KS at kd
  have hcase : h.kind = 0 ∨ h.kind = 1 ∨ h.kind = 2 ∨ h.kind = 3 ∨ h.kind = 4 ∨ h.kind = 5 ∨ h.kind = 6 ∨ h.kind = 7 ∨ h.kind = 8 ∨ h.kind = 9 ∨ h.kind = 10 ∨ h.kind = 11 ∨ h.kind = 12 ∨ h.kind = 13 ∨ h.kind = 14 ∨ h.kind = 15 ∨ h.kind = 16 := by omega
  have nmN : Tm.hasName h.kind = true → h.kind ≠ 15 → Scans h.name.data.toList [(1, h.name.data.toList)] := fun q e => by
    unfold Tm.nameOk at hnm
    rw [if_neg e, q] at hnm
    simp only [Bool.not_true, Bool.false_or, Bool.and_eq_true] at hnm
    exact sc_name hnm.1
  have nmA : Tm.hasArg h.kind = true → h.kind ≠ 15 → Scans h.arg.data.toList [(1, h.arg.data.toList)] := fun q e => by
    unfold Tm.nameOk at hnm
    rw [if_neg e, q] at hnm
    simp only [Bool.not_true, Bool.false_or, Bool.and_eq_true] at hnm
    exact sc_name hnm.2
  have nmO : h.kind = 15 → Scans h.name.data.toList [(4, h.name.data.toList)] := fun e => by
    unfold Tm.nameOk at hnm
    rw [if_pos e] at hnm
    exact sc_op hnm
  have tyT : Tm.hasType h.kind = true → Scans (tyW h.tk h.tkids) (wds 1 h.tk h.tkids) := fun q => sc_ty (hT q)
  have tyU : Tm.hasTo h.kind = true → Scans (tyW h.uk h.ukids) (wds 1 h.uk h.ukids) := fun q => sc_ty (hU q)
  unfold own wkT ownW ownK
  generalize kidsW kids = ks at *
  generalize kidsK kids = ks' at *
  rcases hcase with hq | hq | hq | hq | hq | hq | hq | hq | hq | hq | hq | hq | hq | hq | hq | hq | hq
  all_goals
    rw [hq] at nmN nmA nmO tyT tyU ⊢
    simp only [Int.reduceEq, if_false, if_true]
  case inr.inl => exact sw_num (hB hq).1 (hB hq).2
  all_goals
    apply SW.cast
    · repeat' first
        | exact kd _ _
        | exact SW.nil
        | apply SW.cons
        | apply SW.app
        | exact sc_sig (by decide)
        | exact sc_key (by decide)
        | exact nmN (by decide) (by decide)
        | exact nmA (by decide) (by decide)
        | exact nmO rfl
        | exact tyT (by decide)
        | exact tyU (by decide)
    · simp [kLet, kIn, kIf, kThen, kElse, kRec, kCase, kOf, kFst, kSnd, kInl, kInr, kTrue, kFalse]
theorem ks_all : ∀ f : Tm, GoodF f → KS (kidsW f) (kidsK f)
  | .nil, _ => fun i k => by
    show SW (atW k (([] : List (Int × List Bs)).getD i (0, []))) (atK k (([] : List (Int × List Wk)).getD i (0, [])))
    rw [List.getD_nil, List.getD_nil]
    exact SW.at .nil k 0
  | .node h kids r, g => fun i k => by
    cases i with
    | zero => exact SW.at (own_sw g.node.1 (ks_all kids g.node.1.kids)) k (st h)
    | succ i => exact ks_all r g.node.2 i k
theorem sw_stand {h : Hd} {kids : Tm} (g : Good h kids) (k : Int) : SW (stand k h kids) (wkS k h kids) := SW.at (own_sw g (ks_all kids g.kids)) k (st h)
/-- a told term's text, scanned -/
theorem scan_told {h : Hd} {kids : Tm} (g : Good h kids) (s : ByteArray) (hs : s.data.toList = join (stand (-1) h kids)) : (Sc.tk s 0).2 = none ∧ (Sc.tk s 0).1.map Sc.tx = wkS (-1) h kids := by
  obtain ⟨l, h1, h2⟩ := (sw_stand g (-1)).text (stand_ne _ _ _) s [] [] (by rw [hs]; simp) (.inl rfl)
  have he : s.size = (join (stand (-1) h kids)).length := by rw [← Sc.data_len, hs]
  have h2' : Sc.tk s 0 = (l ++ (Sc.tk s (0 + (join (stand (-1) h kids)).length)).1, (Sc.tk s (0 + (join (stand (-1) h kids)).length)).2) := h2
  rw [Sc.tk_end s (0 + (join (stand (-1) h kids)).length) (by omega)] at h2'
  rw [h2']
  exact ⟨rfl, by simpa using h1⟩
theorem sameT_nd {k k' : Int} {f f' : Fo} (h : Ty.sameT k f k' f' = true) : Ty.nod f = Ty.nod f' ∧ Ty.dpt f = Ty.dpt f' ∧ Ty.chk k f = 0 ∧ Ty.chk k' f' = 0 := by
  unfold Ty.sameT at h
  simp only [Bool.and_eq_true, beq_iff_eq] at h
  obtain ⟨⟨h1, h2⟩, h3⟩ := h
  unfold Ty.eqT at h3
  rw [Bool.and_eq_true] at h3
  obtain ⟨a1, a2, -, -⟩ := eqF_three f f' h3.2
  exact ⟨by unfold Ty.nod; rw [a1], by unfold Ty.dpt; rw [a1, a2], h1, h2⟩
theorem eqH_ty {h g : Hd} (e : Tm.eqH (Tm.cnt h) (Tm.cnt g) = true) : h.kind = g.kind ∧ Tm.tyN h = Tm.tyN g ∧ Tm.tyD h = Tm.tyD g := by
  unfold Tm.eqH Tm.cnt at e
  simp only [Bool.and_eq_true, beq_iff_eq] at e
  obtain ⟨hk, -, -, -, -, h1, h2⟩ := e
  rw [← hk] at h1 h2
  unfold Tm.tyN Tm.tyD
  rw [← hk]
  cases hT : Tm.hasType h.kind <;> cases hU : Tm.hasTo h.kind <;> simp only [hT, hU, if_true, if_false, Bool.false_eq_true] at h1 h2 ⊢
  · exact ⟨trivial, trivial, trivial⟩
  · have := sameT_nd h2
    exact ⟨trivial, by rw [this.1], by rw [this.2.1]⟩
  · have := sameT_nd h1
    exact ⟨trivial, by rw [this.1], by rw [this.2.1]⟩
  · have a := sameT_nd h1
    have b := sameT_nd h2
    exact ⟨trivial, by rw [a.1, b.1], by rw [a.2.1, b.2.1]⟩
theorem alF_nd : ∀ f f' : Tm, Tm.alF f f' = true → Tm.nodes f = Tm.nodes f' ∧ Tm.dep f = Tm.dep f'
  | .nil, .nil, _ => ⟨rfl, rfl⟩
  | .nil, .node _ _ _, h => by simp [Tm.alF] at h
  | .node _ _ _, .nil, h => by simp [Tm.alF] at h
  | .node h kids r, .node h' kids' r', e => by
    simp only [Tm.alF, Bool.and_eq_true] at e
    obtain ⟨⟨e1, e2⟩, e3⟩ := e
    obtain ⟨-, b1, b2⟩ := eqH_ty e1
    obtain ⟨c1, c2⟩ := alF_nd kids kids' e2
    obtain ⟨d1, d2⟩ := alF_nd r r' e3
    exact ⟨by simp only [Tm.nodes]; omega, by simp only [Tm.dep]; rw [b2, c2, d2]⟩
theorem alT_nd {h g : Hd} {kids u : Tm} (e : Tm.alT h kids g u = true) : Tm.nd h kids = Tm.nd g u ∧ Tm.dp h kids = Tm.dp g u := by
  unfold Tm.alT at e
  rw [Bool.and_eq_true] at e
  obtain ⟨-, b1, b2⟩ := eqH_ty e.1
  obtain ⟨c1, c2⟩ := alF_nd kids u e.2
  exact ⟨by unfold Tm.nd; omega, by unfold Tm.dp; rw [b2, c2]⟩
end Sh
end Go.Proofs.YtocehfklacjgbaaGreatDoor
namespace Go.Proofs.YtocehfklacjgbaaGreatDoor
namespace Sh
def hk0 (k : Int) : Hd := ⟨k, ⟨#[]⟩, ⟨#[]⟩, 0, 0, .nil, 0, .nil, 0, 0⟩
def vr (c : UInt8) : Hd := { hk0 0 with name := ⟨#[c]⟩ }
def nn (n : Int) : Hd := { hk0 1 with num := n }
def opp (c : UInt8) : Hd := { hk0 15 with name := ⟨#[c]⟩ }
/-- the terms, in order -/
def kt : Nat → Hd × Tm
  | 0 => (hk0 6, .node { hk0 4 with name := ⟨#[120]⟩, tk := 1 } (.node (vr 120) .nil .nil) (.node (nn 3) .nil .nil))
  | 1 => (opp 45, .node (opp 45) (.node (nn 1) .nil (.node (nn 2) .nil .nil)) (.node (nn 3) .nil .nil))
  | 2 => (opp 45, .node (nn 1) .nil (.node (opp 45) (.node (nn 2) .nil (.node (nn 3) .nil .nil)) .nil))
  | 3 => (hk0 10, .node (hk0 6) (.node (vr 102) .nil (.node (vr 120) .nil .nil)) .nil)
  | 4 => (hk0 6, .node (hk0 10) (.node (vr 102) .nil .nil) (.node (vr 120) .nil .nil))
  | 5 => (hk0 10, .node (nn (-5)) .nil .nil)
  | _ => ({ hk0 16 with tk := 0 }, .node { hk0 16 with tk := 1 } (.node (vr 120) .nil .nil) .nil)
/-- the texts, as they are given -/
def kx : Nat → ByteArray
  | 0 => ⟨#[40, 92, 120, 58, 105, 110, 116, 46, 120, 41, 40, 51, 41]⟩
  | 1 => ⟨#[49, 45, 50, 45, 51]⟩
  | 2 => ⟨#[49, 45, 40, 50, 45, 51, 41]⟩
  | 3 => ⟨#[102, 115, 116, 32, 102, 40, 120, 41]⟩
  | 4 => ⟨#[40, 102, 115, 116, 32, 102, 41, 40, 120, 41]⟩
  | 5 => ⟨#[102, 115, 116, 32, 45, 53]⟩
  | _ => ⟨#[40, 120, 58, 105, 110, 116, 41, 58, 63]⟩
/-- what they are told as -/
def kw : Nat → ByteArray
  | 0 => ⟨#[40, 32, 92, 32, 120, 32, 58, 32, 105, 110, 116, 32, 46, 32, 120, 32, 41, 32, 40, 32, 51, 32, 41]⟩
  | 1 => ⟨#[49, 32, 45, 32, 50, 32, 45, 32, 51]⟩
  | 2 => ⟨#[49, 32, 45, 32, 40, 32, 50, 32, 45, 32, 51, 32, 41]⟩
  | 3 => ⟨#[102, 115, 116, 32, 102, 32, 40, 32, 120, 32, 41]⟩
  | 4 => ⟨#[40, 32, 102, 115, 116, 32, 102, 32, 41, 32, 40, 32, 120, 32, 41]⟩
  | 5 => ⟨#[102, 115, 116, 32, 45, 32, 53]⟩
  | _ => ⟨#[120, 32, 58, 32, 105, 110, 116, 32, 58, 32, 63]⟩
/-- their words -/
def kws (i : Nat) : List Wk := if i < 6 then wkS (-1) (kt i).1 (kt i).2 else wkS 5 { hk0 16 with tk := 1 } (.node (vr 120) .nil .nil) ++ ([(4, [58])] ++ Rd.wds 1 0 .nil)
theorem known_at (i : Nat) (hi : i < 7) : (Sc.tk (kx i) 0).2 = none ∧ (Sc.tk (kx i) 0).1.map Sc.tx = kws i ∧ Tm.chk (kt i).1 (kt i).2 = 0 ∧ badT (kt i).1 (kt i).2 = false ∧ nuT (kt i).1 (kt i).2 = true ∧ (kx i).size ≤ 65536 ∧ txS (kt i).1 (kt i).2 = kw i ∧ txE (kt i).1 (kt i).2 = 0 := by
  have hc : i = 0 ∨ i = 1 ∨ i = 2 ∨ i = 3 ∨ i = 4 ∨ i = 5 ∨ i = 6 := by omega
  rcases hc with rfl | rfl | rfl | rfl | rfl | rfl | rfl
  all_goals exact ⟨by decide +kernel, by decide +kernel, by decide +kernel, by decide +kernel, by decide +kernel, by decide +kernel, by decide +kernel, by decide +kernel⟩
end Sh
end Go.Proofs.YtocehfklacjgbaaGreatDoor
