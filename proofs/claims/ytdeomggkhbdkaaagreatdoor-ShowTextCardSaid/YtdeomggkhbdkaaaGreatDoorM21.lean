/-
  show.unwritable, show.Text. The document's Text. Words are not empty; both texts are the same. A right term's words are not empty: both texts are the same. ShowText: the law's walk.
-/
import Derived.Test.YtdeomggkhbdkaaaGreatDoorM16
import Derived.Laws.EntriesVeiled
import Derived.Test.YtdeomggkhbdkaaaGreatDoorShR8
import Derived.Test.YtdeomggkhbdkaaaGreatDoorTmRight
namespace Go.Proofs.YtdeomggkhbdkaaaGreatDoor
open Go.RowKit

theorem cf_unw (args : Array Value) (W : World) : (callFunc 7 args).run Tryz.prog W = .ok (.enter 7 args) W := by simp [go_sem]
set_option maxHeartbeats 4000000 in
set_option maxRecDepth 100000 in
theorem unwr_any (K : Nat) : ∀ (h : Hd) (kids : Tm) (p : Pl) (w : World), Tm.nodes kids < K → Tm.Is w h kids p →
    Calls Tryz.prog 7 #[.agg #[.int .i8 h.kind, .string h.name, .string h.arg, .int .i64 h.num, .int .i8 h.tk, .slice p.TA p.tn p.tc, .int .i8 h.uk, .slice p.UA p.un p.uc, .int .i64 h.label, .int .i64 h.pos, .slice p.A p.n p.c]] w fun e w' => e = .returned (.bool (Sh.badT h kids)) ∧ Below w.heap.size w w' := by
  induction K with
  | zero => intro _ _ _ _ hK; omega
  | succ K ih =>
    intro h kids p w hK hIs
    have hB0 : Below w.heap.size w (w.alloc (.cells #[.int .i8 h.kind, .string h.name, .string h.arg, .int .i64 h.num, .int .i8 h.tk, .slice p.TA p.tn p.tc, .int .i8 h.uk, .slice p.UA p.un p.uc, .int .i64 h.label, .int .i64 h.pos, .slice p.A p.n p.c] 28)) := (Below.refl _ _).alloc (Nat.le_refl _) _
    have hI := hIs.below hB0
    have CC := Lib.hid (tm_contains_any 7 Sh.badT kids p.A p.n p.c _ hI.lies hI.fit.n_eq hI.fit.n_le hI.fit.c_le cf_unw (fun h1 k1 q W h2 h3 _ => ih h1 k1 q W (by omega) h3))
    rw [← Sh.bad_any] at CC
    obtain ⟨b0, hb0⟩ : ∃ b, (h.kind == 17) = b := ⟨_, rfl⟩
    obtain ⟨b1, hb1⟩ : ∃ b, (h.kind == 1) = b := ⟨_, rfl⟩
    obtain ⟨b2, hb2⟩ : ∃ b, (h.num == -9223372036854775808) = b := ⟨_, rfl⟩
    obtain ⟨R, hR⟩ : ∃ b, Sh.badF kids = b := ⟨_, rfl⟩
    have hres : Sh.badT h kids = ((b0 || (b1 && b2)) || R) := by unfold Sh.badT Sh.badH; rw [hb0, hb1, hb2, hR]
    rw [hres]
    rw [hR] at CC
    clear ih hIs hI hres hR
    cases b0 <;> cases b1 <;> cases b2
    all_goals
      go_enter Tryz.func7, Tryz.ntmps7
      go_wp2_with fail
      first
        | (go_ret
           exact ⟨rfl, hB0⟩)
        | (refine CC.out.mono ?_
           rintro e w2 ⟨rfl, hb⟩
           go_wp2_with fail
           go_ret
           exact ⟨rfl, hB0.trans (hb.mono hB0.size)⟩)

namespace Sh
/-- what Text tells -/
def outB (h : Hd) (kids : Tm) : Bs := puts [] (stand (-1) h kids)
def txE (h : Hd) (kids : Tm) : Int := if Tm.chk h kids ≠ 0 then Tm.chk h kids else if badT h kids = true then 30 else if 65536 < (outB h kids).length then 3 else 0
def txS (h : Hd) (kids : Tm) : ByteArray := if txE h kids = 0 then ⟨(outB h kids).toArray⟩ else ⟨#[]⟩
end Sh

theorem Sh.set_one13 {w : World} {Q : Nat} {y v : Value} {t : TypeId} (h : w.heap[Q]? = some (.cells #[y] t (0, 0))) : (w.setCell ⟨Q, 0, none⟩ v).heap[Q]? = some (.cells #[v] t (0, 0)) := by
  simp [World.setCell, Array.getElem?_modify, h]
theorem Sh.chk_good {h : Hd} {kids : Tm} (hc : Tm.chk h kids = 0) : Tm.okT h kids = true ∧ Tm.nd h kids ≤ 8192 := by
  unfold Tm.chk at hc
  split at hc
  · cases hc
  · rename_i h1
    split at hc
    · cases hc
    · split at hc
      · exact ⟨by assumption, by omega⟩
      · cases hc

set_option maxHeartbeats 4000000 in
set_option maxRecDepth 100000 in
theorem stext_any (h : Hd) (kids : Tm) (p : Pl) (w : World) (hIs : Tm.Is w h kids p) (hG : TGlob w) (ht : Tens w) (hnu : Sh.nuT h kids = true) :
    Calls Tryz.prog 4 #[.agg #[.int .i8 h.kind, .string h.name, .string h.arg, .int .i64 h.num, .int .i8 h.tk, .slice p.TA p.tn p.tc, .int .i8 h.uk, .slice p.UA p.un p.uc, .int .i64 h.label, .int .i64 h.pos, .slice p.A p.n p.c]] w fun e w' => e = .returned (.tuple #[.string (Sh.txS h kids), .int .i64 (Sh.txE h kids)]) ∧ Below w.heap.size w w' := by
  have hB0 : Below w.heap.size w (w.alloc (.cells #[.int .i8 h.kind, .string h.name, .string h.arg, .int .i64 h.num, .int .i8 h.tk, .slice p.TA p.tn p.tc, .int .i8 h.uk, .slice p.UA p.un p.uc, .int .i64 h.label, .int .i64 h.pos, .slice p.A p.n p.c] 28)) := (Below.refl _ _).alloc (Nat.le_refl _) _
  have HX := Lib.hid (heap_new w (.cells #[.int .i8 h.kind, .string h.name, .string h.arg, .int .i64 h.num, .int .i8 h.tk, .slice p.TA p.tn p.tc, .int .i8 h.uk, .slice p.UA p.un p.uc, .int .i64 h.label, .int .i64 h.pos, .slice p.A p.n p.c] 28))
  have CK := Lib.hid (fun (W : World) (hb : Below w.heap.size w W) => tcheck_any h kids p W (hIs.below hb) (hG.below hb))
  have CU := Lib.hid (fun (W : World) (hb : Below w.heap.size w W) => unwr_any (Tm.nodes kids + 1) h kids p W (Nat.lt_succ_self _) (hIs.below hb))
  have hlt := heap_lt HX.out
  by_cases h0 : Tm.chk h kids = 0
  · obtain ⟨hok, hnd⟩ := Sh.chk_good h0
    rw [h0] at CK
    cases hbd : Sh.badT h kids
    · rw [hbd] at CU
      have g : Sh.Good h kids := ⟨hok, hbd, hnu⟩
      have CS := Lib.hid (fun (b : Nat) => sstand_any b w hG.types ht (Tm.nodes kids + 1) h kids p (Nat.lt_succ_self _) hIs g)
      have hbd2 := Sh.stand_bound g hnd (-1)
      obtain ⟨T, hT⟩ : ∃ T, Sh.outB h kids = T := ⟨_, rfl⟩
      have hE : Sh.txE h kids = if 65536 < T.length then 3 else 0 := by unfold Sh.txE; rw [if_neg (by simp [h0]), if_neg (by simp [hbd]), hT]
      have hS : Sh.txS h kids = if 65536 < T.length then ⟨#[]⟩ else ⟨T.toArray⟩ := by
        unfold Sh.txS; rw [hE, hT]
        split
        · rw [if_neg (by decide)]
        · rw [if_pos rfl]
      have HTL := Lib.hid (show T.length ≤ 100000000 by rw [← hT]; unfold Sh.outB; have := Sh.puts_len (Sh.stand (-1) h kids) []; simp at this; omega)
      rw [hE, hS]
      obtain ⟨X, hX⟩ : ∃ X : ByteArray, (if 65536 < T.length then ⟨#[]⟩ else ⟨T.toArray⟩) = X := ⟨_, rfl⟩
      obtain ⟨C, hC0⟩ : ∃ C : Int, (if 65536 < T.length then 3 else 0) = C := ⟨_, rfl⟩
      rw [hX, hC0]
      have HX2 := Lib.hid hX
      have HC2 := Lib.hid hC0
      clear hX hC0
      unfold Sh.outB at hT
      have HBD := Lib.hid hbd2
      clear hIs hG ht hnu hok g hnd h0 hbd hE hS hbd2
      have HT := Lib.hid hT
      clear hT
      go_enter Tryz.func4, Tryz.ntmps4
      go_wp2_with fail
      refine (CK.out _ hB0).mono ?_
      rintro e w3 ⟨rfl, hb3⟩
      have hB3 := hB0.trans (hb3.mono hB0.size)
      have R3 := Lib.hid (heap_below hb3 hlt HX.out)
      clear hb3
      obtain ⟨b0, b1, b2, b3, b4, b5, b6, b7, b8, b9, b10, hlt3⟩ := own11 R3.out
      go_wp2_with fail
      refine (CU.out _ hB3).mono ?_
      rintro e w4 ⟨rfl, hb4⟩
      have hB4 := hB3.trans (hb4.mono hB3.size)
      have R4 := Lib.hid (heap_below hb4 hlt3 R3.out)
      clear hb4 b0 b1 b2 b3 b4 b5 b6 b7 b8 b9 b10
      obtain ⟨b0, b1, b2, b3, b4, b5, b6, b7, b8, b9, b10, hlt4⟩ := own11 R4.out
      go_wp2_with fail
      obtain ⟨W5, hW5⟩ : ∃ W5, W5 = ((w4.alloc (.cells #[.pointer none, .slice none 0 0] 37)).alloc (.cells #[.func (Fn.func 8) #[] #[.pointer (some ⟨w4.heap.size, 0, none⟩)]] 46)) := ⟨_, rfl⟩
      rw [← hW5]
      have hC := hB4.size
      have hb5 : Below (w4.heap.size + 1) (w4.alloc (.cells #[.pointer none, .slice none 0 0] 37)) W5 := by
        rw [hW5]
        exact (Below.refl _ _).alloc (by simp) _
      have hB5 : Below w.heap.size w W5 := (hB4.alloc hC _).trans (hb5.mono (by omega))
      have HBl := Lib.hid (show Bld w.heap.size w4.heap.size [] W5 by
        have := Lib.IsBuilderF.of (Lib.fresh_isBuilder 37 5 w4)
        exact Bld.low (bld_low this hC) (hb5.mono (by simp)))
      clear b0 b1 b2 b3 b4 b5 b6 b7 b8 b9 b10 hW5 hb5
      refine (CS.out w4.heap.size (-1) [] W5 hB5 hB5.size HBl.out (by have := HBD.out; simp; omega)).mono ?_
      rintro e w6 ⟨rfl, hbl, hw⟩
      have hB6 := hB5.trans hw.below
      rw [HT.out] at hbl
      have HL := Lib.hid (blen_any w.heap.size w4.heap.size T w6 hbl)
      have HBl2 := Lib.hid hbl
      clear hbl hw HBl CK CU CS HX R3 R4
      go_wp2_with fail
      refine HL.out.mono ?_
      rintro e w7 ⟨rfl, hw7⟩
      rw [hw7]
      clear HL
      by_cases h65 : 65536 < T.length
      · have hX := HX2.out
        have hC0 := HC2.out
        rw [if_pos h65] at hX hC0
        subst hX hC0
        have hd : decide ((T.length : Int) > 65536) = true := by rw [decide_eq_true_eq]; omega
        go_wp2_with fail
        go_ret2
        exact ⟨rfl, hB6⟩
      · have hX := HX2.out
        have hC0 := HC2.out
        rw [if_neg h65] at hX hC0
        subst hX hC0
        have hd : decide ((T.length : Int) > 65536) = false := by rw [decide_eq_false_iff_not]; omega
        go_wp2_with fail
        refine (Tryz.Builder_String_any_k w.heap.size _ T _ HBl2.out hB6.size).mono ?_
        rintro e w8 ⟨rfl, -, hb8, -⟩
        go_wp2_with fail
        go_ret2
        exact ⟨rfl, hB6.trans hb8⟩
    · rw [hbd] at CU
      have hE : Sh.txE h kids = 30 := by unfold Sh.txE; rw [if_neg (by simp [h0]), if_pos hbd]
      have hS : Sh.txS h kids = ⟨#[]⟩ := by unfold Sh.txS; rw [hE, if_neg (by decide)]
      rw [hE, hS]
      clear hIs hG ht hnu hok hnd h0 hbd hE hS
      go_enter Tryz.func4, Tryz.ntmps4
      go_wp2_with fail
      refine (CK.out _ hB0).mono ?_
      rintro e w3 ⟨rfl, hb3⟩
      have hB3 := hB0.trans (hb3.mono hB0.size)
      have R3 := Lib.hid (heap_below hb3 hlt HX.out)
      clear hb3
      obtain ⟨b0, b1, b2, b3, b4, b5, b6, b7, b8, b9, b10, hlt3⟩ := own11 R3.out
      go_wp2_with fail
      refine (CU.out _ hB3).mono ?_
      rintro e w4 ⟨rfl, hb4⟩
      go_wp2_with fail
      go_ret2
      exact ⟨rfl, hB3.trans (hb4.mono hB3.size)⟩
  · have hE : Sh.txE h kids = Tm.chk h kids := by unfold Sh.txE; rw [if_pos h0]
    have hS : Sh.txS h kids = ⟨#[]⟩ := by unfold Sh.txS; rw [hE, if_neg (by omega)]
    have hc : (((Tm.chk h kids : Nat) : Int) != 0) = true := by simp; omega
    rw [hE, hS]
    generalize Tm.chk h kids = C at *
    clear hIs hG ht hnu h0 hE hS
    go_enter Tryz.func4, Tryz.ntmps4
    go_wp2_with fail
    refine (CK.out _ hB0).mono ?_
    rintro e w3 ⟨rfl, hb3⟩
    go_wp2_with fail
    go_ret2
    exact ⟨rfl, hB0.trans (hb3.mono hB0.size)⟩
end Go.Proofs.YtdeomggkhbdkaaaGreatDoor
namespace Go.Proofs.YtdeomggkhbdkaaaGreatDoor
open Go.RowKit
namespace Sh
def rxE (h : Hd) (kids : Tm) : Int := if Tm.chk h kids ≠ 0 then Tm.chk h kids else if badT h kids = true then 30 else if 65536 < (jn (stand (-1) h kids)).size then 3 else 0
def rxS (h : Hd) (kids : Tm) : ByteArray := if rxE h kids = 0 then jn (stand (-1) h kids) else ⟨#[]⟩
end Sh
set_option maxHeartbeats 4000000 in
set_option maxRecDepth 100000 in
theorem rText_any (h : Hd) (kids : Tm) (p : Pl) (w : World) (hIs : Tm.Is w h kids p) (hnu : Sh.nuT h kids = true) :
    Calls Tryz.prog 5 #[.agg #[.int .i8 h.kind, .string h.name, .string h.arg, .int .i64 h.num, .int .i8 h.tk, .slice p.TA p.tn p.tc, .int .i8 h.uk, .slice p.UA p.un p.uc, .int .i64 h.label, .int .i64 h.pos, .slice p.A p.n p.c]] w fun e w' => e = .returned (.tuple #[.string (Sh.rxS h kids), .int .i64 (Sh.rxE h kids)]) ∧ Below w.heap.size w w' := by
  have hB0 : Below w.heap.size w (w.alloc (.cells #[.int .i8 h.kind, .string h.name, .string h.arg, .int .i64 h.num, .int .i8 h.tk, .slice p.TA p.tn p.tc, .int .i8 h.uk, .slice p.UA p.un p.uc, .int .i64 h.label, .int .i64 h.pos, .slice p.A p.n p.c] 28)) := (Below.refl _ _).alloc (Nat.le_refl _) _
  have HX := Lib.hid (heap_new w (.cells #[.int .i8 h.kind, .string h.name, .string h.arg, .int .i64 h.num, .int .i8 h.tk, .slice p.TA p.tn p.tc, .int .i8 h.uk, .slice p.UA p.un p.uc, .int .i64 h.label, .int .i64 h.pos, .slice p.A p.n p.c] 28))
  have hlt := heap_lt HX.out
  have CK := Lib.hid (fun (W : World) (hb : Below w.heap.size w W) => tref_check h kids p W (hIs.below hb))
  have CH := Lib.hid (fun (W : World) (hb : Below w.heap.size w W) => rhas_any (Tm.nodes kids + 1) h kids p W (Nat.lt_succ_self _) (hIs.below hb))
  have CL := Lib.hid (fun (W : World) (hb : Below w.heap.size w W) => rleast_any (Tm.nodes kids + 1) h kids p W (Nat.lt_succ_self _) (hIs.below hb))
  by_cases h0 : Tm.chk h kids = 0
  · obtain ⟨hok, hnd⟩ := Sh.chk_good h0
    rw [h0] at CK
    have hbs := Sh.bad_s h kids
    cases hhc : Sh.hcT h kids
    · cases hls : Sh.lsT h kids
      · rw [hhc] at CH
        rw [hls] at CL
        have hbd : Sh.badT h kids = false := by rw [hbs, hhc, hls]; rfl
        have g : Sh.Good h kids := ⟨hok, hbd, hnu⟩
        have CA := Lib.hid (fun (W : World) (hb : Below w.heap.size w W) => rat_any h kids p W g.head.1 (fun W2 hb2 => rwords_any (Tm.nodes kids + 1) h kids p W2 (Nat.lt_succ_self _) hnd (hIs.below (hb.trans (hb2.mono hb.size))) g) (-1) (by have h1 := Sh.jn_size (Sh.own h kids); have h2 := Sh.own_bound g hnd; omega))
        have hsz : (Sh.jn (Sh.stand (-1) h kids)).size ≤ 100000000 := by have h1 := Sh.jn_size (Sh.stand (-1) h kids); have h2 := Sh.stand_bound g hnd (-1); omega
        have hE : Sh.rxE h kids = if 65536 < (Sh.jn (Sh.stand (-1) h kids)).size then 3 else 0 := by unfold Sh.rxE; rw [if_neg (by simp [h0]), if_neg (by simp [hbd])]
        have hS : Sh.rxS h kids = if 65536 < (Sh.jn (Sh.stand (-1) h kids)).size then ⟨#[]⟩ else Sh.jn (Sh.stand (-1) h kids) := by
          unfold Sh.rxS; rw [hE]
          split
          · rw [if_neg (by decide)]
          · rw [if_pos rfl]
        rw [hE, hS]
        generalize Sh.jn (Sh.stand (-1) h kids) = S at *
        clear hIs hnu hok g hnd h0 hbd hE hS hbs hhc hls
        by_cases h65 : 65536 < S.size
        all_goals
          first | rw [if_pos h65, if_pos h65] | rw [if_neg h65, if_neg h65]
          first | (have hd : decide ((S.size : Int) > 65536) = true := by rw [decide_eq_true_eq]; omega) | (have hd : decide ((S.size : Int) > 65536) = false := by rw [decide_eq_false_iff_not]; omega)
          clear h65
          go_enter Tryz.func5, Tryz.ntmps5
          go_wp2_with fail
          refine (CK.out _ hB0).mono ?_
          rintro e w3 ⟨rfl, hb3⟩
          have hB3 := hB0.trans (hb3.mono hB0.size)
          have R3 := Lib.hid (heap_below hb3 hlt HX.out)
          obtain ⟨b0, b1, b2, b3, b4, b5, b6, b7, b8, b9, b10, hlt3⟩ := own11 R3.out
          clear hb3
          go_wp2_with fail
          refine (CH.out _ hB3).mono ?_
          rintro e w4 ⟨rfl, hb4⟩
          have hB4 := hB3.trans (hb4.mono hB3.size)
          have R4 := Lib.hid (heap_below hb4 hlt3 R3.out)
          clear hb4 b0 b1 b2 b3 b4 b5 b6 b7 b8 b9 b10
          obtain ⟨b0, b1, b2, b3, b4, b5, b6, b7, b8, b9, b10, hlt4⟩ := own11 R4.out
          go_wp2_with fail
          refine (CL.out _ hB4).mono ?_
          rintro e w5 ⟨rfl, hb5⟩
          have hB5 := hB4.trans (hb5.mono hB4.size)
          have R5 := Lib.hid (heap_below hb5 hlt4 R4.out)
          clear hb5 b0 b1 b2 b3 b4 b5 b6 b7 b8 b9 b10
          obtain ⟨b0, b1, b2, b3, b4, b5, b6, b7, b8, b9, b10, hlt5⟩ := own11 R5.out
          go_wp2_with fail
          refine (CA.out _ hB5).mono ?_
          rintro e w6 ⟨rfl, hb6⟩
          clear b0 b1 b2 b3 b4 b5 b6 b7 b8 b9 b10
          go_wp2_with fail
          go_ret2
          exact ⟨rfl, hB5.trans (hb6.mono hB5.size)⟩
      · rw [hhc] at CH
        rw [hls] at CL
        have hbd : Sh.badT h kids = true := by rw [hbs, hhc, hls]; rfl
        have hE : Sh.rxE h kids = 30 := by unfold Sh.rxE; rw [if_neg (by simp [h0]), if_pos hbd]
        have hS : Sh.rxS h kids = ⟨#[]⟩ := by unfold Sh.rxS; rw [hE, if_neg (by decide)]
        rw [hE, hS]
        clear hIs hnu hok hnd h0 hbd hE hS hbs hhc hls
        go_enter Tryz.func5, Tryz.ntmps5
        go_wp2_with fail
        refine (CK.out _ hB0).mono ?_
        rintro e w3 ⟨rfl, hb3⟩
        have hB3 := hB0.trans (hb3.mono hB0.size)
        have R3 := Lib.hid (heap_below hb3 hlt HX.out)
        obtain ⟨b0, b1, b2, b3, b4, b5, b6, b7, b8, b9, b10, hlt3⟩ := own11 R3.out
        clear hb3
        go_wp2_with fail
        refine (CH.out _ hB3).mono ?_
        rintro e w4 ⟨rfl, hb4⟩
        have hB4 := hB3.trans (hb4.mono hB3.size)
        have R4 := Lib.hid (heap_below hb4 hlt3 R3.out)
        clear hb4 b0 b1 b2 b3 b4 b5 b6 b7 b8 b9 b10
        obtain ⟨b0, b1, b2, b3, b4, b5, b6, b7, b8, b9, b10, hlt4⟩ := own11 R4.out
        go_wp2_with fail
        refine (CL.out _ hB4).mono ?_
        rintro e w5 ⟨rfl, hb5⟩
        clear b0 b1 b2 b3 b4 b5 b6 b7 b8 b9 b10
        go_wp2_with fail
        go_ret2
        exact ⟨rfl, hB4.trans (hb5.mono hB4.size)⟩
    · rw [hhc] at CH
      have hbd : Sh.badT h kids = true := by rw [hbs, hhc]; rfl
      have hE : Sh.rxE h kids = 30 := by unfold Sh.rxE; rw [if_neg (by simp [h0]), if_pos hbd]
      have hS : Sh.rxS h kids = ⟨#[]⟩ := by unfold Sh.rxS; rw [hE, if_neg (by decide)]
      rw [hE, hS]
      clear hIs hnu hok hnd h0 hbd hE hS hbs hhc CL
      go_enter Tryz.func5, Tryz.ntmps5
      go_wp2_with fail
      refine (CK.out _ hB0).mono ?_
      rintro e w3 ⟨rfl, hb3⟩
      have hB3 := hB0.trans (hb3.mono hB0.size)
      have R3 := Lib.hid (heap_below hb3 hlt HX.out)
      obtain ⟨b0, b1, b2, b3, b4, b5, b6, b7, b8, b9, b10, hlt3⟩ := own11 R3.out
      clear hb3
      go_wp2_with fail
      refine (CH.out _ hB3).mono ?_
      rintro e w4 ⟨rfl, hb4⟩
      clear b0 b1 b2 b3 b4 b5 b6 b7 b8 b9 b10
      go_wp2_with fail
      go_ret2
      exact ⟨rfl, hB3.trans (hb4.mono hB3.size)⟩
  · have hE : Sh.rxE h kids = Tm.chk h kids := by unfold Sh.rxE; rw [if_pos h0]
    have hS : Sh.rxS h kids = ⟨#[]⟩ := by unfold Sh.rxS; rw [hE, if_neg (by omega)]
    have hc : (((Tm.chk h kids : Nat) : Int) != 0) = true := by simp; omega
    rw [hE, hS]
    generalize Tm.chk h kids = C at *
    clear hIs hnu h0 hE hS CH CL
    go_enter Tryz.func5, Tryz.ntmps5
    go_wp2_with fail
    refine (CK.out _ hB0).mono ?_
    rintro e w3 ⟨rfl, hb3⟩
    go_wp2_with fail
    go_ret2
    exact ⟨rfl, hB0.trans (hb3.mono hB0.size)⟩
end Go.Proofs.YtdeomggkhbdkaaaGreatDoor
namespace Go.Proofs.YtdeomggkhbdkaaaGreatDoor
open Go.RowKit
namespace Sh
def NE (ws : List Bs) : Prop := ∀ w ∈ ws, w ≠ []
theorem NE.app {a b : List Bs} (ha : NE a) (hb : NE b) : NE (a ++ b) := fun w hw => (List.mem_append.1 hw).elim (ha w) (hb w)
theorem NE.cons {a : Bs} {b : List Bs} (ha : a ≠ []) (hb : NE b) : NE (a :: b) := fun w hw => (List.mem_cons.1 hw).elim (fun e => e ▸ ha) (hb w)
theorem NE.nil : NE [] := fun _ h => by cases h
theorem NE.at {x : Int × List Bs} (h : NE x.2) (k : Int) : NE (atW k x) := by
  unfold atW
  split
  · exact h
  · exact .cons (by decide) (.app h (.cons (by decide) .nil))
theorem NE.kid {ks : List (Int × List Bs)} (h : ∀ x ∈ ks, NE x.2) (i : Nat) (k : Int) : NE (Sh.kid ks i k) := by
  unfold Sh.kid
  refine NE.at ?_ k
  rw [List.getD_eq_getElem?_getD]
  cases hi : ks[i]? with
  | none => exact NE.nil
  | some x => exact h x (List.mem_of_getElem? hi)
theorem NE.num (n : Int) : NE (numW n) := by
  unfold numW
  split
  · exact .cons (by decide) (.cons (decDigits_ne _) .nil)
  · exact .cons (decDigits_ne _) .nil
theorem ownW_words (h : Hd) (ks : List (Int × List Bs)) (hk : 0 ≤ h.kind ∧ h.kind ≤ 16) (hN : Tm.hasName h.kind = true → h.name.data.toList ≠ []) (hA : Tm.hasArg h.kind = true → h.arg.data.toList ≠ [])
    (hT : Tm.hasType h.kind = true → tyW h.tk h.tkids ≠ []) (hU : Tm.hasTo h.kind = true → tyW h.uk h.ukids ≠ []) (hks : ∀ x ∈ ks, NE x.2) : NE (ownW h ks) := by
  have kd := NE.kid hks
  have nm := NE.num h.num
  have hcase : h.kind = 0 ∨ h.kind = 1 ∨ h.kind = 2 ∨ h.kind = 3 ∨ h.kind = 4 ∨ h.kind = 5 ∨ h.kind = 6 ∨ h.kind = 7 ∨ h.kind = 8 ∨ h.kind = 9 ∨ h.kind = 10 ∨ h.kind = 11 ∨ h.kind = 12 ∨ h.kind = 13 ∨ h.kind = 14 ∨ h.kind = 15 ∨ h.kind = 16 := by omega
  unfold ownW
  rcases hcase with hq | hq | hq | hq | hq | hq | hq | hq | hq | hq | hq | hq | hq | hq | hq | hq | hq
  all_goals
    rw [hq] at hN hA hT hU ⊢
    simp only [Int.reduceEq, if_false, if_true]
    repeat' first
      | exact nm
      | exact kd _ _
      | exact NE.nil
      | exact hN rfl
      | exact hA rfl
      | exact hT rfl
      | exact hU rfl
      | decide
      | apply NE.app
      | apply NE.cons
end Sh
end Go.Proofs.YtdeomggkhbdkaaaGreatDoor
namespace Go.Proofs.YtdeomggkhbdkaaaGreatDoor
open Go.RowKit
namespace Sh
theorem tyW_ne {k : Int} {f : Fo} (hc : Ty.chk k f = 0) : tyW k f ≠ [] := by
  have hok := (Ty.chk_ok hc).1
  have hr := Ty.okT_range hok
  unfold tyW
  by_cases hl : k = 3 ∨ k = 4 ∨ k = 5
  · obtain ⟨a, b, k1, f1, a', b', k2, f2, rfl, _, _⟩ := okT_pair hok hl
    unfold Ty.txt Ty.txtOne
    rw [if_neg (by omega), Ty.txt_two]
    split <;> simp
  · have hl2 : k = 0 ∨ k = 1 ∨ k = 2 := by omega
    unfold Ty.txt Ty.txtOne
    rw [if_pos (by omega)]
    rcases hl2 with rfl | rfl | rfl <;> decide
theorem isName_ne {s : ByteArray} (h : Sc.isName s = true) : s.data.toList ≠ [] := by
  unfold Sc.isName at h
  split at h
  · cases h
  · rename_i h0
    intro e
    apply h0
    show s.data.toList.length = 0
    rw [e]; rfl
theorem isOp_ne {s : ByteArray} (h : Tm.isOp s = true) : s.data.toList ≠ [] := by
  rw [Tm.isOp_iff] at h
  rw [Lib.toList_data] at h
  simp only [Bool.or_eq_true, beq_iff_eq] at h
  rcases h with ((((h | h) | h) | h) | h) | h <;> rw [h] <;> decide
theorem Good.names {h : Hd} {kids : Tm} (g : Good h kids) : (Tm.hasName h.kind = true → h.name.data.toList ≠ []) ∧ (Tm.hasArg h.kind = true → h.arg.data.toList ≠ []) := by
  have hnm : Tm.nameOk h = true := by
    have h1 := g.ok
    unfold Tm.okT Tm.headOk at h1
    simp only [Bool.and_eq_true] at h1
    exact h1.1.1.1.2
  refine ⟨fun q => ?_, fun q => ?_⟩
  · unfold Tm.nameOk at hnm
    split at hnm
    · exact isOp_ne hnm
    · simp only [q, Bool.not_true, Bool.false_or, Bool.and_eq_true] at hnm
      exact isName_ne hnm.1
  · unfold Tm.nameOk at hnm
    split at hnm
    · rename_i h15
      rw [h15] at q
      exact absurd q (by decide)
    · simp only [q, Bool.not_true, Bool.false_or, Bool.and_eq_true] at hnm
      exact isName_ne hnm.2
theorem Good.ownNE {h : Hd} {kids : Tm} (g : Good h kids) (hks : ∀ x ∈ kidsW kids, NE x.2) : NE (own h kids) :=
  ownW_words h (kidsW kids) g.head.1 g.names.1 g.names.2 (fun q => tyW_ne (g.head.2.2.1 q)) (fun q => tyW_ne (g.head.2.2.2.1 q)) hks
theorem kidsNE : ∀ f : Tm, GoodF f → ∀ x ∈ kidsW f, NE x.2
  | .nil, _ => fun x hx => by cases hx
  | .node h kids r, g => fun x hx => by
    simp only [kidsW] at hx
    rcases List.mem_cons.1 hx with rfl | hx
    · exact Good.ownNE g.node.1 (kidsNE kids g.node.1.kids)
    · exact kidsNE r g.node.2 x hx
theorem out_jn {h : Hd} {kids : Tm} (g : Good h kids) : (⟨(outB h kids).toArray⟩ : ByteArray) = jn (stand (-1) h kids) ∧ (outB h kids).length = (jn (stand (-1) h kids)).size := by
  have hn : NE (stand (-1) h kids) := NE.at (x := (st h, own h kids)) (g.ownNE (kidsNE kids g.kids)) (-1)
  have e : outB h kids = join (stand (-1) h kids) := by
    unfold outB
    rw [puts_join _ _ (stand_ne _ _ _) hn, if_pos rfl]
  unfold jn
  rw [e]
  exact ⟨rfl, rfl⟩
theorem tx_rx {h : Hd} {kids : Tm} (hnu : nuT h kids = true) : txS h kids = rxS h kids ∧ txE h kids = rxE h kids := by
  unfold txS rxS txE rxE
  by_cases h0 : Tm.chk h kids = 0
  · cases hb : badT h kids
    · have g : Good h kids := ⟨(chk_good h0).1, hb, hnu⟩
      rw [(out_jn g).1, (out_jn g).2]
      exact ⟨rfl, rfl⟩
    · simp [h0]
  · simp [h0]
end Sh
end Go.Proofs.YtdeomggkhbdkaaaGreatDoor
namespace Go.Proofs.YtdeomggkhbdkaaaGreatDoor
open Go.RowKit

set_option maxHeartbeats 4000000 in
set_option maxRecDepth 100000 in
theorem law_ShowText (h : Hd) (kids : Tm) (p : Pl) (w : World) (hIs : Tm.Is w h kids p) (hG : TGlob w) (ht : Tens w) (hnu : Sh.nuT h kids = true) :
    Calls Tryz.prog 3 #[.agg #[.int .i8 h.kind, .string h.name, .string h.arg, .int .i64 h.num, .int .i8 h.tk, .slice p.TA p.tn p.tc, .int .i8 h.uk, .slice p.UA p.un p.uc, .int .i64 h.label, .int .i64 h.pos, .slice p.A p.n p.c]] w fun e w' => e = .returned (.bool true) ∧ Below w.heap.size w w' := by
  have hB0 : Below w.heap.size w (w.alloc (.cells #[.int .i8 h.kind, .string h.name, .string h.arg, .int .i64 h.num, .int .i8 h.tk, .slice p.TA p.tn p.tc, .int .i8 h.uk, .slice p.UA p.un p.uc, .int .i64 h.label, .int .i64 h.pos, .slice p.A p.n p.c] 28)) := (Below.refl _ _).alloc (Nat.le_refl _) _
  have HX := Lib.hid (heap_new w (.cells #[.int .i8 h.kind, .string h.name, .string h.arg, .int .i64 h.num, .int .i8 h.tk, .slice p.TA p.tn p.tc, .int .i8 h.uk, .slice p.UA p.un p.uc, .int .i64 h.label, .int .i64 h.pos, .slice p.A p.n p.c] 28))
  have hlt := heap_lt HX.out
  have C1 := Lib.hid (stext_any h kids p _ (hIs.below hB0) (hG.below hB0) (ht.below hB0) hnu)
  have C2 := Lib.hid (fun (W : World) (hb : Below w.heap.size w W) => rText_any h kids p W (hIs.below hb) hnu)
  have e1 := (Sh.tx_rx hnu (h := h) (kids := kids)).1
  have e2 := (Sh.tx_rx hnu (h := h) (kids := kids)).2
  rw [e1, e2] at C1
  clear hIs hG ht hnu e1 e2
  generalize Sh.rxS h kids = S at *
  generalize Sh.rxE h kids = E at *
  go_enter Tryz.func3, Tryz.ntmps3
  go_wp2_with fail
  refine C1.out.mono ?_
  rintro e w3 ⟨rfl, hb3⟩
  have hB3 := hB0.trans (hb3.mono hB0.size)
  have R3 := Lib.hid (heap_below hb3 hlt HX.out)
  obtain ⟨b0, b1, b2, b3, b4, b5, b6, b7, b8, b9, b10, hlt3⟩ := own11 R3.out
  clear hb3
  go_wp2_with fail
  refine (C2.out _ hB3).mono ?_
  rintro e w4 ⟨rfl, hb4⟩
  clear b0 b1 b2 b3 b4 b5 b6 b7 b8 b9 b10
  go_wp2_with fail
  go_ret
  exact ⟨rfl, hB3.trans (hb4.mono hB3.size)⟩
end Go.Proofs.YtdeomggkhbdkaaaGreatDoor
