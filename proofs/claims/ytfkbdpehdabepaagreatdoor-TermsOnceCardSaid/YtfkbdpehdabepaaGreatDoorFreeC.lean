/-
  terms.binds; the search's enter and leave. The search's through. terms.Free.
-/
import Derived.Test.YtfkbdpehdabepaaGreatDoorFree0
import Derived.Test.YtfkbdpehdabepaaGreatDoorMeasure
import Derived.Test.YtfkbdpehdabepaaGreatDoorTmFn
import Derived.Maps.OwnOps
import Derived.Maps.OwnSet
import Derived.Laws.NewBlocks
import Derived.Test.YtfkbdpehdabepaaGreatDoorWord
import Derived.Test.YtfkbdpehdabepaaGreatDoorTmCont
import Derived.Deep.RegionLaw
import Derived.Deep.RegionWith
import Derived.Deep.LoopGhost
import Derived.Outline
import Derived.Test.YtfkbdpehdabepaaGreatDoorIter
import Derived.Sort.EncStr
namespace Go.Proofs.YtfkbdpehdabepaaGreatDoor
open Go.RowKit Go.Maps

namespace Tm
/-- the names that a term binds in its kid of that number, as they stand there -/
def bindsB (h : Hd) (i : Nat) : List ByteArray :=
  if h.kind = 4 ∨ h.kind = 7 ∧ i = 1 ∨ h.kind = 14 ∧ i = 1 then [h.name] else if h.kind = 14 ∧ i = 2 then [h.arg] else if h.kind = 5 then [h.name, h.arg] else []
theorem bindsB_map (h : Hd) (i : Nat) : (bindsB h i).map nm = binds h i := by
  unfold bindsB binds; split
  · rfl
  · split
    · rfl
    · split <;> rfl
theorem bindsB_len (h : Hd) (i : Nat) : (bindsB h i).length ≤ 2 := by
  have := binds_len h i; rw [← bindsB_map, List.length_map] at this; exact this
end Tm
/-- a slice of these strings -/
def NRow (w : World) (A : Option Addr) (l : List ByteArray) : Prop := ∀ j s, l[j]? = some s → ∃ g o, A = some ⟨g, o, none⟩ ∧ w.cell? ⟨g, o + j, none⟩ = some (.string s)
theorem NRow.below {w w' : World} {A : Option Addr} {l : List ByteArray} (h : NRow w A l) (hb : Below w.heap.size w w') : NRow w' A l := fun j s hj => by
  obtain ⟨g, o, e, hc⟩ := h j s hj
  exact ⟨g, o, e, by rw [hb.cell (p := ⟨g, o + j, none⟩) (Ty.cell_lt hc)]; exact hc⟩
theorem nrow_nil (w : World) (A : Option Addr) : NRow w A [] := fun j s hj => by cases j <;> cases hj
theorem nrow_one (w : World) (s : ByteArray) (t : TypeId) : NRow (w.alloc (.cells #[.string s] t)) (some ⟨w.heap.size, 0, none⟩) [s] := fun j x hj => by
  match j, hj with
  | 0, hj => cases hj; exact ⟨_, _, rfl, (own1 (heap_new w _)).1⟩
theorem nrow_two (w : World) (s r : ByteArray) (t : TypeId) : NRow (w.alloc (.cells #[.string s, .string r] t)) (some ⟨w.heap.size, 0, none⟩) [s, r] := fun j x hj => by
  match j, hj with
  | 0, hj => cases hj; exact ⟨_, _, rfl, (own2 (heap_new w _)).1⟩
  | 1, hj => cases hj; exact ⟨_, _, rfl, (own2 (heap_new w _)).2.1⟩
/-- a map's block holds no cells -/
theorem cell_ne_map {H : Type} {P : Program} {k : TypeId} {R : Value → Option (DataW H × List MemPlace)} {w : World} {b n : Nat} {D : DataW H} (h : w.ownsMap P k R b n D) {g o : Nat} {v : Value} (hc : w.cell? ⟨g, o, none⟩ = some v) : g ≠ b := fun e => by
  subst e
  obtain ⟨es, clock, hb, _⟩ := h
  simp [World.cell?, hb] at hc
theorem law_key : Keyed Tryz.prog 9 := string_keyed Tryz.underlying9
theorem zero_int (w : World) : (zeroValue 3).run Tryz.prog w = .ok (.int .i64 0) w := by kernel_rfl

/-- what is bound, and how often -/
structure Bnd (w : World) (bm n : Nat) (bd : List (List UInt8)) : Prop where
  own : ∃ D : DataW Unit, w.ownsMap Tryz.prog 9 (plainElem Tryz.prog 3) bm n D ∧ Counts D bd
/-- the search's own block -/
def Srch (w : World) (sb bm fm : Nat) : Prop := w.heap[sb]? = some (.cells #[.map (some bm), .map (some fm)] 56 (0, 0))

set_option maxHeartbeats 4000000 in
set_option maxRecDepth 100000 in
theorem enter_any (l : List ByteArray) (A : Option Addr) (c sb bm fm nb : Nat) (bd : List (List UInt8)) (w : World) (hl : l.length ≤ 2) (hsm : ∀ s ∈ l, s.size ≤ maxLen) (hnb : nb ≤ 1000000) (hbd : bd.length ≤ 1000000) (hrow : NRow w A l) (hS : Srch w sb bm fm) (hB : Bnd w bm nb bd) :
    Calls Tryz.prog 93 #[.pointer (some ⟨sb, 0, none⟩), .slice A l.length c] w fun e w' => e = .returned (.tuple #[]) ∧ Bnd w' bm (nb + l.length) (bd ++ l.map Tm.nm) ∧ w.grownBy w' (some bm) := by
  obtain ⟨c0, c1, f0, f1, hlt⟩ := own2 hS
  have hne : sb ≠ bm := by obtain ⟨D, h, _⟩ := hB; exact cell_ne_map h c0
  have HR := Lib.hid hrow
  have HB := Lib.hid hB
  have HN := Lib.hid hne
  have HSM := Lib.hid hsm
  obtain ⟨n, hn⟩ : ∃ n, n = l.length := ⟨_, rfl⟩
  rw [← hn] at hl ⊢
  have HNN := Lib.hid hn
  have e5 : (n : Int) ≤ 2 := by omega
  clear hrow hB hS hne hn hsm
  have hmu := @law_key
  go_enter Tryz.func93, Tryz.ntmps93
  go_wp2_with fail
  go_loopw [8] (fun v wr => ∃ i : Nat, v = .int .i64 i ∧ i ≤ n ∧ Bnd wr bm (nb + i) (bd ++ (l.take i).map Tm.nm) ∧ w.grownBy wr (some bm)) (fun v _ => n - (intOf v).toNat)
  case atStart => exact ⟨0, rfl, by omega, by simpa using HB.out, only_refl _ _⟩
  case round =>
    obtain ⟨i, rfl, hi, hBi, hg⟩ := hrel
    by_cases hin : i < n
    · obtain ⟨s, hs⟩ : ∃ s, l[i]? = some s := ⟨l[i]'(by have := HNN.out; omega), List.getElem?_eq_getElem _⟩
      obtain ⟨g, o, hA, hcl⟩ := HR.out i s hs
      obtain ⟨D, hown, hCt⟩ := hBi.own
      have hgb : g ≠ bm := by obtain ⟨D0, h0, _⟩ := HB.out.own; exact cell_ne_map h0 hcl
      have hcl2 : wr.cell? ⟨g, o + i, none⟩ = some (.string s) := by rw [World.cell?_of_block (hg.block g (Ty.cell_lt hcl) (fun e => hgb (by injection e)))]; exact hcl
      have d0 : wr.cell? ⟨sb, 0, none⟩ = some (.map (some bm)) := by rw [World.cell?_of_block (hg.block sb hlt (fun e => HN.out (by injection e)))]; exact c0
      have hsz := HSM.out s (List.mem_of_getElem? hs)
      have HC := Lib.hid hCt
      have HG := Lib.hid hg
      have HSS := Lib.hid hs
      have j1 : (i : Int) < n := by omega
      have j2 : (0 : Int) ≤ i ∧ (i : Int) < n := by omega
      have hbl : ((bd ++ (l.take i).map Tm.nm).length : Int) ≤ 1000002 := by simp; omega
      have HBL := Lib.hid hbl
      clear hCt hg hs hcl hgb hBi c0 c1 f0 f1 hbl
      obtain rfl := hA
      go_wp2_with (first
        | (at_lookup; refine wpList_lookup_own_int _ rfl _ _ 53 rfl 9 3 .i64 law_key Tryz.underlying53 Tryz.underlying3 (zero_int _) bm (nb + i) D rfl hown _ _ rfl (WideMaps.keyOf_string_mk Tryz.underlying9 hsz) ?_; intro q hat hwq; obtain ⟨-, hq0, hq1⟩ := HC.out.zero _ hat; have hq2 : q + 1 ≤ 1000003 := (by have := HBL.out; omega); have HAT := Lib.hid hat; clear hat)
        | (at_mapUpdate; refine wpList_mapUpdate_own _ rfl _ _ _ 53 rfl 9 3 law_key Tryz.underlying53 _ bm (nb + i) D rfl hown (by unfold maxLen; omega) _ _ _ rfl rfl (WideMaps.keyOf_string_mk Tryz.underlying9 hsz) _ [] (plainElem_int Tryz.underlying3 (WalkArith.wf_i64 (by omega))) ?_; intro w1 hown1 hgrow1))
      have hfin : Hid (Bnd w1 bm (nb + (i + 1)) (bd ++ (l.take (i + 1)).map Tm.nm) ∧ w.grownBy w1 (some bm)) := by
        refine Lib.hid ⟨⟨_, hown1, ?_⟩, only_trans HG.out hgrow1⟩
        have := HC.out.put _ HAT.out
        rw [List.append_assoc] at this
        rw [List.take_add_one, HSS.out, List.map_append]
        exact this
      clear hown1 hgrow1 hown
      go_wp2_with fail
      go_roundw
      case rel => exact ⟨i + 1, by go_num, by omega, hfin.out.1, hfin.out.2⟩
      case measure => simp [intOf]; omega
    · have hi2 : i = n := by omega
      have hfin : Hid (Bnd wr bm (nb + n) (bd ++ l.map Tm.nm) ∧ w.grownBy wr (some bm)) := by
        subst hi2
        have := HNN.out
        rw [List.take_of_length_le (by omega)] at hBi
        exact Lib.hid ⟨hBi, hg⟩
      clear hBi hg
      have j1 : ¬ ((i : Int) < n) := by omega
      go_wp2_with fail
      go_end0
      exact ⟨rfl, hfin.out.1, hfin.out.2⟩

theorem Counts.perm {D : DataW Unit} {l l' : List (List UInt8)} (h : Counts D l) (hp : l.Perm l') : Counts D l' := ⟨h.1, fun x => by rw [h.2 x, hp.count_eq]⟩
theorem put_at {D : DataW Unit} (h : IsMap D) (y : List UInt8) {c q : Int} (hc : (D.put (.string y) (.lit (.int .i64 q))).atKey (.string y) (.lit (.int .i64 0)) = .lit (.int .i64 c)) : c = q := by
  rw [atKey_put_same h (isKey y)] at hc
  simp only [DataW.lit.injEq, Lit.int.injEq, true_and] at hc
  exact hc.symm

set_option maxHeartbeats 4000000 in
set_option maxRecDepth 100000 in
theorem leave_any (l : List ByteArray) (A : Option Addr) (c sb bm fm nb : Nat) (bd : List (List UInt8)) (w : World) (hl : l.length ≤ 2) (hsm : ∀ s ∈ l, s.size ≤ maxLen) (hnb : nb ≤ 1000000) (hbd : bd.length ≤ 1000000) (hrow : NRow w A l) (hS : Srch w sb bm fm) (hB : Bnd w bm nb (bd ++ l.map Tm.nm)) :
    Calls Tryz.prog 94 #[.pointer (some ⟨sb, 0, none⟩), .slice A l.length c] w fun e w' => e = .returned (.tuple #[]) ∧ Bnd w' bm (nb + l.length) bd ∧ w.grownBy w' (some bm) := by
  obtain ⟨c0, c1, f0, f1, hlt⟩ := own2 hS
  have hne : sb ≠ bm := by obtain ⟨D, h, _⟩ := hB; exact cell_ne_map h c0
  have HR := Lib.hid hrow
  have HB := Lib.hid hB
  have HN := Lib.hid hne
  have HSM := Lib.hid hsm
  obtain ⟨n, hn⟩ : ∃ n, n = l.length := ⟨_, rfl⟩
  rw [← hn] at hl ⊢
  have HNN := Lib.hid hn
  have e5 : (n : Int) ≤ 2 := by omega
  clear hrow hB hS hne hn hsm
  go_enter Tryz.func94, Tryz.ntmps94
  go_wp2_with fail
  go_loopw [8] (fun v wr => ∃ i : Nat, v = .int .i64 i ∧ i ≤ n ∧ Bnd wr bm (nb + i) (bd ++ (l.drop i).map Tm.nm) ∧ w.grownBy wr (some bm)) (fun v _ => n - (intOf v).toNat)
  case atStart => exact ⟨0, rfl, by omega, by simpa using HB.out, only_refl _ _⟩
  case round =>
    obtain ⟨i, rfl, hi, hBi, hg⟩ := hrel
    by_cases hin : i < n
    · obtain ⟨s, hs⟩ : ∃ s, l[i]? = some s := ⟨l[i]'(by have := HNN.out; omega), List.getElem?_eq_getElem _⟩
      obtain ⟨g, o, hA, hcl⟩ := HR.out i s hs
      obtain ⟨D, hown, hCt⟩ := hBi.own
      have hgb : g ≠ bm := by obtain ⟨D0, h0, _⟩ := HB.out.own; exact cell_ne_map h0 hcl
      have hcl2 : wr.cell? ⟨g, o + i, none⟩ = some (.string s) := by rw [World.cell?_of_block (hg.block g (Ty.cell_lt hcl) (fun e => hgb (by injection e)))]; exact hcl
      have d0 : wr.cell? ⟨sb, 0, none⟩ = some (.map (some bm)) := by rw [World.cell?_of_block (hg.block sb hlt (fun e => HN.out (by injection e)))]; exact c0
      have hsz := HSM.out s (List.mem_of_getElem? hs)
      have hCp : Counts D ((bd ++ (l.drop (i + 1)).map Tm.nm) ++ [Tm.nm s]) := by
        refine hCt.perm ?_
        have hd : l.drop i = s :: l.drop (i + 1) := by
          have hil : i < l.length := by have := HNN.out; omega
          rw [List.drop_eq_getElem_cons hil]
          rw [List.getElem?_eq_getElem hil] at hs
          injection hs with hs
          rw [hs]
        rw [hd, List.map_cons, List.append_assoc]
        exact List.Perm.append_left _ (List.perm_append_singleton _ _).symm
      have HC := Lib.hid hCp
      have HG := Lib.hid hg
      have j1 : (i : Int) < n := by omega
      have j2 : (0 : Int) ≤ i ∧ (i : Int) < n := by omega
      have hbl : ((bd ++ (l.drop (i + 1)).map Tm.nm).length : Int) ≤ 1000002 := by have := HNN.out; simp; omega
      have hd0 : ∀ W : World, w.grownBy W (some bm) → W.cell? ⟨sb, 0, none⟩ = some (.map (some bm)) := fun W hg => by rw [World.cell?_of_block (hg.block sb hlt (fun e => HN.out (by injection e)))]; exact c0
      have HD0 := Lib.hid hd0
      have HBL := Lib.hid hbl
      have HCC := Lib.hid c0
      clear hCt hg hs hcl hgb hBi c1 f0 f1 hbl hCp hd0 c0
      obtain rfl := hA
      go_wp2_with (first
        | (at_lookup; refine wpList_lookup_own_int _ rfl _ _ 53 rfl 9 3 .i64 law_key Tryz.underlying53 Tryz.underlying3 (zero_int _) bm (nb + i) D rfl hown _ _ rfl (WideMaps.keyOf_string_mk Tryz.underlying9 hsz) ?_; intro q hat hwq; obtain ⟨hC1, hC2, hq0, hq1⟩ := HC.out.less _ hat; have hq2 : q ≤ 1000003 := (by have := HBL.out; omega); have HC1 := Lib.hid hC1; have HC2 := Lib.hid hC2; clear hat hC1 hC2)
        | (at_mapUpdate; refine wpList_mapUpdate_own _ rfl _ _ _ 53 rfl 9 3 law_key Tryz.underlying53 _ bm (nb + i) D rfl hown (by unfold maxLen; omega) _ _ _ rfl rfl (WideMaps.keyOf_string_mk Tryz.underlying9 hsz) _ [] (plainElem_int Tryz.underlying3 (WalkArith.wf_i64 (by omega))) ?_; intro w1 hown1 hgrow1; have hg1 := only_trans HG.out hgrow1; have e0 := HD0.out w1 hg1; have HG1 := Lib.hid hg1; clear hg1 hgrow1 d0)
        | (at_lookup; refine wpList_lookup_own_int _ rfl _ _ 53 rfl 9 3 .i64 law_key Tryz.underlying53 Tryz.underlying3 (zero_int _) bm (nb + i + 1) _ rfl hown1 _ _ rfl (WideMaps.keyOf_string_mk Tryz.underlying9 hsz) ?_; intro q2 hat2 hwq2; obtain rfl := put_at HC.out.1 _ hat2; clear hat2)
        | (at_delete; refine wpList_delete_own _ rfl _ _ 53 9 rfl 3 law_key Tryz.underlying53 _ bm (nb + i + 1) _ rfl hown1 _ _ rfl (WideMaps.keyOf_string_mk Tryz.underlying9 hsz) ?_; intro w2 hown2 hturn2))
      · have hz : q - 1 = 0 := by simpa using (by assumption : (q - 1 == 0) = true)
        have hfin : Hid (Bnd w2 bm (nb + (i + 1)) (bd ++ (l.drop (i + 1)).map Tm.nm) ∧ w.grownBy w2 (some bm)) := Lib.hid ⟨⟨_, hown2, HC2.out hz⟩, only_trans HG1.out hturn2.grown⟩
        clear hown2 hturn2 hown hown1
        go_wp2_with fail
        go_roundw
        case rel => exact ⟨i + 1, by go_num, by omega, hfin.out.1, hfin.out.2⟩
        case measure => simp [intOf]; omega
      · have hfin : Hid (Bnd w1 bm (nb + (i + 1)) (bd ++ (l.drop (i + 1)).map Tm.nm) ∧ w.grownBy w1 (some bm)) := Lib.hid ⟨⟨_, hown1, HC1.out⟩, HG1.out⟩
        clear hown hown1
        go_wp2_with fail
        go_roundw
        case rel => exact ⟨i + 1, by go_num, by omega, hfin.out.1, hfin.out.2⟩
        case measure => simp [intOf]; omega
    · have hi2 : i = n := by omega
      have hfin : Hid (Bnd wr bm (nb + n) bd ∧ w.grownBy wr (some bm)) := by
        subst hi2
        have := HNN.out
        rw [List.drop_of_length_le (by omega), List.map_nil, List.append_nil] at hBi
        exact Lib.hid ⟨hBi, hg⟩
      clear hBi hg
      have j1 : ¬ ((i : Int) < n) := by omega
      go_wp2_with fail
      go_end0
      exact ⟨rfl, hfin.out.1, hfin.out.2⟩

/-- what binds hands back -/
def BindsPost (h : Hd) (i : Nat) (w : World) (e : Ending) (w' : World) : Prop := ∃ A c, e = .returned (.slice A (Tm.bindsB h i).length c) ∧ NRow w' A (Tm.bindsB h i) ∧ Below w.heap.size w w'
theorem bindsPost_none {h : Hd} {i : Nat} {w w' : World} (e : Tm.bindsB h i = []) (hb : Below w.heap.size w w') : BindsPost h i w (.returned (.slice none 0 0)) w' :=
  ⟨none, 0, by rw [e]; rfl, by rw [e]; exact nrow_nil _ _, hb⟩
theorem bindsPost_one {h : Hd} {i : Nat} {w : World} {s : ByteArray} {o : Obj} {t : TypeId} (e : Tm.bindsB h i = [s]) : BindsPost h i w (.returned (.slice (some ⟨w.heap.size + 1, 0, none⟩) 1 1)) ((w.alloc o).alloc (.cells #[.string s] t)) :=
  ⟨some ⟨w.heap.size + 1, 0, none⟩, 1, by rw [e]; rfl, by rw [e]; have := nrow_one (w.alloc o) s t; simpa using this, ((Below.refl _ _).alloc (Nat.le_refl _) _).alloc (by simp) _⟩
theorem bindsPost_two {h : Hd} {i : Nat} {w : World} {s r : ByteArray} {o : Obj} {t : TypeId} (e : Tm.bindsB h i = [s, r]) : BindsPost h i w (.returned (.slice (some ⟨w.heap.size + 1, 0, none⟩) 2 2)) ((w.alloc o).alloc (.cells #[.string s, .string r] t)) :=
  ⟨some ⟨w.heap.size + 1, 0, none⟩, 2, by rw [e]; rfl, by rw [e]; have := nrow_two (w.alloc o) s r t; simpa using this, ((Below.refl _ _).alloc (Nat.le_refl _) _).alloc (by simp) _⟩
set_option maxHeartbeats 4000000 in
set_option maxRecDepth 100000 in
theorem binds_any (h : Hd) (p : Pl) (i : Nat) (w : World) :
    Calls Tryz.prog 92 #[.agg #[.int .i8 h.kind, .string h.name, .string h.arg, .int .i64 h.num, .int .i8 h.tk, .slice p.TA p.tn p.tc, .int .i8 h.uk, .slice p.UA p.un p.uc, .int .i64 h.label, .int .i64 h.pos, .slice p.A p.n p.c], .int .i64 i] w (BindsPost h i w) := by
  have hb0 := (Below.refl w.heap.size w).alloc (Nat.le_refl _) (.cells #[.int .i8 h.kind, .string h.name, .string h.arg, .int .i64 h.num, .int .i8 h.tk, .slice p.TA p.tn p.tc, .int .i8 h.uk, .slice p.UA p.un p.uc, .int .i64 h.label, .int .i64 h.pos, .slice p.A p.n p.c] 28)
  have HB := Lib.hid hb0
  clear hb0
  by_cases c0 : h.kind = 4
  · have e : Tm.bindsB h i = [h.name] := by unfold Tm.bindsB; rw [if_pos (by omega)]
    have k4 : (h.kind == 4) = true := by simp; omega
    have E := Lib.hid e
    clear e c0
    go_enter Tryz.func92, Tryz.ntmps92
    go_wp2_with fail
    go_ret
    exact bindsPost_one E.out
  by_cases c1 : h.kind = 7 ∧ i = 1
  · have e : Tm.bindsB h i = [h.name] := by unfold Tm.bindsB; rw [if_pos (by omega)]
    have k4 : (h.kind == 4) = false := by simp; omega
    have k7 : (h.kind == 7) = true := by simp; omega
    have i1 : ((i : Int) == 1) = true := by simp; omega
    have E := Lib.hid e
    clear e c0 c1
    go_enter Tryz.func92, Tryz.ntmps92
    go_wp2_with fail
    go_ret
    exact bindsPost_one E.out
  by_cases c2 : h.kind = 14 ∧ i = 1
  · have e : Tm.bindsB h i = [h.name] := by unfold Tm.bindsB; rw [if_pos (by omega)]
    have k4 : (h.kind == 4) = false := by simp; omega
    have k7 : (h.kind == 7) = false := by simp; omega
    have k14 : (h.kind == 14) = true := by simp; omega
    have i1 : ((i : Int) == 1) = true := by simp; omega
    have E := Lib.hid e
    clear e c0 c1 c2
    go_enter Tryz.func92, Tryz.ntmps92
    go_wp2_with fail
    go_ret
    exact bindsPost_one E.out
  by_cases c3 : h.kind = 14 ∧ i = 2
  · have e : Tm.bindsB h i = [h.arg] := by unfold Tm.bindsB; rw [if_neg (by omega), if_pos (by omega)]
    have k4 : (h.kind == 4) = false := by simp; omega
    have k7 : (h.kind == 7) = false := by simp; omega
    have k14 : (h.kind == 14) = true := by simp; omega
    have i1 : ((i : Int) == 1) = false := by simp; omega
    have i2 : ((i : Int) == 2) = true := by simp; omega
    have E := Lib.hid e
    clear e c0 c1 c2 c3
    go_enter Tryz.func92, Tryz.ntmps92
    go_wp2_with fail
    go_ret
    exact bindsPost_one E.out
  by_cases c4 : h.kind = 5
  · have e : Tm.bindsB h i = [h.name, h.arg] := by unfold Tm.bindsB; rw [if_neg (by omega), if_neg (by omega), if_pos (by omega)]
    have k4 : (h.kind == 4) = false := by simp; omega
    have k7 : (h.kind == 7) = false := by simp; omega
    have k14 : (h.kind == 14) = false := by simp; omega
    have k5 : (h.kind == 5) = true := by simp; omega
    have E := Lib.hid e
    clear e c0 c1 c2 c3 c4
    go_enter Tryz.func92, Tryz.ntmps92
    go_wp2_with fail
    go_ret
    exact bindsPost_two E.out
  by_cases c5 : h.kind = 14
  · have e : Tm.bindsB h i = [] := by unfold Tm.bindsB; rw [if_neg (by omega), if_neg (by omega), if_neg (by omega)]
    have k4 : (h.kind == 4) = false := by simp; omega
    have k7 : (h.kind == 7) = false := by simp; omega
    have k14 : (h.kind == 14) = true := by simp; omega
    have k5 : (h.kind == 5) = false := by simp; omega
    have i1 : ((i : Int) == 1) = false := by simp; omega
    have i2 : ((i : Int) == 2) = false := by simp; omega
    have E := Lib.hid e
    clear e c0 c1 c2 c3 c4 c5
    go_enter Tryz.func92, Tryz.ntmps92
    go_wp2_with fail
    go_ret
    exact bindsPost_none E.out HB.out
  by_cases c6 : h.kind = 7
  · have e : Tm.bindsB h i = [] := by unfold Tm.bindsB; rw [if_neg (by omega), if_neg (by omega), if_neg (by omega)]
    have k4 : (h.kind == 4) = false := by simp; omega
    have k7 : (h.kind == 7) = true := by simp; omega
    have k14 : (h.kind == 14) = false := by simp; omega
    have k5 : (h.kind == 5) = false := by simp; omega
    have i1 : ((i : Int) == 1) = false := by simp; omega
    have E := Lib.hid e
    clear e c0 c1 c2 c3 c4 c5 c6
    go_enter Tryz.func92, Tryz.ntmps92
    go_wp2_with fail
    go_ret
    exact bindsPost_none E.out HB.out
  · have e : Tm.bindsB h i = [] := by unfold Tm.bindsB; rw [if_neg (by omega), if_neg (by omega), if_neg (by omega)]
    have k4 : (h.kind == 4) = false := by simp; omega
    have k7 : (h.kind == 7) = false := by simp; omega
    have k14 : (h.kind == 14) = false := by simp; omega
    have k5 : (h.kind == 5) = false := by simp; omega
    have E := Lib.hid e
    clear e c0 c1 c2 c3 c4 c5 c6
    go_enter Tryz.func92, Tryz.ntmps92
    go_wp2_with fail
    go_ret
    exact bindsPost_none E.out HB.out
end Go.Proofs.YtfkbdpehdabepaaGreatDoor
namespace Go.Proofs.YtfkbdpehdabepaaGreatDoor
open Go.RowKit Go.Maps

/-- all but two blocks is as it was -/
structure Turn2 (b f : Nat) (w w' : World) : Prop where
  os : w'.os = w.os
  tape : w'.tape = w.tape
  output : w'.output = w.output
  size : w.heap.size ≤ w'.heap.size
  block : ∀ k, k < w.heap.size → k ≠ b → k ≠ f → w'.heap[k]? = w.heap[k]?
theorem Turn2.refl (b f : Nat) (w : World) : Turn2 b f w w := ⟨rfl, rfl, rfl, Nat.le_refl _, fun _ _ _ _ => rfl⟩
theorem Turn2.trans {b f : Nat} {x y z : World} (h : Turn2 b f x y) (k : Turn2 b f y z) : Turn2 b f x z :=
  ⟨k.os.trans h.os, k.tape.trans h.tape, k.output.trans h.output, Nat.le_trans h.size k.size, fun i hi h1 h2 => (k.block i (Nat.lt_of_lt_of_le hi h.size) h1 h2).trans (h.block i hi h1 h2)⟩
theorem Turn2.of_below {b f : Nat} {w w' : World} (h : Below w.heap.size w w') : Turn2 b f w w' := ⟨h.os, h.tape, h.output, h.size, fun k hk _ _ => h.block k hk⟩
theorem Turn2.of_b {b f : Nat} {w w' : World} (h : w.grownBy w' (some b)) : Turn2 b f w w' := ⟨h.os, h.tape, h.output, h.size, fun k hk h1 _ => h.block k hk (fun e => h1 (by injection e))⟩
theorem Turn2.of_f {b f : Nat} {w w' : World} (h : w.grownBy w' (some f)) : Turn2 b f w w' := ⟨h.os, h.tape, h.output, h.size, fun k hk _ h2 => h.block k hk (fun e => h2 (by injection e))⟩
theorem Turn2.below {b f B : Nat} {w0 w w' : World} (h : Turn2 b f w w') (hb : Below B w0 w) (h1 : B ≤ b) (h2 : B ≤ f) (h3 : B ≤ w.heap.size) : Below B w0 w' :=
  ⟨h.os.trans hb.os, h.tape.trans hb.tape, h.output.trans hb.output, Nat.le_trans hb.size h.size, fun k hk => (h.block k (by omega) (by omega) (by omega)).trans (hb.block k hk)⟩

/-- what is free so far -/
structure Fre (w : World) (fm n : Nat) (l : List (List UInt8)) : Prop where
  own : ∃ F : DataW Unit, w.ownsMap Tryz.prog 9 unitElem fm n F ∧ SetOf F l
theorem Bnd.same {w w' : World} {bm n : Nat} {bd : List (List UInt8)} (h : Bnd w bm n bd) (he : w'.heap[bm]? = w.heap[bm]?) : Bnd w' bm n bd := by
  obtain ⟨D, ⟨es, c, hb, F, hs, hD⟩, hC⟩ := h
  exact ⟨D, ⟨es, c, he.trans hb, F, hs, hD⟩, hC⟩
theorem Fre.same {w w' : World} {fm n : Nat} {l : List (List UInt8)} (h : Fre w fm n l) (he : w'.heap[fm]? = w.heap[fm]?) : Fre w' fm n l := by
  obtain ⟨D, ⟨es, c, hb, F, hs, hD⟩, hC⟩ := h
  exact ⟨D, ⟨es, c, he.trans hb, F, hs, hD⟩, hC⟩
theorem Bnd.lt {w : World} {bm n : Nat} {bd : List (List UInt8)} (h : Bnd w bm n bd) : bm < w.heap.size := by obtain ⟨D, h, _⟩ := h; exact h.lt
theorem Fre.lt {w : World} {fm n : Nat} {l : List (List UInt8)} (h : Fre w fm n l) : fm < w.heap.size := by obtain ⟨D, h, _⟩ := h; exact h.lt
theorem Bnd.below {w w' : World} {bm n : Nat} {bd : List (List UInt8)} (h : Bnd w bm n bd) (hb : Below w.heap.size w w') : Bnd w' bm n bd := h.same (hb.block bm h.lt)
theorem Fre.below {w w' : World} {fm n : Nat} {l : List (List UInt8)} (h : Fre w fm n l) (hb : Below w.heap.size w w') : Fre w' fm n l := h.same (hb.block fm h.lt)
theorem Bnd.no {w : World} {bm n : Nat} {bd : List (List UInt8)} (h : Bnd w bm n bd) {g o : Nat} {v : Value} (hc : w.cell? ⟨g, o, none⟩ = some v) : g ≠ bm := by obtain ⟨D, h, _⟩ := h; exact cell_ne_map h hc
theorem Fre.no {w : World} {fm n : Nat} {l : List (List UInt8)} (h : Fre w fm n l) {g o : Nat} {v : Value} (hc : w.cell? ⟨g, o, none⟩ = some v) : g ≠ fm := by obtain ⟨D, h, _⟩ := h; exact cell_ne_map h hc
theorem Turn2.cell {b f : Nat} {w w' : World} (h : Turn2 b f w w') {g o : Nat} {v : Value} (hc : w.cell? ⟨g, o, none⟩ = some v) (h1 : g ≠ b) (h2 : g ≠ f) : w'.cell? ⟨g, o, none⟩ = some v := by
  rw [World.cell?_of_block (h.block g (Ty.cell_lt hc) h1 h2)]; exact hc
theorem Turn2.kept {b f nb nf : Nat} {bd l : List (List UInt8)} {w w' : World} (h : Turn2 b f w w') (hB : Bnd w b nb bd) (hF : Fre w f nf l) : Tm.Kept w w' := fun _ _ _ _ hc => h.cell hc (hB.no hc) (hF.no hc)
theorem Turn2.nrow {b f nb nf : Nat} {bd l : List (List UInt8)} {w w' : World} {A : Option Addr} {ns : List ByteArray} (h : Turn2 b f w w') (hB : Bnd w b nb bd) (hF : Fre w f nf l) (hr : NRow w A ns) : NRow w' A ns := fun j s hj => by
  obtain ⟨g, o, e, hc⟩ := hr j s hj
  exact ⟨g, o, e, h.cell hc (hB.no hc) (hF.no hc)⟩
theorem Srch.turn {b f sb nb nf : Nat} {bd l : List (List UInt8)} {w w' : World} (hS : Srch w sb b f) (h : Turn2 b f w w') (hB : Bnd w b nb bd) (hF : Fre w f nf l) : Srch w' sb b f := by
  have hc := (own2 hS).1
  unfold Srch at hS ⊢
  rw [h.block sb (Ty.cell_lt hc) (hB.no hc) (hF.no hc)]; exact hS
theorem Srch.below {b f sb : Nat} {w w' : World} (hS : Srch w sb b f) (h : Below w.heap.size w w') : Srch w' sb b f := heap_below h (heap_lt hS) hS

/-- what a search through a term leaves -/
def ThPost (h : Hd) (kids : Tm) (bd l : List (List UInt8)) (bm fm nb nf : Nat) (w : World) (e : Ending) (w' : World) : Prop :=
  ∃ nb' nf', e = .returned (.tuple #[]) ∧ nb' ≤ nb + 4 * Tm.nodes kids ∧ nf' ≤ nf + Tm.nodes kids + 1 ∧ Bnd w' bm nb' bd ∧ Fre w' fm nf' (Tm.frT h kids bd l) ∧ Turn2 bm fm w w'

theorem ThPost.drewN {h : Hd} {kids : Tm} {bd l : List (List UInt8)} {bm fm nb nf : Nat} {w : World} {e : Ending} {w' : World} (q : ThPost h kids bd l bm fm nb nf w e w') (n : Nat) : ThPost h kids bd l bm fm nb nf w e (w'.drewN n) := by
  obtain ⟨x, y, he, h1, h2, hB, hF, hT⟩ := q
  exact ⟨x, y, he, h1, h2, hB.same rfl, hF.same rfl, ⟨hT.os, hT.tape, hT.output, hT.size, hT.block⟩⟩
theorem ok_var {h : Hd} {kids : Tm} (hok : Tm.okT h kids = true) (h0 : h.kind = 0) : kids = .nil := by
  unfold Tm.okT Tm.headOk at hok
  simp only [Bool.and_eq_true, decide_eq_true_eq] at hok
  have := hok.1.1.1.1.2
  rw [h0] at this
  have e : Tm.kidsN 0 = 0 := by decide
  rw [e] at this
  cases kids with
  | nil => rfl
  | node _ _ _ => simp [Tm.len] at this

/-- a look-up, however many draws there were -/
theorem looks {w : World} {bm n : Nat} {D : DataW Unit} (h : w.ownsMap Tryz.prog 9 (plainElem Tryz.prog 3) bm n D) (s : ByteArray) (hs : s.size ≤ maxLen) :
    ∃ c : Int, (∀ m, (Instr.lookup 53 (.map (some bm)) (.string s) false).run Tryz.prog (w.drewN m) = .ok (.int .i64 c) (w.drewN m)) ∧ D.atKey (.string s.data.toList) (.lit (.int .i64 0)) = .lit (.int .i64 c) := by
  have hw : ∀ m, (w.drewN m).ownsMap Tryz.prog 9 (plainElem Tryz.prog 3) bm n D := fun m => h
  have hl := fun m => (hw m).lookup_int law_key Tryz.underlying53 Tryz.underlying3 (zero_int _) (key := .string s) (WideMaps.keyOf_string_mk Tryz.underlying9 hs)
  obtain ⟨c, -, hat, -⟩ := hl 0
  refine ⟨c, fun m => ?_, hat⟩
  obtain ⟨c2, hr, hat2, -⟩ := hl m
  rw [hat] at hat2
  simp only [DataW.lit.injEq, Lit.int.injEq, true_and] at hat2
  rw [hat2]; exact hr

set_option maxHeartbeats 4000000 in
set_option maxRecDepth 100000 in
theorem through_in (h : Hd) (p : Pl) (w : World) (sb bm fm nb nf : Nat) (bd l : List (List UInt8)) (hIs : Tm.Is w h .nil p) (h0 : h.kind = 0) (hin : Tm.nm h.name ∈ bd) (hS : Srch w sb bm fm) (hB : Bnd w bm nb bd) (hF : Fre w fm nf l) :
    Calls Tryz.prog 44 #[.pointer (some ⟨sb, 0, none⟩), .agg #[.int .i8 h.kind, .string h.name, .string h.arg, .int .i64 h.num, .int .i8 h.tk, .slice p.TA p.tn p.tc, .int .i8 h.uk, .slice p.UA p.un p.uc, .int .i64 h.label, .int .i64 h.pos, .slice p.A p.n p.c]] w (ThPost h .nil bd l bm fm nb nf w) := by
  have hb0 := (Below.refl w.heap.size w).alloc (Nat.le_refl _) (.cells #[.int .i8 h.kind, .string h.name, .string h.arg, .int .i64 h.num, .int .i8 h.tk, .slice p.TA p.tn p.tc, .int .i8 h.uk, .slice p.UA p.un p.uc, .int .i64 h.label, .int .i64 h.pos, .slice p.A p.n p.c] 28)
  have hx0 := heap_new w (.cells #[.int .i8 h.kind, .string h.name, .string h.arg, .int .i64 h.num, .int .i8 h.tk, .slice p.TA p.tn p.tc, .int .i8 h.uk, .slice p.UA p.un p.uc, .int .i64 h.label, .int .i64 h.pos, .slice p.A p.n p.c] 28)
  have hres : ThPost h .nil bd l bm fm nb nf w (.returned (.tuple #[])) (w.alloc (.cells #[.int .i8 h.kind, .string h.name, .string h.arg, .int .i64 h.num, .int .i8 h.tk, .slice p.TA p.tn p.tc, .int .i8 h.uk, .slice p.UA p.un p.uc, .int .i64 h.label, .int .i64 h.pos, .slice p.A p.n p.c] 28)) :=
    ⟨nb, nf, rfl, by omega, by omega, hB.below hb0, by unfold Tm.frT; rw [if_pos h0]; unfold Tm.vr; rw [if_pos (.inl hin)]; exact hF.below hb0, .of_below hb0⟩
  obtain ⟨D, hown, hC⟩ := (hB.below hb0).own
  obtain ⟨c, hrun, hat⟩ := looks hown h.name (by have := hIs.fit.nm; unfold maxLen; omega)
  have hz := (hC.zero _ hat).1
  have hc0 : (c == 0) = false := by simp; intro e; exact (hz.1 e) hin
  have k0 : (h.kind == 0) = true := by simp [h0]
  have hn : p.n = 0 := hIs.fit.n_eq
  have hS1 := hS.below hb0
  obtain ⟨a0, a1, -, -, -, -, -, -, -, -, a10, hl1⟩ := own11 hx0
  obtain ⟨s0, s1, -, -, hsl⟩ := own2 hS1
  have HRES := Lib.hid hres
  have e5 : (p.n : Int) ≤ 0 := by omega
  clear hat hz hC hown hB hF hIs hb0 hx0 hS hS1 h0 hin hn hres
  generalize hw1 : w.alloc (.cells #[.int .i8 h.kind, .string h.name, .string h.arg, .int .i64 h.num, .int .i8 h.tk, .slice p.TA p.tn p.tc, .int .i8 h.uk, .slice p.UA p.un p.uc, .int .i64 h.label, .int .i64 h.pos, .slice p.A p.n p.c] 28) = w1 at *
  have HW1 := Lib.hid hw1
  clear hw1
  go_enter Tryz.func44, Tryz.ntmps44
  go_wp2_with fail
  rw [HW1.out]
  go_quiet (fail)
  go_wp2_with fail
  have j0 : ¬ ((0 : Int) < p.n) := by omega
  have HR2 := Lib.hid (ThPost.drewN HRES.out nq)
  clear HRES
  generalize w1.drewN nq = w2 at *
  go_loopw [31] (fun v wr => v = .int .i64 0 ∧ wr = w2) (fun _ _ => 0)
  case atStart => exact ⟨rfl, rfl⟩
  case round =>
    obtain ⟨rfl, rfl⟩ := hrel
    go_wp2_with fail
    go_end0
    exact HR2.out

set_option maxHeartbeats 4000000 in
set_option maxRecDepth 100000 in
theorem through_free (h : Hd) (p : Pl) (w : World) (sb bm fm nb nf : Nat) (bd l : List (List UInt8)) (hIs : Tm.Is w h .nil p) (h0 : h.kind = 0) (hin : Tm.nm h.name ∉ bd) (hne : bm ≠ fm) (hnf : nf ≤ 1000000) (hS : Srch w sb bm fm) (hB : Bnd w bm nb bd) (hF : Fre w fm nf l) :
    Calls Tryz.prog 44 #[.pointer (some ⟨sb, 0, none⟩), .agg #[.int .i8 h.kind, .string h.name, .string h.arg, .int .i64 h.num, .int .i8 h.tk, .slice p.TA p.tn p.tc, .int .i8 h.uk, .slice p.UA p.un p.uc, .int .i64 h.label, .int .i64 h.pos, .slice p.A p.n p.c]] w (ThPost h .nil bd l bm fm nb nf w) := by
  have hb0 := (Below.refl w.heap.size w).alloc (Nat.le_refl _) (.cells #[.int .i8 h.kind, .string h.name, .string h.arg, .int .i64 h.num, .int .i8 h.tk, .slice p.TA p.tn p.tc, .int .i8 h.uk, .slice p.UA p.un p.uc, .int .i64 h.label, .int .i64 h.pos, .slice p.A p.n p.c] 28)
  have hx0 := heap_new w (.cells #[.int .i8 h.kind, .string h.name, .string h.arg, .int .i64 h.num, .int .i8 h.tk, .slice p.TA p.tn p.tc, .int .i8 h.uk, .slice p.UA p.un p.uc, .int .i64 h.label, .int .i64 h.pos, .slice p.A p.n p.c] 28)
  have hnm : h.name.size ≤ maxLen := by have := hIs.fit.nm; unfold maxLen; omega
  obtain ⟨D, hown, hC⟩ := (hB.below hb0).own
  obtain ⟨c, hrun, hat⟩ := looks hown h.name hnm
  have hz := (hC.zero _ hat).1
  have hc0 : (c == 0) = true := by simp; exact hz.2 hin
  have k0 : (h.kind == 0) = true := by simp [h0]
  have hn : p.n = 0 := hIs.fit.n_eq
  have hS1 := hS.below hb0
  have CN := Lib.hid (fun (W : World) => clone_any h.name hIs.fit.nm W)
  have hend : ∀ (u1 u2 : World) (F : DataW Unit), Below w.heap.size w u1 → SetOf F l → u2.ownsMap Tryz.prog 9 unitElem fm (nf + 1) (F.put (.string (Tm.nm h.name)) (.agg [])) → u1.grownBy u2 (some fm) → ThPost h .nil bd l bm fm nb nf w (.returned (.tuple #[])) u2 := fun u1 u2 F hb hF hown hg =>
    ⟨nb, nf + 1, rfl, by omega, by omega, ((hB.below hb).same (hg.block bm (hB.below hb).lt (fun e => hne (by injection e)))), ⟨_, hown, by unfold Tm.frT; rw [if_pos h0]; exact hF.put _ _ hin⟩, (Turn2.of_below hb).trans (.of_f hg)⟩
  have HE := Lib.hid hend
  have HF := Lib.hid hF
  have HB0 := Lib.hid hb0
  obtain ⟨a0, a1, -, -, -, -, -, -, -, -, a10, hl1⟩ := own11 hx0
  obtain ⟨s0, s1, -, -, hsl⟩ := own2 hS1
  have e5 : (p.n : Int) ≤ 0 := by omega
  have j0 : ¬ ((0 : Int) < p.n) := by omega
  have HX := Lib.hid hx0
  have HSS := Lib.hid hS1
  clear hat hz hC hown hB hF hIs hb0 hx0 hS hS1 h0 hin hn hend
  generalize hw1 : w.alloc (.cells #[.int .i8 h.kind, .string h.name, .string h.arg, .int .i64 h.num, .int .i8 h.tk, .slice p.TA p.tn p.tc, .int .i8 h.uk, .slice p.UA p.un p.uc, .int .i64 h.label, .int .i64 h.pos, .slice p.A p.n p.c] 28) = w1 at *
  have HW1 := Lib.hid hw1
  clear hw1
  go_enter Tryz.func44, Tryz.ntmps44
  go_wp2_with fail
  rw [HW1.out]
  go_quiet (fail)
  go_wp2_with fail
  have HB2 : Hid (Below w.heap.size w (w1.drewN nq)) := Lib.hid (below_drewN HB0.out nq)
  have HX2 : Hid ((w1.drewN nq).heap[w.heap.size]? = _) := Lib.hid HX.out
  have HS2 : Hid (Srch (w1.drewN nq) sb bm fm) := Lib.hid HSS.out
  obtain ⟨b0, b1, -, -, -, -, -, -, -, -, b10, bl1⟩ := own11 HX2.out
  obtain ⟨r0, r1, -, -, rsl⟩ := own2 HS2.out
  clear HB0 HX HSS HW1 a0 a1 a10 s0 s1 hrun hl1 hsl
  generalize w1.drewN nq = w2 at *
  go_region_law (first
    | (go_simp; go_at_call 73; (with_reducible refine (CN.out _).mono ?_); rintro e u1 ⟨rfl, hb⟩; have D1 := Lib.hid (HB2.out.drew.trans (hb.mono HB2.out.drew.size)); have X1 := heap_below hb (show w.heap.size < w2.drew.heap.size from bl1) (show w2.drew.heap[w.heap.size]? = _ from HX2.out); have S1 : Srch u1 sb bm fm := heap_below hb (show sb < w2.drew.heap.size from rsl) (show w2.drew.heap[sb]? = _ from HS2.out); obtain ⟨x0, x1, -, -, -, -, -, -, -, -, x10, xl1⟩ := own11 X1; obtain ⟨y0, y1, -, -, ysl⟩ := own2 S1; obtain ⟨F, hown, hSF⟩ := (HF.out.below D1.out).own; obtain ⟨u2, hst, hown2, hturn⟩ := hown.store law_key Tryz.underlying54 (by unfold maxLen; omega) (key := .string h.name) (WideMaps.keyOf_string_mk Tryz.underlying9 hnm) unitElem_mk; have z10 : u2.cell? ⟨w.heap.size, 10, none⟩ = some (.slice p.A p.n p.c) := (by rw [World.cell?_of_block (hturn.grown.block w.heap.size xl1 (fun e => by have := HF.out.lt; injection e; omega))]; exact x10); have HEND := Lib.hid (HE.out u1 u2 F D1.out hSF hown2 hturn.grown); clear hb hSF hown2 hturn hown X1 S1; go_wp2_with fail))
  all_goals
    go_wp2_with fail
    go_loopw [31] (fun v wr => v = .int .i64 0 ∧ wr = u2) (fun _ _ => 0)
    case atStart => exact ⟨rfl, rfl⟩
    case round =>
      obtain ⟨rfl, rfl⟩ := hrel
      go_wp2_with fail
      go_end0
      exact HEND.out

theorem Bnd.heap_ne {w : World} {bm n : Nat} {bd : List (List UInt8)} (h : Bnd w bm n bd) {k : Nat} {cs : Array Value} {t : TypeId} {fz : Nat × Nat} (hx : w.heap[k]? = some (.cells cs t fz)) : k ≠ bm := fun e => by
  subst e; obtain ⟨D, ⟨es, c, hb, _⟩, _⟩ := h; rw [hb] at hx; cases hx
theorem Fre.heap_ne {w : World} {fm n : Nat} {l : List (List UInt8)} (h : Fre w fm n l) {k : Nat} {cs : Array Value} {t : TypeId} {fz : Nat × Nat} (hx : w.heap[k]? = some (.cells cs t fz)) : k ≠ fm := fun e => by
  subst e; obtain ⟨D, ⟨es, c, hb, _⟩, _⟩ := h; rw [hb] at hx; cases hx
theorem Turn2.heap {b f nb nf : Nat} {bd l : List (List UInt8)} {w w' : World} (h : Turn2 b f w w') (hB : Bnd w b nb bd) (hF : Fre w f nf l) {k : Nat} {cs : Array Value} {t : TypeId} {fz : Nat × Nat} (hx : w.heap[k]? = some (.cells cs t fz)) : w'.heap[k]? = some (.cells cs t fz) := by
  rw [h.block k (heap_lt hx) (hB.heap_ne hx) (hF.heap_ne hx)]; exact hx

/-- a round's state -/
structure ThRel (w w2 wr : World) (h : Hd) (kids : Tm) (A : Option Addr) (n sb bm fm nb nf : Nat) (bd l : List (List UInt8)) (i : Nat) (rest : Tm) (nb' nf' : Nat) (l' : List (List UInt8)) : Prop where
  i_eq : i + Tm.len rest = n
  lies : Tm.Lies w rest A i
  ok : Tm.okF rest = true
  bnd : Bnd wr bm nb' bd
  fre : Fre wr fm nf' l'
  turn : Turn2 bm fm w2 wr
  nb_le : nb' + 4 * Tm.nodes rest ≤ nb + 4 * Tm.nodes kids
  nf_le : nf' + Tm.nodes rest ≤ nf + Tm.nodes kids
  fr : Tm.frG rest h i bd l' = Tm.frG kids h 0 bd l
  sub : Tm.nodes rest ≤ Tm.nodes kids

set_option maxHeartbeats 8000000 in
set_option maxRecDepth 100000 in
theorem through_any (K : Nat) : ∀ (h : Hd) (kids : Tm) (p : Pl) (w : World) (sb bm fm nb nf : Nat) (bd l : List (List UInt8)), Tm.nodes kids < K → Tm.Is w h kids p → Tm.okT h kids = true → bm ≠ fm → nb + 4 * Tm.nodes kids ≤ 500000 → nf + Tm.nodes kids ≤ 500000 → bd.length + 2 * Tm.nodes kids ≤ 500000 → Srch w sb bm fm → Bnd w bm nb bd → Fre w fm nf l →
    Calls Tryz.prog 44 #[.pointer (some ⟨sb, 0, none⟩), .agg #[.int .i8 h.kind, .string h.name, .string h.arg, .int .i64 h.num, .int .i8 h.tk, .slice p.TA p.tn p.tc, .int .i8 h.uk, .slice p.UA p.un p.uc, .int .i64 h.label, .int .i64 h.pos, .slice p.A p.n p.c]] w (ThPost h kids bd l bm fm nb nf w) := by
  induction K with
  | zero => intro _ _ _ _ _ _ _ _ _ _ _ hK; omega
  | succ K ih =>
    intro h kids p w sb bm fm nb nf bd l hK hIs hok hne hn1 hn2 hn3 hS hB hF
    by_cases h0 : h.kind = 0
    · obtain rfl := ok_var hok h0
      by_cases hin : Tm.nm h.name ∈ bd
      · exact through_in h p w sb bm fm nb nf bd l hIs h0 hin hS hB hF
      · exact through_free h p w sb bm fm nb nf bd l hIs h0 hin hne (by omega) hS hB hF
    · have k0 : (h.kind == 0) = false := by simpa using h0
      have hb0 := (Below.refl w.heap.size w).alloc (Nat.le_refl _) (.cells #[.int .i8 h.kind, .string h.name, .string h.arg, .int .i64 h.num, .int .i8 h.tk, .slice p.TA p.tn p.tc, .int .i8 h.uk, .slice p.UA p.un p.uc, .int .i64 h.label, .int .i64 h.pos, .slice p.A p.n p.c] 28)
      have hx0 := heap_new w (.cells #[.int .i8 h.kind, .string h.name, .string h.arg, .int .i64 h.num, .int .i8 h.tk, .slice p.TA p.tn p.tc, .int .i8 h.uk, .slice p.UA p.un p.uc, .int .i64 h.label, .int .i64 h.pos, .slice p.A p.n p.c] 28)
      have hL := hIs.lies
      have hsm : ∀ i, ∀ s ∈ Tm.bindsB h i, s.size ≤ maxLen := fun i s hs => by
        have h1 := hIs.fit.nm
        have h2 := hIs.fit.ar
        unfold Tm.bindsB at hs
        split at hs
        · simp at hs; subst hs; unfold maxLen; omega
        · split at hs
          · simp at hs; subst hs; unfold maxLen; omega
          · split at hs
            · simp at hs; rcases hs with rfl | rfl <;> (unfold maxLen; omega)
            · cases hs
      have hpn : p.n = Tm.len kids := hIs.fit.n_eq
      have hpc : p.n ≤ maxLen := Nat.le_trans hIs.fit.n_le hIs.fit.c_le
      have i5 : (p.n : Int) ≤ 9223372036854775807 := by unfold maxLen at hpc; omega
      have hokF : Tm.okF kids = true := by unfold Tm.okT at hok; rw [Bool.and_eq_true] at hok; exact hok.2
      have hfr : Tm.frT h kids bd l = Tm.frG kids h 0 bd l := by unfold Tm.frT; rw [if_neg h0]
      have hBN := fun (i : Nat) (W : World) => binds_any h p i W
      have hst : ∀ m, ThRel w ((w.alloc (.cells #[.int .i8 h.kind, .string h.name, .string h.arg, .int .i64 h.num, .int .i8 h.tk, .slice p.TA p.tn p.tc, .int .i8 h.uk, .slice p.UA p.un p.uc, .int .i64 h.label, .int .i64 h.pos, .slice p.A p.n p.c] 28)).drewN m) ((w.alloc (.cells #[.int .i8 h.kind, .string h.name, .string h.arg, .int .i64 h.num, .int .i8 h.tk, .slice p.TA p.tn p.tc, .int .i8 h.uk, .slice p.UA p.un p.uc, .int .i64 h.label, .int .i64 h.pos, .slice p.A p.n p.c] 28)).drewN m) h kids p.A p.n sb bm fm nb nf bd l 0 kids nb nf l := fun m =>
        ⟨by omega, hL, hokF, (hB.below hb0).same rfl, (hF.below hb0).same rfl, .refl _ _ _, by omega, by omega, rfl, by omega⟩
      have HB0 := Lib.hid hb0
      have HX := Lib.hid hx0
      have HSS := Lib.hid (hS.below hb0)
      have HBB := Lib.hid (hB.below hb0)
      have HFF := Lib.hid (hF.below hb0)
      have HST := Lib.hid hst
      have HSM := Lib.hid hsm
      have HBN := Lib.hid hBN
      have HFR := Lib.hid hfr
      have IH := Lib.hid ih
      clear ih hst hsm hBN hfr hIs hok hL hpn hpc hokF hS hB hF h0
      generalize p.A = A at *
      generalize p.n = n at *
      obtain ⟨a0, a1, -, -, -, -, -, -, -, -, a10, hl1⟩ := own11 HX.out
      obtain ⟨s0, s1, -, -, hsl⟩ := own2 HSS.out
      clear hb0 hx0
      generalize hw1 : w.alloc (.cells _ 28) = w1 at *
      have HW1 := Lib.hid hw1
      clear hw1
      go_enter Tryz.func44, Tryz.ntmps44
      go_wp2_with fail
      rw [HW1.out]
      go_quiet (fail)
      go_wp2_with fail
      have HB2 : Hid (Below w.heap.size w (w1.drewN nq)) := Lib.hid (below_drewN HB0.out nq)
      have HX2 : Hid ((w1.drewN nq).heap[w.heap.size]? = _) := Lib.hid HX.out
      have HS2 : Hid (Srch (w1.drewN nq) sb bm fm) := Lib.hid HSS.out
      have HBB2 : Hid (Bnd (w1.drewN nq) bm nb bd) := Lib.hid (HBB.out.same rfl)
      have HFF2 : Hid (Fre (w1.drewN nq) fm nf l) := Lib.hid (HFF.out.same rfl)
      have HST2 := Lib.hid (HST.out nq)
      clear HB0 HX HSS HW1 HST HBB HFF a0 a1 a10 s0 s1 hl1 hsl
      generalize w1.drewN nq = w2 at *
      go_loopw [31] (fun v wr => ∃ (i : Nat) (rest : Tm) (nb' nf' : Nat) (l' : List (List UInt8)), v = .int .i64 i ∧ ThRel w w2 wr h kids A n sb bm fm nb nf bd l i rest nb' nf' l') (fun v _ => n - (intOf v).toNat)
      case atStart => exact ⟨0, kids, nb, nf, l, rfl, HST2.out⟩
      case round =>
        obtain ⟨i, rest, nb', nf', l', rfl, hR⟩ := hrel
        cases rest with
        | nil =>
          have hi : i = n := by have := hR.i_eq; simpa [Tm.len] using this
          have hfin : ThPost h kids bd l bm fm nb nf w (.returned (.tuple #[])) wr := by
            have e1 := hR.fr
            have e2 := hR.nb_le
            have e3 := hR.nf_le
            simp only [Tm.frG, Tm.nodes] at e1 e2 e3
            refine ⟨nb', nf', rfl, by omega, by omega, hR.bnd, ?_, (Turn2.of_below HB2.out).trans hR.turn⟩
            rw [HFR.out, ← e1]; exact hR.fre
          have HF := Lib.hid hfin
          clear hfin hR
          subst hi
          go_wp2_with fail
          go_end0
          exact HF.out
        | node g kk r =>
          have q1 := hR.i_eq
          have q2 := hR.lies
          have q3 := hR.ok
          have q4 := hR.nb_le
          have q5 := hR.nf_le
          have q6 := hR.sub
          simp only [Tm.len, Tm.nodes, Tm.okF, Bool.and_eq_true] at q1 q3 q4 q5 q6
          obtain ⟨bb, oo, q, hA, hcs, hfit, hl3, hl4⟩ := q2
          have hkw : Tm.Kept w wr := fun b hb o v hc => hR.turn.kept HBB2.out HFF2.out b (by obtain ⟨o', k', hk'⟩ := hb; exact ⟨o', k', by rw [HB2.out.cell (p := ⟨b, o', none⟩) (Ty.cell_lt hk')]; exact hk'⟩) o v (by rw [HB2.out.cell (p := ⟨b, o, none⟩) (Ty.cell_lt hc)]; exact hc)
          have hcs' : ∀ j v, (g.cells q)[j]? = some v → wr.cell? ⟨bb, oo + i * 11 + j, none⟩ = some v := fun j v hv => hkw bb ⟨_, _, hcs 0 _ rfl⟩ _ _ (hcs j v hv)
          have hokk : Tm.okT g kk = true := by unfold Tm.okT; rw [Bool.and_eq_true]; exact q3.1
          have hIk : Tm.Is wr g kk q := Tm.Is.kept ⟨hfit, hl3⟩ hkw
          obtain ⟨c0, c1, c2, c3, c4, c5, c6, c7, c8, c9, c10⟩ := Tm.row hcs'
          have xw := Turn2.heap hR.turn HBB2.out HFF2.out HX2.out
          have hSr := HS2.out.turn hR.turn HBB2.out HFF2.out
          have hb1 : Below wr.heap.size wr (wr.alloc (.cells #[.int .i8 g.kind, .string g.name, .string g.arg, .int .i64 g.num, .int .i8 g.tk, .slice q.TA q.tn q.tc, .int .i8 g.uk, .slice q.UA q.un q.uc, .int .i64 g.label, .int .i64 g.pos, .slice q.A q.n q.c] 28)) := (Below.refl _ _).alloc (Nat.le_refl _) _
          have XW := Lib.hid xw
          obtain ⟨a0, a1, a2, a3, a4, a5, a6, a7, a8, a9, a10, al1⟩ := own11 xw
          have j1 : (i : Int) < n := by omega
          have HR := Lib.hid hR
          have HIK := Lib.hid hIk
          have HSR := Lib.hid hSr
          have HL4 := Lib.hid hl4
          have HOKK := Lib.hid hokk
          have hbl := Tm.bindsB_len h i
          have HBl := Lib.hid hbl
          clear hR hIk hSr hcs hcs' hkw hfit hl3 hl4 q3 xw hokk hbl
          obtain rfl := hA
          go_wp2_with fail
          refine (HBN.out i _).mono ?_
          rintro e wb ⟨NA, nc, rfl, hNR, hb⟩
          have hB1 : Below wr.heap.size wr wb := hb1.trans (hb.mono hb1.size)
          have KB := Lib.hid (heap_below hb (by simp) (heap_new wr (.cells #[.int .i8 g.kind, .string g.name, .string g.arg, .int .i64 g.num, .int .i8 g.tk, .slice q.TA q.tn q.tc, .int .i8 g.uk, .slice q.UA q.un q.uc, .int .i64 g.label, .int .i64 g.pos, .slice q.A q.n q.c] 28)))
          have XB := Lib.hid (heap_below hB1 (heap_lt XW.out) XW.out)
          have SB := Lib.hid (HSR.out.below hB1)
          have BB := Lib.hid (HR.out.bnd.below hB1)
          have FB := Lib.hid (HR.out.fre.below hB1)
          have HB1 := Lib.hid hB1
          have HNR := Lib.hid hNR
          have zb := hb.size
          clear hB1 hb hb1 hNR c0 c1 c2 c3 c4 c5 c6 c7 c8 c9 c10 a0 a1 a2 a3 a4 a5 a6 a7 a8 a9 a10 al1
          go_wp2_with fail
          refine (enter_any (Tm.bindsB h i) NA nc sb bm fm nb' bd wb HBl.out (HSM.out i) (by omega) (by omega) HNR.out SB.out BB.out).mono ?_
          rintro e wc ⟨rfl, hBc, hgc⟩
          have tc : Turn2 bm fm wb wc := .of_b hgc
          have KC := Lib.hid (tc.heap BB.out FB.out KB.out)
          have XC := Lib.hid (tc.heap BB.out FB.out XB.out)
          have SC := Lib.hid (SB.out.turn tc BB.out FB.out)
          have FC := Lib.hid (FB.out.same (hgc.block fm FB.out.lt (fun e => hne (by injection e with e; exact e.symm))))
          have NC := Lib.hid (tc.nrow BB.out FB.out HNR.out)
          have IC := Lib.hid (Tm.Is.kept (HIK.out.below HB1.out) (tc.kept BB.out FB.out))
          rw [Tm.bindsB_map] at hBc
          have BC := Lib.hid hBc
          have TC := Lib.hid ((Turn2.of_below (b := bm) (f := fm) HB1.out).trans tc)
          clear tc hBc hgc SB BB FB KB XB HNR HIK
          obtain ⟨a0, a1, a2, a3, a4, a5, a6, a7, a8, a9, a10, al1⟩ := own11 KC.out
          go_wp2_with fail
          refine (IH.out g kk q wc sb bm fm (nb' + (Tm.bindsB h i).length) nf' (bd ++ Tm.binds h i) l' (by omega) IC.out HOKK.out hne (by have := HBl.out; omega) (by omega) (by have := Tm.binds_len h i; simp; omega) SC.out BC.out FC.out).mono ?_
          rintro e wd ⟨nb2, nf2, rfl, hn1', hn2', hBd, hFd, td⟩
          have XD := Lib.hid (td.heap BC.out FC.out XC.out)
          have SD := Lib.hid (SC.out.turn td BC.out FC.out)
          have ND := Lib.hid (td.nrow BC.out FC.out NC.out)
          rw [← Tm.bindsB_map] at hBd
          have BD := Lib.hid hBd
          have FD := Lib.hid hFd
          have TD := Lib.hid (TC.out.trans td)
          clear td hBd hFd SC BC FC KC XC NC IC TC a0 a1 a2 a3 a4 a5 a6 a7 a8 a9 a10 al1
          go_wp2_with fail
          refine (leave_any (Tm.bindsB h i) NA nc sb bm fm nb2 bd wd HBl.out (HSM.out i) (by have := HBl.out; omega) (by omega) ND.out SD.out BD.out).mono ?_
          rintro e we ⟨rfl, hBe, hge⟩
          have te : Turn2 bm fm wd we := .of_b hge
          have hR2 : Hid (ThRel w w2 we h kids (some ⟨bb, oo, none⟩) n sb bm fm nb nf bd l (i + 1) r (nb2 + (Tm.bindsB h i).length) nf2 (Tm.frT g kk (bd ++ Tm.binds h i) l')) := by
            have h1 := HR.out
            have hbl := HBl.out
            refine Lib.hid ⟨by omega, HL4.out, ?_, hBe, FD.out.same (hge.block fm FD.out.lt (fun e => hne (by injection e with e; exact e.symm))), h1.turn.trans (TD.out.trans te), by omega, by omega, ?_, by omega⟩
            · have := h1.ok; simp only [Tm.okF, Bool.and_eq_true] at this; exact this.2
            · rw [← Tm.frG_node]; exact h1.fr
          clear te hBe hge SD BD FD XD ND TD
          go_wp2_with fail
          go_roundw
          case rel => exact ⟨i + 1, r, _, _, _, by go_num, hR2.out⟩
          case measure => simp [intOf]; omega
end Go.Proofs.YtfkbdpehdabepaaGreatDoor
namespace Go.Proofs.YtfkbdpehdabepaaGreatDoor
open Go.RowKit Go.Maps

namespace Tm
/-- what Free tells -/
def frS (h : Hd) (kids : Tm) : List Nm := if chk h kids = 0 then (frT h kids [] []).mergeSort leB else []
theorem chk_ok {h : Hd} {kids : Tm} (e : chk h kids = 0) : okT h kids = true ∧ nd h kids ≤ 8192 ∧ dp h kids ≤ 200 := by
  unfold chk at e
  split at e
  · omega
  · split at e
    · omega
    · split at e
      · exact ⟨by assumption, by omega, by omega⟩
      · omega
theorem frS_len (h : Hd) (kids : Tm) : (frS h kids).length ≤ 8193 := by
  unfold frS; split
  · rename_i e
    rw [List.length_mergeSort]
    have h1 := frT_len h kids [] []
    have h2 := (chk_ok e).2.1
    unfold nd at h2
    simp at h1; omega
  · simp
end Tm
/-- a row of names, in new memory -/
def FreePost (w : World) (xs : List (List UInt8)) (e : Ending) (w' : World) : Prop :=
  ∃ v, e = .returned v ∧ w'.ownsRow w.heap.size 9 1 v xs.length (xs.map encStr) ∧ Below w.heap.size w w'

theorem keys_any (b : Nat) (W : World) : Calls Tryz.prog 46 #[.map (some b)] W fun e w' => e = .returned (.func (.func 97) #[] #[.pointer (some ⟨W.heap.size, 0, none⟩)]) ∧ w' = W.alloc (.cells #[.map (some b)] 54) :=
  callsIn_wide.1 (Tryz.maps_Keys_46 _ _)

set_option maxHeartbeats 4000000 in
set_option maxRecDepth 100000 in
theorem tfree_any (h : Hd) (kids : Tm) (p : Pl) (w : World) (hIs : Tm.Is w h kids p) (hG : TGlob w) :
    Calls Tryz.prog 15 #[.agg #[.int .i8 h.kind, .string h.name, .string h.arg, .int .i64 h.num, .int .i8 h.tk, .slice p.TA p.tn p.tc, .int .i8 h.uk, .slice p.UA p.un p.uc, .int .i64 h.label, .int .i64 h.pos, .slice p.A p.n p.c]] w (FreePost w (Tm.frS h kids)) := by
  have hB0 : Below w.heap.size w (w.alloc (.cells #[.int .i8 h.kind, .string h.name, .string h.arg, .int .i64 h.num, .int .i8 h.tk, .slice p.TA p.tn p.tc, .int .i8 h.uk, .slice p.UA p.un p.uc, .int .i64 h.label, .int .i64 h.pos, .slice p.A p.n p.c] 28)) := (Below.refl _ _).alloc (Nat.le_refl _) _
  have HX := Lib.hid (heap_new w (.cells #[.int .i8 h.kind, .string h.name, .string h.arg, .int .i64 h.num, .int .i8 h.tk, .slice p.TA p.tn p.tc, .int .i8 h.uk, .slice p.UA p.un p.uc, .int .i64 h.label, .int .i64 h.pos, .slice p.A p.n p.c] 28))
  have HM := Lib.hid (fun (W : World) (hb : Below w.heap.size w W) => tcheck_any h kids p W (hIs.below hb) (hG.below hb))
  by_cases h0 : Tm.chk h kids = 0
  · have hxs : Tm.frS h kids = (Tm.frT h kids [] []).mergeSort leB := by unfold Tm.frS; rw [if_pos h0]
    obtain ⟨hok, hnd, -⟩ := Tm.chk_ok h0
    have hnn : Tm.nodes kids + 1 ≤ 8192 := by unfold Tm.nd at hnd; omega
    have HT := Lib.hid (fun (W : World) (hb : Below w.heap.size w W) (sb bm fm : Nat) (hne : bm ≠ fm) (hS : Srch W sb bm fm) (hB : Bnd W bm 0 []) (hF : Fre W fm 0 []) => through_any (Tm.nodes kids + 1) h kids p W sb bm fm 0 0 [] [] (by omega) (hIs.below hb) hok hne (by omega) (by omega) (by simp; omega) hS hB hF)
    have hln := Tm.frT_nodup h kids [] [] List.nodup_nil
    rw [hxs]
    rw [h0] at HM
    have HLN := Lib.hid hln
    clear h0 hxs hok hnd hIs hG hln
    generalize hLL : Tm.frT h kids [] [] = L at *
    have HLL := Lib.hid hLL
    clear hLL
    have hmm := @run_makeMap Tryz.prog
    have HB0 := Lib.hid hB0
    clear hB0
    obtain ⟨a0, a1, a2, a3, a4, a5, a6, a7, a8, a9, a10, al1⟩ := own11 HX.out
    go_enter Tryz.func15, Tryz.ntmps15
    go_wp2_with fail
    refine (HM.out _ HB0.out).mono ?_
    rintro e w3 ⟨rfl, hb⟩
    have HB3 := Lib.hid (HB0.out.trans (hb.mono HB0.out.size))
    have HX3 := Lib.hid (heap_below hb (by simp) HX.out)
    clear hb a0 a1 a2 a3 a4 a5 a6 a7 a8 a9 a10 al1
    obtain ⟨a0, a1, a2, a3, a4, a5, a6, a7, a8, a9, a10, al1⟩ := own11 HX3.out
    go_upto_region 4 with fail
    have hb4 : Below w3.heap.size w3 (((w3.alloc (.map #[] 0)).alloc (.map #[] 0)).alloc (.cells #[.map (some w3.heap.size), .map (some (w3.heap.size + 1))] 56)) := (((Below.refl _ _).alloc (Nat.le_refl _) _).alloc (by simp) _).alloc (by simp <;> omega) _
    have hBn : Bnd (((w3.alloc (.map #[] 0)).alloc (.map #[] 0)).alloc (.cells #[.map (some w3.heap.size), .map (some (w3.heap.size + 1))] 56)) w3.heap.size 0 [] :=
      ⟨_, ((World.ownsMap_made w3 _ _ _).alloc _).alloc _, counts_empty⟩
    have hFr : Fre (((w3.alloc (.map #[] 0)).alloc (.map #[] 0)).alloc (.cells #[.map (some w3.heap.size), .map (some (w3.heap.size + 1))] 56)) (w3.heap.size + 1) 0 [] := by
      have := (World.ownsMap_made (H := Unit) (w3.alloc (.map #[] 0)) Tryz.prog 9 unitElem).alloc (.cells #[.map (some w3.heap.size), .map (some (w3.heap.size + 1))] 56)
      rw [show (w3.alloc (.map #[] 0)).heap.size = w3.heap.size + 1 by simp] at this
      exact ⟨_, this, setOf_empty⟩
    have hSr : Srch (((w3.alloc (.map #[] 0)).alloc (.map #[] 0)).alloc (.cells #[.map (some w3.heap.size), .map (some (w3.heap.size + 1))] 56)) (w3.heap.size + 1 + 1) w3.heap.size (w3.heap.size + 1) := by
      have := heap_new ((w3.alloc (.map #[] 0)).alloc (.map #[] 0)) (.cells #[.map (some w3.heap.size), .map (some (w3.heap.size + 1))] 56)
      simpa [Srch] using this
    have HB4 := Lib.hid (HB3.out.trans (hb4.mono HB3.out.size))
    have HX4 := Lib.hid (heap_below hb4 al1 HX3.out)
    have HBN := Lib.hid hBn
    have HFR := Lib.hid hFr
    have HSR := Lib.hid hSr
    have zl := HB3.out.size
    clear hb4 hBn hFr hSr a0 a1 a2 a3 a4 a5 a6 a7 a8 a9 a10 HB0 HX HX3 HM
    generalize ((w3.alloc (.map #[] 0)).alloc (.map #[] 0)).alloc (.cells #[.map (some w3.heap.size), .map (some (w3.heap.size + 1))] 56) = w4 at *
    generalize w3.heap.size = N at *
    obtain ⟨a0, a1, a2, a3, a4, a5, a6, a7, a8, a9, a10, bl1⟩ := own11 HX4.out
    go_wp2_with fail
    refine (HT.out w4 HB4.out (N + 1 + 1) N (N + 1) (by omega) HSR.out HBN.out HFR.out).mono ?_
    rintro e w5 ⟨nb, nf, rfl, -, hnf, -, hF5, t5⟩
    rw [HLL.out] at hF5
    have hb5 : Below w.heap.size w w5 := t5.below HB4.out (by omega) (by omega) HB4.out.size
    have hS5 := HSR.out.turn t5 HBN.out HFR.out
    obtain ⟨s0, s1, -, -, hsl⟩ := own2 hS5
    obtain ⟨F, hown, hSF⟩ := hF5
    have HB5 := Lib.hid hb5
    have HOWN := Lib.hid hown
    have HSF := Lib.hid hSF
    clear hb5 hS5 hown hSF t5 a0 a1 a2 a3 a4 a5 a6 a7 a8 a9 a10 HSR HBN HFR HB4 HX4
    have hsz := HOWN.out.size_le
    have CS := Lib.hid (callsIn_wide.1 (Tryz.slices_Sorted_keys_45_46 (N + 1) nf F unitElem w5 HOWN.out (by unfold maxLen; omega) (by omega)))
    clear hsz
    go_wp2_with (first
      | (go_at_call 46; refine (keys_any _ _).mono ?_; rintro e w6 ⟨rfl, rfl⟩)
      | (go_at_call 45; refine CS.out.mono ?_; rintro e w7 ⟨v, ss, rfl, hS, hrow, hnil, hb7⟩))
    go_ret
    have hpm := HSF.out.perm HLN.out HOWN.out law_key Tryz.underlying9 hS
    refine ⟨v, rfl, ?_, HB5.out.trans (((Below.refl _ _).alloc (Nat.le_refl _) _).trans (hb7.mono (by simp)) |>.mono HB5.out.size)⟩
    rw [← mergeSort_of_perm hpm, List.length_mergeSort]
    exact ownsRow_base_a hrow (by have := HB5.out.size; simp; omega)
  · have hxs : Tm.frS h kids = [] := by unfold Tm.frS; rw [if_neg h0]
    rw [hxs]
    have hc : (((Tm.chk h kids : Nat) : Int) != 0) = true := by simp; omega
    generalize Tm.chk h kids = C at *
    clear hxs h0
    obtain ⟨a0, a1, a2, a3, a4, a5, a6, a7, a8, a9, a10, al1⟩ := own11 HX.out
    go_enter Tryz.func15, Tryz.ntmps15
    go_wp2_with fail
    refine (HM.out _ hB0).mono ?_
    rintro e w3 ⟨rfl, hb⟩
    go_wp2_with fail
    go_ret
    exact ⟨_, rfl, World.ownsRow_nil _ _ _ _, hB0.trans (hb.mono hB0.size)⟩
end Go.Proofs.YtfkbdpehdabepaaGreatDoor
