/-
  The reference's In and With. The reference's free: a name; one body. The reference's free: two names; what stands ahead of a body; branches.
-/
import Derived.Test.YtemdgpihifigoaaGreatDoorFree0
import Derived.Test.YtemdgpihifigoaaGreatDoorMeasure
import Derived.Laws.NewBlocks
import Derived.WalkLawsBesides
import Derived.Test.YtemdgpihifigoaaGreatDoorTmCont
import Derived.Test.YtemdgpihifigoaaGreatDoorLeaf
import Derived.Maps.AppendAt
import Derived.Deep.RegionLaw
import Derived.Outline
namespace Go.Proofs.YtemdgpihifigoaaGreatDoor
open Go.RowKit Go.Maps

/-- a slice of these names -/
def BRow (w : World) (A : Option Addr) (l : List (List UInt8)) : Prop := ∀ j x, l[j]? = some x → ∃ g o, A = some ⟨g, o, none⟩ ∧ w.cell? ⟨g, o + j, none⟩ = some (encStr x)
theorem brow_nil (w : World) (A : Option Addr) : BRow w A [] := fun j s hj => by cases j <;> cases hj
theorem BRow.grown {w w' : World} {A : Option Addr} {l : List (List UInt8)} {row : Option Nat} (h : BRow w A l) (hg : w.grownBy w' row) (hne : ∀ g o, A = some ⟨g, o, none⟩ → some g ≠ row) : BRow w' A l := fun j s hj => by
  obtain ⟨g, o, e, hc⟩ := h j s hj
  exact ⟨g, o, e, by rw [World.cell?_of_block (hg.block g (Ty.cell_lt hc) (hne g o e))]; exact hc⟩
theorem BRow.below {w w' : World} {A : Option Addr} {l : List (List UInt8)} (h : BRow w A l) (hb : Below w.heap.size w w') : BRow w' A l := fun j s hj => by
  obtain ⟨g, o, e, hc⟩ := h j s hj
  exact ⟨g, o, e, by rw [hb.cell (p := ⟨g, o + j, none⟩) (Ty.cell_lt hc)]; exact hc⟩
theorem BRow.own {w : World} {base : Nat} {t : TypeId} {A : Option Addr} {n c : Nat} {l : List (List UInt8)} (h : w.ownsRow base t 1 (.slice A n c) n (l.map encStr)) (hn : n = l.length) : BRow w A l := fun j x hj => by
  have hlt := (List.getElem?_eq_some_iff.1 hj).1
  obtain ⟨g, cap, e, -, -, -, -, hr⟩ := row_reads h (by omega)
  injection e with e1
  exact ⟨g, 0, e1, by rw [Nat.zero_add]; exact hr j _ (by rw [List.getElem?_map, hj]; rfl)⟩
theorem eq_bytes (x s : ByteArray) : (x.toList == s.toList) = decide (Tm.nm x = Tm.nm s) := by
  rw [Bool.eq_iff_iff]
  simp only [beq_iff_eq, decide_eq_true_eq, Lib.toList_data]
  exact Iff.rfl
theorem enc_of (x : List UInt8) : ∃ sx : ByteArray, encStr x = .string sx ∧ Tm.nm sx = x := ⟨⟨x.toArray⟩, rfl, by simp [Tm.nm]⟩

set_option maxHeartbeats 4000000 in
set_option maxRecDepth 100000 in
theorem in_any (l : List (List UInt8)) (A : Option Addr) (c : Nat) (s : ByteArray) (w : World) (hl : l.length ≤ 1000000) (hr : BRow w A l) :
    Calls Tryz.prog 54 #[.slice A l.length c, .string s] w fun e w' => e = .returned (.bool (decide (Tm.nm s ∈ l))) ∧ w = w' := by
  obtain ⟨n, hn⟩ : ∃ n, n = l.length := ⟨_, rfl⟩
  rw [← hn] at hl ⊢
  have HN := Lib.hid hn
  have HR := Lib.hid hr
  have i5 : (n : Int) ≤ 1000000 := by omega
  obtain ⟨B, hB⟩ : ∃ B, B = decide (Tm.nm s ∈ l) := ⟨_, rfl⟩
  rw [← hB]
  have HB := Lib.hid hB
  clear hn hr hB
  go_enter Tryz.func54, Tryz.ntmps54
  go_wp2_with fail
  go_loop [5] (fun v => ∃ i : Nat, v = .int .i64 i ∧ i ≤ n ∧ Tm.nm s ∉ l.take i) (fun v => n - (intOf v).toNat)
  case atStart => exact ⟨0, rfl, by omega, by simp⟩
  case round =>
    obtain ⟨i, rfl, hi, hno⟩ := hrel
    by_cases hin : i < n
    · obtain ⟨x, hx⟩ : ∃ x, l[i]? = some x := ⟨l[i]'(by have := HN.out; omega), List.getElem?_eq_getElem _⟩
      obtain ⟨g, o, hA, hc⟩ := HR.out i x hx
      have j1 : (i : Int) < n := by omega
      have j2 : (0 : Int) ≤ i ∧ (i : Int) < n := by omega
      obtain ⟨sx, hsx, hnx⟩ := enc_of x
      have e1 := eq_bytes sx s
      rw [hnx] at e1
      rw [hsx] at hc
      clear hsx hnx
      by_cases hxs : x = Tm.nm s
      · have e2 : (sx.toList == s.toList) = true := by rw [e1]; simpa using hxs
        have hb : B = true := by rw [HB.out, decide_eq_true_iff, ← hxs]; exact List.mem_of_getElem? hx
        clear hxs hx e1 hno
        obtain rfl := hA
        subst hb
        go_wp2_with fail
        go_ret
        exact ⟨rfl, rfl⟩
      · have e2 : (sx.toList == s.toList) = false := by rw [e1]; simpa using hxs
        have hno2 : Tm.nm s ∉ l.take (i + 1) := by
          rw [List.take_add_one, hx]
          simp
          exact ⟨hno, fun h => hxs h.symm⟩
        have HNO := Lib.hid hno2
        clear hxs hx e1 hno hno2
        obtain rfl := hA
        go_wp2_with fail
        go_round
        case rel => exact ⟨i + 1, by go_num, by omega, HNO.out⟩
        case measure => simp [intOf]; omega
    · have hb : B = false := by
        rw [HB.out, decide_eq_false_iff_not]
        rw [List.take_of_length_le (by have := HN.out; omega)] at hno
        exact hno
      have j1 : ¬ ((i : Int) < n) := by omega
      clear hno
      subst hb
      go_wp2_with fail
      go_ret
      exact ⟨rfl, rfl⟩

theorem info_string : (Tryz.prog.info? 9).map (fun i => (i.zero, i.size, i.bytes)) = some (some (.string ⟨#[]⟩), 1, 16) := by kernel_rfl
/-- what With hands back -/
def WithPost (w : World) (l : List (List UInt8)) (e : Ending) (w' : World) : Prop :=
  ∃ g c, e = .returned (.slice (some ⟨g, 0, none⟩) l.length c) ∧ BRow w' (some ⟨g, 0, none⟩) l ∧ w.heap.size ≤ g ∧ Below w.heap.size w w'

set_option maxHeartbeats 4000000 in
set_option maxRecDepth 100000 in
theorem with_any (l : List (List UInt8)) (A : Option Addr) (c : Nat) (s : ByteArray) (w : World) (hl : l.length ≤ 1000000) (hr : BRow w A l) :
    Calls Tryz.prog 55 #[.slice A l.length c, .string s] w (WithPost w (l ++ [Tm.nm s])) := by
  obtain ⟨n, hn⟩ : ∃ n, n = l.length := ⟨_, rfl⟩
  rw [← hn] at hl ⊢
  have HN := Lib.hid hn
  have HR := Lib.hid hr
  have i5 : (n : Int) ≤ 1000000 := by omega
  obtain ⟨i0, hi, hz0, hz1, hz2⟩ := info_parts info_string
  clear hn hr
  go_enter Tryz.func55, Tryz.ntmps55
  go_wp2_with (first | (at_make; refine wpList_make_own _ rfl _ _ 30 rfl w.heap.size 9 i0 (.string ⟨#[]⟩) 1 Tryz.underlying30 hi hz0 hz1 .i64 .i64 ((n : Int) + 1) (n + 1) rfl rfl (by omega) (by rw [hz2]; omega) (by unfold maxLen; omega) (Nat.le_refl _) ?_; intro w1 hown hg))
  have HG := Lib.hid hg
  have HO := Lib.hid hown
  clear hg hown
  go_loopw [5, 6] (fun v5 v6 wr => ∃ i : Nat, v6 = .int .i64 i ∧ i ≤ n ∧ wr.ownsRow w.heap.size 9 1 v5 i ((l.take i).map encStr) ∧ Below w.heap.size w wr) (fun _ v _ => n - (intOf v).toNat)
  case atStart => exact ⟨0, rfl, by omega, by simpa using HO.out, (Below.refl _ _).grown HG.out (Nat.le_refl _) (fun k hk => by cases hk)⟩
  case round =>
    obtain ⟨i, rfl, hi', hown, hb⟩ := hrel
    by_cases hin : i < n
    · obtain ⟨x, hx⟩ : ∃ x, l[i]? = some x := ⟨l[i]'(by have := HN.out; omega), List.getElem?_eq_getElem _⟩
      obtain ⟨g, o, hA, hc⟩ := HR.out i x hx
      have hc' : wr.cell? ⟨g, o + i, none⟩ = some (.string ⟨x.toArray⟩) := by rw [hb.cell (p := ⟨g, o + i, none⟩) (Ty.cell_lt hc)]; exact hc
      have j1 : (i : Int) < n := by omega
      have j2 : (0 : Int) ≤ i ∧ (i : Int) < n := by omega
      have HX := Lib.hid hx
      have HB := Lib.hid hb
      have zb := hb.size
      clear hx hc hb
      obtain rfl := hA
      go_wp2_with (first | (at_builtin; refine wpList_append_own _ rfl _ _ 30 rfl w.heap.size 9 i0 (.string ⟨#[]⟩) 1 16 Tryz.underlying30 hi hz0 hz1 hz2 rfl (by decide) u5 _ _ rfl (hown.alloc _) ⟨wr.heap.size, 0, none⟩ 1 1 [encStr x] rfl rfl ?c1 ?c2 ?c3 ?c4 ?c5 ?_))
      case c1 => exact cells_of_heap (heap_new wr _)
      case c2 => intro y hy; simp at hy; subst hy; rfl
      case c3 => unfold maxLen; omega
      case c4 => omega
      case c5 => simp; omega
      intro v' w2 hown2 hg2 _
      have hfin : Hid (w2.ownsRow w.heap.size 9 1 v' (i + 1) ((l.take (i + 1)).map encStr) ∧ Below w.heap.size w w2) := by
        refine Lib.hid ⟨?_, ((HB.out.alloc zb _).grown hg2 (by simp; omega) (fun k hk => (hown.lt k hk).1))⟩
        rw [List.take_add_one, HX.out, List.map_append, List.map_take]
        first | exact hown2 | (rw [List.map_take] at hown2; exact hown2)
      clear hown2 hg2 hown
      go_wp2_with fail
      go_roundw
      case rel => exact ⟨i + 1, by go_num, by omega, hfin.out.1, hfin.out.2⟩
      case measure => simp [intOf]; omega
    · obtain rfl : i = n := by omega
      have j1 : ¬ ((i : Int) < i) := by omega
      rw [List.take_of_length_le (by have := HN.out; omega)] at hown
      have HB := Lib.hid hb
      have zb := hb.size
      clear hb
      go_wp2_with (first | (at_builtin; refine wpList_append_own _ rfl _ _ 30 rfl w.heap.size 9 i0 (.string ⟨#[]⟩) 1 16 Tryz.underlying30 hi hz0 hz1 hz2 rfl (by decide) u5 _ _ rfl (hown.alloc _) ⟨wr.heap.size, 0, none⟩ 1 1 [.string s] rfl rfl ?c1 ?c2 ?c3 ?c4 ?c5 ?_))
      case c2 => rfl
      case c3 => unfold maxLen; omega
      case c4 => omega
      case c5 => omega
      intro v' w2 hown2 hg2 _
      have hfin : WithPost w (l ++ [Tm.nm s]) (.returned v') w2 := by
        have hb2 := (HB.out.alloc zb (.cells #[.string s] 9)).grown hg2 (by simp; omega) (fun k hk => (hown.lt k hk).1)
        have e : l.map encStr ++ [.string s] = (l ++ [Tm.nm s]).map encStr := by rw [List.map_append]; rfl
        rw [e] at hown2
        have hle : i + 1 = (l ++ [Tm.nm s]).length := by have := HN.out; simp; omega
        rw [hle] at hown2
        obtain ⟨g, cap, hv, hgb, -, -, -, -⟩ := row_reads hown2 (by simp)
        subst hv
        exact ⟨g, cap, rfl, BRow.own hown2 rfl, hgb, hb2⟩
      have HF := Lib.hid hfin
      clear hown2 hg2 hown hfin
      go_wp2_with fail
      go_ret
      exact HF.out
end Go.Proofs.YtemdgpihifigoaaGreatDoor
namespace Go.Proofs.YtemdgpihifigoaaGreatDoor
open Go.RowKit Go.Maps

/-- the block of a slice -/
def ob (A : Option Addr) : Option Nat := (Value.slice A 0 0).ownBlock
theorem ob_is (A : Option Addr) (n c : Nat) : (Value.slice A n c).ownBlock = ob A := by cases A <;> rfl
/-- the names so far -/
def LR (base : Nat) (w : World) (LA : Option Addr) (lc : Nat) (l : List (List UInt8)) : Prop := w.ownsRow base 9 1 (.slice LA l.length lc) l.length (l.map encStr)
/-- the names that are bound, and do not lie where the others grow -/
structure BR (w : World) (A : Option Addr) (bd : List (List UInt8)) (LA : Option Addr) : Prop where
  row : BRow w A bd
  off : bd ≠ [] → ∀ g o, A = some ⟨g, o, none⟩ → some g ≠ ob LA
theorem BR.lt {w : World} {A : Option Addr} {bd : List (List UInt8)} {LA : Option Addr} (h : BR w A bd LA) (hne : bd ≠ []) {g o : Nat} (e : A = some ⟨g, o, none⟩) : g < w.heap.size := by
  cases bd with
  | nil => exact absurd rfl hne
  | cons x r =>
    obtain ⟨g', o', e', hc⟩ := h.row 0 x rfl
    rw [e] at e'; injection e' with e'; injection e' with e1
    subst e1; exact Ty.cell_lt hc
/-- what has become of the names -/
def Upto (w : World) (LA LA' : Option Addr) : Prop := ob LA' = ob LA ∨ ∃ g, ob LA' = some g ∧ w.heap.size ≤ g
theorem BRow.grown2 {w w' : World} {A : Option Addr} {l : List (List UInt8)} {row : Option Nat} (h : BRow w A l) (hg : w.grownBy w' row) (hne : l ≠ [] → ∀ g o, A = some ⟨g, o, none⟩ → some g ≠ row) : BRow w' A l := fun j s hj => by
  obtain ⟨g, o, e, hc⟩ := h j s hj
  exact ⟨g, o, e, by rw [World.cell?_of_block (hg.block g (Ty.cell_lt hc) (hne (by rintro rfl; cases hj) g o e))]; exact hc⟩
theorem BR.step {w w' : World} {A LA LA' : Option Addr} {bd : List (List UInt8)} (h : BR w A bd LA) (hg : w.grownBy w' (ob LA)) (hu : Upto w LA LA') : BR w' A bd LA' :=
  ⟨h.row.grown2 hg h.off, fun hn g o e => by
    rcases hu with q | ⟨g', q, hq⟩
    · rw [q]; exact h.off hn g o e
    · rw [q]; intro e2; injection e2 with e2; have := h.lt hn e; omega⟩
theorem BR.below {w w' : World} {A LA : Option Addr} {bd : List (List UInt8)} (h : BR w A bd LA) (hb : Below w.heap.size w w') : BR w' A bd LA := ⟨h.row.below hb, h.off⟩
theorem LR.below {base : Nat} {w w' : World} {LA : Option Addr} {lc : Nat} {l : List (List UInt8)} (h : LR base w LA lc l) (hb : Below w.heap.size w w') : LR base w' LA lc l := ownsRow_below h hb
theorem LR.lt {base : Nat} {w : World} {LA : Option Addr} {lc : Nat} {l : List (List UInt8)} (h : LR base w LA lc l) : ∀ g, ob LA = some g → base ≤ g ∧ g < w.heap.size := fun g hg => World.ownsRow.lt h g (by rw [ob_is]; exact hg)
theorem Upto.trans {x y : World} {A B C : Option Addr} (h : Upto x A B) (k : Upto y B C) (hs : x.heap.size ≤ y.heap.size) : Upto x A C := by
  rcases k with k | ⟨g, k, hk⟩
  · rcases h with h | ⟨g, h, hg⟩
    · exact .inl (k.trans h)
    · exact .inr ⟨g, k.trans h, hg⟩
  · exact .inr ⟨g, k, by omega⟩
/-- what the reference's free leaves -/
def FrPost (base : Nat) (LA : Option Addr) (l' : List (List UInt8)) (w : World) (e : Ending) (w' : World) : Prop :=
  ∃ LA' lc', e = .returned (.slice LA' l'.length lc') ∧ LR base w' LA' lc' l' ∧ w.grownBy w' (ob LA) ∧ Upto w LA LA'
theorem grown_alloc {w w' : World} {row : Option Nat} {o : Obj} (h : (w.alloc o).grownBy w' row) : w.grownBy w' row :=
  ⟨h.os, h.tape, h.output, Nat.le_trans (by simp) h.size, fun k hk hne => (h.block k (by simp; omega) hne).trans (Below.heap_alloc w o k hk)⟩
theorem grown_below {w u w' : World} {row : Option Nat} (hb : Below w.heap.size w u) (h : u.grownBy w' row) : w.grownBy w' row :=
  ⟨h.os.trans hb.os, h.tape.trans hb.tape, h.output.trans hb.output, Nat.le_trans hb.size h.size, fun k hk hne => (h.block k (Nat.lt_of_lt_of_le hk hb.size) hne).trans (hb.block k hk)⟩
theorem grown_of_below {w u : World} {row : Option Nat} (hb : Below w.heap.size w u) : w.grownBy u row := ⟨hb.os, hb.tape, hb.output, hb.size, fun k hk _ => hb.block k hk⟩

set_option maxHeartbeats 4000000 in
set_option maxRecDepth 100000 in
theorem free_var (h : Hd) (kids : Tm) (p : Pl) (w : World) (bd l : List (List UInt8)) (A LA : Option Addr) (c lc base : Nat) (h0 : h.kind = 0) (hbase : base ≤ w.heap.size) (hBR : BR w A bd LA) (hLR : LR base w LA lc l) (hn1 : bd.length ≤ 1000000) (hn2 : l.length ≤ 999999) :
    Calls Tryz.prog 27 #[.agg #[.int .i8 h.kind, .string h.name, .string h.arg, .int .i64 h.num, .int .i8 h.tk, .slice p.TA p.tn p.tc, .int .i8 h.uk, .slice p.UA p.un p.uc, .int .i64 h.label, .int .i64 h.pos, .slice p.A p.n p.c], .slice A bd.length c, .slice LA l.length lc] w (FrPost base LA (Tm.frT h kids bd l) w) := by
  have hB0 : Below w.heap.size w (w.alloc (.cells #[.int .i8 h.kind, .string h.name, .string h.arg, .int .i64 h.num, .int .i8 h.tk, .slice p.TA p.tn p.tc, .int .i8 h.uk, .slice p.UA p.un p.uc, .int .i64 h.label, .int .i64 h.pos, .slice p.A p.n p.c] 28)) := (Below.refl _ _).alloc (Nat.le_refl _) _
  have hX := heap_new w (.cells #[.int .i8 h.kind, .string h.name, .string h.arg, .int .i64 h.num, .int .i8 h.tk, .slice p.TA p.tn p.tc, .int .i8 h.uk, .slice p.UA p.un p.uc, .int .i64 h.label, .int .i64 h.pos, .slice p.A p.n p.c] 28)
  obtain ⟨a0, a1, -, -, -, -, -, -, -, -, a10, al1⟩ := own11 hX
  have hres : Tm.frT h kids bd l = Tm.vr (Tm.nm h.name) bd l := by unfold Tm.frT; rw [if_pos h0]
  have k0 : (h.kind == 0) = true := by simp [h0]
  have CB := Lib.hid (in_any bd A c h.name (w.alloc (.cells #[.int .i8 h.kind, .string h.name, .string h.arg, .int .i64 h.num, .int .i8 h.tk, .slice p.TA p.tn p.tc, .int .i8 h.uk, .slice p.UA p.un p.uc, .int .i64 h.label, .int .i64 h.pos, .slice p.A p.n p.c] 28)) hn1 (hBR.below hB0).row)
  have CL := Lib.hid (in_any l LA lc h.name (w.alloc (.cells #[.int .i8 h.kind, .string h.name, .string h.arg, .int .i64 h.num, .int .i8 h.tk, .slice p.TA p.tn p.tc, .int .i8 h.uk, .slice p.UA p.un p.uc, .int .i64 h.label, .int .i64 h.pos, .slice p.A p.n p.c] 28)) (by omega) (BRow.own (hLR.below hB0) rfl))
  have HL := Lib.hid hLR
  have HL1 := Lib.hid (hLR.below hB0)
  rw [hres]
  obtain ⟨i0, hi, hz0, hz1, hz2⟩ := info_parts info_string
  have e5 : (l.length : Int) ≤ 999999 := by omega
  by_cases hin : Tm.nm h.name ∈ bd
  · have hv : Tm.vr (Tm.nm h.name) bd l = l := by unfold Tm.vr; rw [if_pos (.inl hin)]
    rw [hv]
    rw [decide_eq_true hin] at CB
    clear hv hres hin h0 hX hBR hLR CL
    go_enter Tryz.func27, Tryz.ntmps27
    go_wp2_with fail
    refine CB.out.mono ?_
    rintro e w' ⟨rfl, rfl⟩
    go_wp2_with fail
    go_ret
    exact ⟨LA, lc, rfl, HL1.out, grown_of_below hB0, .inl rfl⟩
  · rw [decide_eq_false hin] at CB
    by_cases hil : Tm.nm h.name ∈ l
    · have hv : Tm.vr (Tm.nm h.name) bd l = l := by unfold Tm.vr; rw [if_pos (.inr hil)]
      rw [hv]
      rw [decide_eq_true hil] at CL
      clear hv hres hin hil h0 hX hBR hLR
      go_enter Tryz.func27, Tryz.ntmps27
      go_wp2_with fail
      refine CB.out.mono ?_
      rintro e w' ⟨rfl, rfl⟩
      go_wp2_with fail
      refine CL.out.mono ?_
      rintro e w' ⟨rfl, rfl⟩
      go_wp2_with fail
      go_ret
      exact ⟨LA, lc, rfl, HL1.out, grown_of_below hB0, .inl rfl⟩
    · have hv : Tm.vr (Tm.nm h.name) bd l = l ++ [Tm.nm h.name] := by unfold Tm.vr; rw [if_neg (by simp [hin, hil])]
      rw [hv]
      rw [decide_eq_false hil] at CL
      clear hv hres hin hil h0 hX hBR hLR
      go_enter Tryz.func27, Tryz.ntmps27
      go_wp2_with fail
      refine CB.out.mono ?_
      rintro e w' ⟨rfl, rfl⟩
      go_wp2_with fail
      refine CL.out.mono ?_
      rintro e w' ⟨rfl, rfl⟩
      go_wp2_with (first | (at_builtin; refine wpList_append_own_at _ rfl _ _ 30 rfl base 9 i0 (.string ⟨#[]⟩) 1 16 Tryz.underlying30 hi hz0 hz1 hz2 rfl (by decide) (.slice LA l.length lc) _ _ rfl (World.ownsRow.alloc HL1.out _) ⟨w.heap.size + 1, 0, none⟩ 1 1 [.string h.name] rfl rfl ?c1 ?c2 ?c3 ?c4 ?c5 ?_))
      case c1 => exact cells_of_heap (heap_new2 w _ _)
      case c2 => intro y hy; simp at hy; subst hy; rfl
      case c3 => unfold maxLen; omega
      case c4 => omega
      case c5 => simp; omega
      intro v' w2 hown2 hg2 _ hat
      have hfin : FrPost base LA (l ++ [Tm.nm h.name]) w (.returned v') w2 := by
        have e : l.map encStr ++ [.string h.name] = (l ++ [Tm.nm h.name]).map encStr := by rw [List.map_append]; simp [encStr, Tm.nm]
        rw [e] at hown2
        have hle : l.length + 1 = (l ++ [Tm.nm h.name]).length := by simp
        rw [hle] at hown2
        obtain ⟨g, cap, hv, hgb, -, -, -, -⟩ := row_reads hown2 (by simp)
        subst hv
        refine ⟨_, cap, rfl, hown2, grown_alloc (grown_alloc (by rw [ob_is] at hg2; exact hg2)), ?_⟩
        rw [ob_is, ob_is] at hat
        rcases hat with q | q
        · exact .inl q
        · exact .inr ⟨_, q, by (try simp only [World.heap_size_alloc]); omega⟩
      have HF := Lib.hid hfin
      clear hown2 hg2 hfin hat
      go_wp2_with fail
      go_ret
      exact HF.out

/-- what a kid's place asks, and what the call on it leaves -/
structure KidAt (base : Nat) (w : World) (g : Hd) (kk : Tm) (q : Pl) (bb oo : Nat) : Prop where
  row : ∀ j v, (g.cells q)[j]? = some v → w.cell? ⟨bb, oo + j, none⟩ = some v
  low : bb < base
  call : ∀ (W : World) (A LA : Option Addr) (c lc : Nat) (bd l : List (List UInt8)), Below base w W → BR W A bd LA → LR base W LA lc l → bd.length + 2 * Tm.nodes kk ≤ 500000 → l.length + Tm.nodes kk ≤ 500000 →
    Calls Tryz.prog 27 #[.agg #[.int .i8 g.kind, .string g.name, .string g.arg, .int .i64 g.num, .int .i8 g.tk, .slice q.TA q.tn q.tc, .int .i8 g.uk, .slice q.UA q.un q.uc, .int .i64 g.label, .int .i64 g.pos, .slice q.A q.n q.c], .slice A bd.length c, .slice LA l.length lc] W (FrPost base LA (Tm.frT g kk bd l) W)
theorem KidAt.rowAt {base : Nat} {w W : World} {g : Hd} {kk : Tm} {q : Pl} {bb oo : Nat} (h : KidAt base w g kk q bb oo) (hb : Below base w W) : ∀ j v, (g.cells q)[j]? = some v → W.cell? ⟨bb, oo + j, none⟩ = some v := fun j v hv => by
  rw [hb.cell (p := ⟨bb, oo + j, none⟩) h.low]; exact h.row j v hv

set_option maxHeartbeats 8000000 in
set_option maxRecDepth 100000 in
theorem free_lam (h g : Hd) (kk : Tm) (p q : Pl) (w : World) (bd l : List (List UInt8)) (A LA : Option Addr) (c lc base bb oo : Nat) (h0 : h.kind = 4) (hbase : base ≤ w.heap.size) (hpA : p.A = some ⟨bb, oo, none⟩) (hpn : p.n = 1) (hK : KidAt base w g kk q bb oo) (hBR : BR w A bd LA) (hLR : LR base w LA lc l) (hn1 : bd.length + 2 * (Tm.nodes kk + 1) ≤ 500000) (hn2 : l.length + Tm.nodes kk ≤ 500000) :
    Calls Tryz.prog 27 #[.agg #[.int .i8 h.kind, .string h.name, .string h.arg, .int .i64 h.num, .int .i8 h.tk, .slice p.TA p.tn p.tc, .int .i8 h.uk, .slice p.UA p.un p.uc, .int .i64 h.label, .int .i64 h.pos, .slice p.A p.n p.c], .slice A bd.length c, .slice LA l.length lc] w (FrPost base LA (Tm.frT h (.node g kk .nil) bd l) w) := by
  have hB0 : Below w.heap.size w (w.alloc (.cells #[.int .i8 h.kind, .string h.name, .string h.arg, .int .i64 h.num, .int .i8 h.tk, .slice p.TA p.tn p.tc, .int .i8 h.uk, .slice p.UA p.un p.uc, .int .i64 h.label, .int .i64 h.pos, .slice p.A p.n p.c] 28)) := (Below.refl _ _).alloc (Nat.le_refl _) _
  have HX := Lib.hid (heap_new w (.cells #[.int .i8 h.kind, .string h.name, .string h.arg, .int .i64 h.num, .int .i8 h.tk, .slice p.TA p.tn p.tc, .int .i8 h.uk, .slice p.UA p.un p.uc, .int .i64 h.label, .int .i64 h.pos, .slice p.A p.n p.c] 28))
  obtain ⟨bd', hbd⟩ : ∃ x, x = bd ++ [Tm.nm h.name] := ⟨_, rfl⟩
  have hfr : Tm.frT h (.node g kk .nil) bd l = Tm.frT g kk bd' l := by
    have e : Tm.binds h 0 = [Tm.nm h.name] := by unfold Tm.binds; rw [if_pos (.inl h0)]
    conv => lhs; unfold Tm.frT
    rw [if_neg (by omega), Tm.frG_node, e, hbd]
    rfl
  have k0 : (h.kind == 0) = false := by simp; omega
  have k4 : (h.kind == 4) = true := by simp; omega
  have hlen : bd'.length = bd.length + 1 := by rw [hbd]; simp
  have CW := Lib.hid (fun (W : World) (hb : Below w.heap.size w W) => (show Calls Tryz.prog 55 #[.slice A bd.length c, .string h.name] W (WithPost W bd') from hbd ▸ with_any bd A c h.name W (by omega) (hBR.below hb).row))
  have hBLR := fun (W : World) (hb : Below w.heap.size w W) => hLR.below hb
  have hBBR := fun (W W' : World) (g' : Nat) (hb : Below w.heap.size w W) (hr : BRow W' (some ⟨g', 0, none⟩) bd') (hg : W.heap.size ≤ g') => (⟨hr, fun _ g o e => by injection e with e; injection e with e1 _; subst e1; intro e2; have := (hLR.lt _ e2.symm).2; have := hb.size; omega⟩ : BR W' (some ⟨g', 0, none⟩) bd' LA)
  have HLR := Lib.hid hBLR
  have HBR := Lib.hid hBBR
  have HB0 := Lib.hid hB0
  have HK := Lib.hid hK
  have HLN := Lib.hid hlen
  rw [hfr]
  have HPA := Lib.hid hpA
  have HPN := Lib.hid hpn
  have HBS := Lib.hid hbase
  clear hfr hbd hlen hLR hBR hBLR hBBR hK hB0 h0 hpA hpn hbase
  generalize p.A = PA at *
  generalize p.n = PN at *
  obtain rfl : PA = some ⟨bb, oo, none⟩ := HPA.out
  obtain rfl : PN = 1 := HPN.out
  generalize hw1 : w.alloc (.cells _ 28) = w1 at *
  have HW1 := Lib.hid hw1
  clear hw1
  obtain ⟨a0, a1, a2, a3, a4, a5, a6, a7, a8, a9, a10, al1⟩ := own11 HX.out
  obtain ⟨c0, c1, c2, c3, c4, c5, c6, c7, c8, c9, c10⟩ := Tm.row (HK.out.rowAt (HB0.out.mono HBS.out))
  go_enter Tryz.func27, Tryz.ntmps27
  go_wp2_with fail
  rw [HW1.out]
  go_wp2_with fail
  go_region_law (first
    | (go_simp; go_at_call 55; (with_reducible refine (CW.out _ HB0.out.drew).mono ?_); rintro e u1 ⟨g1, lc1, rfl, hr1, hg1, hb1⟩; have D1 := Lib.hid (HB0.out.drew.trans (hb1.mono HB0.out.drew.size)); have X1 := heap_below hb1 (show w.heap.size < w1.drew.heap.size from al1) (show w1.drew.heap[w.heap.size]? = _ from HX.out); have R1 := Lib.hid (HBR.out _ u1 g1 HB0.out.drew hr1 hg1); obtain ⟨x0, x1, x2, x3, x4, x5, x6, x7, x8, x9, x10, xl1⟩ := own11 X1; obtain ⟨d0, d1, d2, d3, d4, d5, d6, d7, d8, d9, d10⟩ := Tm.row (HK.out.rowAt (D1.out.mono HBS.out)); clear hr1 hg1 hb1 X1; go_wp2_with fail)
    | (go_simp; go_at_call 27; (with_reducible refine (HK.out.call _ _ _ _ _ _ _ (D1.out.mono HBS.out) R1.out (HLR.out _ D1.out) (by have := HLN.out; omega) hn2).mono ?_); rintro e u2 ⟨LA2, lc2, rfl, hL2, hg2, hu2⟩; have FIN := Lib.hid (show FrPost base LA (Tm.frT g kk bd' l) w (.returned (.slice LA2 (Tm.frT g kk bd' l).length lc2)) u2 from ⟨LA2, lc2, rfl, hL2, grown_below D1.out hg2, by rcases hu2 with q | ⟨z, q, hz⟩; exact .inl q; exact .inr ⟨z, q, Nat.le_trans D1.out.size hz⟩⟩); clear hL2 hg2 hu2; go_wp2_with fail))
  all_goals
    go_wp2_with fail
    go_ret
    exact FIN.out
end Go.Proofs.YtemdgpihifigoaaGreatDoor
namespace Go.Proofs.YtemdgpihifigoaaGreatDoor
open Go.RowKit Go.Maps

/-- a state of the reference's free -/
structure FS (base B : Nat) (w : World) (X : Obj) (A : Option Addr) (bd : List (List UInt8)) (LA0 : Option Addr) (W : World) (LA : Option Addr) (lc : Nat) (l : List (List UInt8)) : Prop where
  low : Below base w W
  grown : w.grownBy W (ob LA0)
  upto : Upto w LA0 LA
  box : W.heap[B]? = some X
  off : ob LA ≠ some B
  br : BR W A bd LA
  lr : LR base W LA lc l
theorem FS.start {base : Nat} {w : World} {A LA : Option Addr} {bd l : List (List UInt8)} {lc : Nat} (X : Obj) (hb : base ≤ w.heap.size) (hBR : BR w A bd LA) (hLR : LR base w LA lc l) : FS base w.heap.size w X A bd LA (w.alloc X) LA lc l := by
  have hB0 : Below w.heap.size w (w.alloc X) := (Below.refl _ _).alloc (Nat.le_refl _) _
  exact ⟨hB0.mono hb, grown_of_below hB0, .inl rfl, heap_new w X, fun e => by have := (hLR.lt _ e).2; omega, hBR.below hB0, hLR.below hB0⟩
theorem FS.drew {base B : Nat} {w W : World} {X : Obj} {A LA0 LA : Option Addr} {bd l : List (List UInt8)} {lc : Nat} (h : FS base B w X A bd LA0 W LA lc l) : FS base B w X A bd LA0 W.drew LA lc l :=
  ⟨h.low.drew, only_drew h.grown, h.upto, h.box, h.off, h.br.below ((Below.refl _ _).drew), h.lr.below ((Below.refl _ _).drew)⟩
theorem FS.later {base B : Nat} {w W u : World} {X : Obj} {A LA0 LA : Option Addr} {bd l : List (List UInt8)} {lc : Nat} (h : FS base B w X A bd LA0 W LA lc l) (hb : Below W.heap.size W u) (hB : base ≤ w.heap.size) : FS base B w X A bd LA0 u LA lc l := by
  have hs := h.grown.size
  refine ⟨h.low.trans (hb.mono (by omega)), ⟨hb.os.trans h.grown.os, hb.tape.trans h.grown.tape, hb.output.trans h.grown.output, Nat.le_trans hs hb.size, fun k hk hne => (hb.block k (by omega)).trans (h.grown.block k hk hne)⟩, h.upto, heap_below hb (heap_lt h.box) h.box, h.off, h.br.below hb, h.lr.below hb⟩
theorem FS.next {base B : Nat} {w u u2 : World} {X : Obj} {A LA0 LA LA2 : Option Addr} {bd l l2 : List (List UInt8)} {lc lc2 : Nat} (h : FS base B w X A bd LA0 u LA lc l) (hB : base ≤ w.heap.size) (hL : LR base u2 LA2 lc2 l2) (hg : u.grownBy u2 (ob LA)) (hu : Upto u LA LA2) : FS base B w X A bd LA0 u2 LA2 lc2 l2 := by
  have hs := h.grown.size
  have hbox := heap_lt h.box
  refine ⟨h.low.grown hg (by omega) (fun k hk => (h.lr.lt k hk).1), ?_, h.upto.trans hu hs, (hg.block B hbox (fun e => h.off e.symm)).trans h.box, ?_, h.br.step hg hu, hL⟩
  · refine ⟨hg.os.trans h.grown.os, hg.tape.trans h.grown.tape, hg.output.trans h.grown.output, Nat.le_trans hs hg.size, fun k hk hne => ?_⟩
    rw [hg.block k (by omega) (fun e => ?_), h.grown.block k hk hne]
    rcases h.upto with q | ⟨z, q, hz⟩
    · exact hne (e.trans q)
    · rw [q] at e; injection e with e; omega
  · rcases hu with q | ⟨z, q, hz⟩
    · rw [q]; exact h.off
    · rw [q]; intro e; injection e with e; omega
theorem FS.bound {base B : Nat} {w W u : World} {X : Obj} {A LA0 LA : Option Addr} {bd bd' l : List (List UInt8)} {lc g : Nat} (h : FS base B w X A bd LA0 W LA lc l) (hr : BRow u (some ⟨g, 0, none⟩) bd') (hg : W.heap.size ≤ g) : BR u (some ⟨g, 0, none⟩) bd' LA :=
  ⟨hr, fun _ g' o e => by injection e with e; injection e with e1 _; subst e1; intro e2; have := (h.lr.lt _ e2.symm).2; omega⟩
theorem FS.post {base B : Nat} {w W : World} {X : Obj} {A LA0 LA : Option Addr} {bd l : List (List UInt8)} {lc : Nat} (h : FS base B w X A bd LA0 W LA lc l) : FrPost base LA0 l w (.returned (.slice LA l.length lc)) W := ⟨LA, lc, rfl, h.lr, h.grown, h.upto⟩
theorem FS.with {base B : Nat} {w W : World} {X : Obj} {A LA0 LA : Option Addr} {bd bd' l : List (List UInt8)} {lc c : Nat} (h : FS base B w X A bd LA0 W LA lc l) (s : ByteArray) (e : bd' = bd ++ [Tm.nm s]) (hn : bd.length ≤ 1000000) : Calls Tryz.prog 55 #[.slice A bd.length c, .string s] W (WithPost W bd') :=
  e ▸ with_any bd A c s W hn h.br.row
theorem with_again {u : World} {g lc : Nat} {bd bd' : List (List UInt8)} {LA : Option Addr} (h : BR u (some ⟨g, 0, none⟩) bd LA) (s : ByteArray) (e : bd' = bd ++ [Tm.nm s]) (hn : bd.length ≤ 1000000) : Calls Tryz.prog 55 #[.slice (some ⟨g, 0, none⟩) bd.length lc, .string s] u (WithPost u bd') :=
  e ▸ with_any bd _ lc s u hn h.row
end Go.Proofs.YtemdgpihifigoaaGreatDoor
