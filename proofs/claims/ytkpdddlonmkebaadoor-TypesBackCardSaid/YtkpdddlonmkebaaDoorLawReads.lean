/-
  TypesReads: any words, any place: the type and what is behind it, or the fault.
-/
import Derived.Test.YtkpdddlonmkebaaDoorRdQ4
import Derived.Test.YtkpdddlonmkebaaDoorRdF
import Derived.Test.YtkpdddlonmkebaaDoorLike
import Derived.Test.YtkpdddlonmkebaaDoorWakes
import Derived.Laws.StructEq
import Derived.Laws.AppendOwnNone
namespace Go.Proofs.YtkpdddlonmkebaaDoor
open Go.RowKit Rd

/-- words as cells -/
def Rd.flat (l : List W4) : List Value := l.flatMap fun x => [.int .i8 x.kind, .string x.text, .int .i64 x.num, .int .i64 x.pos]
theorem Rd.flat_length (l : List W4) : (Rd.flat l).length = l.length * 4 := by
  induction l with
  | nil => rfl
  | cons a l ih => unfold Rd.flat at ih ⊢; rw [List.flatMap_cons, List.length_append, ih]; simp; omega
theorem Rd.flat_get (l : List W4) : ∀ (i : Nat) (x : W4), l[i]? = some x → (Rd.flat l)[i * 4]? = some (.int .i8 x.kind) ∧ (Rd.flat l)[i * 4 + 1]? = some (.string x.text) ∧ (Rd.flat l)[i * 4 + 2]? = some (.int .i64 x.num) ∧ (Rd.flat l)[i * 4 + 3]? = some (.int .i64 x.pos) := by
  induction l with
  | nil => intro i x h; cases h
  | cons a l ih =>
    intro i x h
    have e : Rd.flat (a :: l) = [.int .i8 a.kind, .string a.text, .int .i64 a.num, .int .i64 a.pos] ++ Rd.flat l := by unfold Rd.flat; rw [List.flatMap_cons]
    rw [e]
    cases i with
    | zero => injection h with h; subst h; exact ⟨rfl, rfl, rfl, rfl⟩
    | succ i =>
      obtain ⟨h0, h1, h2, h3⟩ := ih i x h
      refine ⟨?_, ?_, ?_, ?_⟩
      · rw [List.getElem?_append_right (by simp; omega), show (i + 1) * 4 - ([.int .i8 a.kind, .string a.text, .int .i64 a.num, .int .i64 a.pos] : List Value).length = i * 4 by simp; omega]; exact h0
      · rw [List.getElem?_append_right (by simp; omega), show (i + 1) * 4 + 1 - ([.int .i8 a.kind, .string a.text, .int .i64 a.num, .int .i64 a.pos] : List Value).length = i * 4 + 1 by simp; omega]; exact h1
      · rw [List.getElem?_append_right (by simp; omega), show (i + 1) * 4 + 2 - ([.int .i8 a.kind, .string a.text, .int .i64 a.num, .int .i64 a.pos] : List Value).length = i * 4 + 2 by simp; omega]; exact h2
      · rw [List.getElem?_append_right (by simp; omega), show (i + 1) * 4 + 3 - ([.int .i8 a.kind, .string a.text, .int .i64 a.num, .int .i64 a.pos] : List Value).length = i * 4 + 3 by simp; omega]; exact h3
/-- the cells that a row of words has -/
theorem WRow.cells {w : World} {ad : Addr} {l : List W4} (h : WRow w (some ad) l) : ∀ j u, (Rd.flat l)[j]? = some u → w.cell? (ad.add j) = some u := by
  intro j u hj
  have hjl : j < l.length * 4 := by rw [← Rd.flat_length]; exact (List.getElem?_eq_some_iff.1 hj).1
  obtain ⟨x, hx⟩ : ∃ x, l[j / 4]? = some x := ⟨l[j / 4]'(by omega), List.getElem?_eq_getElem _⟩
  obtain ⟨f0, f1, f2, f3⟩ := Rd.flat_get l _ x hx
  obtain ⟨g', o', e, c0, c1, c2, c3⟩ := h _ x hx
  injection e with e; subst e
  have ha : (⟨g', o', none⟩ : Addr).add j = ⟨g', o' + j, none⟩ := by unfold Addr.add; by_cases h : j = 0 <;> simp [h]
  rw [ha]
  have hm : j = j / 4 * 4 ∨ j = j / 4 * 4 + 1 ∨ j = j / 4 * 4 + 2 ∨ j = j / 4 * 4 + 3 := by omega
  rcases hm with e | e | e | e
  · rw [e] at hj ⊢; rw [← e] at hj; rw [e, f0] at hj; injection hj with hj; subst hj; exact c0
  · rw [e] at hj ⊢; rw [← e] at hj; rw [e, f1] at hj; injection hj with hj; subst hj; exact c1
  · rw [e] at hj ⊢; rw [← e] at hj; rw [e, f2] at hj; injection hj with hj; subst hj; exact c2
  · rw [e] at hj ⊢; rw [← e] at hj; rw [e, f3] at hj; injection hj with hj; subst hj; exact c3
theorem Rd.flat_one (l : List W4) : ∀ u ∈ Rd.flat l, u.oneCell' = true := by
  intro u hu
  unfold Rd.flat at hu
  obtain ⟨x, -, hx⟩ := List.mem_flatMap.1 hu
  simp at hx
  rcases hx with rfl | rfl | rfl | rfl <;> rfl
theorem tinfo_Word : (Tryd.prog.info? 26).map (fun i => (i.zero, i.size, i.bytes)) = some (some (.agg #[.int .i8 0, .string ⟨#[]⟩, .int .i64 0, .int .i64 0]), 4, 40) := by kernel_rfl
/-- what a row that the law made holds -/
theorem row_of_owns {w : World} {e : TypeId} {g : Nat} {cur : Array Value} {l : List W4} {r : List Value} (h : w.heap[g]? = some (.cells cur e (0, 0))) (ht : cur.toList.take ((l.length + 1) * 4) = Rd.flat l ++ r) : WRow w (some ⟨g, 0, none⟩) l := by
  intro i x hx
  have hil : i < l.length := (List.getElem?_eq_some_iff.1 hx).1
  obtain ⟨f0, f1, f2, f3⟩ := Rd.flat_get l i x hx
  have hc : ∀ j u, j < l.length * 4 → (Rd.flat l)[j]? = some u → w.cell? ⟨g, 0 + j, none⟩ = some u := by
    intro j u hj hu
    refine cell_of_heap h (0 + j) ?_
    rw [← Array.getElem?_toList, Nat.zero_add]
    have : (cur.toList.take ((l.length + 1) * 4))[j]? = some u := by rw [ht, List.getElem?_append_left (by rw [Rd.flat_length]; exact hj)]; exact hu
    rw [List.getElem?_take] at this
    split at this
    · exact this
    · cases this
  exact ⟨g, 0, rfl, hc _ _ (by omega) f0, hc _ _ (by omega) f1, hc _ _ (by omega) f2, hc _ _ (by omega) f3⟩

theorem tells_fault {w : World} {err : Value} {E a : Int} {t : ByteArray} (h : Tells w err E a t) (hg : w.cell? ⟨1, 0, none⟩ = some (.iface 118 (.agg #[.pointer (some ⟨8, 31, none⟩)]))) :
    Calls Tryd.prog 8 #[err] w fun e w' => e = .returned (.tuple #[.agg #[.int .i64 E, .int .i64 a, .string t], .bool true]) ∧ Below w.heap.size w w' := by
  rcases h with ⟨rfl, rfl, rfl, rfl⟩ | ⟨g, rfl, hI, hE⟩
  · exact tfault_nil w
  · exact tfault_own g E a t w hI hE hg
theorem like_same (k : Int) (kids : Fo) (G : Option Addr) (m c : Nat) (G' : Option Addr) (m' c' : Nat) (w : World) (h : Ty.Is w k kids G m c) (h' : Ty.Is w k kids G' m' c') :
    Calls Tryd.prog 9 #[.agg #[.int .i8 k, .slice G m c], .agg #[.int .i8 k, .slice G' m' c']] w fun e w' => e = .returned (.bool true) ∧ Below w.heap.size w w' := by
  have q := like_any (Ty.nodes kids + 1) k kids G m c k kids G' m' c' w (Nat.lt_succ_self _) h h'
  have e : Ty.eqT k kids k kids = true := by unfold Ty.eqT; simp [Ty.eqF_refl]
  rw [e] at q
  exact q
/-- the spoiling loop: of the law's own words those from the i-th on are as they were -/
structure SpSt (l : List W4) (M i : Nat) (w7 wr : World) : Prop where
  only : w7.grownBy wr (some M)
  row : ∀ j x, i ≤ j → l[j]? = some x → wr.cell? ⟨M, j * 4, none⟩ = some (.int .i8 x.kind) ∧ wr.cell? ⟨M, j * 4 + 1, none⟩ = some (.string x.text) ∧ wr.cell? ⟨M, j * 4 + 2, none⟩ = some (.int .i64 x.num) ∧ wr.cell? ⟨M, j * 4 + 3, none⟩ = some (.int .i64 x.pos)
  fz : ∀ o, wr.frozen? ⟨M, o, none⟩ = false
theorem SpSt.step {l : List W4} {M i : Nat} {w7 wr : World} (h : SpSt l M i w7 wr) (m : Nat) (v0 v1 v2 v3 : Value) :
    SpSt l M (i + 1) w7 (((((wr.drewN m).setCell ⟨M, i * 4, none⟩ v0).setCell ⟨M, i * 4 + 1, none⟩ v1).setCell ⟨M, i * 4 + 2, none⟩ v2).setCell ⟨M, i * 4 + 3, none⟩ v3) := by
  have h1 : w7.grownBy (wr.drewN m) (some M) := ⟨h.only.os, h.only.tape, h.only.output, h.only.size, h.only.block⟩
  have h2 := only_setCell h1 (p := ⟨M, i * 4, none⟩) (.inl rfl) v0
  have h3 := only_setCell h2 (p := ⟨M, i * 4 + 1, none⟩) (.inl rfl) v1
  have h4 := only_setCell h3 (p := ⟨M, i * 4 + 2, none⟩) (.inl rfl) v2
  have h5 := only_setCell h4 (p := ⟨M, i * 4 + 3, none⟩) (.inl rfl) v3
  refine ⟨h5, fun j x hj hx => ?_, fun o => ?_⟩
  · obtain ⟨c0, c1, c2, c3⟩ := h.row j x (by omega) hx
    have hc : ∀ q v, i * 4 + 4 ≤ q → wr.cell? ⟨M, q, none⟩ = some v → (((((wr.drewN m).setCell ⟨M, i * 4, none⟩ v0).setCell ⟨M, i * 4 + 1, none⟩ v1).setCell ⟨M, i * 4 + 2, none⟩ v2).setCell ⟨M, i * 4 + 3, none⟩ v3).cell? ⟨M, q, none⟩ = some v := by
      intro q v hq hv
      rw [World.cell?_setCell_other _ _ _ _ (fun e => by injection e with e1 e2; omega), World.cell?_setCell_other _ _ _ _ (fun e => by injection e with e1 e2; omega), World.cell?_setCell_other _ _ _ _ (fun e => by injection e with e1 e2; omega), World.cell?_setCell_other _ _ _ _ (fun e => by injection e with e1 e2; omega)]
      exact hv
    exact ⟨hc _ _ (by omega) c0, hc _ _ (by omega) c1, hc _ _ (by omega) c2, hc _ _ (by omega) c3⟩
  · have := h.fz o
    simpa using this

set_option maxHeartbeats 8000000 in
set_option maxRecDepth 100000 in
theorem law_TypesReads (l : List W4) (A : Option Addr) (c : Nat) (at_ : Int) (w : World) (hS : Shapes w)
    (hg : w.cell? ⟨1, 0, none⟩ = some (.iface 118 (.agg #[.pointer (some ⟨8, 31, none⟩)])))
    (hW : WRow w A l) (hn : l.length ≤ maxLen) (hA : A = none → l.length = 0 ∧ c = 0) (hsm : ∀ x ∈ l, x.text.size ≤ 281474976710656) :
    Calls Tryd.prog 3 #[.slice A l.length c, .int .i64 at_] w fun e w' => e = .returned (.bool true) ∧ Below w.heap.size w w' := by
  have i5 : (l.length : Int) ≤ 9223372036854775807 := by unfold maxLen at hn; omega
  by_cases hbig : 16384 < l.length
  · have CW := Lib.hid (wakes_any w hS)
    have hb : (16384 : Int) < l.length := by omega
    clear hW hg hS hsm
    go_enter Tryd.func3, Tryd.ntmps3
    go_wp2_with fail
    refine CW.out.mono ?_
    rintro e w2 ⟨rfl, hb⟩
    go_wp2_with fail
    go_ret
    exact ⟨rfl, hb⟩
  · have hb : (l.length : Int) ≤ 16384 := by omega
    obtain ⟨i0, hi, hz0, hz1, hz2⟩ := info_parts tinfo_Word
    have HS := Lib.hid hS
    have HG := Lib.hid hg
    have HW := Lib.hid hW
    have HSM := Lib.hid hsm
    clear hS hg hsm
    have hb0 : Below w.heap.size w (w.alloc (.cells #[] 26)) := (Below.refl _ _).alloc (Nat.le_refl _) _
    have hown0 : (w.alloc (.cells #[] 26)).ownsRow w.heap.size 26 4 (.slice (some ⟨w.heap.size, 0, none⟩) 0 0) 0 [] := ⟨rfl, .inr ⟨w.heap.size, 0, #[], rfl, Nat.le_refl _, heap_new w _, Nat.le_refl _, Nat.zero_le _, rfl, rfl⟩⟩
    have HB0 := Lib.hid hb0
    have hbn : l.length ≤ 16384 := by omega
    clear hb0
    go_enter Tryd.func3, Tryd.ntmps3
    go_upto_region 3 with fail
    go_cut [5] (fun s5 wx => ∃ M cap cur, s5 = .slice (some ⟨M, 0, none⟩) l.length cap ∧ w.heap.size ≤ M ∧ wx.heap[M]? = some (.cells cur 26 (0, 0)) ∧ l.length + 1 ≤ cap ∧ cap ≤ maxLen ∧ cur.size = cap * 4 ∧ cur.toList.take ((l.length + 1) * 4) = Rd.flat l ++ [.int .i8 9, .string ⟨#[]⟩, .int .i64 0, .int .i64 0] ∧ Below w.heap.size w wx)
    case first =>
      cases A with
      | some ad =>
        go_wp2_with (first | (at_builtin; refine wpList_append_own _ rfl (.tmp 19) (.tmp 20) 22 rfl w.heap.size 26 i0 (.agg #[.int .i8 0, .string ⟨#[]⟩, .int .i64 0, .int .i64 0]) 4 40 Tryd.underlying22 hi hz0 hz1 hz2 rfl (by decide) _ _ _ rfl hown0 ad l.length c (Rd.flat l) rfl (Rd.flat_length l) ?c1 ?c2 ?c3 ?c4 ?c5 ?_))
        case c1 => exact (HW.out.below HB0.out).cells
        case c2 => exact Rd.flat_one l
        case c3 => unfold maxLen; omega
        case c4 => omega
        case c5 => exact HB0.out.size
        intro v1 w1 hown1 hgrow1 _
        have hB1 := HB0.out.grown hgrow1 HB0.out.size (fun k hk => by have := (hown0.lt k hk).1; omega)
        go_wp2_with (first | (at_builtin; refine wpList_append_own _ rfl (.tmp 21) (.tmp 23) 22 rfl w.heap.size 26 i0 (.agg #[.int .i8 0, .string ⟨#[]⟩, .int .i64 0, .int .i64 0]) 4 40 Tryd.underlying22 hi hz0 hz1 hz2 rfl (by decide) _ _ _ rfl (hown1.alloc _) ⟨w1.heap.size, 0, none⟩ 1 1 [.int .i8 9, .string ⟨#[]⟩, .int .i64 0, .int .i64 0] rfl rfl ?c1 ?c2 ?c3 ?c4 ?c5 ?_))
        case c1 => exact cells_of_heap (heap_new w1 _)
        case c2 =>
          intro u hu
          simp at hu
          rcases hu with rfl | rfl | rfl | rfl <;> rfl
        case c3 => unfold maxLen; omega
        case c4 => omega
        case c5 => have := hB1.size; first | omega | (simp; omega)
        intro v2 w2 hown2 hgrow2 _
        have hB2 := (hB1.alloc hB1.size (.cells #[.int .i8 9, .string ⟨#[]⟩, .int .i64 0, .int .i64 0] 26)).grown hgrow2 (by have := hB1.size; simp; omega) (fun k hk => by have := (hown1.lt k hk).1; omega)
        obtain ⟨-, ⟨-, hz⟩ | ⟨M, cap, cur, rfl, hM, hh, hle, hcap, hsz, htk⟩⟩ := hown2
        · omega
        have hle2 : (l.length : Int) ≤ cap := by omega
        go_wp2_with fail
        go_meet
        exact ⟨M, cap, cur, rfl, hM, hh, hle, hcap, hsz, htk, hB2⟩
      | none =>
        obtain ⟨hl0, hc0⟩ := hA rfl
        have hl : l = [] := List.length_eq_zero_iff.1 hl0
        subst hl
        subst hc0
        go_wp2_with (first | (at_builtin; refine wpList_append_own_none rfl (.tmp 19) (.tmp 20) 22 rfl w.heap.size 26 i0 4 Tryd.underlying22 hi _ _ _ rfl hown0 rfl ?_) | (at_builtin; refine wpList_append_own _ rfl (.tmp 21) (.tmp 23) 22 rfl w.heap.size 26 i0 (.agg #[.int .i8 0, .string ⟨#[]⟩, .int .i64 0, .int .i64 0]) 4 40 Tryd.underlying22 hi hz0 hz1 hz2 rfl (by decide) _ _ _ rfl (hown0.alloc _) ⟨w.heap.size + 1, 0, none⟩ 1 1 [.int .i8 9, .string ⟨#[]⟩, .int .i64 0, .int .i64 0] rfl rfl ?c1 ?c2 ?c3 ?c4 ?c5 ?_))
        case c2 => exact ⟨rfl, rfl, rfl⟩
        case c3 => unfold maxLen; omega
        case c5 => first | omega | (simp; omega)
        intro v2 w2 hown2 hgrow2 _
        have hB2 := (HB0.out.alloc HB0.out.size (.cells #[.int .i8 9, .string ⟨#[]⟩, .int .i64 0, .int .i64 0] 26)).grown hgrow2 (by simp; omega) (fun k hk => by have := (hown0.lt k hk).1; omega)
        obtain ⟨-, ⟨-, hz⟩ | ⟨M, cap, cur, rfl, hM, hh, hle, hcap, hsz, htk⟩⟩ := hown2
        · omega
        have hle2 : (0 : Int) ≤ cap := by omega
        go_wp2_with fail
        go_meet
        exact ⟨M, cap, cur, rfl, hM, hh, hle, hcap, hsz, htk, hB2⟩
    case rest =>
      obtain ⟨M, cap, cur, rfl, hM, hh, hle, hcap, hsz, htk, hB⟩ := hcut
      have HH := Lib.hid hh
      have HB := Lib.hid hB
      have HTK := Lib.hid htk
      have HSZ := Lib.hid hsz
      have HWM := Lib.hid (row_of_owns hh htk)
      have hMl := heap_lt hh
      have hlm : l.length < maxLen := by unfold maxLen; omega
      clear hh hB htk hsz hown0 HB0 hW hi hz0 hz1 hz2
      go_wp2_with fail
      refine (read_all l (some ⟨M, 0, none⟩) cap at_ wc HWM.out (HS.out.below HB.out) hlm HSM.out).mono ?_
      rintro e w1 ⟨k, kids, N, E, a, t, G, m, cg, err, hO, rfl, hF, hT, hb1⟩
      have hbx := (Below.refl w1.heap.size w1).alloc (Nat.le_refl _) (.cells #[.int .i8 k, .slice G m cg] 29)
      have h12 := hb1.size
      have HH2 := Lib.hid (heap_below hbx (by omega) (heap_below hb1 hMl HH.out))
      have HB2 := Lib.hid ((HB.out.trans (hb1.mono HB.out.size)).trans (hbx.mono (by have := HB.out.size; omega)))
      have HF2 := Lib.hid (hF.below hbx)
      have HT2 := Lib.hid (hT.below hbx)
      have HA2 := Lib.hid (heap_new w1 (.cells #[.int .i8 k, .slice G m cg] 29))
      have HO := Lib.hid hO
      clear hO hF hT hb1 hbx HH HB HWM
      go_wp2_with fail
      generalize w1.alloc (.cells #[.int .i8 k, .slice G m cg] 29) = w2 at *
      generalize hP : w1.heap.size = P at *
      have hPM : M < P := by omega
      have hcP : wc.heap.size ≤ P := by omega
      clear h12 hP
      refine (qread_all l A c at_ w2 (HW.out.below HB2.out) hlm HO.out).mono ?_
      rintro e w3 ⟨G', m', cg', rfl, hF', hb3⟩
      have h2l := heap_lt HA2.out
      have h23 := hb3.size
      have hbx := ((Below.refl w3.heap.size w3).alloc (Nat.le_refl _) (.cells #[.int .i8 k, .slice G' m' cg'] 29)).alloc (by simp) (.cells #[.int .i64 E, .int .i64 a, .string t] 36)
      obtain ⟨nw1, nw2, -⟩ := two_new w3 (.cells #[.int .i8 k, .slice G' m' cg'] 29) (.cells #[.int .i64 E, .int .i64 a, .string t] 36)
      have HH4 := Lib.hid (heap_below hbx (by omega) (heap_below hb3 (heap_lt HH2.out) HH2.out))
      have HA4 := Lib.hid (heap_below hbx (by omega) (heap_below hb3 h2l HA2.out))
      have HB4 := Lib.hid ((HB2.out.trans (hb3.mono HB2.out.size)).trans (hbx.mono (by have := HB2.out.size; omega)))
      have HF4 := Lib.hid ((HF2.out.below hb3).below hbx)
      have HG4 := Lib.hid ((hF'.low (n0 := wc.heap.size) (by omega)).below hbx)
      have HT4 := Lib.hid ((HT2.out.below hb3).below hbx)
      have HC4 := Lib.hid nw1
      have HD4 := Lib.hid nw2
      clear hF' hb3 hbx nw1 nw2 HH2 HA2 HB2 HF2 HT2 HO
      go_wp2_with fail
      generalize (w3.alloc (.cells #[.int .i8 k, .slice G' m' cg'] 29)).alloc (.cells #[.int .i64 E, .int .i64 a, .string t] 36) = w4 at *
      have hPB : P < w3.heap.size := by omega
      generalize w3.heap.size = B at *
      have hgE : w4.cell? ⟨1, 0, none⟩ = some (.iface 118 (.agg #[.pointer (some ⟨8, 31, none⟩)])) := by
        rw [HB4.out.cell (p := ⟨1, 0, none⟩) (Ty.cell_lt HG.out)]; exact HG.out
      refine (tells_fault HT4.out hgE).mono ?_
      rintro e w5 ⟨rfl, hb5⟩
      have hbx := (Below.refl w5.heap.size w5).alloc (Nat.le_refl _) (.cells #[.int .i64 E, .int .i64 a, .string t] 36)
      have h45 := hb5.size
      have hDl := heap_lt HD4.out
      have HH6 := Lib.hid (heap_below hbx (by omega) (heap_below hb5 (heap_lt HH4.out) HH4.out))
      have HA6 := Lib.hid (heap_below hbx (by omega) (heap_below hb5 (heap_lt HA4.out) HA4.out))
      have HC6 := Lib.hid (heap_below hbx (by omega) (heap_below hb5 (heap_lt HC4.out) HC4.out))
      have HD6 := Lib.hid (heap_below hbx (by omega) (heap_below hb5 (heap_lt HD4.out) HD4.out))
      have HE6 := Lib.hid (heap_new w5 (.cells #[.int .i64 E, .int .i64 a, .string t] 36))
      have HB6 := Lib.hid ((HB4.out.trans (hb5.mono HB4.out.size)).trans (hbx.mono (by have := HB4.out.size; omega)))
      have HF6 := Lib.hid ((HF4.out.below hb5).below hbx)
      have HG6 := Lib.hid ((HG4.out.below hb5).below hbx)
      clear hb5 hbx HH4 HA4 HC4 HD4 HB4 HF4 HG4 HT4 hgE
      obtain ⟨q0, q1, q2, -, -, -, ql⟩ := own3' HD6.out
      obtain ⟨s0, s1, s2, -, -, -, sl⟩ := own3' HE6.out
      obtain ⟨p0, p1, -, -, pl⟩ := own2 HA6.out
      obtain ⟨r0, r1, -, -, rl⟩ := own2 HC6.out
      have hMcell : cur[l.length * 4]? = some (.int .i8 9) := by
        have h1 : (cur.toList.take ((l.length + 1) * 4))[l.length * 4]? = some (.int .i8 9) := by
          rw [HTK.out, List.getElem?_append_right (by rw [Rd.flat_length]; omega), Rd.flat_length, Nat.sub_self]; rfl
        rw [List.getElem?_take] at h1
        split at h1
        · rw [← Array.getElem?_toList]; exact h1
        · cases h1
      have HMC := Lib.hid hMcell
      have hle2 : (l.length : Int) + 1 ≤ cap := by omega
      have hlt2 : (l.length : Int) < (l.length : Int) + 1 := by omega
      have hge2 : (0 : Int) ≤ l.length := by omega
      clear hMcell
      go_wp2_with fail
      clear q0 q1 q2 ql s0 s1 s2 sl p0 p1 pl r0 r1 rl
      generalize w5.alloc (.cells #[.int .i64 E, .int .i64 a, .string t] 36) = w6 at *
      refine (like_same k kids G m cg G' m' cg' w6 HF6.out.is HG6.out.is).mono ?_
      rintro e w7 ⟨rfl, hb7⟩
      have HH7 := Lib.hid (heap_below hb7 (heap_lt HH6.out) HH6.out)
      have HA7 := Lib.hid (heap_below hb7 (heap_lt HA6.out) HA6.out)
      have HC7 := Lib.hid (heap_below hb7 (heap_lt HC6.out) HC6.out)
      have HB7 := Lib.hid (HB6.out.trans (hb7.mono HB6.out.size))
      have HF7 := Lib.hid (HF6.out.below hb7)
      have HG7 := Lib.hid (HG6.out.below hb7)
      have hm9 : w7.cell? ⟨M, l.length * 4, none⟩ = some (.int .i8 9) := cell_of_heap HH7.out (l.length * 4) HMC.out
      have HSP := Lib.hid (show SpSt l M 0 w7 w7 from ⟨only_refl _ _, fun j x _ hx => by
        obtain ⟨g, o, e, c0, c1, c2, c3⟩ := row_of_owns HH7.out HTK.out j x hx
        injection e with e; injection e with e1 e2; subst e1; subst e2
        simp only [Nat.zero_add] at c0 c1 c2 c3
        exact ⟨c0, c1, c2, c3⟩, fun o => by simp [World.frozen?, HH7.out]⟩)
      clear hb7 HH6 HA6 HC6 HB6 HF6 HG6 HD6 HE6
      go_wp2_with fail
      clear hm9
      have hPB2 : P ≠ M ∧ B ≠ M := by omega
      go_loopw [14] (fun v wr => ∃ i : Nat, v = .int .i64 i ∧ i ≤ l.length ∧ Hid (SpSt l M i w7 wr)) (fun v _ => l.length - (intOf v).toNat)
      case atStart => exact ⟨0, rfl, Nat.zero_le _, HSP⟩
      case round =>
        obtain ⟨i, rfl, hil, HP⟩ := hrel
        by_cases hin : i < l.length
        · obtain ⟨x, hx⟩ : ∃ x, l[i]? = some x := ⟨l[i]'(by omega), List.getElem?_eq_getElem _⟩
          obtain ⟨m0, m1, m2, m3⟩ := HP.out.row i x (Nat.le_refl _) hx
          obtain ⟨g, o, hA2, c0, c1, c2, c3⟩ := ((HW.out.below HB7.out).grown (rb := M) (fun g o e hne => by have := HW.out.lt g o e hne; omega) HP.out.only) i x hx
          have z0 := HP.out.fz (i * 4)
          have z1 := HP.out.fz (i * 4 + 1)
          have z2 := HP.out.fz (i * 4 + 2)
          have z3 := HP.out.fz (i * 4 + 3)
          have j1 : (i : Int) < l.length := by omega
          have j2 : (0 : Int) ≤ i ∧ (i : Int) < l.length := by omega
          have j3 : (i : Int) + 1 ≤ 9223372036854775807 := by omega
          clear hx
          obtain rfl := hA2
          go_wp2_with fail
          go_quiet (fail)
          go_wp2_with fail
          go_roundw
          case rel => exact ⟨i + 1, by go_num, by omega, Lib.hid (HP.out.step _ _ _ _ _)⟩
          case measure => simp [intOf]; omega
        · obtain rfl : i = l.length := by omega
          have HPO := Lib.hid HP.out.only
          obtain ⟨p0, p1, -, -, pl⟩ := own2 (heap_grown HPO.out hPB2.1 HA7.out)
          obtain ⟨r0, r1, -, -, rl⟩ := own2 (heap_grown HPO.out hPB2.2 HC7.out)
          have HF8 := Lib.hid (HF7.out.keep (w' := wr) fun b o v hb hc => by rw [World.cell?_of_block (HPO.out.block b (Ty.cell_lt hc) (fun e => by injection e with e; omega))]; exact hc)
          have HG8 := Lib.hid (HG7.out.keep (w' := wr) fun b o v hb hc => by rw [World.cell?_of_block (HPO.out.block b (Ty.cell_lt hc) (fun e => by injection e with e; omega))]; exact hc)
          have HB8 := Lib.hid (HB7.out.grown HPO.out HB7.out.size (fun k hk => by injection hk with hk; omega))
          have hz : decide ((l.length : Int) < l.length) = false := by simp
          clear hin HP
          go_wp2_with fail
          refine (like_same k kids G m cg G' m' cg' wr HF8.out.is HG8.out.is).mono ?_
          rintro e w9 ⟨rfl, hb9⟩
          have HB9 := Lib.hid (HB8.out.trans (hb9.mono HB8.out.size))
          clear hb9
          go_wp2_with fail
          refine (wakes_any w9 (HS.out.below HB9.out)).mono ?_
          rintro e w10 ⟨rfl, hb10⟩
          go_wp2_with fail
          go_ret
          exact ⟨rfl, HB9.out.trans (hb10.mono HB9.out.size)⟩
end Go.Proofs.YtkpdddlonmkebaaDoor
