import Derived.WalkKit
import Derived.ChangeSame
import Derived.Deep.Trees
import Derived.Deep.Slices
import Derived.Below
import Derived.Lib.Hide
import Derived.StillTailTactics
import Derived.WalkSpells
import Derived.WalkLawsBesides
import Derived.Deep.QuietTactic
import Derived.BigQuiet
import Derived.RegionTactic
import Derived.BigRegion
import Derived.Defers
import Derived.Recover
import Derived.Deep.LoopGhost
import Derived.WalkSmall
import Derived.OwnWalk
import Derived.Laws.AppendOwn
import Derived.Deep.AppendLies
import Derived.Lib.ParseIntB
import Derived.Maps.OwnOps
import Derived.Maps.OwnSet
import Derived.Laws.NewBlocks
import Derived.Deep.RegionLaw
import Derived.IntWalk
import Derived.Deep.DeepCutAuto
import Derived.Deep.OwnRows
import Derived.Laws.Cover4
import Derived.Test.YtgjemmmbnpkamaaGreatDoorRows
import Derived.Shelf.Small.Utf8
import Derived.Shelf.Small.Strs
import Derived.Shelf.LaysM
import Derived.Shelf.Strconv.Clone
import Derived.Shelf.LaysC
import Derived.Shelf.Strconv.Lower
import Derived.Shelf.Strconv.ParseUint10
import Derived.Shelf.Strconv.ParseUint10Empty
import Derived.Shelf.Strconv.ParseUint10Any
import Derived.Shelf.Strconv.ParseInt10
import Derived.Shelf.Strconv.RangeError
import Derived.Shelf.Strconv.ParseUintEmpty
import Derived.Shelf.Strconv.ParseInt10At64
import Derived.Shelf.Strconv.ParseInt10All
import Derived.Shelf.Strconv.ParseIntPublic10
import Derived.Shelf.Strconv.ErrVarParseInt
import Derived.Shelf.Strings.Search1
import Derived.Shelf.Strings.Prefix
import Derived.Shelf.Strings.Runes
import Derived.Lib.DecodeN
import Derived.Lib.Strings
import Derived.Laws.RangeAny
namespace Go.Proofs.YtgjemmmbnpkamaaGreatDoor
open Go.RowKit
theorem c2_ {P : Prop} (h : P := by
  clear hes hd
  have E1 : Below wr.heap.size wr wr.drew := (Below.refl _ _).drew
  have E1a : Below wr.heap.size wr (wr.alloc (.cells #[.int .i8 0, .int .i64 0, .int .i64 0, .int .i64 0] 103)).drew := ((Below.refl _ wr).alloc (Nat.le_refl _) (.cells #[.int .i8 0, .int .i64 0, .int .i64 0, .int .i64 0] 103)).drew
  obtain ⟨r0, r1, r2, -, -, -, hrl2⟩ := qB HSJ.out.rdr
  go_wp2_with fail
  go_region_law (first
    | (go_simp; go_at_call 48; (first | (with_reducible refine (CW.out _ E1).mono ?_) | (with_reducible refine (CW.out _ E1a).mono ?_)); rintro e u1 ⟨rfl, hb1⟩; have E2 : Below wr.heap.size wr u1 := (by first | exact E1.trans (hb1.mono E1.size) | exact E1a.trans (hb1.mono E1a.size)); (first | (have hx1 : u1.heap[wr.heap.size]? = some (.cells #[.int .i8 0, .int .i64 0, .int .i64 0, .int .i64 0] 103) := zC hb1 (show wr.heap.size < (wr.alloc (.cells #[.int .i8 0, .int .i64 0, .int .i64 0, .int .i64 0] 103)).drew.heap.size from zD (zF wr (.cells #[.int .i8 0, .int .i64 0, .int .i64 0, .int .i64 0] 103))) (show (wr.alloc (.cells #[.int .i8 0, .int .i64 0, .int .i64 0, .int .i64 0] 103)).drew.heap[wr.heap.size]? = _ from zF wr (.cells #[.int .i8 0, .int .i64 0, .int .i64 0, .int .i64 0] 103))) | skip); have E2a : Below wr.heap.size wr (u1.alloc (.cells #[.int .i8 0, .int .i64 0, .int .i64 0, .int .i64 0] 103)) := E2.alloc E2.size _; obtain ⟨r0, r1, r2, -, -, -, hrl3⟩ := qB (HSJ.out.below E2).rdr; clear E1 E1a hb1; go_wp2_with fail)
    | (go_simp; go_at_call 47; (with_reducible refine (CF.out _).mono ?_); rintro e u2 ⟨rfl, hb2⟩; have E3 : Below wr.heap.size wr u2 := (by first | exact E2.trans (hb2.mono E2.size) | exact E2a.trans (hb2.mono E2a.size)); (first | (have hx2 : u2.heap[wr.heap.size]? = some (.cells #[.int .i8 0, .int .i64 0, .int .i64 0, .int .i64 0] 103) := zC hb2 (zD hx1) hx1; clear hx1; obtain ⟨x0, x1, x2, x3, y0, y1, y2, y3, hxl⟩ := zX hx2) | (have hx3 : u2.heap[u1.heap.size]? = some (.cells #[.int .i8 0, .int .i64 0, .int .i64 0, .int .i64 0] 103) := zC hb2 (zD (zF u1 (.cells #[.int .i8 0, .int .i64 0, .int .i64 0, .int .i64 0] 103))) (zF u1 (.cells #[.int .i8 0, .int .i64 0, .int .i64 0, .int .i64 0] 103)); have hle3 := E2.size; obtain ⟨x0, x1, x2, x3, y0, y1, y2, y3, hxl⟩ := zX hx3) | skip); obtain ⟨r0, r1, r2, -, -, -, hrl4⟩ := qB (HSJ.out.below E3).rdr; have hlk0 := HLK.out u2 E3; have hlk := HLK.out (u2.alloc (.cells #[.int .i8 0, .int .i64 0, .int .i64 0, .int .i64 0] 103)) (E3.alloc E3.size _); clear hb2 E2a; go_wp2_with fail))
  all_goals
    clear r0 r1 r2 hlk hlk0
    have hrl5 := Nat.lt_of_lt_of_le hrl2 E3.size
    first
    | have HOB := k0_ (j6 hx2 (.int .i8 k) (.int .i64 (st2 : Nat)) (.int .i64 (lf : Nat)) (.int .i64 (q2 : Nat)))
      have HB3 := k0_ (((((E3.setCell (p := ⟨wr.heap.size, 0, none⟩) (Nat.le_refl _) (.int .i8 k)).setCell (p := ⟨wr.heap.size, 1, none⟩) (Nat.le_refl _) (.int .i64 (st2 : Nat))).setCell (p := ⟨wr.heap.size, 2, none⟩) (Nat.le_refl _) (.int .i64 (lf : Nat))).setCell (p := ⟨wr.heap.size, 3, none⟩) (Nat.le_refl _) (.int .i64 (q2 : Nat))))
      have hbl : wr.heap.size ≤ wr.heap.size := Nat.le_refl _
      clear hx2 x0 x1 x2 x3 y0 y1 y2 y3 hxl
      generalize ((((u2.setCell ⟨wr.heap.size, 0, none⟩ (.int .i8 k)).setCell ⟨wr.heap.size, 1, none⟩ (.int .i64 (st2 : Nat))).setCell ⟨wr.heap.size, 2, none⟩ (.int .i64 (lf : Nat))).setCell ⟨wr.heap.size, 3, none⟩ (.int .i64 (q2 : Nat))) = v3 at *
      obtain ⟨bx, hbx⟩ : ∃ bx, bx = wr.heap.size := ⟨_, rfl⟩
      rw [← hbx] at HOB ⊢
      replace hbl : wr.heap.size ≤ bx := by omega
      clear hbx
    | have HOB := k0_ (j6 hx3 (.int .i8 k) (.int .i64 (st2 : Nat)) (.int .i64 (lf : Nat)) (.int .i64 (q2 : Nat)))
      have HB3 := k0_ (((((E3.setCell (p := ⟨u1.heap.size, 0, none⟩) hle3 (.int .i8 k)).setCell (p := ⟨u1.heap.size, 1, none⟩) hle3 (.int .i64 (st2 : Nat))).setCell (p := ⟨u1.heap.size, 2, none⟩) hle3 (.int .i64 (lf : Nat))).setCell (p := ⟨u1.heap.size, 3, none⟩) hle3 (.int .i64 (q2 : Nat))))
      have hbl := hle3
      clear hx3 x0 x1 x2 x3 y0 y1 y2 y3 hxl
      generalize ((((u2.setCell ⟨u1.heap.size, 0, none⟩ (.int .i8 k)).setCell ⟨u1.heap.size, 1, none⟩ (.int .i64 (st2 : Nat))).setCell ⟨u1.heap.size, 2, none⟩ (.int .i64 (lf : Nat))).setCell ⟨u1.heap.size, 3, none⟩ (.int .i64 (q2 : Nat))) = v3 at *
      generalize u1.heap.size = bx at *
    | have HOB := k0_ (zF u2 (.cells #[.int .i8 k, .int .i64 (st2 : Nat), .int .i64 (lf : Nat), .int .i64 (q2 : Nat)] 103))
      have HB3 := k0_ (E3.alloc E3.size (.cells #[.int .i8 k, .int .i64 (st2 : Nat), .int .i64 (lf : Nat), .int .i64 (q2 : Nat)] 103))
      have hbl := E3.size
      generalize u2.alloc (.cells #[.int .i8 k, .int .i64 (st2 : Nat), .int .i64 (lf : Nat), .int .i64 (q2 : Nat)] 103) = v3 at *
      generalize u2.heap.size = bx at *
  all_goals
    obtain ⟨o0, o1, o2, o3, -, -, -, -, hol⟩ := zX HOB.out
    go_wp2_with fail
    go_ret
    exact ⟨X, rfl, HW.out.tm.below HB3.out, HW.out.go.later HB3.out⟩) : P := h
theorem c3_ {P : Prop} (h : P := by
  generalize fx (wAt l i) = s at *
  generalize hxw : wAt l i = x at *
  obtain ⟨yk, yt, yn, yp⟩ := x
  unfold wV at CW CF
  simp only at CW CF
  clear hxw
  go_enter Tryz.func81, Tryz.ntmps81
  go_wp2_with fail
  refine CW.out.mono ?_
  rintro e w2 ⟨rfl, hb⟩
  have HB2 := k0_ hb
  clear hb
  go_wp2_with fail
  refine (CF.out _).mono ?_
  rintro e w3 ⟨rfl, hb⟩
  have HB3 := kt_ HB2 hb
  clear hb HB2
  go_wp2_with fail
  refine (CB.out _ HB3.out).mono ?_
  intro e w4 hP
  cases r with
  | bad E a s' =>
    have HP := k0_ (TPost.from hP (zJ HB3.out))
    obtain ⟨g, rfl, -⟩ := hP
    exact ⟨rfl, HP.out⟩
  | ok vs j =>
    obtain ⟨X, rfl, hX, hG⟩ := hP
    have HX := k0_ (hX.low (n0 := w.heap.size) HB3.out.size)
    have HG := k0_ (hG.from (zJ HB3.out))
    clear hX hG
    go_wp2_with fail
    go_ret2
    exact ⟨X, rfl, HX.out, HG.out⟩) : P := h
theorem c4_ {P : Prop} (h : P := by
  generalize fx (wAt l i) = s at *
  generalize hxw : wAt l i = x at *
  obtain ⟨yk, yt, yn, yp⟩ := x
  unfold wV at CW CF
  simp only at CW CF
  clear hxw
  go_enter Tryz.func21, Tryz.ntmps21
  go_wp2_with fail
  refine CW.out.mono ?_
  rintro e w2 ⟨rfl, hb⟩
  have HB2 := k0_ hb
  clear hb
  go_wp2_with fail
  refine (CF.out _).mono ?_
  rintro e w3 ⟨rfl, hb⟩
  have HB3 := kt_ HB2 hb
  clear hb HB2
  go_wp2_with fail
  refine (CB.out _ HB3.out).mono ?_
  intro e w4 hP
  have HP := k0_ (TPost.from hP (zJ HB3.out))
  cases r with
  | bad E a s' =>
    obtain ⟨g, rfl, -⟩ := hP
    exact ⟨rfl, HP.out⟩
  | ok vs j =>
    obtain ⟨X, rfl, -⟩ := hP
    go_wp2_with fail
    go_ret
    exact HP.out) : P := h
theorem c5_ {P : Prop} (h : P := by
  clear r0 r1 r2 hlk hlk0
  have hrl5 := Nat.lt_of_lt_of_le hrl2 E3.size
  first
  | have HOB := k0_ (j6 hx2 (.int .i8 k) (.int .i64 (s' : Nat)) (.int .i64 (lf : Nat)) (.int .i64 (q2 : Nat)))
    have HB3 := k0_ (((((E3.setCell (p := ⟨wr.heap.size, 0, none⟩) (Nat.le_refl _) (.int .i8 k)).setCell (p := ⟨wr.heap.size, 1, none⟩) (Nat.le_refl _) (.int .i64 (s' : Nat))).setCell (p := ⟨wr.heap.size, 2, none⟩) (Nat.le_refl _) (.int .i64 (lf : Nat))).setCell (p := ⟨wr.heap.size, 3, none⟩) (Nat.le_refl _) (.int .i64 (q2 : Nat))))
    have hbl : wr.heap.size ≤ wr.heap.size := Nat.le_refl _
    clear hx2 x0 x1 x2 x3 y0 y1 y2 y3 hxl
    generalize ((((u2.setCell ⟨wr.heap.size, 0, none⟩ (.int .i8 k)).setCell ⟨wr.heap.size, 1, none⟩ (.int .i64 (s' : Nat))).setCell ⟨wr.heap.size, 2, none⟩ (.int .i64 (lf : Nat))).setCell ⟨wr.heap.size, 3, none⟩ (.int .i64 (q2 : Nat))) = v3 at *
    obtain ⟨bx, hbx⟩ : ∃ bx, bx = wr.heap.size := ⟨_, rfl⟩
    rw [← hbx] at HOB ⊢
    replace hbl : wr.heap.size ≤ bx := by omega
    clear hbx
  | have HOB := k0_ (j6 hx3 (.int .i8 k) (.int .i64 (s' : Nat)) (.int .i64 (lf : Nat)) (.int .i64 (q2 : Nat)))
    have HB3 := k0_ (((((E3.setCell (p := ⟨u1.heap.size, 0, none⟩) hle3 (.int .i8 k)).setCell (p := ⟨u1.heap.size, 1, none⟩) hle3 (.int .i64 (s' : Nat))).setCell (p := ⟨u1.heap.size, 2, none⟩) hle3 (.int .i64 (lf : Nat))).setCell (p := ⟨u1.heap.size, 3, none⟩) hle3 (.int .i64 (q2 : Nat))))
    have hbl := hle3
    clear hx3 x0 x1 x2 x3 y0 y1 y2 y3 hxl
    generalize ((((u2.setCell ⟨u1.heap.size, 0, none⟩ (.int .i8 k)).setCell ⟨u1.heap.size, 1, none⟩ (.int .i64 (s' : Nat))).setCell ⟨u1.heap.size, 2, none⟩ (.int .i64 (lf : Nat))).setCell ⟨u1.heap.size, 3, none⟩ (.int .i64 (q2 : Nat))) = v3 at *
    generalize u1.heap.size = bx at *
  | have HOB := k0_ (zF u2 (.cells #[.int .i8 k, .int .i64 (s' : Nat), .int .i64 (lf : Nat), .int .i64 (q2 : Nat)] 103))
    have HB3 := k0_ (E3.alloc E3.size (.cells #[.int .i8 k, .int .i64 (s' : Nat), .int .i64 (lf : Nat), .int .i64 (q2 : Nat)] 103))
    have hbl := E3.size
    generalize u2.alloc (.cells #[.int .i8 k, .int .i64 (s' : Nat), .int .i64 (lf : Nat), .int .i64 (q2 : Nat)] 103) = v3 at *
    generalize u2.heap.size = bx at *) : P := h
theorem zHU {P : Prop} (h : P := by
  clear sT sF s1 s2 s3 s4 s5
  generalize fx (wAt l i) = s at *
  generalize hxw : wAt l i = x at *
  obtain ⟨yk, yt, yn, yp⟩ := x
  unfold wV at CW CF
  simp only at CW CF
  clear hxw
  go_enter Tryz.func117, Tryz.ntmps117
  go_wp2_with fail
  refine CW.out.mono ?_
  rintro e w2 ⟨rfl, hb⟩
  have hbx : Below w2.heap.size w2 (w2.alloc (.cells #[.int .i8 yk, .string yt, .int .i64 yn, .int .i64 yp] 48)) := (Below.refl _ _).alloc (Nat.le_refl _) _
  have HX2 := k0_ (zF w2 (.cells #[.int .i8 yk, .string yt, .int .i64 yn, .int .i64 yp] 48))
  have HB2 := k0_ (hb.trans (hbx.mono hb.size))
  have hwl := hb.size
  clear hb hbx
  obtain ⟨x0, x1, x2, x3, -, -, -, -, hxl⟩ := zX HX2.out
  go_wp2_with fail
  refine (CF.out _).mono ?_
  rintro e w3 ⟨rfl, hb⟩
  have HX3 := kp_ hb HX2
  have HB3 := kt_ HB2 hb
  clear hb x0 x1 x2 x3 hxl HX2 HB2
  go_wp2_with fail
  refine (CB.out _ HB3.out).mono ?_
  intro e w4 hP
  have HP := k0_ (TPost.from hP (zJ HB3.out))
  cases r with
  | bad E a s' =>
    obtain ⟨g, rfl, -⟩ := hP
    exact ⟨rfl, HP.out⟩
  | ok vs j =>
    obtain ⟨X, rfl, -⟩ := hP
    go_wp2_with fail
    go_ret
    exact HP.out) : P := h
theorem zHR {P : Prop} (h : P := by
  have HR8 : PRd w8 rb A l.length c j2 mv := by rw [← hw8]; exact zG (zG HR7.out _) _
  have HB8 : Below w7.heap.size w7 w8 := by rw [← hw8]; exact (((Below.refl _ _).alloc (Nat.le_refl _) _).alloc (by simp) _)
  rw [hw8] at HX8 HT0
  clear hw8
  have c10 := cell_of_heap HX8 10 rfl
  have z10 := zH HX8 10
  have HTA := k0_ HT0
  have HR9 := k0_ (show PRd (w8.setCell ⟨N, 10, none⟩ (.slice (some ⟨w7.heap.size + 1, 0, none⟩) 1 1)) rb A l.length c j2 mv from by
    unfold PRd; rw [Below.heap_setCell _ _ _ rb hr3]; exact HR8)
  have HG9 := k0_ (zK (zI HG7.out (zJ (rb := rb) HB8)) (p := ⟨N, 10, none⟩) (.inr hN1) (.slice (some ⟨w7.heap.size + 1, 0, none⟩) 1 1))
  clear HT0 HR8 HB8 CK HF HF7 HG7 HR7 HN7 HX8
  go_wp2_with fail
  go_ret
  exact ⟨N, rfl, HTA.out, HR9.out, HG9.out⟩) : P := h
theorem zEK {P : Prop} (h : P := by
  clear CT
  go_wp2_with fail
  refine CB.out.mono ?_
  intro e w4 hP
  have HP := k0_ (hP.from HG3.out)
  obtain ⟨g, rfl, -⟩ := hP
  exact ⟨rfl, HP.out⟩) : P := h
theorem zGD {P : Prop} (h : P := by
  go_wp2_with fail
  refine CB.out.mono ?_
  intro e w4 hP
  have HP := k0_ (TPost.from hP HG3.out)
  obtain ⟨g, rfl, -⟩ := hP
  exact ⟨rfl, HP.out⟩) : P := h
theorem zFH {P : Prop} (h : P := by
  have HP := k0_ (TPost.from hP HG5.out)
  obtain ⟨g, rfl, -⟩ := hP
  exact ⟨rfl, HP.out⟩) : P := h
theorem zEJ {P : Prop} (h : P := by
  rw [Below.heap_setCell _ _ _ _ (by show (w.alloc o).heap.size ≠ N; omega)]; exact hZ) : P := h
theorem zBU {P : Prop} (h : P := by
  simp only [World.setCell, Array.getElem?_modify, if_true, hN2]
  rfl) : P := h
theorem zHL {P : Prop} (h : P := by
  go_wp2_with fail
  refine CB.out.mono ?_
  intro e w99 hP
  have HP := k0_ (TPost.from hP P10_2.out.gr)
  obtain ⟨g, rfl, -⟩ := hP
  exact ⟨rfl, HP.out⟩) : P := h
theorem zHK {P : Prop} (h : P := by
  clear CT
  go_wp2_with fail
  refine CB.out.mono ?_
  intro e w99 hP
  have HP := k0_ (hP.from H9.out.gr)
  obtain ⟨g, rfl, -⟩ := hP
  exact ⟨rfl, HP.out⟩) : P := h
theorem zHI {P : Prop} (h : P := by
  have hZ2 : (((w.alloc o).alloc (.cells (h.cells q ++ h'.cells q').toArray 28)).setCell ⟨N, 10, none⟩ (.slice (some ⟨(w.alloc o).heap.size, 0, none⟩) 2 2)).heap[(w.alloc o).heap.size]? = some (.cells (h.cells q ++ h'.cells q').toArray 28 (0, 0)) := by
    exact zEJ
  exact zHg (n0 := N + 1) hZ2 (by omega) (hF.keep hk) (hF'.keep hk) u (hu.low (by omega))) : P := h
theorem zHH {P : Prop} (h : P := by
  have hZ2 : (((w.alloc o).alloc (.cells (h.cells q).toArray 28)).setCell ⟨N, 10, none⟩ (.slice (some ⟨(w.alloc o).heap.size, 0, none⟩) 1 1)).heap[(w.alloc o).heap.size]? = some (.cells (h.cells q).toArray 28 (0, 0)) := by
    exact zEJ
  exact zGR (n0 := N + 1) hZ2 (by omega) (hF.keep hk) u (hu.low (by omega))) : P := h
theorem zH9 {P : Prop} (h : P := by
  have CB := k0_ (zZ l A c rb j mv _ w5 HS5.out s2 hw2 (CT.out (j + 1) (by omega) hj1) _ fd)
  clear CT fd
  go_wp2_with fail
  refine CB.out.mono ?_
  intro e w7 hP
  exact zFH) : P := h
theorem zG7 {P : Prop} (h : P := by
  rw [← yA hi]
  unfold wAt
  rw [List.getElem?_eq_getElem hi]
  exact hS.small _ (List.getElem_mem hi)) : P := h
theorem zH0 {P : Prop} (h : P := by
  have CB := k0_ (qF l A c rb j mv _ w5 HS5.out s2 hw2)
  clear CT
  go_wp2_with fail
  refine CB.out.mono ?_
  intro e w6 hP
  exact zFH) : P := h
theorem zG6 {P : Prop} (h : P := by
  rw [rounds_succ]
  go_wp2_with fail
  rw [rounds_succ]
  go_wp2_with fail
  go_ret
  exact ⟨rfl, rfl⟩) : P := h
theorem zGs {P : Prop} (h : P := by
  go_wp2_with fail
  refine CB.out.mono ?_
  intro e w99 hP
  have HP := k0_ (TPost.from hP P9_1.out.gr)
  exact qY) : P := h
theorem zGr {P : Prop} (h : P := by
  have CP := k0_ (CT.out (i + 1) (Nat.lt_succ_self i) hi w2 _ (HS.out.step HG2.out HR2.out hi) f)
  clear f CT
  go_wp2_with fail
  refine CP.out.mono ?_
  intro e w3 hP
  have HP := k0_ (TPost.from hP HG2.out)
  exact qY) : P := h
theorem zGq {P : Prop} (h : P := by
  cases r with
  | bad E a s' =>
    exact qY
  | ok vs j =>
    match vs, hsg, hP, HP with
    | [.tm h t], _, hP, HP =>
      obtain ⟨X, rfl, -⟩ := hP
      go_wp2_with fail
      go_ret
      exact HP.out) : P := h
theorem zGp {P : Prop} (h : P := by
  have CB := k0_ (vX l A c rb (i + 1) mv w2 HS2.out (jZ hno))
  clear CT
  go_wp2_with fail
  refine CB.out.mono ?_
  intro e w4 hP
  have HP := k0_ (hP.from HG2.out)
  exact qY) : P := h
theorem zGo {P : Prop} (h : P := by
  clear CT
  go_wp2_with fail
  refine CB.out.mono ?_
  intro e w99 hP
  have HP := k0_ (hP.from H6.out.gr)
  exact qY) : P := h
theorem zGn {P : Prop} (h : P := by
  go_wp2_with fail
  refine CB.out.mono ?_
  intro e w8 hP
  have HP := k0_ (TPost.from hP HG7.out)
  exact qY) : P := h
theorem zGm {P : Prop} (h : P := by
  go_wp2_with fail
  refine CB.out.mono ?_
  intro e w99 hP
  have HP := k0_ (TPost.from hP P5_1.out.gr)
  exact qY) : P := h
theorem zGj {P : Prop} (h : P := by
  go_wp2_with fail
  refine CB.out.mono ?_
  intro e w5 hP
  have HP := k0_ (TPost.from hP HG4.out)
  exact qY) : P := h
theorem zGe {P : Prop} (h : P := by
  go_wp2_with fail
  refine CB.out.mono ?_
  intro e w99 hP
  have HP := k0_ (hP.from H8.out.gr)
  exact qY) : P := h
theorem zGc {P : Prop} (h : P := by
  have HPG := k0_ (hP.from (zJ (rb := rb) HB3.out))
  clear hX hP hN1 hN2
  go_wp2_with fail
  go_ret
  exact ⟨N, rfl, HTA.out, HPG.out⟩) : P := h
theorem zFd {P : Prop} (h : P := by
  go_wp2_with fail
  refine CB.out.mono ?_
  intro e w99 hP
  have HP := k0_ (hP.from H4.out.gr)
  exact qY) : P := h
theorem zFc {P : Prop} (h : P := by
  go_wp2_with fail
  go_ret
  exact ⟨N, rfl, HTA.out, HR9.out, HG9.out⟩) : P := h
theorem zFb {P : Prop} (h : P := by
  have CB := k0_ (zZ l A c rb j mv _ w3 HS3.out s1 hw (CT.out (j + 1) (by omega) hjl) _ f)
  clear CT f
  exact zGD) : P := h
end Go.Proofs.YtgjemmmbnpkamaaGreatDoor
