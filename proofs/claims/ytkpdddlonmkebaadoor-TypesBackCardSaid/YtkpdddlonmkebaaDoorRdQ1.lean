/-
  The document's reader: the next word can't stand there.
-/
import Derived.Test.YtkpdddlonmkebaaDoorRdQ0
import Derived.RegionTactic
import Derived.BigRegion
namespace Go.Proofs.YtkpdddlonmkebaaDoor
open Go.RowKit Rd

set_option maxHeartbeats 4000000 in
set_option maxRecDepth 100000 in
theorem wrong_flt (l : List W4) (A : Option Addr) (c rb i : Nat) (E a : Int) (sf : ByteArray) (w : World) (h : QdS l A c rb w i E a sf) (hE : E ≠ 0) :
    Calls Tryd.prog 89 #[.pointer (some ⟨rb, 0, none⟩)] w fun e w' => e = .returned (.tuple #[]) ∧ w' = w := by
  obtain ⟨r0, r1, r2, -, -, -, -, -, -, hrl⟩ := own5 h.rdr
  have e1 : (E != 0) = true := by simp [hE]
  clear h hE
  go_enter Tryd.func89, Tryd.ntmps89
  go_wp2_with fail
  exact bodyPost_ret (v := .tuple #[]) (by simp [results, Tryd.results89]) rfl ⟨rfl, rfl⟩

set_option maxHeartbeats 2000000 in
theorem qrd_flt {w : World} {rb n c i : Nat} {A : Option Addr} {E a : Int} {s : ByteArray} (h : QRd w rb A n c i E a s) (E' a' : Int) (s' : ByteArray) : QRd (((w.setCell ⟨rb, 2, none⟩ (.int .i64 E')).setCell ⟨rb, 3, none⟩ (.int .i64 a')).setCell ⟨rb, 4, none⟩ (.string s')) rb A n c i E' a' s' := by
  unfold QRd at h ⊢
  simp [World.setCell, Array.getElem?_modify, h]

theorem set3_1 {w : World} {X : Nat} {a b c : Value} {t : TypeId} (h : w.heap[X]? = some (.cells #[a, b, c] t (0, 0))) (v : Value) : (w.setCell ⟨X, 1, none⟩ v).heap[X]? = some (.cells #[a, v, c] t (0, 0)) := by
  simp [World.setCell, Array.getElem?_modify, h]
theorem set3_2 {w : World} {X : Nat} {a b c : Value} {t : TypeId} (h : w.heap[X]? = some (.cells #[a, b, c] t (0, 0))) (v : Value) : (w.setCell ⟨X, 2, none⟩ v).heap[X]? = some (.cells #[a, b, v] t (0, 0)) := by
  simp [World.setCell, Array.getElem?_modify, h]
theorem qflt_only {w u : World} {rb : Nat} (hb : Below w.heap.size w u) (v2 v3 v4 : Value) : w.grownBy (((u.setCell ⟨rb, 2, none⟩ v2).setCell ⟨rb, 3, none⟩ v3).setCell ⟨rb, 4, none⟩ v4) (some rb) := by
  have h1 := only_below (rb := rb) hb
  have h2 := only_setCell h1 (p := ⟨rb, 2, none⟩) (.inl rfl) v2
  have h3 := only_setCell h2 (p := ⟨rb, 3, none⟩) (.inl rfl) v3
  exact only_setCell h3 (p := ⟨rb, 4, none⟩) (.inl rfl) v4

set_option maxHeartbeats 4000000 in
set_option maxRecDepth 100000 in
theorem wrong_any (l : List W4) (A : Option Addr) (c rb i : Nat) (a : Int) (sf : ByteArray) (w : World) (h : QdS l A c rb w i 0 a sf) :
    Calls Tryd.prog 89 #[.pointer (some ⟨rb, 0, none⟩)] w fun e w' => e = .returned (.tuple #[]) ∧ QGo l A c rb w i 40 (Rd.fAt l i) (Rd.fWord l i) w' := by
  have H := Lib.hid h
  have hb0 : Below w.heap.size w (w.alloc (.cells #[.int .i64 40, .int .i64 0, .string ⟨#[]⟩] 36)) := (Below.refl _ _).alloc (Nat.le_refl _) _
  have HX := Lib.hid (heap_new w (.cells #[.int .i64 40, .int .i64 0, .string ⟨#[]⟩] 36))
  have HS1 := Lib.hid (h.below hb0)
  have HB0 := Lib.hid hb0
  have hl := h.len
  have hi := h.le
  have hW := HS1.out.row
  obtain ⟨n, hn⟩ : ∃ n, n = l.length := ⟨_, rfl⟩
  obtain ⟨r0, r1, r2, r3, r4, -, rf2, rf3, rf4, hrl⟩ := own5 HS1.out.rdr
  obtain ⟨s0, s1, s2, -, -, -, sf2, sf3, sf4, hsl⟩ := own5 h.rdr
  have hne : w.heap.size ≠ rb := by have := heap_lt h.rdr; omega
  have HN := Lib.hid hn
  rw [← hn] at hl hi r0 s0
  have i5 : (n : Int) ≤ 9223372036854775807 := by unfold maxLen at hl; omega
  clear h hb0
  by_cases hin : i < n
  · obtain ⟨x, hx⟩ : ∃ x, l[i]? = some x := ⟨l[i]'(by omega), List.getElem?_eq_getElem _⟩
    obtain ⟨g, o, hA, h0, h1, h2, h3⟩ := hW i x hx
    have ea : Rd.fAt l i = x.pos := by unfold Rd.fAt; rw [hx]
    have ew : Rd.fWord l i = x.text := by unfold Rd.fWord; rw [hx]
    rw [ea, ew]
    have j1 : (i : Int) < n := by omega
    have j2 : (0 : Int) ≤ i ∧ (i : Int) < n := by omega
    have hgn : g ≠ rb := HS1.out.ne g o hA (by rintro rfl; cases hx)
    clear ea ew hW hl hi hn
    obtain rfl := hA
    generalize hw1 : w.alloc (.cells #[.int .i64 40, .int .i64 0, .string ⟨#[]⟩] 36) = w1 at *
    have HW := Lib.hid hw1
    clear hw1
    go_enter Tryd.func89, Tryd.ntmps89
    go_wp2_with fail
    rw [HW.out]
    clear s0 s1 s2 sf2 sf3 sf4 hsl
    obtain ⟨f0, f1, f2, z0, z1, z2, fl⟩ := own3' HX.out
    go_quiet (fail)
    go_wp2_with fail
    go_region
    have HX2 := Lib.hid (set3_1 (show (w1.drewN (nq + 1)).heap[w.heap.size]? = _ from HX.out) (.int .i64 x.pos))
    have HB2 := Lib.hid ((below_drewN HB0.out (nq + 1)).setCell (p := ⟨w.heap.size, 1, none⟩) (Nat.le_refl _) (.int .i64 x.pos))
    have HS2 := Lib.hid (H.out.below HB2.out)
    obtain ⟨gg, oo, hA', g0, g1, g2, g3⟩ := HS2.out.row i x hx
    obtain ⟨rfl, rfl⟩ : gg = g ∧ oo = o := by injection hA' with e; injection e with e1 e2; exact ⟨e1.symm, e2.symm⟩
    clear r0 r1 r2 r3 r4 rf2 rf3 rf4 hrl f0 f1 f2 z0 z1 z2 fl h0 h1 h2 h3 hA'
    generalize (w1.drewN (nq + 1)).setCell ⟨w.heap.size, 1, none⟩ (.int .i64 x.pos) = w2 at *
    obtain ⟨r0, r1, r2, -, -, -, rf2, rf3, rf4, hrl⟩ := own5 HS2.out.rdr
    rw [← HN.out] at r0
    obtain ⟨f0, f1, f2, z0, z1, z2, fl⟩ := own3' HX2.out
    go_wp2_with fail
    go_region
    have HX3 : Hid ((w2.setCell ⟨w.heap.size, 2, none⟩ (.string x.text)).drew.heap[w.heap.size]? = _) := Lib.hid (set3_2 HX2.out (.string x.text))
    have HB3 := Lib.hid ((HB2.out.setCell (p := ⟨w.heap.size, 2, none⟩) (Nat.le_refl _) (.string x.text)).drew)
    have HS3 := Lib.hid (H.out.below HB3.out)
    clear r0 r1 r2 rf2 rf3 rf4 hrl f0 f1 f2 z0 z1 z2 fl g0 g1 g2 g3
    generalize (w2.setCell ⟨w.heap.size, 2, none⟩ (.string x.text)).drew = w3 at *
    obtain ⟨r0, r1, r2, r3, r4, -, rf2, rf3, rf4, hrl⟩ := own5 HS3.out.rdr
    obtain ⟨f0, f1, f2, z0, z1, z2, fl⟩ := own3' HX3.out
    go_wp2_with fail
    change bodyPost _ _ _ _ _ _
    go_end0
    exact ⟨rfl, qrd_flt HS3.out.rdr 40 x.pos x.text, qflt_only HB3.out _ _ _⟩
  · have hi2 : i = n := by omega
    subst hi2
    have ex : l[i]? = none := List.getElem?_eq_none (by omega)
    have ew : Rd.fWord l i = ⟨#[]⟩ := by unfold Rd.fWord; rw [ex]
    rw [ew]
    have hz : decide ((i : Int) < i) = false := by simp
    by_cases hi0 : i = 0
    · have ea : Rd.fAt l i = 0 := by unfold Rd.fAt; rw [ex]; simp [hi0]
      rw [ea]
      have j0 : ¬ ((0 : Int) < i) := by omega
      clear ea ew ex hW hn
      generalize hw1 : w.alloc (.cells #[.int .i64 40, .int .i64 0, .string ⟨#[]⟩] 36) = w1 at *
      have HW := Lib.hid hw1
      clear hw1
      go_enter Tryd.func89, Tryd.ntmps89
      go_wp2_with fail
      rw [HW.out]
      clear s0 s1 s2 sf2 sf3 sf4 hsl
      obtain ⟨f0, f1, f2, z0, z1, z2, fl⟩ := own3' HX.out
      go_quiet (fail)
      go_wp2_with fail
      change bodyPost _ _ _ _ _ _
      go_end0
      exact ⟨rfl, qrd_flt (H.out.below (below_drewN HB0.out nq)).rdr 40 0 ⟨#[]⟩, qflt_only (below_drewN HB0.out nq) _ _ _⟩
    · obtain ⟨x, hx⟩ : ∃ x, l[i - 1]? = some x := ⟨l[i - 1]'(by omega), List.getElem?_eq_getElem _⟩
      have ea : Rd.fAt l i = wrap64 (x.pos + (x.text.size : Int)) := by unfold Rd.fAt; rw [ex]; simp only; rw [if_pos (by omega), hx]
      rw [ea]
      obtain ⟨m, rfl⟩ : ∃ m, i = m + 1 := ⟨i - 1, by omega⟩
      rw [Nat.add_sub_cancel] at hx
      obtain ⟨g, o, hA, h0, h1, h2, h3⟩ := hW m x hx
      have hcast : ((m + 1 : Nat) : Int) = (m : Int) + 1 := by omega
      have HCA := Lib.hid hcast
      rw [hcast] at *
      have j1 : (0 : Int) < (m : Int) + 1 := by omega
      have j2 : (0 : Int) ≤ m ∧ (m : Int) < (m : Int) + 1 := by omega
      have j3 : (m : Int) + 1 ≤ 9223372036854775807 := by omega
      clear ea ew ex hW hcast hn
      have HAA := Lib.hid hA
      obtain rfl := hA
      generalize hw1 : w.alloc (.cells #[.int .i64 40, .int .i64 0, .string ⟨#[]⟩] 36) = w1 at *
      have HW := Lib.hid hw1
      clear hw1
      go_enter Tryd.func89, Tryd.ntmps89
      go_wp2_with fail
      rw [HW.out]
      clear s0 s1 s2 sf2 sf3 sf4 hsl
      go_quiet (fail)
      have HX2 : Hid ((w1.drewN nq).heap[w.heap.size]? = _) := Lib.hid HX.out
      have HB2 := Lib.hid (below_drewN HB0.out nq)
      have HS2 := Lib.hid (H.out.below HB2.out)
      have q0 : (w1.drewN nq).cell? ⟨g, o + m * 4, none⟩ = _ := h0
      have q1 : (w1.drewN nq).cell? ⟨g, o + m * 4 + 1, none⟩ = _ := h1
      have q2 : (w1.drewN nq).cell? ⟨g, o + m * 4 + 2, none⟩ = _ := h2
      have q3 : (w1.drewN nq).cell? ⟨g, o + m * 4 + 3, none⟩ = _ := h3
      clear r0 r1 r2 r3 r4 rf2 rf3 rf4 hrl h0 h1 h2 h3 HX HB0 HW HS1
      generalize w1.drewN nq = w2 at *
      obtain ⟨r0, r1, r2, -, -, -, rf2, rf3, rf4, hrl⟩ := own5 HS2.out.rdr
      rw [← HN.out] at r0
      have bl := heap_lt HX2.out
      have gl := Ty.cell_lt q0
      have hs : IntKind.i64.wrap (m : Int) = (m : Int) := IntWalk.i64_in _ (by omega)
      go_wp2_with fail
      go_cut [3] (fun s4 wx => ∃ X, s4 = .pointer (some ⟨X, 0, none⟩) ∧ wx.heap[X]? = some (.cells #[.int .i8 x.kind, .string x.text, .int .i64 x.num, .int .i64 x.pos] 26 (0, 0)) ∧ X ≠ w.heap.size ∧ X ≠ rb ∧ Below w2.heap.size w2 wx)
      case first =>
        go_region_law (fail)
        all_goals
          go_wp2_with fail
          go_meet
          exact ⟨_, rfl, heap_new _ _, by omega, by have h : rb < w2.heap.size := hrl; omega, ((Below.refl _ _).alloc (Nat.le_refl _) _).drew⟩
      case rest =>
        obtain ⟨X, rfl, hX, hne2, hne3, hb⟩ := hcut
        have hF := heap_below hb bl HX2.out
        have HS3 := Lib.hid (HS2.out.below hb)
        obtain ⟨y0, y1, y2, y3, -, -, -, -, yl⟩ := own4 hX
        obtain ⟨f0, f1, f2, z0, z1, z2, fl⟩ := own3' hF
        have HFF := Lib.hid hF
        have HB3 := Lib.hid (HB2.out.trans (hb.mono HB2.out.size))
        clear hX hF hb q0 q1 q2 q3 r0 r1 r2 rf2 rf3 rf4 hrl
        go_upto_region 8 with fail
        have HX4 := Lib.hid (set3_1 HFF.out (.int .i64 (wrap64 (x.pos + (x.text.size : Int)))))
        have HB4 := Lib.hid (HB3.out.setCell (p := ⟨w.heap.size, 1, none⟩) (Nat.le_refl _) (.int .i64 (wrap64 (x.pos + (x.text.size : Int)))))
        have HS4 := Lib.hid (H.out.below HB4.out)
        clear y0 y1 y2 y3 yl f0 f1 f2 z0 z1 z2 fl
        generalize wc.setCell ⟨w.heap.size, 1, none⟩ (.int .i64 (wrap64 (x.pos + (x.text.size : Int)))) = w4 at *
        obtain ⟨r0, r1, r2, r3, r4, -, rf2, rf3, rf4, hrl⟩ := own5 HS4.out.rdr
        obtain ⟨f0, f1, f2, z0, z1, z2, fl⟩ := own3' HX4.out
        go_wp2_with fail
        change bodyPost _ _ _ _ _ _
        go_end0
        exact ⟨rfl, qrd_flt HS4.out.rdr 40 _ ⟨#[]⟩, qflt_only HB4.out _ _ _⟩
end Go.Proofs.YtkpdddlonmkebaaDoor
