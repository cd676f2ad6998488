/-
  The law's wakes.
-/
import Derived.Test.YtkpdddlonmkebaaDoorText
import Derived.Deep.RegionHeld3
import Derived.Deep.RegionWith
import Derived.Deep.DeepCutAuto
namespace Go.Proofs.YtkpdddlonmkebaaDoor
open Go.RowKit

theorem keepS {g : Nat} {v0 v1 : Value} {W w2 : World} (h : W.cell? ⟨g, 0, none⟩ = some v0 ∧ W.cell? ⟨g, 1, none⟩ = some v1) (hb : Below W.heap.size W w2) : w2.cell? ⟨g, 0, none⟩ = some v0 ∧ w2.cell? ⟨g, 1, none⟩ = some v1 :=
  ⟨by rw [(bcell hb).1 _ _ (Ty.cell_lt h.1)]; exact h.1, by rw [(bcell hb).1 _ _ (Ty.cell_lt h.2)]; exact h.2⟩

theorem keepD {g : Nat} {v0 v1 : Value} {W : World} (h : W.cell? ⟨g, 0, none⟩ = some v0 ∧ W.cell? ⟨g, 1, none⟩ = some v1) : W.drew.cell? ⟨g, 0, none⟩ = some v0 ∧ W.drew.cell? ⟨g, 1, none⟩ = some v1 := h
theorem keepA {g : Nat} {v0 v1 : Value} {W : World} (h : W.cell? ⟨g, 0, none⟩ = some v0 ∧ W.cell? ⟨g, 1, none⟩ = some v1) (o : Obj) : (W.alloc o).cell? ⟨g, 0, none⟩ = some v0 ∧ (W.alloc o).cell? ⟨g, 1, none⟩ = some v1 :=
  keepS h ((Below.refl _ _).alloc (Nat.le_refl _) _)
theorem keepC {g : Nat} {v0 v1 : Value} {W : World} (h : W.cell? ⟨g, 0, none⟩ = some v0 ∧ W.cell? ⟨g, 1, none⟩ = some v1) {p : Addr} (hp : p.block ≠ g) (u : Value) : (W.setCell p u).cell? ⟨g, 0, none⟩ = some v0 ∧ (W.setCell p u).cell? ⟨g, 1, none⟩ = some v1 := by
  refine ⟨?_, ?_⟩
  · rw [World.cell?_setCell_other W p _ u (fun e => hp (by rw [e]))]; exact h.1
  · rw [World.cell?_setCell_other W p _ u (fun e => hp (by rw [e]))]; exact h.2
theorem heap_set {w : World} {g : Nat} {v0 v1 : Value} {t : TypeId} (h : w.heap[g]? = some (.cells #[v0, v1] t (0, 0))) (u v : Value) : ((w.setCell ⟨g, 0, none⟩ u).setCell ⟨g, 1, none⟩ v).heap[g]? = some (.cells #[u, v] t (0, 0)) := by
  simp [World.setCell, Array.getElem?_modify, h]
theorem heap_far {w : World} {g k : Nat} {x : Obj} (h : w.heap[k]? = some x) (hk : k ≠ g) (u v : Value) : ((w.setCell ⟨g, 0, none⟩ u).setCell ⟨g, 1, none⟩ v).heap[k]? = some x := by
  rw [Below.heap_setCell _ _ _ k hk, Below.heap_setCell _ _ _ k hk]; exact h
/-- f's block of memory, found again -/
theorem is_f {w : World} {M N : Nat} (h1 : w.heap[N]? = some (.cells #[.int .i8 1, .slice none 0 0, .int .i8 0, .slice none 0 0] 29 (0, 0))) (h2 : w.heap[M]? = some (.cells #[.int .i8 3, .slice (some ⟨N, 0, none⟩) 2 2, .int .i8 1, .slice none 0 0] 29 (0, 0))) :
    Ty.Is w 3 (Ty.two 3 (Ty.two 1 .nil 0 .nil) 1 .nil) (some ⟨M, 0, none⟩) 2 2 := by
  refine ⟨Ty.lies_two h2 ⟨Ty.lies_two h1 (Ty.is_nil _ 1 (by omega) (by omega)) (Ty.is_nil _ 0 (by omega) (by omega)), rfl, Nat.le_refl _, by unfold maxLen; omega, by omega, by omega⟩ (Ty.is_nil _ 1 (by omega) (by omega)), rfl, Nat.le_refl _, by unfold maxLen; omega, by omega, by omega⟩

theorem is_qq {w : World} {Q : Nat} (h : w.heap[Q]? = some (.cells #[.int .i8 0, .slice none 0 0, .int .i8 0, .slice none 0 0] 29 (0, 0))) : Ty.Is w 3 (Ty.two 0 .nil 0 .nil) (some ⟨Q, 0, none⟩) 2 2 :=
  ⟨Ty.lies_two h (Ty.is_nil _ 0 (by omega) (by omega)) (Ty.is_nil _ 0 (by omega) (by omega)), rfl, Nat.le_refl _, by unfold maxLen; omega, by omega, by omega⟩
theorem keep6 {wb w2 : World} {X I Y : Nat} {v0 v1 v2 v3 v4 v5 : Value} (h0 : wb.cell? ⟨X, 0, none⟩ = some v0) (h1 : wb.cell? ⟨X, 1, none⟩ = some v1) (h2 : wb.cell? ⟨I, 0, none⟩ = some v2) (h3 : wb.cell? ⟨I, 1, none⟩ = some v3) (h4 : wb.cell? ⟨Y, 0, none⟩ = some v4) (h5 : wb.cell? ⟨Y, 1, none⟩ = some v5) (hb : Below wb.heap.size wb w2) :
    w2.cell? ⟨X, 0, none⟩ = some v0 ∧ w2.cell? ⟨X, 1, none⟩ = some v1 ∧ w2.cell? ⟨I, 0, none⟩ = some v2 ∧ w2.cell? ⟨I, 1, none⟩ = some v3 ∧ w2.cell? ⟨Y, 0, none⟩ = some v4 ∧ w2.cell? ⟨Y, 1, none⟩ = some v5 :=
  ⟨by rw [(bcell hb).1 _ _ (Ty.cell_lt h0)]; exact h0, by rw [(bcell hb).1 _ _ (Ty.cell_lt h1)]; exact h1, by rw [(bcell hb).1 _ _ (Ty.cell_lt h2)]; exact h2, by rw [(bcell hb).1 _ _ (Ty.cell_lt h3)]; exact h3, by rw [(bcell hb).1 _ _ (Ty.cell_lt h4)]; exact h4, by rw [(bcell hb).1 _ _ (Ty.cell_lt h5)]; exact h5⟩
abbrev F3 : Fo := Ty.two 3 (Ty.two 1 .nil 0 .nil) 1 .nil
set_option maxHeartbeats 4000000 in
set_option maxRecDepth 100000 in
theorem wakes_any (w : World) (hS : Shapes w) :
    Calls Tryd.prog 5 #[] w fun e w' => e = .returned (.bool true) ∧ Below w.heap.size w w' := by
  have hn1 := heap_new w (.cells #[.int .i8 1, .slice none 0 0] 29)
  have hB0 := (Below.refl w.heap.size w).alloc (Nat.le_refl _) (.cells #[.int .i8 1, .slice none 0 0] 29)
  have N1 := Lib.hid hn1
  clear hn1
  go_enter Tryd.func5, Tryd.ntmps5
  go_wp2_with fail
  obtain ⟨b0, b1, f0, f1, hlt⟩ := own2 N1.out
  generalize w.alloc (.cells #[.int .i8 1, .slice none 0 0] 29) = w1 at *
  have hlt2 : w.heap.size < w1.heap.size := hlt
  have hd1 : Below w1.heap.size w1 w1.drew := (Below.refl _ _).drew
  go_upto_region 2 with fail
  go_cut [2] (fun s2 wx => ∃ X N, s2 = .pointer (some ⟨X, 0, none⟩) ∧ w1.heap.size ≤ X ∧ wx.heap[X]? = some (.cells #[.int .i8 3, .slice (some ⟨N, 0, none⟩) 2 2] 29 (0, 0)) ∧ Ty.Is wx 3 (Ty.two 3 (Ty.two 1 .nil 0 .nil) 1 .nil) (some ⟨N, 0, none⟩) 2 2 ∧ Below w1.heap.size w1 wx)
  case first =>
    go_region_held3 (fun w' => w'.cell? ⟨w.heap.size, 0, none⟩ = some (.int .i8 1) ∧ w'.cell? ⟨w.heap.size, 1, none⟩ = some (.slice none 0 0)) (first | exact keepS (by assumption) hb3 | exact keepS (by assumption) hb2 | exact keepA (by assumption) _ | exact keepA (keepS (keepS (keepD (And.intro b0 b1)) hb2) hb3) _ | exact keepC (keepC (keepS (keepA (keepS (keepD (And.intro b0 b1)) hb2) _) hb3) (by simp <;> omega) _) (by simp <;> omega) _ | exact keepC (keepC (keepS (keepS (keepA (keepD (And.intro b0 b1)) _) hb2) hb3) (by simp <;> omega) _) (by simp <;> omega) _ | go_keep)
      (first
        | (go_at_call 14; (with_reducible refine (of_raw 3 1 none 0 0 0 none 0 0 _).mono ?_); rintro e w2 ⟨N, rfl, hN, hI2, hb2⟩; obtain ⟨hc2, hf2⟩ := bcell hb2; have hz2 : w1.heap.size < w2.heap.size := (by have h1 := heap_lt hI2; (try simp at hN); omega))
        | (go_at_call 14; (with_reducible refine (of_raw 3 3 (some ⟨N, 0, none⟩) 2 2 1 none 0 0 _).mono ?_); rintro e w3 ⟨M, rfl, hM, hI3, hb3⟩; obtain ⟨hc3, hf3⟩ := bcell hb3; have hz3 : w2.heap.size < w3.heap.size := (by have h1 := heap_lt hI3; (try simp at hM); omega)))
    all_goals
      go_wp2_with fail
      go_meet
    · have q1 := heap_old (heap_below hb3 (heap_lt hI2) hI2) (.cells #[.int .i8 3, .slice (some ⟨M, 0, none⟩) 2 2] 29)
      have q2 := heap_old hI3 (.cells #[.int .i8 3, .slice (some ⟨M, 0, none⟩) 2 2] 29)
      refine ⟨w3.heap.size, M, rfl, by omega, heap_new _ _, is_f q1 q2, ?_⟩
      exact (hd1.trans (hb2.trans (hb3.mono (by first | omega | (simp; done) | (simp; omega))))).alloc (by first | omega | (simp; done) | (simp; omega)) _
    · have q1 := heap_below hb3 (by simp; have := heap_lt hI2; omega) (heap_old hI2 (.cells #[.int .i8 0, .slice none 0 0] 29))
      have q0 := heap_below hb3 (by first | omega | (simp; done) | (simp; omega)) (heap_new w2 (.cells #[.int .i8 0, .slice none 0 0] 29))
      have hNX := heap_lt hI2
      simp at hM
      refine ⟨w2.heap.size, M, rfl, by omega, heap_set q0 _ _, is_f (heap_far q1 (by omega) _ _) (heap_far hI3 (by omega) _ _), ?_⟩
      exact (((hd1.trans (hb2.trans (((Below.refl _ _).alloc (by first | omega | (simp; done) | (simp; omega)) _).trans (hb3.mono (by first | omega | (simp; done) | (simp; omega))))))).setCell (by first | omega | (simp; done) | (simp; omega)) _).setCell (by first | omega | (simp; done) | (simp; omega)) _
    · have hNX : w1.heap.size + 1 ≤ N := by simpa using hN
      have q0 := heap_below hb3 (show w1.drew.heap.size < _ from hz2) (heap_below hb2 (by first | omega | (simp; done) | (simp; omega)) (heap_new w1.drew (.cells #[.int .i8 0, .slice none 0 0] 29)))
      have q1 := heap_below hb3 (heap_lt hI2) hI2
      refine ⟨w1.heap.size, M, rfl, by omega, heap_set q0 _ _, is_f (heap_far q1 (by omega) _ _) (heap_far hI3 (by omega) _ _), ?_⟩
      exact (((hd1.trans (((Below.refl _ _).alloc (by first | omega | (simp; done) | (simp; omega)) _).trans ((hb2.mono (by first | omega | (simp; done) | (simp; omega))).trans (hb3.mono (by first | omega | (simp; done) | (simp; omega))))))).setCell (by first | omega | (simp; done) | (simp; omega)) _).setCell (by first | omega | (simp; done) | (simp; omega)) _
  case rest =>
    obtain ⟨X, N, rfl, hX, hfc, hIf, hbc⟩ := hcut
    have hBw := hB0.trans (hbc.mono hB0.size)
    have hSc := hS.below hBw
    have hRi := heap_below hbc hlt N1.out
    have hi1 := heap_lt hRi
    clear hbc b0 b1 f0 f1 hlt hlt2 hd1 hS hB0
    have HF0 := Lib.hid hfc
    have HI0 := Lib.hid hIf
    have HS0 := Lib.hid hSc
    have HR0 := Lib.hid hRi
    have ht : ∀ W : World, Below wc.heap.size wc W → Calls Tryd.prog 10 #[.agg #[.int .i8 3, .slice (some ⟨N, 0, none⟩) 2 2]] W fun e w' => e = .returned (.tuple #[.string ⟨#[40, 105, 110, 116, 32, 45, 62, 32, 63, 41, 32, 45, 62, 32, 105, 110, 116]⟩, .int .i64 0]) ∧ Below W.heap.size W w' :=
      fun W hW => text_any 3 F3 (some ⟨N, 0, none⟩) 2 2 W (HI0.out.below hW) (HS0.out.below hW)
    have hg : ∀ W : World, Below wc.heap.size wc W → Calls Tryd.prog 15 #[.agg #[.int .i8 3, .slice (some ⟨N, 0, none⟩) 2 2]] W (fun e w' => ∃ G m c, e = .returned (.tuple #[.agg #[.int .i8 3, .slice G m c], .bool true]) ∧ Ty.Is w' 3 (Ty.two 0 .nil 0 .nil) G m c ∧ Below W.heap.size W w') :=
      fun W hW => (fun h => h.mono fun e w' ⟨G, m, c, h1, h2, _, h4⟩ => ⟨G, m, c, h1, h2, h4⟩) <| ground_any 3 F3 (some ⟨N, 0, none⟩) 2 2 W (HI0.out.below hW) (HS0.out.below hW)
    have hz : ∀ W : World, Below wc.heap.size wc W → Calls Tryd.prog 15 #[.agg #[.int .i8 0, .slice none 0 0]] W (fun e w' => ∃ G m c, e = .returned (.tuple #[.agg #[.int .i8 0, .slice G m c], .bool false]) ∧ Below W.heap.size W w') :=
      fun W hW => (fun h => h.mono fun e w' ⟨G, m, c, h1, _, _, h4⟩ => ⟨G, m, c, h1, h4⟩) <| ground_any 0 .nil none 0 0 W (Ty.is_nil _ 0 (by omega) (by omega)) (HS0.out.below hW)
    have HT := Lib.hid ht
    have HG := Lib.hid hg
    have HZ := Lib.hid hz
    clear ht hg hz hfc hIf hSc hRi
    obtain ⟨x0, x1, _, _, hxl⟩ := own2 HF0.out
    go_wp2_with fail
    refine (HT.out _ (Below.refl _ _)).mono ?_
    rintro e w4 ⟨rfl, hb4⟩
    obtain ⟨x0, x1, _, _, hxl⟩ := own2 (heap_below hb4 (heap_lt HF0.out) HF0.out)
    go_wp2_with fail
    refine (HG.out _ hb4).mono ?_
    rintro e w5 ⟨G, m, c, rfl, hIg, hb5⟩
    have hB5 := hb4.trans (hb5.mono hb4.size)
    have HIg := Lib.hid hIg
    have hYn := heap_new w5 (.cells #[.int .i8 3, .slice G m c] 29)
    have hB5' := hB5.alloc hB5.size (.cells #[.int .i8 3, .slice G m c] 29)
    have HY := Lib.hid hYn
    clear hb4 hb5 hIg hYn
    go_wp2_with fail
    refine (HZ.out _ hB5').mono ?_
    rintro e w6 ⟨G0, m0, c0, rfl, hb6⟩
    have hB6 := hB5'.trans (hb6.mono hB5'.size)
    have HY6 := Lib.hid (heap_old (heap_below hb6 (heap_lt HY.out) HY.out) (.cells #[.int .i8 0, .slice G0 m0 c0] 29))
    have HIg6 := Lib.hid ((((HIg.out.alloc (.cells #[.int .i8 3, .slice G m c] 29))).below hb6).alloc (.cells #[.int .i8 0, .slice G0 m0 c0] 29))
    have hB7 := hB6.alloc hB6.size (.cells #[.int .i8 0, .slice G0 m0 c0] 29)
    clear hb6 hB6 hB5 hB5' x0 x1
    go_wp2_with fail
    generalize w6.alloc (.cells #[.int .i8 0, .slice G0 m0 c0] 29) = wb at *
    have hX7 := heap_below hB7 (heap_lt HF0.out) HF0.out
    have hR7 := heap_below hB7 (heap_lt HR0.out) HR0.out
    have hI7 := HI0.out.below hB7
    have hS7 := HS0.out.below hB7
    have hW7 := hBw.trans (hB7.mono hBw.size)
    obtain ⟨x0, x1, _, _, hxl⟩ := own2 hX7
    obtain ⟨i0, i1, _, _, hil⟩ := own2 hR7
    obtain ⟨y0, y1, _, _, hyl⟩ := own2 HY6.out
    have hg7 := HIg6.out
    generalize w5.heap.size = Y at *
    generalize hIe : w.heap.size = I at *
    have HIE := Lib.hid hIe
    clear hIe
    clear HT HG HZ HF0 HI0 HS0 HR0 HY HIg HY6 HIg6 hX7 hR7 hB7 hBw N1 hX
    have C1 := Lib.hid (fun (Q : Nat) (W : World) (hb : Below wb.heap.size wb W) (h : Ty.Is W 3 (Ty.two 0 .nil 0 .nil) (some ⟨Q, 0, none⟩) 2 2) => same_any 3 (Ty.two 0 .nil 0 .nil) G m c 3 (Ty.two 0 .nil 0 .nil) (some ⟨Q, 0, none⟩) 2 2 W (hg7.below hb) h (hS7.below hb))
    have C2 := Lib.hid (fun (W : World) (hb : Below wb.heap.size wb W) => check_any 3 .nil none 0 0 W (Ty.is_nil _ 3 (by omega) (by omega)) (hS7.below hb))
    have C3 := Lib.hid (fun (W : World) (hb : Below wb.heap.size wb W) => nodes_any 3 F3 (some ⟨N, 0, none⟩) 2 2 W (hI7.below hb))
    have C4 := Lib.hid (fun (W : World) (hb : Below wb.heap.size wb W) => depth_any 3 F3 (some ⟨N, 0, none⟩) 2 2 W (hI7.below hb))
    have C5 := Lib.hid (fun (W : World) (hb : Below wb.heap.size wb W) => known_fn 1 .nil none 0 0 W (Ty.is_nil _ 1 (by omega) (by omega)) (hS7.below hb))
    have C6 := Lib.hid (fun (W : World) (hb : Below wb.heap.size wb W) => known_fn 3 F3 (some ⟨N, 0, none⟩) 2 2 W (hI7.below hb) (hS7.below hb))
    have hnot : ∀ (x : Bool) (w : World), (Op.unary .not (.bool x)).run Tryd.prog w = .ok (.bool (!x)) w := fun _ _ => rfl
    have D0 : Below wb.heap.size wb wb.drew := (Below.refl _ _).drew
    clear hI7 hS7 hg7
    go_region_held3 (fun w' => w'.cell? ⟨X, 0, none⟩ = some (.int .i8 3) ∧ w'.cell? ⟨X, 1, none⟩ = some (.slice (some ⟨N, 0, none⟩) 2 2) ∧ w'.cell? ⟨I, 0, none⟩ = some (.int .i8 1) ∧ w'.cell? ⟨I, 1, none⟩ = some (.slice none 0 0) ∧ w'.cell? ⟨Y, 0, none⟩ = some (.int .i8 3) ∧ w'.cell? ⟨Y, 1, none⟩ = some (.slice G m c))
      (first | exact keep6 x0 x1 i0 i1 y0 y1 D7 | exact keep6 x0 x1 i0 i1 y0 y1 D6 | exact keep6 x0 x1 i0 i1 y0 y1 D5 | exact keep6 x0 x1 i0 i1 y0 y1 D4 | exact keep6 x0 x1 i0 i1 y0 y1 D3 | exact keep6 x0 x1 i0 i1 y0 y1 D2 | exact keep6 x0 x1 i0 i1 y0 y1 D1 | go_keep)
      (first
        | (go_at_call 14; (with_reducible refine (of_raw 3 0 none 0 0 0 none 0 0 _).mono ?_); rintro e u1 ⟨Q, rfl, hQ, hI2, hb2⟩; have D1 : Below wb.heap.size wb u1 := D0.trans hb2)
        | (go_at_call 13; (with_reducible refine (C1.out Q _ D1 (is_qq hI2)).mono ?_); rintro e u2 ⟨rfl, hb⟩; have D2 := D1.trans (hb.mono D1.size); clear hb)
        | (go_at_call 11; (with_reducible refine (C2.out _ D2).mono ?_); rintro e u3 ⟨rfl, hb⟩; have D3 := D2.trans (hb.mono D2.size); clear hb)
        | (go_at_call 16; (with_reducible refine (C3.out _ D3).mono ?_); rintro e u4 ⟨rfl, hb⟩; have D4 := D3.trans (hb.mono D3.size); clear hb)
        | (go_at_call 17; (with_reducible refine (C4.out _ D4).mono ?_); rintro e u5 ⟨rfl, hb⟩; have D5 := D4.trans (hb.mono D4.size); clear hb)
        | (go_at_call 18; (with_reducible refine (C5.out _ D5).mono ?_); rintro e u6 ⟨rfl, hb⟩; have D6 := D5.trans (hb.mono D5.size); clear hb)
        | (go_at_call 18; (with_reducible refine (C6.out _ D6).mono ?_); rintro e u7 ⟨rfl, hb⟩; have D7 := D6.trans (hb.mono D6.size); clear hb))
    go_wp2_with fail
    go_ret
    exact ⟨rfl, by rw [HIE.out]; exact hW7.trans (D7.mono (Nat.le_of_lt hil))⟩
end Go.Proofs.YtkpdddlonmkebaaDoor
