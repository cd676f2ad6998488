/-
  The law's wakes. The reference's strength, sign, text, Text.
-/
import Derived.Test.YtdeomggkhbdkaaaGreatDoorM11
import Derived.Deep.RegionHeld3
import Derived.Deep.RegionWith
import Derived.Deep.DeepCutAuto
import Derived.Test.YtdeomggkhbdkaaaGreatDoorLow
namespace Go.Proofs.YtdeomggkhbdkaaaGreatDoor
open Go.RowKit

theorem keepS {g : Nat} {v0 v1 : Value} {W w2 : World} (h : W.cell? ⟨g, 0, none⟩ = some v0 ∧ W.cell? ⟨g, 1, none⟩ = some v1) (hb : Below W.heap.size W w2) : w2.cell? ⟨g, 0, none⟩ = some v0 ∧ w2.cell? ⟨g, 1, none⟩ = some v1 :=
  ⟨by rw [(bcell hb).1 _ _ (Ty.cell_lt h.1)]; exact h.1, by rw [(bcell hb).1 _ _ (Ty.cell_lt h.2)]; exact h.2⟩

theorem keepD {g : Nat} {v0 v1 : Value} {W : World} (h : W.cell? ⟨g, 0, none⟩ = some v0 ∧ W.cell? ⟨g, 1, none⟩ = some v1) : W.drew.cell? ⟨g, 0, none⟩ = some v0 ∧ W.drew.cell? ⟨g, 1, none⟩ = some v1 := h
theorem keepA {g : Nat} {v0 v1 : Value} {W : World} (h : W.cell? ⟨g, 0, none⟩ = some v0 ∧ W.cell? ⟨g, 1, none⟩ = some v1) (o : Obj) : (W.alloc o).cell? ⟨g, 0, none⟩ = some v0 ∧ (W.alloc o).cell? ⟨g, 1, none⟩ = some v1 :=
  keepS h ((Below.refl _ _).alloc (Nat.le_refl _) _)
theorem keepC {g : Nat} {v0 v1 : Value} {W : World} (h : W.cell? ⟨g, 0, none⟩ = some v0 ∧ W.cell? ⟨g, 1, none⟩ = some v1) {p : Addr} (hp : p.block ≠ g) (u : Value) : (W.setCell p u).cell? ⟨g, 0, none⟩ = some v0 ∧ (W.setCell p u).cell? ⟨g, 1, none⟩ = some v1 := by
  refine ⟨?_, ?_⟩
  · rw [World.cell?_setCell_other W p _ u (fun e => hp (by rw [e]))]; exact h.1
  · rw [World.cell?_setCell_other W p _ u (fun e => hp (by rw [e]))]; exact h.2
theorem heap_set {w : World} {g : Nat} {v0 v1 : Value} {t : TypeId} (h : w.heap[g]? = some (.cells #[v0, v1] t (0, 0))) (u v : Value) : ((w.setCell ⟨g, 0, none⟩ u).setCell ⟨g, 1, none⟩ v).heap[g]? = some (.cells #[u, v] t (0, 0)) := by
  simp [World.setCell, Array.getElem?_modify, h]
theorem heap_far {w : World} {g k : Nat} {x : Obj} (h : w.heap[k]? = some x) (hk : k ≠ g) (u v : Value) : ((w.setCell ⟨g, 0, none⟩ u).setCell ⟨g, 1, none⟩ v).heap[k]? = some x := by
  rw [Below.heap_setCell _ _ _ k hk, Below.heap_setCell _ _ _ k hk]; exact h
/-- f's block of memory, found again -/
theorem is_f {w : World} {M N : Nat} (h1 : w.heap[N]? = some (.cells #[.int .i8 1, .slice none 0 0, .int .i8 0, .slice none 0 0] 25 (0, 0))) (h2 : w.heap[M]? = some (.cells #[.int .i8 3, .slice (some ⟨N, 0, none⟩) 2 2, .int .i8 1, .slice none 0 0] 25 (0, 0))) :
    Ty.Is w 3 (Ty.two 3 (Ty.two 1 .nil 0 .nil) 1 .nil) (some ⟨M, 0, none⟩) 2 2 := by
  refine ⟨Ty.lies_two h2 ⟨Ty.lies_two h1 (Ty.is_nil _ 1 (by omega) (by omega)) (Ty.is_nil _ 0 (by omega) (by omega)), rfl, Nat.le_refl _, by unfold maxLen; omega, by omega, by omega⟩ (Ty.is_nil _ 1 (by omega) (by omega)), rfl, Nat.le_refl _, by unfold maxLen; omega, by omega, by omega⟩

theorem is_qq {w : World} {Q : Nat} (h : w.heap[Q]? = some (.cells #[.int .i8 0, .slice none 0 0, .int .i8 0, .slice none 0 0] 25 (0, 0))) : Ty.Is w 3 (Ty.two 0 .nil 0 .nil) (some ⟨Q, 0, none⟩) 2 2 :=
  ⟨Ty.lies_two h (Ty.is_nil _ 0 (by omega) (by omega)) (Ty.is_nil _ 0 (by omega) (by omega)), rfl, Nat.le_refl _, by unfold maxLen; omega, by omega, by omega⟩
theorem keep6 {wb w2 : World} {X I Y : Nat} {v0 v1 v2 v3 v4 v5 : Value} (h0 : wb.cell? ⟨X, 0, none⟩ = some v0) (h1 : wb.cell? ⟨X, 1, none⟩ = some v1) (h2 : wb.cell? ⟨I, 0, none⟩ = some v2) (h3 : wb.cell? ⟨I, 1, none⟩ = some v3) (h4 : wb.cell? ⟨Y, 0, none⟩ = some v4) (h5 : wb.cell? ⟨Y, 1, none⟩ = some v5) (hb : Below wb.heap.size wb w2) :
    w2.cell? ⟨X, 0, none⟩ = some v0 ∧ w2.cell? ⟨X, 1, none⟩ = some v1 ∧ w2.cell? ⟨I, 0, none⟩ = some v2 ∧ w2.cell? ⟨I, 1, none⟩ = some v3 ∧ w2.cell? ⟨Y, 0, none⟩ = some v4 ∧ w2.cell? ⟨Y, 1, none⟩ = some v5 :=
  ⟨by rw [(bcell hb).1 _ _ (Ty.cell_lt h0)]; exact h0, by rw [(bcell hb).1 _ _ (Ty.cell_lt h1)]; exact h1, by rw [(bcell hb).1 _ _ (Ty.cell_lt h2)]; exact h2, by rw [(bcell hb).1 _ _ (Ty.cell_lt h3)]; exact h3, by rw [(bcell hb).1 _ _ (Ty.cell_lt h4)]; exact h4, by rw [(bcell hb).1 _ _ (Ty.cell_lt h5)]; exact h5⟩
abbrev F3 : Fo := Ty.two 3 (Ty.two 1 .nil 0 .nil) 1 .nil
end Go.Proofs.YtdeomggkhbdkaaaGreatDoor
namespace Go.Proofs.YtdeomggkhbdkaaaGreatDoor
open Go.RowKit

theorem strength_any (k : Int) (w : World) :
    Calls Tryz.prog 97 #[.int .i8 k] w fun e w' => e = .returned (.int .i64 (Ty.binds k)) ∧ Below w.heap.size w w' := by
  unfold Ty.binds
  by_cases h3 : k = 3
  · subst h3
    go_enter Tryz.func97, Tryz.ntmps97
    go_wp2_with fail
    go_ret
    exact ⟨rfl, Below.refl _ _⟩
  by_cases h5 : k = 5
  · subst h5
    go_enter Tryz.func97, Tryz.ntmps97
    go_wp2_with fail
    go_ret
    exact ⟨rfl, Below.refl _ _⟩
  by_cases h4 : k = 4
  · subst h4
    go_enter Tryz.func97, Tryz.ntmps97
    go_wp2_with fail
    go_ret
    exact ⟨rfl, Below.refl _ _⟩
  rw [if_neg h3, if_neg h5, if_neg h4]
  have e3 : (k == 3) = false := by simpa using h3
  have e4 : (k == 4) = false := by simpa using h4
  have e5 : (k == 5) = false := by simpa using h5
  clear h3 h4 h5
  go_enter Tryz.func97, Tryz.ntmps97
  go_wp2_with fail
  go_ret
  exact ⟨rfl, Below.refl _ _⟩
theorem sign_5 (w : World) :
    Calls Tryz.prog 98 #[.int .i8 5] w fun e w' => e = .returned (.string ⟨#[43]⟩) ∧ Below w.heap.size w w' := by
  go_enter Tryz.func98, Tryz.ntmps98
  go_wp2_with fail
  go_ret
  exact ⟨rfl, Below.refl _ _⟩
theorem sign_4 (w : World) :
    Calls Tryz.prog 98 #[.int .i8 4] w fun e w' => e = .returned (.string ⟨#[42]⟩) ∧ Below w.heap.size w w' := by
  go_enter Tryz.func98, Tryz.ntmps98
  go_wp2_with fail
  go_ret
  exact ⟨rfl, Below.refl _ _⟩
theorem ba_app (l m : List UInt8) : (⟨l.toArray⟩ : ByteArray) ++ ⟨m.toArray⟩ = ⟨(l ++ m).toArray⟩ := by
  apply ByteArray.ext; simp
def TextW (w : World) (k : Int) (kids : Fo) (A : Option Addr) (c : Nat) (least : Int) : Prop :=
  ∀ W, Below w.heap.size w W → Calls Tryz.prog 81 #[.agg #[.int .i8 k, .slice A (Ty.len kids) c], .int .i64 least] W fun e w' => e = .returned (.string ⟨(Ty.txt k kids least).toArray⟩) ∧ Below W.heap.size W w'

set_option maxHeartbeats 4000000 in
set_option maxRecDepth 100000 in
theorem rtext_any (K : Nat) : ∀ (k : Int) (kids : Fo) (A : Option Addr) (n c : Nat) (least : Int) (w : World), Ty.nodes kids < K → Ty.nodes kids ≤ 8192 → least ≤ 4 → Ty.Is w k kids A n c → Ty.okT k kids = true →
    Calls Tryz.prog 81 #[.agg #[.int .i8 k, .slice A n c], .int .i64 least] w fun e w' => e = .returned (.string ⟨(Ty.txt k kids least).toArray⟩) ∧ Below w.heap.size w w' := by
  induction K with
  | zero => intro _ _ _ _ _ _ _ h; omega
  | succ K ih =>
    intro k kids A n c least w hK hnd hle hIs hok
    have hk := Ty.okT_range hok
    have hB0 := (Below.refl w.heap.size w).alloc (Nat.le_refl _) (.cells #[.int .i8 k, .slice A n c] 25)
    have hR0 := heap_new w (.cells #[.int .i8 k, .slice A n c] 25)
    obtain ⟨b0, b1, _, _, hbl⟩ := own2 hR0
    by_cases hleaf : k = 0 ∨ k = 1 ∨ k = 2
    · have hn := okT_leaf hok hleaf
      have hbr : decide ((4 : Int) < least) = false := by simp; omega
      subst hn
      clear hIs hok hk ih hK hR0
      rcases hleaf with rfl | rfl | rfl
      all_goals
        go_enter Tryz.func81, Tryz.ntmps81
        go_wp2_with fail
        refine (strength_any _ _).mono ?_
        rintro e w2 ⟨rfl, hb⟩
        first | rw [show Ty.binds 0 = 4 from rfl] | rw [show Ty.binds 1 = 4 from rfl] | rw [show Ty.binds 2 = 4 from rfl]
        obtain ⟨c0, c1⟩ := keepS ⟨b0, b1⟩ hb
        have hB1 := hB0.trans (hb.mono hB0.size)
        clear hb b0 b1
        go_wp2_with fail
        go_ret
        exact ⟨rfl, hB1⟩
    · obtain ⟨a, b, k1, kids1, a', b', k2, kids2, rfl, ho1, ho2⟩ := okT_pair hok (by omega)
      have hkp : k = 3 ∨ k = 5 ∨ k = 4 := by omega
      have hn := hIs.n_eq
      obtain ⟨bb, oo, A1, c1, hAA, ⟨h1l, h1u⟩, h1, h2, hl1, hl2, hl3, bb2, oo2, A2, c2, hA, ⟨h2l, h2u⟩, h3, h4, hl4, hl5, hl6, -⟩ := hIs.lies
      have hAe := hA
      rw [hAA] at hAe
      injection hAe with hAe
      injection hAe with ea eb
      subst ea; subst eb; subst hAA
      clear hA
      simp only [Ty.len] at hn
      subst hn
      simp only [Ty.nodes] at hK hnd
      have hkid := fun W (hb : Below w.heap.size w W) => kid_cells hb h1 h2 h3 h4
      have HK := Lib.hid hkid
      have hq1 := fun (ls : Int) (hq : ls ≤ 4) (W : World) (hb : Below w.heap.size w W) => ih k1 kids1 A1 (Ty.len kids1) c1 ls W (by omega) (by omega) hq ⟨hl3.below hb, rfl, hl1, hl2, h1l, h1u⟩ ho1
      have hq2 := fun (ls : Int) (hq : ls ≤ 4) (W : World) (hb : Below w.heap.size w W) => ih k2 kids2 A2 (Ty.len kids2) c2 ls W (by omega) (by omega) hq ⟨hl6.below hb, rfl, hl4, hl5, h2l, h2u⟩ ho2
      have HQ1 := Lib.hid hq1
      have HQ2 := Lib.hid hq2
      clear hIs hok hk ih hK hR0 hkid hq1 hq2 h1 h2 h3 h4 hl1 hl2 hl3 hl4 hl5 hl6 ho1 ho2 h1l h1u h2l h2u
      rcases hkp with rfl | rfl | rfl
      · obtain ⟨T1, hT1⟩ : ∃ T, Ty.txt k1 kids1 2 = T := ⟨_, rfl⟩
        obtain ⟨T2, hT2⟩ : ∃ T, Ty.txt k2 kids2 1 = T := ⟨_, rfl⟩
        have K1 := Lib.hid (fun (W : World) (hb : Below w.heap.size w W) => HQ1.out 2 (by omega) W hb)
        have K2 := Lib.hid (fun (W : World) (hb : Below w.heap.size w W) => HQ2.out 1 (by omega) W hb)
        have t1 : T1.length ≤ 81930 := by rw [← hT1]; have := Ty.txt_len k1 kids1 2; omega
        have t2 : T2.length ≤ 81930 := by rw [← hT2]; have := Ty.txt_len k2 kids2 1; omega
        rw [hT1] at K1
        rw [hT2] at K2
        have hres : (⟨(Ty.txt 3 (.node a b k1 kids1 (.node a' b' k2 kids2 .nil)) least).toArray⟩ : ByteArray) = if (1 : Int) < least then ⟨#[40]⟩ ++ (⟨T1.toArray⟩ ++ ⟨#[32, 45, 62, 32]⟩ ++ ⟨T2.toArray⟩) ++ ⟨#[41]⟩ else ⟨T1.toArray⟩ ++ ⟨#[32, 45, 62, 32]⟩ ++ ⟨T2.toArray⟩ := by
          rw [show Ty.txt 3 (.node a b k1 kids1 (.node a' b' k2 kids2 .nil)) least = Ty.txtOne 3 (Ty.txtIn (.node a b k1 kids1 (.node a' b' k2 kids2 .nil)) 3 true) least from rfl, Ty.txt_two, show Ty.need 3 true = 2 from rfl, show Ty.need 3 false = 1 from rfl, hT1, hT2]
          unfold Ty.txtOne
          rw [if_neg (by omega), show Ty.binds 3 = 1 from rfl]
          split <;> (apply ByteArray.ext; simp [Ty.word])
        rw [hres]
        clear hres hT1 hT2 HQ1 HQ2 hleaf
        by_cases hbr : (1 : Int) < least
        all_goals
          first | rw [if_pos hbr] | rw [if_neg hbr]
          first | (have hbd : decide ((1 : Int) < least) = true := decide_eq_true hbr) | (have hbd : decide ((1 : Int) < least) = false := decide_eq_false hbr)
          clear hbr
          go_enter Tryz.func81, Tryz.ntmps81
          go_wp2_with fail
          refine (strength_any _ _).mono ?_
          rintro e w2 ⟨rfl, hb⟩
          rw [show Ty.binds 3 = 1 from rfl]
          obtain ⟨d0, d1⟩ := keepS ⟨b0, b1⟩ hb
          have hB1 := hB0.trans (hb.mono hB0.size)
          obtain ⟨g0, g1, g2, g3⟩ := HK.out _ hB1
          have C1 := Lib.hid (fun (u : World) (hE : Below w2.heap.size w2 u) => K1.out u (hB1.trans (hE.mono hB1.size)))
          have C2 := Lib.hid (fun (u : World) (hE : Below w2.heap.size w2 u) => K2.out u (hB1.trans (hE.mono hB1.size)))
          clear hb b0 b1
          go_upto_region 12 with fail
          have X0 := later_cell d0
          have X1 := later_cell d1
          have Y0 := later_cell g0
          have Y1 := later_cell g1
          have Y2 := later_cell g2
          have Y3 := later_cell g3
          clear d0 d1 g0 g1 g2 g3
          refine wp_region_low (by kernel_rfl) (by kernel_rfl) ?_
          repeat
            first
              | go_big_quiet_skip
              | (go_big_quiet_want
                 go_big_quiet_op
                 first
                   | go_big_quiet_on
                   | (refine ⟨_, fun _ => rfl, ?_⟩
                      go_big_quiet_on)
                   | (apply Exists.intro
                      refine ⟨fun h => ?_, ?_⟩
                      · first
                          | (go_at_call 81; with_reducible exact call_low h (C1.out h.u h.low))
                          | (go_at_call 81; with_reducible exact call_low h (C2.out h.u h.low))
                      go_big_quiet_on))
          refine wpQuiet_nil ?_
          rintro _ ⟨⟨v1, E⟩, rfl⟩
          have hB2 := hB1.trans (E.mono hB1.size)
          clear E X0 X1 Y0 Y1 Y2 Y3
          go_wp2_with fail
          go_ret
          exact ⟨rfl, hB2⟩
      · obtain ⟨T1, hT1⟩ : ∃ T, Ty.txt k1 kids1 2 = T := ⟨_, rfl⟩
        obtain ⟨T2, hT2⟩ : ∃ T, Ty.txt k2 kids2 3 = T := ⟨_, rfl⟩
        have K1 := Lib.hid (fun (W : World) (hb : Below w.heap.size w W) => HQ1.out 2 (by omega) W hb)
        have K2 := Lib.hid (fun (W : World) (hb : Below w.heap.size w W) => HQ2.out 3 (by omega) W hb)
        have t1 : T1.length ≤ 81930 := by rw [← hT1]; have := Ty.txt_len k1 kids1 2; omega
        have t2 : T2.length ≤ 81930 := by rw [← hT2]; have := Ty.txt_len k2 kids2 3; omega
        rw [hT1] at K1
        rw [hT2] at K2
        have hres : (⟨(Ty.txt 5 (.node a b k1 kids1 (.node a' b' k2 kids2 .nil)) least).toArray⟩ : ByteArray) = if (2 : Int) < least then ⟨#[40]⟩ ++ (⟨T1.toArray⟩ ++ ⟨#[32]⟩ ++ ⟨#[43]⟩ ++ ⟨#[32]⟩ ++ ⟨T2.toArray⟩) ++ ⟨#[41]⟩ else ⟨T1.toArray⟩ ++ ⟨#[32]⟩ ++ ⟨#[43]⟩ ++ ⟨#[32]⟩ ++ ⟨T2.toArray⟩ := by
          rw [show Ty.txt 5 (.node a b k1 kids1 (.node a' b' k2 kids2 .nil)) least = Ty.txtOne 5 (Ty.txtIn (.node a b k1 kids1 (.node a' b' k2 kids2 .nil)) 5 true) least from rfl, Ty.txt_two, show Ty.need 5 true = 2 from rfl, show Ty.need 5 false = 3 from rfl, hT1, hT2]
          unfold Ty.txtOne
          rw [if_neg (by omega), show Ty.binds 5 = 2 from rfl]
          split <;> (apply ByteArray.ext; simp [Ty.word])
        rw [hres]
        clear hres hT1 hT2 HQ1 HQ2 hleaf
        by_cases hbr : (2 : Int) < least
        all_goals
          first | rw [if_pos hbr] | rw [if_neg hbr]
          first | (have hbd : decide ((2 : Int) < least) = true := decide_eq_true hbr) | (have hbd : decide ((2 : Int) < least) = false := decide_eq_false hbr)
          clear hbr
          go_enter Tryz.func81, Tryz.ntmps81
          go_wp2_with fail
          refine (strength_any _ _).mono ?_
          rintro e w2 ⟨rfl, hb⟩
          rw [show Ty.binds 5 = 2 from rfl]
          obtain ⟨d0, d1⟩ := keepS ⟨b0, b1⟩ hb
          have hB1 := hB0.trans (hb.mono hB0.size)
          obtain ⟨g0, g1, g2, g3⟩ := HK.out _ hB1
          have C1 := Lib.hid (fun (u : World) (hE : Below w2.heap.size w2 u) => K1.out u (hB1.trans (hE.mono hB1.size)))
          have C2 := Lib.hid (fun (u : World) (hE : Below w2.heap.size w2 u) => K2.out u (hB1.trans (hE.mono hB1.size)))
          clear hb b0 b1
          go_upto_region 4 with fail
          have X0 := later_cell d0
          have X1 := later_cell d1
          have Y0 := later_cell g0
          have Y1 := later_cell g1
          have Y2 := later_cell g2
          have Y3 := later_cell g3
          clear d0 d1 g0 g1 g2 g3
          refine wp_region_low (by kernel_rfl) (by kernel_rfl) ?_
          repeat
            first
              | go_big_quiet_skip
              | (go_big_quiet_want
                 go_big_quiet_op
                 first
                   | go_big_quiet_on
                   | (refine ⟨_, fun _ => rfl, ?_⟩
                      go_big_quiet_on)
                   | (apply Exists.intro
                      refine ⟨fun h => ?_, ?_⟩
                      · first
                          | (go_at_call 98; with_reducible exact call_low h (sign_5 h.u))
                          | (go_at_call 81; with_reducible exact call_low h (C1.out h.u h.low))
                          | (go_at_call 81; with_reducible exact call_low h (C2.out h.u h.low))
                      go_big_quiet_on))
          refine wpQuiet_nil ?_
          rintro _ ⟨⟨v1, E⟩, rfl⟩
          have hB2 := hB1.trans (E.mono hB1.size)
          clear E X0 X1 Y0 Y1 Y2 Y3
          go_wp2_with fail
          go_ret
          exact ⟨rfl, hB2⟩
      · obtain ⟨T1, hT1⟩ : ∃ T, Ty.txt k1 kids1 3 = T := ⟨_, rfl⟩
        obtain ⟨T2, hT2⟩ : ∃ T, Ty.txt k2 kids2 4 = T := ⟨_, rfl⟩
        have K1 := Lib.hid (fun (W : World) (hb : Below w.heap.size w W) => HQ1.out 3 (by omega) W hb)
        have K2 := Lib.hid (fun (W : World) (hb : Below w.heap.size w W) => HQ2.out 4 (by omega) W hb)
        have t1 : T1.length ≤ 81930 := by rw [← hT1]; have := Ty.txt_len k1 kids1 3; omega
        have t2 : T2.length ≤ 81930 := by rw [← hT2]; have := Ty.txt_len k2 kids2 4; omega
        rw [hT1] at K1
        rw [hT2] at K2
        have hres : (⟨(Ty.txt 4 (.node a b k1 kids1 (.node a' b' k2 kids2 .nil)) least).toArray⟩ : ByteArray) = if (3 : Int) < least then ⟨#[40]⟩ ++ (⟨T1.toArray⟩ ++ ⟨#[32]⟩ ++ ⟨#[42]⟩ ++ ⟨#[32]⟩ ++ ⟨T2.toArray⟩) ++ ⟨#[41]⟩ else ⟨T1.toArray⟩ ++ ⟨#[32]⟩ ++ ⟨#[42]⟩ ++ ⟨#[32]⟩ ++ ⟨T2.toArray⟩ := by
          rw [show Ty.txt 4 (.node a b k1 kids1 (.node a' b' k2 kids2 .nil)) least = Ty.txtOne 4 (Ty.txtIn (.node a b k1 kids1 (.node a' b' k2 kids2 .nil)) 4 true) least from rfl, Ty.txt_two, show Ty.need 4 true = 3 from rfl, show Ty.need 4 false = 4 from rfl, hT1, hT2]
          unfold Ty.txtOne
          rw [if_neg (by omega), show Ty.binds 4 = 3 from rfl]
          split <;> (apply ByteArray.ext; simp [Ty.word])
        rw [hres]
        clear hres hT1 hT2 HQ1 HQ2 hleaf
        by_cases hbr : (3 : Int) < least
        all_goals
          first | rw [if_pos hbr] | rw [if_neg hbr]
          first | (have hbd : decide ((3 : Int) < least) = true := decide_eq_true hbr) | (have hbd : decide ((3 : Int) < least) = false := decide_eq_false hbr)
          clear hbr
          go_enter Tryz.func81, Tryz.ntmps81
          go_wp2_with fail
          refine (strength_any _ _).mono ?_
          rintro e w2 ⟨rfl, hb⟩
          rw [show Ty.binds 4 = 3 from rfl]
          obtain ⟨d0, d1⟩ := keepS ⟨b0, b1⟩ hb
          have hB1 := hB0.trans (hb.mono hB0.size)
          obtain ⟨g0, g1, g2, g3⟩ := HK.out _ hB1
          have C1 := Lib.hid (fun (u : World) (hE : Below w2.heap.size w2 u) => K1.out u (hB1.trans (hE.mono hB1.size)))
          have C2 := Lib.hid (fun (u : World) (hE : Below w2.heap.size w2 u) => K2.out u (hB1.trans (hE.mono hB1.size)))
          clear hb b0 b1
          go_upto_region 4 with fail
          have X0 := later_cell d0
          have X1 := later_cell d1
          have Y0 := later_cell g0
          have Y1 := later_cell g1
          have Y2 := later_cell g2
          have Y3 := later_cell g3
          clear d0 d1 g0 g1 g2 g3
          refine wp_region_low (by kernel_rfl) (by kernel_rfl) ?_
          repeat
            first
              | go_big_quiet_skip
              | (go_big_quiet_want
                 go_big_quiet_op
                 first
                   | go_big_quiet_on
                   | (refine ⟨_, fun _ => rfl, ?_⟩
                      go_big_quiet_on)
                   | (apply Exists.intro
                      refine ⟨fun h => ?_, ?_⟩
                      · first
                          | (go_at_call 98; with_reducible exact call_low h (sign_4 h.u))
                          | (go_at_call 81; with_reducible exact call_low h (C1.out h.u h.low))
                          | (go_at_call 81; with_reducible exact call_low h (C2.out h.u h.low))
                      go_big_quiet_on))
          refine wpQuiet_nil ?_
          rintro _ ⟨⟨v1, E⟩, rfl⟩
          have hB2 := hB1.trans (E.mono hB1.size)
          clear E X0 X1 Y0 Y1 Y2 Y3
          go_wp2_with fail
          go_ret
          exact ⟨rfl, hB2⟩

theorem Ty.txt_zero (k : Int) (kids : Fo) : Ty.txt k kids 0 = Ty.txt k kids 1 := by
  unfold Ty.txt Ty.txtOne
  have : 1 ≤ Ty.binds k := by unfold Ty.binds; split <;> (try split) <;> (try split) <;> omega
  rw [if_neg (show ¬ Ty.binds k < 0 by omega), if_neg (show ¬ Ty.binds k < 1 by omega)]

set_option maxHeartbeats 1000000 in
set_option maxRecDepth 100000 in
theorem ref_text (k : Int) (kids : Fo) (A : Option Addr) (n c : Nat) (w : World) (hIs : Ty.Is w k kids A n c) :
    Calls Tryz.prog 72 #[.agg #[.int .i8 k, .slice A n c]] w fun e w' => e = .returned (.tuple #[.string (Ty.textT k kids), .int .i64 (Ty.chk k kids)]) ∧ Below w.heap.size w w' := by
  have hB0 := (Below.refl w.heap.size w).alloc (Nat.le_refl _) (.cells #[.int .i8 k, .slice A n c] 25)
  have HM := Lib.hid (fun (W : World) (hb : Below w.heap.size w W) => ref_check k kids A n c W (hIs.below hb))
  have R0 := Lib.hid (heap_new w (.cells #[.int .i8 k, .slice A n c] 25))
  by_cases h0 : Ty.chk k kids = 0
  · have hok := Ty.chk_ok h0
    have HW := Lib.hid (fun (W : World) (hb : Below w.heap.size w W) => rtext_any (Ty.nodes kids + 1) k kids A n c 0 W (by omega) (by omega) (by omega) (hIs.below hb) hok.1)
    have e1 : Ty.textT k kids = ⟨(Ty.txt k kids 0).toArray⟩ := by unfold Ty.textT; rw [if_pos h0, Ty.txt_zero]
    rw [h0] at HM
    rw [h0, e1]
    generalize Ty.txt k kids 0 = T at *
    clear hIs hok e1 h0
    go_enter Tryz.func72, Tryz.ntmps72
    go_wp2_with fail
    refine (HM.out _ hB0).mono ?_
    rintro e w3 ⟨rfl, hb⟩
    have hB1 := hB0.trans (hb.mono hB0.size)
    obtain ⟨b0, b1, _, _, hlt⟩ := own2 (heap_below hb (heap_lt R0.out) R0.out)
    clear hb
    go_wp2_with fail
    refine (HW.out _ hB1).mono ?_
    rintro e w4 ⟨rfl, hb⟩
    have hB2 := hB1.trans (hb.mono hB1.size)
    clear hb
    go_wp2_with fail
    go_ret2
    exact ⟨rfl, hB2⟩
  · have e1 : Ty.textT k kids = ⟨#[]⟩ := by unfold Ty.textT; rw [if_neg h0]
    have hc : (((Ty.chk k kids : Nat) : Int) != 0) = true := by simp; omega
    rw [e1]
    generalize Ty.chk k kids = C at *
    clear hIs e1 h0
    go_enter Tryz.func72, Tryz.ntmps72
    go_wp2_with fail
    refine (HM.out _ hB0).mono ?_
    rintro e w3 ⟨rfl, hb⟩
    go_wp2_with fail
    go_ret2
    exact ⟨rfl, hB0.trans (hb.mono hB0.size)⟩
end Go.Proofs.YtdeomggkhbdkaaaGreatDoor
