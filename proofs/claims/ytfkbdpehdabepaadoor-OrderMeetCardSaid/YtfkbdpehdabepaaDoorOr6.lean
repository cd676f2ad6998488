/-
  order.meet, order.Meet.
-/
import Derived.Test.YtfkbdpehdabepaaDoorOr5
namespace Go.Proofs.YtfkbdpehdabepaaDoor
open Go.RowKit

theorem three_new (w : World) (o1 o2 o3 : Obj) : (((w.alloc o1).alloc o2).alloc o3).heap[w.heap.size]? = some o1 ∧ (((w.alloc o1).alloc o2).alloc o3).heap[w.heap.size + 1]? = some o2 ∧ (((w.alloc o1).alloc o2).alloc o3).heap[w.heap.size + 1 + 1]? = some o3 ∧ (((w.alloc o1).alloc o2).alloc o3).heap.size = w.heap.size + 3 := by
  obtain ⟨h1, h2, h3⟩ := two_new w o1 o2
  refine ⟨heap_old h1 _, heap_old h2 _, ?_, by simp⟩
  have := heap_new ((w.alloc o1).alloc o2) o3
  rwa [h3] at this
theorem frozen_none {w : World} {b : Nat} {cs : Array Value} {t : TypeId} (h : w.heap[b]? = some (.cells cs t (0, 0))) : ∀ o, w.frozen? ⟨b, o, none⟩ = false := fun o => by simp [World.frozen?, h]
theorem below_three (w : World) (o1 o2 o3 : Obj) : Below w.heap.size w (((w.alloc o1).alloc o2).alloc o3) := (((Below.refl _ _).alloc (Nat.le_refl _) _).alloc (by simp) _).alloc (by simp; omega) _

set_option maxHeartbeats 2000000 in
set_option maxRecDepth 100000 in
theorem omeet_any (k : Int) (kids : Fo) (A : Option Addr) (n c : Nat) (k' : Int) (kids' : Fo) (A' : Option Addr) (n' c' : Nat) (w : World) (hIs : Ty.Is w k kids A n c) (hIs' : Ty.Is w k' kids' A' n' c') (hs : Ty.chk k kids = 0) (hs' : Ty.chk k' kids' = 0) (hSh : Shapes w) (hag : Ty.agT k kids k' kids' = true) :
    Calls Tryd.prog 26 #[.agg #[.int .i8 k, .slice A n c], .agg #[.int .i8 k', .slice A' n' c']] w fun e w' => ∃ G m c2, e = .returned (.agg #[.int .i8 (Ty.mK k k'), .slice G m c2]) ∧ Ty.IsP (fun b => w.heap.size ≤ b) w' (Ty.mK k k') (Ty.mT k kids k' kids') G m c2 ∧ Below w.heap.size w w' := by
  obtain ⟨hA0, hA1, hA2, hsz⟩ := three_new w (.cells #[.int .i8 k, .slice A n c] 25) (.cells #[.int .i8 k', .slice A' n' c'] 25) (.cells #[.int .i8 0, .slice none 0 0] 25)
  have hB1 := below_three w (.cells #[.int .i8 k, .slice A n c] 25) (.cells #[.int .i8 k', .slice A' n' c'] 25) (.cells #[.int .i8 0, .slice none 0 0] 25)
  generalize hw1 : ((w.alloc (.cells #[.int .i8 k, .slice A n c] 25)).alloc (.cells #[.int .i8 k', .slice A' n' c'] 25)).alloc (.cells #[.int .i8 0, .slice none 0 0] 25) = w1 at *
  have HW1 := Lib.hid hw1
  have HSZ := Lib.hid hsz
  have HB1 := Lib.hid hB1
  have HX := Lib.hid hA0
  have HY := Lib.hid hA1
  have HZ := Lib.hid hA2
  have ho := (Ty.chk_ok hs).1
  have ho' := (Ty.chk_ok hs').1
  have HC := Lib.hid (ccopy_any k kids A n c w1 (hIs.below hB1) (hSh.below hB1) hs)
  have HSH := Lib.hid hSh
  have HR := Lib.hid (And.intro hIs.lo hIs.hi)
  have HI' := Lib.hid hIs'.inP
  have HT := Lib.hid (fun (A2 : Option Addr) (c2 p q lo hi n0 : Nat) (W : World) h1 h2 => tmeet_any (Ty.nodes kids + 1) k kids A2 c2 k' kids' A' n' c' p q lo hi n0 W (Nat.lt_succ_self _) h1 h2 ho ho' hs' hag)
  clear hA0 hA1 hA2 hsz hB1 hw1 hIs hIs' ho ho' hs hs' hag hSh
  obtain ⟨x0, x1, _, _, hxl⟩ := own2 HX.out
  go_enter Tryd.func26, Tryd.ntmps26
  go_upto_region 1 with fail
  rw [HW1.out]
  go_wp2_with fail
  refine HC.out.mono ?_
  rintro e u ⟨G, cg, rfl, hc1, hc2, hsep, hb⟩
  have hb5 : Below u.heap.size u (u.alloc (.cells #[.int .i8 k, .slice G (Ty.len kids) cg] 25)) := (Below.refl _ _).alloc (Nat.le_refl _) _
  have hP := heap_new u (.cells #[.int .i8 k, .slice G (Ty.len kids) cg] 25)
  have hu5 : u.heap.size + 1 = (u.alloc (.cells #[.int .i8 k, .slice G (Ty.len kids) cg] 25)).heap.size := by simp
  have HU5 := Lib.hid hu5
  have hbb := hb.trans (hb5.mono hb.size)
  have HB5 := Lib.hid (HB1.out.trans (hbb.mono HB1.out.size))
  have HBB := Lib.hid hbb
  have HY5 := Lib.hid (heap_below hbb (heap_lt HY.out) HY.out)
  have HZ5 := Lib.hid (heap_below hbb (heap_lt HZ.out) HZ.out)
  have hu1 := hb.size
  have HO := Lib.hid (show Own (u.alloc (.cells #[.int .i8 k, .slice G (Ty.len kids) cg] 25)) k kids G cg u.heap.size 0 w1.heap.size u.heap.size w.heap.size from
    ⟨(own2 hP).1, (own2 hP).2.1, frozen_none hP, HR.out, hc1, hc2, hsep.keep fun b _ h2 => hb5.block b h2, hu1, by omega, .inr (Nat.le_refl _), HB1.out.size, by have := HB1.out.size; omega, HSH.out.below HB5.out, HSH.out.1⟩)
  have HU1 := Lib.hid hu1
  clear hb hb5 hP hu5 hbb hc1 hc2 hsep x0 x1 hxl hu1
  go_upto_region 2 with fail
  generalize hw5 : u.alloc (.cells #[.int .i8 k, .slice G (Ty.len kids) cg] 25) = w5 at *
  have HC2 := Lib.hid (HT.out G cg u.heap.size 0 w1.heap.size u.heap.size w.heap.size w5 HO.out (HI'.out.to fun b o v hP hc => ⟨hP, by rw [HB5.out.cell (p := ⟨b, o, none⟩) hP]; exact hc⟩))
  obtain ⟨y0, y1, _, _, hyl⟩ := own2 HY5.out
  clear hw5
  go_wp2_with fail
  refine HC2.out.mono ?_
  rintro e w6 ⟨rfl, ht, G2, c2, z0, z1, hi⟩
  have HZ6 := Lib.hid ((ht.block (w.heap.size + 1 + 1) (heap_lt HZ5.out) (.inl (by have := HSZ.out; omega)) (by have := HSZ.out; have := HU1.out; omega)).trans HZ5.out)
  have HB6 := Lib.hid (HB5.out.trans (ht.below HB1.out.size (by have := HB1.out.size; have := HU1.out; omega) HB5.out.size))
  have HTS := Lib.hid ht.size
  have HI := Lib.hid hi
  obtain ⟨r0, r1, r2, r3, hrl⟩ := own2 HZ6.out
  clear ht hi y0 y1 hyl
  go_wp2_with fail
  refine bodyPost_ret (v := .agg #[.int .i8 (Ty.mK k k'), .slice G2 (Ty.len (Ty.mT k kids k' kids')) c2]) (by simp [results, Tryd.results26, go_sem, *]) rfl ⟨G2, _, c2, rfl, ?_, ?_⟩
  · refine HI.out.to fun b o v hP hc => ⟨by have := HSZ.out; have := HU1.out; have := HU5.out; rcases hP with hP | hP <;> omega, ?_⟩
    have hne : w.heap.size + 1 + 1 ≠ b := by have := HSZ.out; have := HU1.out; have := HU5.out; rcases hP with hP | hP <;> omega
    rw [World.cell?_setCell_other _ _ _ _ (fun e => hne (by injection e)), World.cell?_setCell_other _ _ _ _ (fun e => hne (by injection e))]
    exact hc
  · exact (HB6.out.setCell (p := ⟨w.heap.size + 1 + 1, 0, none⟩) (by simp; omega) _).setCell (p := ⟨w.heap.size + 1 + 1, 1, none⟩) (by simp; omega) _

/-- what a Meet tells -/
def MeetTells (w : World) (k : Int) (kids : Fo) (k' : Int) (kids' : Fo) (e : Ending) (w' : World) : Prop :=
  ∃ G m c, e = .returned (.tuple #[.agg #[.int .i8 (if Ty.agreeT k kids k' kids' then Ty.mK k k' else 0), .slice G m c], .bool (Ty.agreeT k kids k' kids')]) ∧
    Ty.Is w' (if Ty.agreeT k kids k' kids' then Ty.mK k k' else 0) (if Ty.agreeT k kids k' kids' then Ty.mT k kids k' kids' else .nil) G m c ∧ Below w.heap.size w w'

theorem Ty.agree_chk {k : Int} {kids : Fo} {k' : Int} {kids' : Fo} (h : Ty.agreeT k kids k' kids' = true) : Ty.chk k kids = 0 ∧ Ty.chk k' kids' = 0 := by
  unfold Ty.agreeT at h
  simp only [Bool.and_eq_true, beq_iff_eq] at h
  exact h.1
theorem agree_ok {k : Int} {kids : Fo} {k' : Int} {kids' : Fo} (h : Ty.agreeT k kids k' kids' = true) : (Ty.okT k kids = true ∧ Ty.nodes kids ≤ 8192) ∧ (Ty.okT k' kids' = true ∧ Ty.nodes kids' ≤ 8192) ∧ Ty.agT k kids k' kids' = true := by
  unfold Ty.agreeT at h
  simp only [Bool.and_eq_true, beq_iff_eq] at h
  have h1 := Ty.chk_ok h.1.1
  have h2 := Ty.chk_ok h.1.2
  exact ⟨⟨h1.1, by omega⟩, ⟨h2.1, by omega⟩, h.2⟩

set_option maxHeartbeats 2000000 in
set_option maxRecDepth 100000 in
theorem oMeet_any (k : Int) (kids : Fo) (A : Option Addr) (n c : Nat) (k' : Int) (kids' : Fo) (A' : Option Addr) (n' c' : Nat) (w : World) (hIs : Ty.Is w k kids A n c) (hIs' : Ty.Is w k' kids' A' n' c') (hS : Shapes w) :
    Calls Tryd.prog 15 #[.agg #[.int .i8 k, .slice A n c], .agg #[.int .i8 k', .slice A' n' c']] w (MeetTells w k kids k' kids') := by
  obtain ⟨hA0, hA1, hA2, hsz⟩ := three_new w (.cells #[.int .i8 k, .slice A n c] 25) (.cells #[.int .i8 k', .slice A' n' c'] 25) (.cells #[.int .i8 0, .slice none 0 0] 25)
  have hB1 := below_three w (.cells #[.int .i8 k, .slice A n c] 25) (.cells #[.int .i8 k', .slice A' n' c'] 25) (.cells #[.int .i8 0, .slice none 0 0] 25)
  generalize hw1 : ((w.alloc (.cells #[.int .i8 k, .slice A n c] 25)).alloc (.cells #[.int .i8 k', .slice A' n' c'] 25)).alloc (.cells #[.int .i8 0, .slice none 0 0] 25) = w1 at *
  have HW1 := Lib.hid hw1
  have HB1 := Lib.hid hB1
  have HX := Lib.hid hA0
  have HY := Lib.hid hA1
  have HZ := Lib.hid hA2
  have HC := Lib.hid (agree_any k kids A n c k' kids' A' n' c' w1 (hIs.below hB1) (hIs'.below hB1) (hS.below hB1))
  have HSH := Lib.hid hS
  have HQ := Lib.hid (agree_ok (k := k) (kids := kids) (k' := k') (kids' := kids'))
  have HI := Lib.hid hIs
  have HI' := Lib.hid hIs'
  clear hA0 hA1 hA2 hsz hB1 hw1 hIs hIs' hS
  obtain ⟨x0, x1, _, _, hxl⟩ := own2 HX.out
  obtain ⟨y0, y1, _, _, hyl⟩ := own2 HY.out
  cases hR : Ty.agreeT k kids k' kids'
  · rw [hR] at HC
    have hp : ∀ (e : Ending) (w' : World), (∃ G m c, e = .returned (.tuple #[.agg #[.int .i8 0, .slice G m c], .bool false]) ∧ Ty.Is w' 0 .nil G m c ∧ Below w.heap.size w w') → MeetTells w k kids k' kids' e w' := fun e w' h => by unfold MeetTells; rw [hR]; exact h
    refine Calls.mono ?_ hp
    clear hp hR HQ
    go_enter Tryd.func15, Tryd.ntmps15
    go_upto_region 1 with fail
    rw [HW1.out]
    go_wp2_with fail
    refine HC.out.mono ?_
    rintro e w2 ⟨rfl, hb⟩
    have HB2 := Lib.hid (HB1.out.trans (hb.mono HB1.out.size))
    have HZ2 := Lib.hid (heap_below hb (heap_lt HZ.out) HZ.out)
    obtain ⟨r0, r1, r2, r3, hrl⟩ := own2 HZ2.out
    clear hb x0 x1 hxl y0 y1 hyl
    go_wp2_with fail
    refine bodyPost_ret (v := .tuple #[.agg #[.int .i8 0, .slice none 0 0], .bool false]) (by simp [results, Tryd.results15, go_sem, *]) rfl ⟨none, 0, 0, rfl, ⟨trivial, rfl, Nat.le_refl _, Nat.zero_le _, by decide, by decide⟩, ?_⟩
    exact (HB2.out.setCell (p := ⟨w.heap.size + 1 + 1, 0, none⟩) (by simp; omega) _).setCell (p := ⟨w.heap.size + 1 + 1, 1, none⟩) (by simp; omega) _
  · rw [hR] at HC
    obtain ⟨-, -, ha⟩ := HQ.out hR
    obtain ⟨s1, s2⟩ := Ty.agree_chk hR
    have HM := Lib.hid (fun (W : World) (hb : Below w.heap.size w W) => omeet_any k kids A n c k' kids' A' n' c' W (HI.out.below hb) (HI'.out.below hb) s1 s2 (HSH.out.below hb) ha)
    have hp : ∀ (e : Ending) (w' : World), (∃ G m c, e = .returned (.tuple #[.agg #[.int .i8 (Ty.mK k k'), .slice G m c], .bool true]) ∧ Ty.Is w' (Ty.mK k k') (Ty.mT k kids k' kids') G m c ∧ Below w.heap.size w w') → MeetTells w k kids k' kids' e w' := fun e w' h => by unfold MeetTells; rw [hR]; exact h
    refine Calls.mono ?_ hp
    generalize Ty.mK k k' = MK at *
    generalize Ty.mT k kids k' kids' = MT at *
    clear hp hR HQ s1 s2 ha
    go_enter Tryd.func15, Tryd.ntmps15
    go_upto_region 1 with fail
    rw [HW1.out]
    go_wp2_with fail
    refine HC.out.mono ?_
    rintro e w2 ⟨rfl, hb⟩
    have HB2 := Lib.hid (HB1.out.trans (hb.mono HB1.out.size))
    have HX2 := Lib.hid (heap_below hb (heap_lt HX.out) HX.out)
    have HY2 := Lib.hid (heap_below hb (heap_lt HY.out) HY.out)
    have HZ2 := Lib.hid (heap_below hb (heap_lt HZ.out) HZ.out)
    clear hb x0 x1 hxl y0 y1 hyl
    obtain ⟨x0, x1, _, _, hxl⟩ := own2 HX2.out
    obtain ⟨y0, y1, _, _, hyl⟩ := own2 HY2.out
    go_wp2_with fail
    refine (HM.out _ HB2.out).mono ?_
    rintro e w3 ⟨G, m, cg, rfl, hi, hb⟩
    have HB3 := Lib.hid (HB2.out.trans (hb.mono HB2.out.size))
    have HZ3 := Lib.hid (heap_below hb (heap_lt HZ2.out) HZ2.out)
    have HJ := Lib.hid hi
    obtain ⟨r0, r1, r2, r3, hrl⟩ := own2 HZ3.out
    clear hb x0 x1 hxl y0 y1 hyl hi
    go_wp2_with fail
    refine bodyPost_ret (v := .tuple #[.agg #[.int .i8 MK, .slice G m cg], .bool true]) (by simp [results, Tryd.results15, go_sem, *]) rfl ⟨G, m, cg, rfl, ?_, ?_⟩
    · refine (HJ.out.to (P' := fun _ => True) fun b o v hP hc => ⟨trivial, ?_⟩).is
      have hne : w.heap.size + 1 + 1 ≠ b := by have := heap_lt HZ2.out; have hP' : w2.heap.size ≤ b := hP; omega
      rw [World.cell?_setCell_other _ _ _ _ (fun e => hne (by injection e)), World.cell?_setCell_other _ _ _ _ (fun e => hne (by injection e))]
      exact hc
    · exact (HB3.out.setCell (p := ⟨w.heap.size + 1 + 1, 0, none⟩) (by simp; omega) _).setCell (p := ⟨w.heap.size + 1 + 1, 1, none⟩) (by simp; omega) _
end Go.Proofs.YtfkbdpehdabepaaDoor
