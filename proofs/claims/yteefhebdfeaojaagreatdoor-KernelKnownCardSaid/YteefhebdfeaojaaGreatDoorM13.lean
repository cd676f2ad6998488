/-
  copies.copied, copies.Type: a type in memory of its own, each part apart. agree.As, the document's As.
-/
import Derived.Test.YteefhebdfeaojaaGreatDoorM12
namespace Go.Proofs.YteefhebdfeaojaaGreatDoor
open Go.RowKit

set_option maxHeartbeats 4000000 in
set_option maxRecDepth 100000 in
theorem ccopied_any (K : Nat) : ∀ (k : Int) (kids : Fo) (A : Option Addr) (n c : Nat) (w : World), Ty.nodes kids < K → Ty.Is w k kids A n c → Ty.nodes kids ≤ 8192 →
    Calls Tryz.prog 41 #[.agg #[.int .i8 k, .slice A n c]] w (CopyS w k kids) := by
  induction K with
  | zero => intro _ _ _ _ _ _ hK; omega
  | succ K ih =>
    intro k kids A n c w hK hIs hsm
    have hln := Ty.len_le_nodes kids
    have hneq := hIs.n_eq
    have hlo := hIs.lo
    have hhi := hIs.hi
    have i5 : (n : Int) ≤ 8192 := by omega
    obtain ⟨i0, hi, hz0, hz1, hz2⟩ := info_parts info_Ty
    have hb2 : Below w.heap.size w (((w.alloc (.cells #[.int .i8 k, .slice A n c] 25)).alloc (.cells #[.int .i8 0, .slice none 0 0] 25)).alloc (.cells #[.int .i8 k, .slice none 0 0] 25)) := (((Below.refl _ _).alloc (Nat.le_refl _) _).alloc (by simp) _).alloc (by simp; omega) _
    have hbx : (((w.alloc (.cells #[.int .i8 k, .slice A n c] 25)).alloc (.cells #[.int .i8 0, .slice none 0 0] 25)).alloc (.cells #[.int .i8 k, .slice none 0 0] 25)).heap[w.heap.size + 1 + 1]? = some (.cells #[.int .i8 k, .slice none 0 0] 25) := by
      have := heap_new ((w.alloc (.cells #[.int .i8 k, .slice A n c] 25)).alloc (.cells #[.int .i8 0, .slice none 0 0] 25)) (.cells #[.int .i8 k, .slice none 0 0] 25)
      simpa using this
    have hsz2 : (((w.alloc (.cells #[.int .i8 k, .slice A n c] 25)).alloc (.cells #[.int .i8 0, .slice none 0 0] 25)).alloc (.cells #[.int .i8 k, .slice none 0 0] 25)).heap.size = w.heap.size + 3 := by simp
    have hst : SRel w (((w.alloc (.cells #[.int .i8 k, .slice A n c] 25)).alloc (.cells #[.int .i8 0, .slice none 0 0] 25)).alloc (.cells #[.int .i8 k, .slice none 0 0] 25)) (w.heap.size + 3) (w.heap.size + 1 + 1) A k kids (.slice none 0 0) n 0 .nil kids [] :=
      ⟨rfl, rfl, by omega, hIs.lies, hb2, by omega, ⟨rfl, .inl ⟨rfl, rfl⟩⟩, ⟨rfl, by omega⟩, hbx, by omega, by omega, Nat.le_refl _⟩
    have HS := Lib.hid hst
    have IH := Lib.hid ih
    have HR1 := Lib.hid (show (((w.alloc (.cells #[.int .i8 k, .slice A n c] 25)).alloc (.cells #[.int .i8 0, .slice none 0 0] 25)).alloc (.cells #[.int .i8 k, .slice none 0 0] 25)).heap[w.heap.size + 1]? = _ from heap_old (two_new w _ _).2.1 _)
    have HNE := Lib.hid hneq
    clear hst ih hIs hb2 hbx hsz2 hneq
    go_enter Tryz.func41, Tryz.ntmps41
    go_wp2_with fail
    go_loopw [12] (fun v12 wr => ∃ (i : Nat) (done rest : Fo) (xs : List Value) (v : Value), v12 = .int .i64 i ∧ SRel w wr (w.heap.size + 3) (w.heap.size + 1 + 1) A k kids v n i done rest xs ∧ wr.heap[w.heap.size + 1]? = some (.cells #[.int .i8 0, .slice none 0 0] 25)) (fun v _ => n - (intOf v).toNat)
    case atStart => exact ⟨0, .nil, kids, [], _, rfl, HS.out, HR1.out⟩
    case round =>
      obtain ⟨i, done, rest, xs, v, rfl, hR, hres⟩ := hrel
      cases rest with
      | nil =>
        have hi2 : i = n := by have := hR.i_eq; simpa [Ty.len] using this
        subst hi2
        obtain ⟨G, cg, rfl, hq1, hq2, hL⟩ := hR.done HNE.out
        have HQ := Lib.hid (And.intro hq1 hq2)
        have HSZ := Lib.hid hR.size
        have HB := Lib.hid hR.below
        have HL := Lib.hid hL
        obtain ⟨b0, b1, _, _, hb0⟩ := own2 hR.box
        obtain ⟨d0, d1, f0, f1, hd0⟩ := own2 hres
        clear hR hL hres hq1 hq2
        go_wp2_with fail
        refine bodyPost_ret (v := .agg #[.int .i8 k, .slice G i cg]) (by simp [results, Tryz.results41, go_sem, *]) rfl ⟨G, cg, by rw [HNE.out], by rw [← HNE.out]; exact HQ.out.1, HQ.out.2, ?_, ?_⟩
        · have hsz : ∀ (W : World) (p1 p2 : Addr) (v1 v2 : Value), ((W.setCell p1 v1).setCell p2 v2).heap.size = W.heap.size := fun W p1 p2 v1 v2 => by simp [World.setCell]
          rw [hsz]
          refine (HL.out.keep fun b hP hx => ?_).mono (by omega) (Nat.le_refl _)
          rw [Below.heap_setCell _ _ _ _ (by show b ≠ w.heap.size + 1; omega), Below.heap_setCell _ _ _ _ (by show b ≠ w.heap.size + 1; omega)]
        · exact (HB.out.setCell (p := ⟨w.heap.size + 1, 0, none⟩) (by simp) _).setCell (p := ⟨w.heap.size + 1, 1, none⟩) (by simp) _
      | node a b kk kd r =>
        have h1 := hR.i_eq
        have h2 := hR.lies
        have h3 := hR.sub
        have h4 := hR.below
        have HR := Lib.hid hR
        have HRES := Lib.hid hres
        simp only [Ty.len, Ty.nodes] at h1 h3
        obtain ⟨bb, oo, B, cB, rfl, ⟨hk1, hk2⟩, c1, c2, hl1, hl2, hl3, hl4⟩ := h2
        have c1' : wr.cell? ⟨bb, oo + i * 2, none⟩ = some (.int .i8 kk) := by rw [h4.cell (p := ⟨bb, _, none⟩) (Ty.cell_lt c1)]; exact c1
        have c2' : wr.cell? ⟨bb, oo + i * 2 + 1, none⟩ = some (.slice B (Ty.len kd) cB) := by rw [h4.cell (p := ⟨bb, _, none⟩) (Ty.cell_lt c2)]; exact c2
        have HC := Lib.hid (fun (W : World) (hb : Below wr.heap.size wr W) => IH.out kk kd B (Ty.len kd) cB W (by omega) ((show Ty.Is w kk kd B (Ty.len kd) cB from ⟨hl3, rfl, hl1, hl2, hk1, hk2⟩).below (h4.trans (hb.mono h4.size))) (by omega))
        have HL4 := Lib.hid hl4
        have HKK := Lib.hid (And.intro hk1 hk2)
        have j1 : (i : Int) < n := by omega
        obtain ⟨b0, b1, f0, f1, hb0⟩ := own2 hR.box
        clear hR hres hl1 hl2 hl3 hl4 c1 c2 h4
        go_wp2_with fail
        have hb9 : Below wr.heap.size wr (wr.alloc (.cells #[.int .i8 kk, .slice B (Ty.len kd) cB] 25)) := (Below.refl _ _).alloc (Nat.le_refl _) _
        have HBX := Lib.hid (heap_below hb9 hb0 HR.out.box)
        have HKX := Lib.hid (heap_new wr (.cells #[.int .i8 kk, .slice B (Ty.len kd) cB] 25))
        have HO9 := Lib.hid (ownsRow_below HR.out.own hb9)
        clear b0 b1 f0 f1 c1' c2'
        generalize hwk : wr.alloc (.cells #[.int .i8 kk, .slice B (Ty.len kd) cB] 25) = wk at *
        have hws : wk.heap.size = wr.heap.size + 1 := by rw [← hwk]; simp
        have HWS := Lib.hid hws
        have E1 : Below wr.heap.size wr wk.drew := hb9.drew
        obtain ⟨b0, b1, f0, f1, hb0⟩ := own2 HBX.out
        obtain ⟨k0, k1, _, _, hk0⟩ := own2 HKX.out
        clear hb9 hwk hws
        go_region_law (first
          | (go_simp; go_at_call 41; (with_reducible refine (HC.out _ E1).mono ?_); rintro e u ⟨G, cg, rfl, hq1, hq2, hnew, hb⟩; have HNW := Lib.hid hnew; have HQ := Lib.hid (And.intro hq1 hq2); have HBU := Lib.hid hb; have HBO := Lib.hid (heap_below hb (show w.heap.size + 1 + 1 < wk.drew.heap.size from hb0) (show wk.drew.heap[w.heap.size + 1 + 1]? = _ from HBX.out)); have HOU := Lib.hid (ownsRow_below (show wk.drew.ownsRow _ _ _ _ _ _ from HO9.out) hb); obtain ⟨o0, o1, g0, g1, hol⟩ := own2 HBO.out; clear hnew hb hq1 hq2; go_wp2_with fail)
          | (refine step_append_own_at _ (by rfl) (.tmp 17) (.tmp 20) 23 (by rfl) (w.heap.size + 3) 25 i0 (.agg #[.int .i8 0, .slice none 0 0]) 2 32 Tryz.underlying23 hi hz0 hz1 hz2 (by rfl) (by decide) v i xs (by rfl) (HOU.out.alloc _) ⟨u.heap.size, 0, none⟩ 1 1 [.int .i8 kk, .slice G (Ty.len kd) cg] (by rfl) (by rfl) (cells_of_heap (heap_new u _)) (by intro x hx; simp at hx; rcases hx with rfl | rfl <;> rfl) (by unfold maxLen; omega) (by omega) (by have h1 := HBO.out; have h2 := heap_lt h1; simp; omega) ?_; intro v' w3 hown3 hg3 hat3; obtain ⟨Av, nv, cv, rfl⟩ := own_slice hown3; obtain ⟨q0, q1, r0, r1, ql⟩ := own2 ((hg3.block (w.heap.size + 1 + 1) (by simp; omega) (fun e => by have := (HOU.out.lt _ e.symm).1; omega)).trans (heap_old HBO.out (.cells #[.int .i8 kk, .slice G (Ty.len kd) cg] 25))); have HOW3 := Lib.hid hown3; have HG3 := Lib.hid hg3; have HAT3 := Lib.hid hat3; clear hown3 hg3 hat3))
        all_goals
          go_wp2_with fail
          go_roundw
          case rel =>
            refine ⟨i + 1, _, r, _, .slice Av nv cv, by go_num, HR.out.step E1 HBU.out HKK.out HQ.out.1 HQ.out.2 HNW.out HOW3.out HG3.out (by simpa using HAT3.out) HL4.out, ?_⟩
            have hl := heap_lt HRES.out
            have e1 := heap_below HBU.out (Nat.lt_of_lt_of_le hl E1.size) (heap_below E1 hl HRES.out)
            rw [Below.heap_setCell _ _ _ _ (by show w.heap.size + 1 ≠ w.heap.size + 1 + 1; omega), HG3.out.block _ (by have := heap_lt e1; simp; omega) (fun e => by have := (HOU.out.lt _ e.symm).1; omega)]
            exact heap_old e1 _
          case measure => simp [intOf]; omega

set_option maxHeartbeats 1000000 in
set_option maxRecDepth 100000 in
theorem ccopy_any (k : Int) (kids : Fo) (A : Option Addr) (n c : Nat) (w : World) (hIs : Ty.Is w k kids A n c) (hS : Shapes w) (h0 : Ty.chk k kids = 0) :
    Calls Tryz.prog 22 #[.agg #[.int .i8 k, .slice A n c]] w (CopyS w k kids) := by
  obtain ⟨r0, r1, r2⟩ := two_new w (.cells #[.int .i8 k, .slice A n c] 25) (.cells #[.int .i8 0, .slice none 0 0] 25)
  have hB0 := ((Below.refl w.heap.size w).alloc (Nat.le_refl _) (.cells #[.int .i8 k, .slice A n c] 25)).alloc (by simp) (.cells #[.int .i8 0, .slice none 0 0] 25)
  have HM := Lib.hid (fun (W : World) (hb : Below w.heap.size w W) => check_any k kids A n c W (hIs.below hb) (hS.below hb))
  have HK := Lib.hid (fun (W : World) (hb : Below w.heap.size w W) => ccopied_any (Ty.nodes kids + 1) k kids A n c W (by omega) (hIs.below hb) (by have := (Ty.chk_ok h0).2.1; omega))
  rw [h0] at HM
  have R0 := Lib.hid r0
  have R1 := Lib.hid r1
  clear hIs hS h0 r0 r1 r2
  go_enter Tryz.func22, Tryz.ntmps22
  go_wp2_with fail
  refine (HM.out _ hB0).mono ?_
  rintro e w3 ⟨rfl, hb⟩
  have hB1 := hB0.trans (hb.mono hB0.size)
  have hx0 := heap_below hb (heap_lt R0.out) R0.out
  have X1 := Lib.hid (heap_below hb (heap_lt R1.out) R1.out)
  obtain ⟨b0, b1, _, _, _⟩ := own2 hx0
  clear hb hx0
  go_wp2_with fail
  refine (HK.out _ hB1).mono ?_
  rintro e w4 ⟨G, cg, rfl, h1, h2, h3, hb⟩
  have hlt1 : w.heap.size + 1 < w3.heap.size := heap_lt X1.out
  obtain ⟨d0, d1, f0, f1, hd0⟩ := own2 (heap_below hb (heap_lt X1.out) X1.out)
  have HB4 := Lib.hid (hB1.trans (hb.mono hB1.size))
  have HQ := Lib.hid (And.intro h1 (And.intro h2 h3))
  clear hb h1 h2 h3
  go_wp2_with fail
  refine bodyPost_ret (v := .agg #[.int .i8 k, .slice G (Ty.len kids) cg]) (by simp [results, Tryz.results22, go_sem, *]) rfl ⟨G, cg, rfl, HQ.out.1, HQ.out.2.1, ?_, ?_⟩
  · have hsz : ∀ (W : World) (p1 p2 : Addr) (v1 v2 : Value), ((W.setCell p1 v1).setCell p2 v2).heap.size = W.heap.size := fun W p1 p2 v1 v2 => by simp [World.setCell]
    rw [hsz]
    refine (HQ.out.2.2.keep fun b hP hx => ?_).mono (by omega) (Nat.le_refl _)
    rw [Below.heap_setCell _ _ _ _ (by show b ≠ w.heap.size + 1; omega), Below.heap_setCell _ _ _ _ (by show b ≠ w.heap.size + 1; omega)]
  · exact (HB4.out.setCell (p := ⟨w.heap.size + 1, 0, none⟩) (by simp) _).setCell (p := ⟨w.heap.size + 1, 1, none⟩) (by simp) _
theorem CopyS.toL {w w' : World} {k : Int} {kids : Fo} {e : Ending} (hk : -128 ≤ k ∧ k ≤ 127) (h : CopyS w k kids e w') : CopyL w k kids e w' := by
  obtain ⟨G, c, rfl, h1, h2, h3, hb⟩ := h
  exact ⟨G, _, c, rfl, (h3.lone hk h1 h2).to fun b o v hP hv => ⟨hP.1, hv⟩, hb⟩
theorem ccopyL_any (k : Int) (kids : Fo) (A : Option Addr) (n c : Nat) (w : World) (hIs : Ty.Is w k kids A n c) (hS : Shapes w) (h0 : Ty.chk k kids = 0) :
    Calls Tryz.prog 22 #[.agg #[.int .i8 k, .slice A n c]] w (CopyL w k kids) :=
  (ccopy_any k kids A n c w hIs hS h0).mono fun _ _ h => h.toL ⟨hIs.lo, hIs.hi⟩
end Go.Proofs.YteefhebdfeaojaaGreatDoor
namespace Go.Proofs.YteefhebdfeaojaaGreatDoor
open Go.RowKit

namespace Ty
def asOk (kd k : Int) (kids : Fo) : Bool := (chk k kids == 0) && decide (3 ≤ kd ∧ kd ≤ 5) && ((k == kd) || (k == 0))
def kid1 : Fo → Int × Fo
  | .node _ _ k f _ => (k, f)
  | .nil => (0, .nil)
def kid2 : Fo → Int × Fo
  | .node _ _ _ _ (.node _ _ k f _) => (k, f)
  | _ => (0, .nil)
def asL (kd k : Int) (kids : Fo) : Int × Fo := if asOk kd k kids then kid1 kids else (0, .nil)
def asR (kd k : Int) (kids : Fo) : Int × Fo := if asOk kd k kids then kid2 kids else (0, .nil)
theorem zero_is (w : World) : Is w 0 .nil none 0 0 := ⟨trivial, rfl, Nat.le_refl _, Nat.zero_le _, by omega, by omega⟩
end Ty
/-- what As leaves -/
def AsPost (w : World) (ok : Bool) (l r : Int × Fo) (e : Ending) (w' : World) : Prop :=
  ∃ G1 m1 c1 G2 m2 c2, e = .returned (.tuple #[.agg #[.int .i8 l.1, .slice G1 m1 c1], .agg #[.int .i8 r.1, .slice G2 m2 c2], .bool ok]) ∧ Ty.Is w' l.1 l.2 G1 m1 c1 ∧ Ty.Is w' r.1 r.2 G2 m2 c2 ∧ Below w.heap.size w w'
end Go.Proofs.YteefhebdfeaojaaGreatDoor
