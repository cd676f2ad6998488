/-
  Types that are less and more precise, and where two meet: what the words say of forests. order.together held against order.less's own closure: at most as precise; order.less, order.Less. order.less, order.Less; the document's less, Less.
-/
import Derived.Test.YtocopanencbmeaaGreatDoorRefT
import Derived.Deep.DeepCutAuto
namespace Go.Proofs.YtocopanencbmeaaGreatDoor
namespace Ty
/-- lists of types, each of the first at most as precise as the second's in its place -/
def leF : Fo → Fo → Bool
  | .nil, _ => true
  | .node _ _ _ _ _, .nil => true
  | .node _ _ k kids r, .node _ _ k' kids' r' => ((k == 0) || ((k == k') && leF kids kids')) && leF r r'
def leT (k : Int) (kids : Fo) (k' : Int) (kids' : Fo) : Bool := (k == 0) || ((k == k') && leF kids kids')
def lessT (k : Int) (kids : Fo) (k' : Int) (kids' : Fo) : Bool := (chk k kids == 0) && (chk k' kids' == 0) && leT k kids k' kids'
theorem leT_zero (kids : Fo) (k' : Int) (kids' : Fo) : leT 0 kids k' kids' = true := rfl
theorem leT_ne {k k' : Int} (kids kids' : Fo) (h1 : k ≠ 0) (h : k ≠ k') : leT k kids k' kids' = false := by unfold leT; simp [h1, h]
theorem leT_eq {k : Int} (kids kids' : Fo) (h1 : k ≠ 0) : leT k kids k kids' = leF kids kids' := by unfold leT; simp [h1]
theorem leF_refl : ∀ f : Fo, leF f f = true
  | .nil => rfl
  | .node _ _ k kids r => by simp [leF, leF_refl kids, leF_refl r]
theorem less_self (k : Int) (kids : Fo) : lessT k kids k kids = (chk k kids == 0) := by
  unfold lessT leT
  rw [leF_refl]
  simp
theorem less_zero (k : Int) (kids : Fo) : lessT 0 .nil k kids = (chk k kids == 0) := by
  unfold lessT leT
  simp [show chk 0 .nil = 0 from rfl]
theorem kids_zero {kids : Fo} (h : okK 0 (len kids) = true) : kids = .nil := by
  cases kids with
  | nil => rfl
  | node _ _ _ _ _ => simp [okK, len] at h
/-- both ways: the same -/
theorem leF_both : ∀ f g : Fo, okF f = true → okF g = true → len f = len g → leF f g = true → leF g f = eqF f g
  | .nil, .nil, _, _, _, _ => rfl
  | .nil, .node _ _ _ _ _, _, _, h, _ => by simp only [len] at h; omega
  | .node _ _ _ _ _, .nil, _, _, h, _ => by simp only [len] at h; omega
  | .node _ _ k kids r, .node _ _ k' kids' r', h1, h2, h3, h4 => by
    simp only [okF, Bool.and_eq_true, len] at h1 h2 h3
    simp only [leF, Bool.and_eq_true] at h4
    simp only [leF, eqF]
    rw [leF_both r r' h1.2 h2.2 (by omega) h4.2]
    by_cases e : k = k'
    · subst e
      by_cases hz : k = 0
      · subst hz
        obtain rfl := kids_zero h1.1.1
        obtain rfl := kids_zero h2.1.1
        rfl
      · have h5 : leF kids kids' = true := by simpa [hz] using h4.1
        rw [leF_both kids kids' h1.1.2 h2.1.2 (okK_same h1.1.1 h2.1.1) h5]
        rw [show (k == 0) = false by simpa using hz]
        simp
    · have hz : k = 0 := by simpa [e] using h4.1
      subst hz
      rw [show (k' == 0) = false by simpa using fun h => e h.symm, show ((0 : Int) == k') = false by simpa using e]
      rfl
theorem leF_trans : ∀ f g h : Fo, okF f = true → okF g = true → okF h = true → len f = len g → len g = len h → leF f g = true → leF g h = true → leF f h = true
  | .nil, _, _, _, _, _, _, _, _, _ => rfl
  | .node _ _ _ _ _, .nil, _, _, _, _, h, _, _, _ => by simp only [len] at h; omega
  | .node _ _ _ _ _, .node _ _ _ _ _, .nil, _, _, _, _, h, _, _ => by simp only [len] at h; omega
  | .node _ _ k kids r, .node _ _ k' kids' r', .node _ _ k'' kids'' r'', h1, h2, h3, h4, h5, h6, h7 => by
    simp only [okF, Bool.and_eq_true, len] at h1 h2 h3 h4 h5
    simp only [leF, Bool.and_eq_true, Bool.or_eq_true, beq_iff_eq] at h6 h7 ⊢
    refine ⟨?_, leF_trans r r' r'' h1.2 h2.2 h3.2 (by omega) (by omega) h6.2 h7.2⟩
    rcases h6.1 with hz | ⟨rfl, hk⟩
    · exact .inl hz
    · rcases h7.1 with hz | ⟨rfl, hk'⟩
      · exact .inl hz
      · exact .inr ⟨rfl, leF_trans kids kids' kids'' h1.1.2 h2.1.2 h3.1.2 (okK_same h1.1.1 h2.1.1) (okK_same h2.1.1 h3.1.1) hk hk'⟩
theorem lessT_iff {k : Int} {kids : Fo} {k' : Int} {kids' : Fo} : lessT k kids k' kids' = true ↔ chk k kids = 0 ∧ chk k' kids' = 0 ∧ leT k kids k' kids' = true := by
  unfold lessT
  simp [Bool.and_eq_true, and_assoc]
theorem ok_parts {k : Int} {kids : Fo} (h : chk k kids = 0) : okK k (len kids) = true ∧ okF kids = true := by
  have := (chk_ok h).1
  unfold okT at this
  rw [Bool.and_eq_true] at this
  exact this
theorem less_both {k : Int} {kids : Fo} {k' : Int} {kids' : Fo} (h : lessT k kids k' kids' = true) : lessT k' kids' k kids = sameT k kids k' kids' := by
  obtain ⟨h1, h2, h3⟩ := lessT_iff.1 h
  have o1 := ok_parts h1
  have o2 := ok_parts h2
  unfold lessT sameT eqT
  rw [h1, h2]
  simp only [beq_self_eq_true, Bool.true_and]
  have q := leF_both (.node 0 0 k kids .nil) (.node 0 0 k' kids' .nil) (by simp [okF, o1.1, o1.2]) (by simp [okF, o2.1, o2.2]) rfl (by unfold leT at h3; simpa [leF] using h3)
  simp only [leF, eqF, Bool.and_true] at q
  unfold leT
  exact q
theorem less_trans {k : Int} {kids : Fo} {k' : Int} {kids' : Fo} {k'' : Int} {kids'' : Fo} (h : lessT k kids k' kids' = true) (h' : lessT k' kids' k'' kids'' = true) : lessT k kids k'' kids'' = true := by
  obtain ⟨h1, h2, h3⟩ := lessT_iff.1 h
  obtain ⟨h4, h5, h6⟩ := lessT_iff.1 h'
  have o1 := ok_parts h1
  have o2 := ok_parts h2
  have o3 := ok_parts h5
  refine lessT_iff.2 ⟨h1, h5, ?_⟩
  have q := leF_trans (.node 0 0 k kids .nil) (.node 0 0 k' kids' .nil) (.node 0 0 k'' kids'' .nil) (by simp [okF, o1.1, o1.2]) (by simp [okF, o2.1, o2.2]) (by simp [okF, o3.1, o3.2]) rfl rfl (by unfold leT at h3; simpa [leF] using h3) (by unfold leT at h6; simpa [leF] using h6)
  simp only [leF, Bool.and_true] at q
  unfold leT
  exact q
/-- where two meet -/
def mF : Fo → Fo → Fo
  | .nil, _ => .nil
  | .node a b k kids r, .nil => .node a b k kids r
  | .node a b k kids r, .node _ _ k' kids' r' => .node a b (if k = 0 then k' else k) (if k = 0 then kids' else if k' = 0 then kids else mF kids kids') (mF r r')
def mK (k k' : Int) : Int := if k = 0 then k' else k
def mT (k : Int) (kids : Fo) (k' : Int) (kids' : Fo) : Fo := if k = 0 then kids' else if k' = 0 then kids else mF kids kids'
theorem mT_zero (kids : Fo) (k' : Int) (kids' : Fo) : mT 0 kids k' kids' = kids' := rfl
theorem mT_zero' {k : Int} (kids kids' : Fo) (h : k ≠ 0) : mT k kids 0 kids' = kids := by unfold mT; simp [h]
theorem mT_two {k k' : Int} (kids kids' : Fo) (h : k ≠ 0) (h' : k' ≠ 0) : mT k kids k' kids' = mF kids kids' := by unfold mT; simp [h, h']
theorem mK_ne {k : Int} (k' : Int) (h : k ≠ 0) : mK k k' = k := by unfold mK; simp [h]
end Ty
end Go.Proofs.YtocopanencbmeaaGreatDoor
namespace Go.Proofs.YtocopanencbmeaaGreatDoor
open Go.RowKit

theorem cf_less1 (args : Array Value) (W : World) : (callFunc 35 args).run Tryz.prog W = .ok (.enter 35 args) W := by simp [go_sem]

set_option maxHeartbeats 1000000 in
set_option maxRecDepth 100000 in
theorem less1_any (k k' : Int) (A' : Option Addr) (n' c' : Nat) (b o : Nat) (w : World) (h0 : w.cell? ⟨b, o, none⟩ = some (.int .i8 k)) :
    Calls Tryz.prog 35 #[.pointer (some ⟨b, o, none⟩), .agg #[.int .i8 k', .slice A' n' c']] w fun e w' => e = .returned (.bool (k == 0)) ∧ Below w.heap.size w w' := by
  have hlt := Ty.cell_lt h0
  have hb : Below w.heap.size w (w.alloc (.cells #[.int .i8 k', .slice A' n' c'] 25)) := (Below.refl _ _).alloc (Nat.le_refl _) _
  go_enter Tryz.func35, Tryz.ntmps35
  go_wp2_with fail
  go_ret
  exact ⟨rfl, hb⟩

set_option maxHeartbeats 4000000 in
set_option maxRecDepth 100000 in
theorem tless_any (K : Nat) : ∀ (k : Int) (kids : Fo) (A : Option Addr) (n c : Nat) (k' : Int) (kids' : Fo) (A' : Option Addr) (n' c' : Nat) (b o : Nat) (w : World), Ty.nodes kids < K → w.cell? ⟨b, o, none⟩ = some (.int .i8 k) → w.cell? ⟨b, o + 1, none⟩ = some (.slice A n c) →
    Ty.Is w k kids A n c → Ty.Is w k' kids' A' n' c' → Ty.okT k kids = true → Ty.okT k' kids' = true →
    Calls Tryz.prog 34 #[.pointer (some ⟨b, o, none⟩), .agg #[.int .i8 k', .slice A' n' c'], .func (Fn.func 35) #[] #[]] w fun e w' => e = .returned (.bool (Ty.leT k kids k' kids')) ∧ Below w.heap.size w w' := by
  induction K with
  | zero => intro _ _ _ _ _ _ _ _ _ _ _ _ _ h; omega
  | succ K ih =>
    intro k kids A n c k' kids' A' n' c' b o w hK h0 h1 hIs hIs' ho ho'
    have hcf := cf_less1
    have i5 : (n : Int) ≤ 9223372036854775807 := by have h1 := hIs.n_le; have h2 := hIs.c_le; unfold maxLen at h2; omega
    have hlt := Ty.cell_lt h0
    have hb1 : Below w.heap.size w (w.alloc (.cells #[.int .i8 k', .slice A' n' c'] 25)) := (Below.refl _ _).alloc (Nat.le_refl _) _
    have hbox := heap_new w (.cells #[.int .i8 k', .slice A' n' c'] 25)
    generalize hw1 : w.alloc (.cells #[.int .i8 k', .slice A' n' c'] 25) = w1 at *
    have HW := Lib.hid hw1
    clear hw1
    have g0 : w1.cell? ⟨b, o, none⟩ = some (.int .i8 k) := by rw [hb1.cell (p := ⟨b, o, none⟩) hlt]; exact h0
    have g1 : w1.cell? ⟨b, o + 1, none⟩ = some (.slice A n c) := by rw [hb1.cell (p := ⟨b, o + 1, none⟩) hlt]; exact h1
    have HP := Lib.hid (less1_any k k' A' n' c' b o w1 g0)
    have HI := Lib.hid (hIs.below hb1)
    have HI' := Lib.hid (hIs'.below hb1)
    have IH := Lib.hid ih
    have HB1 := Lib.hid hb1
    have HX := Lib.hid hbox
    have G0 := Lib.hid g0
    have G1 := Lib.hid g1
    clear ih hIs hIs' h0 h1 g0 g1 hb1 hlt hbox
    by_cases hk0 : k = 0
    · subst hk0
      rw [Ty.leT_zero]
      clear ho ho'
      obtain ⟨d0, d1, _, _, hd0⟩ := own2 HX.out
      go_enter Tryz.func34, Tryz.ntmps34
      go_upto_region 1 with fail
      rw [HW.out]
      go_wp2_with fail
      refine HP.out.mono ?_
      rintro e w2 ⟨rfl, hb⟩
      go_wp2_with fail
      go_ret
      exact ⟨rfl, HB1.out.trans (hb.mono HB1.out.size)⟩
    have hz : (k == 0) = false := by simpa using hk0
    rw [hz] at HP
    by_cases hkk : k = k'
    · have hnn : n = n' := by
        subst hkk
        have h1 := HI.out.n_eq
        have h2 := HI'.out.n_eq
        unfold Ty.okT at ho ho'
        rw [Bool.and_eq_true] at ho ho'
        have := Ty.okK_same ho.1 ho'.1
        omega
      subst hkk
      subst hnn
      rw [Ty.leT_eq _ _ hk0]
      have hk2 : (k != k) = false := by simp
      have hF1 : Ty.okF kids = true := by unfold Ty.okT at ho; rw [Bool.and_eq_true] at ho; exact ho.2
      have hF2 : Ty.okF kids' = true := by unfold Ty.okT at ho'; rw [Bool.and_eq_true] at ho'; exact ho'.2
      obtain ⟨R, hR⟩ : ∃ R, Ty.leF kids kids' = R := ⟨_, rfl⟩
      rw [hR]
      have HR := Lib.hid hR
      have HF1 := Lib.hid hF1
      have HF2 := Lib.hid hF2
      clear hR ho ho' hF1 hF2 hk0
      obtain ⟨d0, d1, _, _, hd0⟩ := own2 HX.out
      go_enter Tryz.func34, Tryz.ntmps34
      go_upto_region 1 with fail
      rw [HW.out]
      go_wp2_with fail
      refine HP.out.mono ?_
      rintro e w2 ⟨rfl, hb⟩
      clear d0 d1 hd0
      have HB2 := Lib.hid (HB1.out.trans (hb.mono HB1.out.size))
      have X2 := Lib.hid (heap_below hb (heap_lt HX.out) HX.out)
      have E0 : w2.cell? ⟨b, o, none⟩ = some (.int .i8 k) := by rw [hb.cell (p := ⟨b, o, none⟩) (Ty.cell_lt G0.out)]; exact G0.out
      have E1 : w2.cell? ⟨b, o + 1, none⟩ = some (.slice A n c) := by rw [hb.cell (p := ⟨b, o + 1, none⟩) (Ty.cell_lt G1.out)]; exact G1.out
      have HS := Lib.hid (Over.start (HI.out.lies.below hb) HI.out.n_eq)
      have HS2 := Lib.hid (show Over2 w2 w2 A' n 0 kids' from ⟨by have := HI'.out.n_eq; omega, HI'.out.lies.below hb⟩)
      obtain ⟨d0, d1, _, _, hd0⟩ := own2 X2.out
      clear hb
      go_wp2_with fail
      go_quiet (fail)
      have hD := below_drewN (Below.refl w2.heap.size w2) nq
      have HB3 := Lib.hid (below_drewN HB2.out nq)
      have HS3 := Lib.hid (show Over (w2.drewN nq) (w2.drewN nq) A n (Ty.nodes kids) 0 kids from ⟨HS.out.i_eq, HS.out.lies.below hD, HS.out.sub, Below.refl _ _⟩)
      have HS4 := Lib.hid (show Over2 (w2.drewN nq) (w2.drewN nq) A' n 0 kids' from ⟨HS2.out.i_eq, HS2.out.lies.below hD⟩)
      have e0 : (w2.drewN nq).cell? ⟨b, o, none⟩ = some (.int .i8 k) := E0
      have e1 : (w2.drewN nq).cell? ⟨b, o + 1, none⟩ = some (.slice A n c) := E1
      have f0 : (w2.drewN nq).cell? ⟨w.heap.size, 0, none⟩ = some (.int .i8 k) := d0
      have f1 : (w2.drewN nq).cell? ⟨w.heap.size, 1, none⟩ = some (.slice A' n c') := d1
      clear E0 E1 d0 d1 hd0 hD
      generalize w2.drewN nq = w3 at *
      go_wp2_with fail
      go_loopw [24] (fun v24 wr => ∃ (i : Nat) (r1 r2 : Fo), v24 = .int .i64 i ∧ Over w3 wr A n (Ty.nodes kids) i r1 ∧ Over2 w3 wr A' n i r2 ∧ Ty.leF r1 r2 = R ∧ Ty.okF r1 = true ∧ Ty.okF r2 = true) (fun v _ => n - (intOf v).toNat)
      case atStart => exact ⟨0, kids, kids', rfl, HS3.out, HS4.out, HR.out, HF1.out, HF2.out⟩
      case round =>
        obtain ⟨i, r1, r2, rfl, hO, hO2, hRR, hF1, hF2⟩ := hrel
        have hbB := HB3.out.trans (hO.below.mono HB3.out.size)
        have x0 : wr.cell? ⟨b, o, none⟩ = some (.int .i8 k) := by rw [hO.below.cell (p := ⟨b, o, none⟩) (Ty.cell_lt e0)]; exact e0
        have x1 : wr.cell? ⟨b, o + 1, none⟩ = some (.slice A n c) := by rw [hO.below.cell (p := ⟨b, o + 1, none⟩) (Ty.cell_lt e1)]; exact e1
        obtain ⟨y0, y1⟩ := hO.box f0 f1
        clear e0 e1 f0 f1
        cases r1 with
        | nil =>
          have hi : i = n := by have := hO.i_eq; simpa [Ty.len] using this
          clear hO hO2 hF1 hF2
          simp only [Ty.leF] at hRR
          subst hi
          subst hRR
          go_wp2_with fail
          go_ret
          exact ⟨rfl, hbB⟩
        | node a1 a2 kk kks r =>
          cases r2 with
          | nil => have q1 := hO.i_eq; have q2 := hO2.i_eq; simp only [Ty.len] at q1 q2; omega
          | node a3 a4 kk2 kks2 s =>
          have hst := fun w2 hb => Over.step (w2 := w2) hO hb
          have h1 := hO.i_eq
          have h2 := hO.lies
          have h3 := hO.sub
          have q1 := hO2.i_eq
          have q2 := hO2.lies
          simp only [Ty.len, Ty.nodes, Ty.leF] at h1 h3 hRR q1
          simp only [Ty.okF, Bool.and_eq_true] at hF1 hF2
          obtain ⟨bb, oo, B, c9, rfl, ⟨hk1, hk2'⟩, c1', c2', hl1, hl2, hl3, hl4⟩ := h2
          obtain ⟨bb2, oo2, B2, c3, rfl, ⟨gk1, gk2⟩, z1, z2, gl1, gl2, gl3, gl4⟩ := q2
          have o1 : Ty.okT kk kks = true := by unfold Ty.okT; rw [Bool.and_eq_true]; exact ⟨hF1.1.1, hF1.1.2⟩
          have o2 : Ty.okT kk2 kks2 = true := by unfold Ty.okT; rw [Bool.and_eq_true]; exact ⟨hF2.1.1, hF2.1.2⟩
          have hcall := fun (W : World) (hb : Below wr.heap.size wr W) => IH.out kk kks B (Ty.len kks) c9 kk2 kks2 B2 (Ty.len kks2) c3 bb (oo + i * 2) W (by omega) (by rw [hb.cell (p := ⟨bb, _, none⟩) (Ty.cell_lt c1')]; exact c1') (by rw [hb.cell (p := ⟨bb, _, none⟩) (Ty.cell_lt c2')]; exact c2') ⟨hl3.below hb, rfl, hl1, hl2, hk1, hk2'⟩ ⟨gl3.below hb, rfl, gl1, gl2, gk1, gk2⟩ o1 o2
          have HST := Lib.hid hst
          have HL := Lib.hid hl4
          have HL2 := Lib.hid gl4
          have HC := Lib.hid hcall
          have HRR := Lib.hid hRR
          have HF3 := Lib.hid hF1.2
          have HF4 := Lib.hid hF2.2
          have j1 : (i : Int) < n := by omega
          have j2 : (0 : Int) ≤ i ∧ (i : Int) < n := by omega
          have hBd := Lib.hid (below_drewN (Below.refl wr.heap.size wr) 1)
          clear hst hl3 hl4 gl3 gl4 hcall hO hO2 hRR hF1 hF2 o1 o2
          cases hp : Ty.leT kk kks kk2 kks2
          · have hp0 : R = false := by rw [← HRR.out]; unfold Ty.leT at hp; rw [hp]; rfl
            rw [hp] at HC
            subst hp0
            clear hp
            go_wp2_with fail
            go_still_tail 12, (by kernel_rfl)
            change wpList _ _ _ _ _ (wr.drewN 1)
            have hbB1 := hbB.trans (hBd.out.mono hbB.size)
            have hsz : (wr.drewN 1).heap.size = wr.heap.size := rfl
            clear x0 x1 y0 y1 c1' c2' z1 z2
            generalize wr.drewN 1 = w4 at *
            go_wp2_with fail
            refine (HC.out _ hBd.out).mono ?_
            rintro e w5 ⟨rfl, hb⟩
            go_wp2_with fail
            go_ret
            exact ⟨rfl, hbB1.trans (hb.mono hbB1.size)⟩
          · have hp0 := HRR.out
            unfold Ty.leT at hp
            rw [hp, Bool.true_and] at hp0
            have HPP := Lib.hid hp0
            rw [show Ty.leT kk kks kk2 kks2 = true from hp] at HC
            clear hp hp0
            go_wp2_with fail
            go_still_tail 12, (by kernel_rfl)
            change wpList _ _ _ _ _ (wr.drewN 1)
            have hsz : (wr.drewN 1).heap.size = wr.heap.size := rfl
            clear x0 x1 y0 y1 c1' c2' z1 z2
            generalize wr.drewN 1 = w4 at *
            go_wp2_with fail
            refine (HC.out _ hBd.out).mono ?_
            rintro e w5 ⟨rfl, hb⟩
            have hB2 : Below wr.heap.size wr w5 := hBd.out.trans (hb.mono (by omega))
            have hbb := Lib.hid (HST.out w5 hB2 HL.out)
            have hbb2 : Hid (Over2 w3 w5 (some ⟨bb2, oo2, none⟩) n (i + 1) s) := Lib.hid ⟨by omega, HL2.out.below hB2⟩
            clear hb hB2 hsz
            go_wp2_with fail
            go_roundw
            case rel => exact ⟨i + 1, r, s, by go_num, hbb.out, hbb2.out, HPP.out, HF3.out, HF4.out⟩
            case measure => simp [intOf]; omega
    · rw [Ty.leT_ne _ _ hk0 hkk]
      have hk2 : (k != k') = true := by simpa using hkk
      clear ho ho' hkk hk0
      obtain ⟨d0, d1, _, _, hd0⟩ := own2 HX.out
      go_enter Tryz.func34, Tryz.ntmps34
      go_upto_region 1 with fail
      rw [HW.out]
      go_wp2_with fail
      refine HP.out.mono ?_
      rintro e w2 ⟨rfl, hb⟩
      clear d0 d1 hd0
      have HB2 := Lib.hid (HB1.out.trans (hb.mono HB1.out.size))
      have X2 := Lib.hid (heap_below hb (heap_lt HX.out) HX.out)
      have E0 : w2.cell? ⟨b, o, none⟩ = some (.int .i8 k) := by rw [hb.cell (p := ⟨b, o, none⟩) (Ty.cell_lt G0.out)]; exact G0.out
      obtain ⟨d0, d1, _, _, hd0⟩ := own2 X2.out
      clear hb
      go_wp2_with fail
      go_quiet (fail)
      go_wp2_with fail
      go_ret
      exact ⟨rfl, below_drewN HB2.out _⟩
end Go.Proofs.YtocopanencbmeaaGreatDoor
namespace Go.Proofs.YtocopanencbmeaaGreatDoor
open Go.RowKit

set_option maxHeartbeats 1000000 in
set_option maxRecDepth 100000 in
theorem less_any (K : Nat) (k : Int) (kids : Fo) (A : Option Addr) (n c : Nat) (k' : Int) (kids' : Fo) (A' : Option Addr) (n' c' : Nat) (w : World) (hK : Ty.nodes kids < K) (hIs : Ty.Is w k kids A n c) (hIs' : Ty.Is w k' kids' A' n' c') (ho : Ty.okT k kids = true) (ho' : Ty.okT k' kids' = true) :
    Calls Tryz.prog 14 #[.agg #[.int .i8 k, .slice A n c], .agg #[.int .i8 k', .slice A' n' c']] w fun e w' => e = .returned (.bool (Ty.leT k kids k' kids')) ∧ Below w.heap.size w w' := by
  obtain ⟨hB0, hR0, hR1⟩ := two_boxes w k A n c k' A' n' c'
  obtain ⟨b0, b1, _, _, hb0⟩ := own2 hR0
  obtain ⟨d0, d1, _, _, hd0⟩ := own2 hR1
  have HC := Lib.hid (tless_any K k kids A n c k' kids' A' n' c' w.heap.size 0 _ hK b0 b1 (hIs.below hB0) (hIs'.below hB0) ho ho')
  clear hIs hIs' ho ho'
  go_enter Tryz.func14, Tryz.ntmps14
  go_wp2_with fail
  refine HC.out.mono ?_
  rintro e w2 ⟨rfl, hb⟩
  go_wp2_with fail
  go_ret
  exact ⟨rfl, hB0.trans (hb.mono hB0.size)⟩

set_option maxHeartbeats 2000000 in
set_option maxRecDepth 100000 in
theorem qless1_any (K : Nat) : ∀ (k : Int) (kids : Fo) (A : Option Addr) (n c : Nat) (k' : Int) (kids' : Fo) (A' : Option Addr) (n' c' : Nat) (w : World), Ty.nodes kids < K → Ty.Is w k kids A n c → Ty.Is w k' kids' A' n' c' → Ty.okT k kids = true → Ty.okT k' kids' = true →
    Calls Tryz.prog 23 #[.agg #[.int .i8 k, .slice A n c], .agg #[.int .i8 k', .slice A' n' c']] w fun e w' => e = .returned (.bool (Ty.leT k kids k' kids')) ∧ Below w.heap.size w w' := by
  induction K with
  | zero => intro _ _ _ _ _ _ _ _ _ _ _ h; omega
  | succ K ih =>
    intro k kids A n c k' kids' A' n' c' w hK hIs hIs' ho ho'
    have i5 : (n : Int) ≤ 9223372036854775807 := by have h1 := hIs.n_le; have h2 := hIs.c_le; unfold maxLen at h2; omega
    obtain ⟨hB0, hR0, hR1⟩ := two_boxes w k A n c k' A' n' c'
    have HI := Lib.hid hIs
    have HI' := Lib.hid hIs'
    have IH := Lib.hid ih
    clear ih hIs hIs'
    obtain ⟨b0, b1, _, _, hb0⟩ := own2 hR0
    obtain ⟨d0, d1, _, _, hd0⟩ := own2 hR1
    by_cases hk0 : k = 0
    · subst hk0
      rw [Ty.leT_zero]
      clear ho ho' hR0 hR1
      go_enter Tryz.func23, Tryz.ntmps23
      go_wp2_with fail
      go_ret
      exact ⟨rfl, hB0⟩
    have hz : (k == 0) = false := by simpa using hk0
    by_cases hkk : k = k'
    · have hnn : n = n' := by
        subst hkk
        have h1 := HI.out.n_eq
        have h2 := HI'.out.n_eq
        unfold Ty.okT at ho ho'
        rw [Bool.and_eq_true] at ho ho'
        have := Ty.okK_same ho.1 ho'.1
        omega
      subst hkk
      subst hnn
      rw [Ty.leT_eq _ _ hk0]
      have hk2 : (k != k) = false := by simp
      have hF1 : Ty.okF kids = true := by unfold Ty.okT at ho; rw [Bool.and_eq_true] at ho; exact ho.2
      have hF2 : Ty.okF kids' = true := by unfold Ty.okT at ho'; rw [Bool.and_eq_true] at ho'; exact ho'.2
      obtain ⟨R, hR⟩ : ∃ R, Ty.leF kids kids' = R := ⟨_, rfl⟩
      rw [hR]
      have HR := Lib.hid hR
      have hlies2 := HI'.out.lies.below hB0
      have hst := Over.start (HI.out.lies.below hB0) HI.out.n_eq
      have hst2 : Over2 w _ A' n 0 kids' := ⟨by have := HI'.out.n_eq; omega, hlies2⟩
      have HF1 := Lib.hid hF1
      have HF2 := Lib.hid hF2
      clear hR0 hR1 hR hlies2 ho ho' hF1 hF2 hk0
      generalize hw1 : (w.alloc (.cells #[.int .i8 k, .slice A n c] 25)).alloc (.cells #[.int .i8 k, .slice A' n c'] 25) = w1 at *
      have HS := Lib.hid hst
      have HS2 := Lib.hid hst2
      have HW := Lib.hid hw1
      clear hst hst2 hw1
      go_enter Tryz.func23, Tryz.ntmps23
      go_wp2_with fail
      rw [HW.out]
      go_wp2_with fail
      go_loopw [5] (fun v5 wr => ∃ (i : Nat) (r1 r2 : Fo), v5 = .int .i64 i ∧ Over w1 wr A n (Ty.nodes kids) i r1 ∧ Over2 w wr A' n i r2 ∧ Ty.leF r1 r2 = R ∧ Ty.okF r1 = true ∧ Ty.okF r2 = true) (fun v _ => n - (intOf v).toNat)
      case atStart => exact ⟨0, kids, kids', rfl, HS.out, HS2.out, HR.out, HF1.out, HF2.out⟩
      case round =>
        obtain ⟨i, r1, r2, rfl, hO, hO2, hRR, hF1, hF2⟩ := hrel
        have hbB := hB0.trans (hO.below.mono hB0.size)
        obtain ⟨e0, e1⟩ := hO.box b0 b1
        obtain ⟨g0, g1⟩ := hO.box d0 d1
        clear b0 b1 d0 d1
        cases r1 with
        | nil =>
          have hi : i = n := by have := hO.i_eq; simpa [Ty.len] using this
          have hr2 : r2 = .nil := by
            have := hO2.i_eq
            cases r2 with
            | nil => rfl
            | node _ _ _ _ _ => simp only [Ty.len] at this; omega
          subst hr2
          clear hO hO2 hF1 hF2
          simp only [Ty.leF] at hRR
          subst hi
          subst hRR
          go_wp2_with fail
          go_ret
          exact ⟨rfl, hbB⟩
        | node a b kk kks r =>
          cases r2 with
          | nil => have q1 := hO.i_eq; have q2 := hO2.i_eq; simp only [Ty.len] at q1 q2; omega
          | node a2 b2 kk2 kks2 s =>
          have hst := fun w2 hb => Over.step (w2 := w2) hO hb
          have h1 := hO.i_eq
          have h2 := hO.lies
          have h3 := hO.sub
          have q1 := hO2.i_eq
          have q2 := hO2.lies
          simp only [Ty.len, Ty.nodes, Ty.leF] at h1 h3 hRR q1
          simp only [Ty.okF, Bool.and_eq_true] at hF1 hF2
          obtain ⟨bb, oo, B, c9, rfl, ⟨hk1, hk2'⟩, c1', c2', hl1, hl2, hl3, hl4⟩ := h2
          obtain ⟨bb2, oo2, B2, c3, rfl, ⟨gk1, gk2⟩, x1, x2, gl1, gl2, gl3, gl4⟩ := q2
          have o1 : Ty.okT kk kks = true := by unfold Ty.okT; rw [Bool.and_eq_true]; exact ⟨hF1.1.1, hF1.1.2⟩
          have o2 : Ty.okT kk2 kks2 = true := by unfold Ty.okT; rw [Bool.and_eq_true]; exact ⟨hF2.1.1, hF2.1.2⟩
          have hcall := fun (W : World) (hb : Below wr.heap.size wr W) => IH.out kk kks B (Ty.len kks) c9 kk2 kks2 B2 (Ty.len kks2) c3 W (by omega) ⟨hl3.below hb, rfl, hl1, hl2, hk1, hk2'⟩ ⟨gl3.below hb, rfl, gl1, gl2, gk1, gk2⟩ o1 o2
          have HST := Lib.hid hst
          have HL := Lib.hid hl4
          have HL2 := Lib.hid gl4
          have HC := Lib.hid hcall
          have HRR := Lib.hid hRR
          have HF3 := Lib.hid hF1.2
          have HF4 := Lib.hid hF2.2
          have j1 : (i : Int) < n := by omega
          have j2 : (0 : Int) ≤ i ∧ (i : Int) < n := by omega
          have hBd := Lib.hid (below_drewN (Below.refl wr.heap.size wr) 1)
          clear hst hl3 hl4 gl3 gl4 hcall hO hO2 hRR hF1 hF2 o1 o2
          cases hp : Ty.leT kk kks kk2 kks2
          · have hp0 : R = false := by rw [← HRR.out]; unfold Ty.leT at hp; rw [hp]; rfl
            rw [hp] at HC
            subst hp0
            clear hp
            go_wp2_with fail
            go_still_tail 10, (by kernel_rfl)
            change wpList _ _ _ _ _ (wr.drewN 1)
            have hbB1 := hbB.trans (hBd.out.mono hbB.size)
            have hsz : (wr.drewN 1).heap.size = wr.heap.size := rfl
            clear e0 e1 g0 g1 c1' c2' x1 x2
            generalize wr.drewN 1 = w2 at *
            go_wp2_with fail
            refine (HC.out _ hBd.out).mono ?_
            rintro e w3 ⟨rfl, hb⟩
            go_wp2_with fail
            go_ret
            exact ⟨rfl, hbB1.trans (hb.mono hbB1.size)⟩
          · have hp0 := HRR.out
            unfold Ty.leT at hp
            rw [hp, Bool.true_and] at hp0
            have HP := Lib.hid hp0
            rw [show Ty.leT kk kks kk2 kks2 = true from hp] at HC
            clear hp hp0
            go_wp2_with fail
            go_still_tail 10, (by kernel_rfl)
            change wpList _ _ _ _ _ (wr.drewN 1)
            have hsz : (wr.drewN 1).heap.size = wr.heap.size := rfl
            clear e0 e1 g0 g1 c1' c2' x1 x2
            generalize wr.drewN 1 = w2 at *
            go_wp2_with fail
            refine (HC.out _ hBd.out).mono ?_
            rintro e w3 ⟨rfl, hb⟩
            have hB2 : Below wr.heap.size wr w3 := hBd.out.trans (hb.mono (by omega))
            have hbb := Lib.hid (HST.out w3 hB2 HL.out)
            have hbb2 : Hid (Over2 w w3 (some ⟨bb2, oo2, none⟩) n (i + 1) s) := Lib.hid ⟨by omega, HL2.out.below hB2⟩
            clear hb hB2 hsz
            go_wp2_with fail
            go_roundw
            case rel => exact ⟨i + 1, r, s, by go_num, hbb.out, hbb2.out, HP.out, HF3.out, HF4.out⟩
            case measure => simp [intOf]; omega
    · rw [Ty.leT_ne _ _ hk0 hkk]
      have hk2 : (k != k') = true := by simpa using hkk
      clear ho ho' hkk hk0 hR0 hR1
      go_enter Tryz.func23, Tryz.ntmps23
      go_wp2_with fail
      go_ret
      exact ⟨rfl, hB0⟩

end Go.Proofs.YtocopanencbmeaaGreatDoor
