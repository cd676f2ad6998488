/-
  The reference's Same, Known, Of, Ground; types.Ground. Types that agree: what the word says of forests. Types that are less and more precise, and where two meet: what the words say of forests. The law's LikeType.
-/
import Derived.Test.YtmcmdlaedpdoiaaGreatDoorM7
import Derived.Deep.OwnRows
namespace Go.Proofs.YtmcmdlaedpdoiaaGreatDoor
open Go.RowKit

theorem Ty.chk_ok {k : Int} {kids : Fo} (h : Ty.chk k kids = 0) : Ty.okT k kids = true ∧ Ty.nodes kids + 1 ≤ 8192 ∧ Ty.dep kids + 1 ≤ 200 := by
  unfold Ty.chk at h
  split at h
  · cases h
  · split at h
    · cases h
    · split at h
      · rename_i h1 h2 h3; exact ⟨h3, by omega, by omega⟩
      · cases h

namespace Ty
/-- two parts -/
def two (k : Int) (kids : Fo) (k' : Int) (kids' : Fo) : Fo := .node 0 0 k kids (.node 0 0 k' kids' .nil)
/-- a block of two types' cells -/
theorem lies_two {w : World} {N : Nat} {k k' : Int} {kids kids' : Fo} {A A' : Option Addr} {n c n' c' : Nat} {t : TypeId} (h : w.heap[N]? = some (.cells #[.int .i8 k, .slice A n c, .int .i8 k', .slice A' n' c'] t (0, 0))) (h1 : Is w k kids A n c) (h2 : Is w k' kids' A' n' c') :
    Lies w (two k kids k' kids') (some ⟨N, 0, none⟩) 0 := by
  refine ⟨N, 0, A, c, rfl, ⟨h1.lo, h1.hi⟩, by simp [World.cell?, h], by rw [← h1.n_eq]; simp [World.cell?, h], by rw [← h1.n_eq]; exact h1.n_le, h1.c_le, h1.lies, ?_⟩
  exact ⟨N, 0, A', c', rfl, ⟨h2.lo, h2.hi⟩, by simp [World.cell?, h], by rw [← h2.n_eq]; simp [World.cell?, h], by rw [← h2.n_eq]; exact h2.n_le, h2.c_le, h2.lies, trivial⟩
end Ty

namespace Ty
def gOk (k : Int) (kids : Fo) : Bool := (chk k kids == 0) && (k != 0)
def gK (k : Int) (kids : Fo) : Int := if chk k kids = 0 then k else 0
def gKids (k : Int) (kids : Fo) : Fo := if chk k kids = 0 ∧ 3 ≤ k then two 0 .nil 0 .nil else .nil
theorem is_nil (w : World) (k : Int) (h1 : -128 ≤ k) (h2 : k ≤ 127) : Is w k .nil none 0 0 := ⟨trivial, rfl, Nat.le_refl _, Nat.zero_le _, h1, h2⟩
end Ty
/-- what Ground leaves: a ground in new memory, and whether there is one -/
def GroundPost (w : World) (k : Int) (kids : Fo) (e : Ending) (w' : World) : Prop :=
  ∃ G m c, e = .returned (.tuple #[.agg #[.int .i8 (Ty.gK k kids), .slice G m c], .bool (Ty.gOk k kids)]) ∧ Ty.Is w' (Ty.gK k kids) (Ty.gKids k kids) G m c ∧
    (G = none ∨ ∃ g, G = some ⟨g, 0, none⟩ ∧ w.heap.size ≤ g ∧ m = 2 ∧ w'.heap[g]? = some (.cells #[.int .i8 0, .slice none 0 0, .int .i8 0, .slice none 0 0] 25 (0, 0))) ∧ Below w.heap.size w w'

theorem Ty.okT_range {k : Int} {kids : Fo} (h : Ty.okT k kids = true) : k = 0 ∨ k = 1 ∨ k = 2 ∨ k = 3 ∨ k = 4 ∨ k = 5 := by
  unfold Ty.okT Ty.okK at h
  split at h
  · omega
  · split at h
    · omega
    · simp at h

set_option maxHeartbeats 2000000 in
set_option maxRecDepth 100000 in
theorem ground_any (k : Int) (kids : Fo) (A : Option Addr) (n c : Nat) (w : World) (hIs : Ty.Is w k kids A n c) (hS : Shapes w) :
    Calls Tryz.prog 112 #[.agg #[.int .i8 k, .slice A n c]] w (GroundPost w k kids) := by
  have hB0 : Below w.heap.size w ((w.alloc (.cells #[.int .i8 k, .slice A n c] 25)).alloc (.cells #[.int .i8 0, .slice none 0 0] 25)) := ((Below.refl w.heap.size w).alloc (Nat.le_refl _) _).alloc (by simp) _
  have hR0 := heap_old (heap_new w (.cells #[.int .i8 k, .slice A n c] 25)) (.cells #[.int .i8 0, .slice none 0 0] 25)
  have hR1 : ((w.alloc (.cells #[.int .i8 k, .slice A n c] 25)).alloc (.cells #[.int .i8 0, .slice none 0 0] 25)).heap[w.heap.size + 1]? = some (.cells #[.int .i8 0, .slice none 0 0] 25) := by
    have := heap_new (w.alloc (.cells #[.int .i8 k, .slice A n c] 25)) (.cells #[.int .i8 0, .slice none 0 0] 25)
    simpa using this
  have HM := Lib.hid (fun (W : World) (hb : Below w.heap.size w W) => check_any k kids A n c W (hIs.below hb) (hS.below hb))
  have HSh := Lib.hid (fun (W : World) (hb : Below w.heap.size w W) => hS.below hb)
  have R0 := Lib.hid hR0
  have R1 := Lib.hid hR1
  have hmk : ∀ w, (Instr.makeSlice 23 (.int .i64 2) (.int .i64 2)).run Tryz.prog w = .ok (.slice (some ⟨w.heap.size, 0, none⟩) 2 2) (w.alloc (.cells #[.int .i8 0, .slice none 0 0, .int .i8 0, .slice none 0 0] 25)) := fun _ => by kernel_rfl
  clear hIs hR0 hR1 hS
  by_cases h0 : Ty.chk k kids = 0
  · have hk := Ty.okT_range (Ty.chk_ok h0).1
    have e1 : Ty.gK k kids = k := by unfold Ty.gK; rw [if_pos h0]
    have e2 : Ty.gOk k kids = (k != 0) := by unfold Ty.gOk; rw [h0]; rfl
    have e3 : Ty.gKids k kids = if 3 ≤ k then Ty.two 0 .nil 0 .nil else .nil := by unfold Ty.gKids; simp [h0]
    rw [h0] at HM
    unfold GroundPost
    rw [e1, e2, e3]
    clear h0 e1 e2 e3
    rcases hk with rfl | rfl | rfl | rfl | rfl | rfl
    all_goals
      go_enter Tryz.func112, Tryz.ntmps112
      go_wp2_with fail
      refine (HM.out _ hB0).mono ?_
      rintro e w3 ⟨rfl, hb⟩
      have hB1 := hB0.trans (hb.mono hB0.size)
      have hR0 := heap_below hb (heap_lt R0.out) R0.out
      have hR1 := heap_below hb (heap_lt R1.out) R1.out
      obtain ⟨b0, b1, _, _, hb0⟩ := own2 hR0
      obtain ⟨d0, d1, f0, f1, hd0⟩ := own2 hR1
      obtain ⟨hs1, hs2⟩ := HSh.out _ hB1
      have s6 := hs2 6 _ rfl
      have s10 := hs2 10 _ rfl
      have s14 := hs2 14 _ rfl
      have s18 := hs2 18 _ rfl
      have s22 := hs2 22 _ rfl
      have HR1 := Lib.hid hR1
      clear hb hs2 hR0 hR1
      go_wp2_with fail
    · refine bodyPost_ret (v := .tuple #[.agg #[.int .i8 0, .slice none 0 0], .bool false]) (by simp [results, Tryz.results112, go_sem, *]) rfl ⟨none, 0, 0, rfl, Ty.is_nil _ 0 (by omega) (by omega), .inl rfl, ?_⟩
      exact (hB1.setCell (by simp) _).setCell (by simp) _
    · refine bodyPost_ret (v := .tuple #[.agg #[.int .i8 1, .slice none 0 0], .bool true]) (by simp [results, Tryz.results112, go_sem, *]) rfl ⟨none, 0, 0, rfl, Ty.is_nil _ 1 (by omega) (by omega), .inl rfl, ?_⟩
      exact ((hB1.setCell (by simp) _).setCell (by simp) _).alloc (by have := hB1.size; simp; omega) _
    · refine bodyPost_ret (v := .tuple #[.agg #[.int .i8 2, .slice none 0 0], .bool true]) (by simp [results, Tryz.results112, go_sem, *]) rfl ⟨none, 0, 0, rfl, Ty.is_nil _ 2 (by omega) (by omega), .inl rfl, ?_⟩
      exact ((hB1.setCell (by simp) _).setCell (by simp) _).alloc (by have := hB1.size; simp; omega) _
    · have hN : ((((w3.setCell ⟨w.heap.size + 1, 0, none⟩ (.int .i8 3)).setCell ⟨w.heap.size + 1, 1, none⟩ (.slice (some ⟨w3.heap.size + 1, 0, none⟩) 2 2)).alloc (.cells #[.int .i8 3, .slice (some ⟨w3.heap.size + 1, 0, none⟩) 2 2] 25)).alloc (.cells #[.int .i8 0, .slice none 0 0, .int .i8 0, .slice none 0 0] 25)).heap[w3.heap.size + 1]? = some (.cells #[.int .i8 0, .slice none 0 0, .int .i8 0, .slice none 0 0] 25 (0, 0)) := by
        have := heap_new (((w3.setCell ⟨w.heap.size + 1, 0, none⟩ (.int .i8 3)).setCell ⟨w.heap.size + 1, 1, none⟩ (.slice (some ⟨w3.heap.size + 1, 0, none⟩) 2 2)).alloc (.cells #[.int .i8 3, .slice (some ⟨w3.heap.size + 1, 0, none⟩) 2 2] 25)) (.cells #[.int .i8 0, .slice none 0 0, .int .i8 0, .slice none 0 0] 25)
        simpa using this
      have HN := Lib.hid hN
      clear hN
      refine bodyPost_ret (v := .tuple #[.agg #[.int .i8 3, .slice (some ⟨w3.heap.size + 1, 0, none⟩) 2 2], .bool true]) (by simp [results, Tryz.results112, go_sem, *]) rfl ⟨_, 2, 2, rfl, ⟨Ty.lies_two HN.out (Ty.is_nil _ 0 (by omega) (by omega)) (Ty.is_nil _ 0 (by omega) (by omega)), rfl, Nat.le_refl _, by unfold maxLen; omega, by omega, by omega⟩, .inr ⟨_, rfl, by have := hB1.size; omega, rfl, HN.out⟩, ?_⟩
      exact ((((hB1.setCell (by simp) _).setCell (by simp) _).alloc (by have := hB1.size; simp; omega) _)).alloc (by have := hB1.size; simp; omega) _
    · have hN : ((((w3.setCell ⟨w.heap.size + 1, 0, none⟩ (.int .i8 4)).setCell ⟨w.heap.size + 1, 1, none⟩ (.slice (some ⟨w3.heap.size + 1, 0, none⟩) 2 2)).alloc (.cells #[.int .i8 4, .slice (some ⟨w3.heap.size + 1, 0, none⟩) 2 2] 25)).alloc (.cells #[.int .i8 0, .slice none 0 0, .int .i8 0, .slice none 0 0] 25)).heap[w3.heap.size + 1]? = some (.cells #[.int .i8 0, .slice none 0 0, .int .i8 0, .slice none 0 0] 25 (0, 0)) := by
        have := heap_new (((w3.setCell ⟨w.heap.size + 1, 0, none⟩ (.int .i8 4)).setCell ⟨w.heap.size + 1, 1, none⟩ (.slice (some ⟨w3.heap.size + 1, 0, none⟩) 2 2)).alloc (.cells #[.int .i8 4, .slice (some ⟨w3.heap.size + 1, 0, none⟩) 2 2] 25)) (.cells #[.int .i8 0, .slice none 0 0, .int .i8 0, .slice none 0 0] 25)
        simpa using this
      have HN := Lib.hid hN
      clear hN
      refine bodyPost_ret (v := .tuple #[.agg #[.int .i8 4, .slice (some ⟨w3.heap.size + 1, 0, none⟩) 2 2], .bool true]) (by simp [results, Tryz.results112, go_sem, *]) rfl ⟨_, 2, 2, rfl, ⟨Ty.lies_two HN.out (Ty.is_nil _ 0 (by omega) (by omega)) (Ty.is_nil _ 0 (by omega) (by omega)), rfl, Nat.le_refl _, by unfold maxLen; omega, by omega, by omega⟩, .inr ⟨_, rfl, by have := hB1.size; omega, rfl, HN.out⟩, ?_⟩
      exact ((((hB1.setCell (by simp) _).setCell (by simp) _).alloc (by have := hB1.size; simp; omega) _)).alloc (by have := hB1.size; simp; omega) _
    · have hN : ((((w3.setCell ⟨w.heap.size + 1, 0, none⟩ (.int .i8 5)).setCell ⟨w.heap.size + 1, 1, none⟩ (.slice (some ⟨w3.heap.size + 1, 0, none⟩) 2 2)).alloc (.cells #[.int .i8 5, .slice (some ⟨w3.heap.size + 1, 0, none⟩) 2 2] 25)).alloc (.cells #[.int .i8 0, .slice none 0 0, .int .i8 0, .slice none 0 0] 25)).heap[w3.heap.size + 1]? = some (.cells #[.int .i8 0, .slice none 0 0, .int .i8 0, .slice none 0 0] 25 (0, 0)) := by
        have := heap_new (((w3.setCell ⟨w.heap.size + 1, 0, none⟩ (.int .i8 5)).setCell ⟨w.heap.size + 1, 1, none⟩ (.slice (some ⟨w3.heap.size + 1, 0, none⟩) 2 2)).alloc (.cells #[.int .i8 5, .slice (some ⟨w3.heap.size + 1, 0, none⟩) 2 2] 25)) (.cells #[.int .i8 0, .slice none 0 0, .int .i8 0, .slice none 0 0] 25)
        simpa using this
      have HN := Lib.hid hN
      clear hN
      refine bodyPost_ret (v := .tuple #[.agg #[.int .i8 5, .slice (some ⟨w3.heap.size + 1, 0, none⟩) 2 2], .bool true]) (by simp [results, Tryz.results112, go_sem, *]) rfl ⟨_, 2, 2, rfl, ⟨Ty.lies_two HN.out (Ty.is_nil _ 0 (by omega) (by omega)) (Ty.is_nil _ 0 (by omega) (by omega)), rfl, Nat.le_refl _, by unfold maxLen; omega, by omega, by omega⟩, .inr ⟨_, rfl, by have := hB1.size; omega, rfl, HN.out⟩, ?_⟩
      exact ((((hB1.setCell (by simp) _).setCell (by simp) _).alloc (by have := hB1.size; simp; omega) _)).alloc (by have := hB1.size; simp; omega) _
  · have e1 : Ty.gK k kids = 0 := by unfold Ty.gK; rw [if_neg h0]
    have e2 : Ty.gOk k kids = false := by unfold Ty.gOk; simp [h0]
    have e3 : Ty.gKids k kids = .nil := by unfold Ty.gKids; rw [if_neg (fun h => h0 h.1)]
    unfold GroundPost
    rw [e1, e2, e3]
    have hc : (((Ty.chk k kids : Nat) : Int) != 0) = true := by simp; omega
    generalize Ty.chk k kids = C at *
    clear h0 e1 e2 e3
    go_enter Tryz.func112, Tryz.ntmps112
    go_wp2_with fail
    refine (HM.out _ hB0).mono ?_
    rintro e w3 ⟨rfl, hb⟩
    have hB1 := hB0.trans (hb.mono hB0.size)
    obtain ⟨d0, d1, f0, f1, hd0⟩ := own2 (heap_below hb (heap_lt R1.out) R1.out)
    clear hb
    go_wp2_with fail
    refine bodyPost_ret (v := .tuple #[.agg #[.int .i8 0, .slice none 0 0], .bool false]) (by simp [results, Tryz.results112, go_sem, *]) rfl ⟨none, 0, 0, rfl, Ty.is_nil _ 0 (by omega) (by omega), .inl rfl, ?_⟩
    exact (hB1.setCell (by simp) _).setCell (by simp) _
end Go.Proofs.YtmcmdlaedpdoiaaGreatDoor
namespace Go.Proofs.YtmcmdlaedpdoiaaGreatDoor
namespace Ty
/-- a right type's kids: none, or two -/
theorem two_of {k : Int} {kids : Fo} (h : okT k kids = true) (h3 : 3 ≤ k) : ∃ a b k1 f1 c d k2 f2, kids = .node a b k1 f1 (.node c d k2 f2 .nil) ∧ okT k1 f1 = true ∧ okT k2 f2 = true := by
  unfold okT okK at h
  rw [if_neg (by omega), Bool.and_eq_true] at h
  split at h
  · have hl : len kids = 2 := by simpa using h.1
    match kids, hl, h.2 with
    | .node a b k1 f1 (.node c d k2 f2 .nil), _, ho =>
      simp only [okF, Bool.and_eq_true] at ho
      exact ⟨a, b, k1, f1, c, d, k2, f2, rfl, by unfold okT; rw [Bool.and_eq_true]; exact ⟨ho.1.1, ho.1.2⟩, by unfold okT; rw [Bool.and_eq_true]; exact ⟨ho.2.1.1, ho.2.1.2⟩⟩
    | .nil, hl, _ => simp [len] at hl
    | .node _ _ _ _ .nil, hl, _ => simp [len] at hl
    | .node _ _ _ _ (.node _ _ _ _ (.node _ _ _ _ _)), hl, _ => simp [len] at hl
  · simp at h
theorem none_of {k : Int} {kids : Fo} (h : okT k kids = true) (h3 : k ≤ 2) : kids = .nil := by
  have h2 := h
  unfold okT okK at h
  have hr := okT_range h2
  rw [if_pos (by omega), Bool.and_eq_true] at h
  cases kids with
  | nil => rfl
  | node _ _ _ _ _ => simp [len] at h
end Ty
end Go.Proofs.YtmcmdlaedpdoiaaGreatDoor
namespace Go.Proofs.YtmcmdlaedpdoiaaGreatDoor
namespace Ty
end Ty
end Go.Proofs.YtmcmdlaedpdoiaaGreatDoor
namespace Go.Proofs.YtmcmdlaedpdoiaaGreatDoor
open Go.RowKit

set_option maxHeartbeats 2000000 in
set_option maxRecDepth 100000 in
theorem like_any (K : Nat) : ∀ (k : Int) (kids : Fo) (A : Option Addr) (n c : Nat) (k' : Int) (kids' : Fo) (A' : Option Addr) (n' c' : Nat) (w : World), Ty.nodes kids < K → Ty.Is w k kids A n c → Ty.Is w k' kids' A' n' c' →
    Calls Tryz.prog 8 #[.agg #[.int .i8 k, .slice A n c], .agg #[.int .i8 k', .slice A' n' c']] w fun e w' => e = .returned (.bool (Ty.eqT k kids k' kids')) ∧ Below w.heap.size w w' := by
  induction K with
  | zero => intro _ _ _ _ _ _ _ _ _ _ _ h; omega
  | succ K ih =>
    intro k kids A n c k' kids' A' n' c' w hK hIs hIs'
    have i5 : (n : Int) ≤ 9223372036854775807 := by have h1 := hIs.n_le; have h2 := hIs.c_le; unfold maxLen at h2; omega
    obtain ⟨hB0, hR0, hR1⟩ := two_boxes w k A n c k' A' n' c'
    have HI := Lib.hid hIs
    have HI' := Lib.hid hIs'
    have IH := Lib.hid ih
    clear ih hIs hIs'
    obtain ⟨b0, b1, _, _, hb0⟩ := own2 hR0
    obtain ⟨d0, d1, _, _, hd0⟩ := own2 hR1
    cases hk : (k == k')
    · have hres : Ty.eqT k kids k' kids' = false := by unfold Ty.eqT; rw [hk]; rfl
      have hk2 : (k != k') = true := by rw [bne, hk]; rfl
      rw [hres]
      clear hres hR0 hR1 hk
      go_enter Tryz.func8, Tryz.ntmps8
      go_wp2_with fail
      go_ret
      exact ⟨rfl, hB0⟩
    · have hres : Ty.eqT k kids k' kids' = Ty.eqF kids kids' := by unfold Ty.eqT; rw [hk]; rfl
      have hk2 : (k != k') = false := by rw [bne, hk]; rfl
      by_cases hnn : n = n'
      case neg =>
        have hne : Ty.eqF kids kids' = false := by
          have h1 := HI.out.n_eq
          have h2 := HI'.out.n_eq
          exact Ty.eqF_ne _ _ (by omega)
        have i6 : (n' : Int) ≤ 9223372036854775807 := by have h1 := HI'.out.n_le; have h2 := HI'.out.c_le; unfold maxLen at h2; omega
        have hn2 : ((n : Int) != (n' : Int)) = true := by simp; omega
        rw [hres, hne]
        clear hres hR0 hR1 hk hne hnn
        go_enter Tryz.func8, Tryz.ntmps8
        go_wp2_with fail
        go_ret
        exact ⟨rfl, hB0⟩
      subst hnn
      have hn2 : ((n : Int) != (n : Int)) = false := by simp
      rw [hres]
      obtain ⟨R, hR⟩ : ∃ R, Ty.eqF kids kids' = R := ⟨_, rfl⟩
      rw [hR]
      have HR := Lib.hid hR
      have hlies2 := HI'.out.lies.below hB0
      have hst := Over.start (HI.out.lies.below hB0) HI.out.n_eq
      have hst2 : Over2 w _ A' n 0 kids' := ⟨by have := HI'.out.n_eq; omega, hlies2⟩
      clear hres hR0 hR1 hR hlies2
      generalize hw1 : (w.alloc (.cells #[.int .i8 k, .slice A n c] 25)).alloc (.cells #[.int .i8 k', .slice A' n c'] 25) = w1 at *
      have HS := Lib.hid hst
      have HS2 := Lib.hid hst2
      have HW := Lib.hid hw1
      clear hst hst2 hw1
      go_enter Tryz.func8, Tryz.ntmps8
      go_wp2_with fail
      rw [HW.out]
      go_loopw [5] (fun v5 wr => ∃ (i : Nat) (r1 r2 : Fo), v5 = .int .i64 i ∧ Over w1 wr A n (Ty.nodes kids) i r1 ∧ Over2 w wr A' n i r2 ∧ Ty.eqF r1 r2 = R) (fun v _ => n - (intOf v).toNat)
      case atStart => exact ⟨0, kids, kids', rfl, HS.out, HS2.out, HR.out⟩
      case round =>
        obtain ⟨i, r1, r2, rfl, hO, hO2, hRR⟩ := hrel
        have hbB := hB0.trans (hO.below.mono hB0.size)
        obtain ⟨e0, e1⟩ := hO.box b0 b1
        obtain ⟨g0, g1⟩ := hO.box d0 d1
        clear b0 b1 d0 d1
        cases r1 with
        | nil =>
          have hi : i = n := by have := hO.i_eq; simpa [Ty.len] using this
          have hr2 : r2 = .nil := by
            have := hO2.i_eq
            cases r2 with
            | nil => rfl
            | node _ _ _ _ _ => simp only [Ty.len] at this; omega
          subst hr2
          clear hO hO2
          simp only [Ty.eqF] at hRR
          subst hi
          subst hRR
          go_wp2_with fail
          go_ret
          exact ⟨rfl, hbB⟩
        | node a b kk kks r =>
          cases r2 with
          | nil => have q1 := hO.i_eq; have q2 := hO2.i_eq; simp only [Ty.len] at q1 q2; omega
          | node a2 b2 kk2 kks2 s =>
          have hst := fun w2 hb => Over.step (w2 := w2) hO hb
          have h1 := hO.i_eq
          have h2 := hO.lies
          have h3 := hO.sub
          have q1 := hO2.i_eq
          have q2 := hO2.lies
          simp only [Ty.len, Ty.nodes, Ty.eqF] at h1 h3 hRR q1
          obtain ⟨bb, oo, B, c9, rfl, ⟨hk1, hk2'⟩, c1', c2', hl1, hl2, hl3, hl4⟩ := h2
          obtain ⟨bb2, oo2, B2, c3, rfl, ⟨gk1, gk2⟩, x1, x2, gl1, gl2, gl3, gl4⟩ := q2
          have hcall := fun (W : World) (hb : Below wr.heap.size wr W) => IH.out kk kks B (Ty.len kks) c9 kk2 kks2 B2 (Ty.len kks2) c3 W (by omega) ⟨hl3.below hb, rfl, hl1, hl2, hk1, hk2'⟩ ⟨gl3.below hb, rfl, gl1, gl2, gk1, gk2⟩
          have HST := Lib.hid hst
          have HL := Lib.hid hl4
          have HL2 := Lib.hid gl4
          have HC := Lib.hid hcall
          have HRR := Lib.hid hRR
          have j1 : (i : Int) < n := by omega
          have j2 : (0 : Int) ≤ i ∧ (i : Int) < n := by omega
          have hBd := Lib.hid (below_drewN (Below.refl wr.heap.size wr) 1)
          clear hst hl3 hl4 gl3 gl4 hcall hO hO2 hRR
          cases hp : Ty.eqT kk kks kk2 kks2
          · have hp0 : R = false := by rw [← HRR.out]; unfold Ty.eqT at hp; rw [hp]; rfl
            rw [hp] at HC
            subst hp0
            clear hp
            go_wp2_with fail
            go_still_tail 10, (by kernel_rfl)
            change wpList _ _ _ _ _ (wr.drewN 1)
            have hbB1 := hbB.trans (hBd.out.mono hbB.size)
            have hsz : (wr.drewN 1).heap.size = wr.heap.size := rfl
            clear e0 e1 g0 g1 c1' c2' x1 x2
            generalize wr.drewN 1 = w2 at *
            go_wp2_with fail
            refine (HC.out _ hBd.out).mono ?_
            rintro e w3 ⟨rfl, hb⟩
            go_wp2_with fail
            go_ret
            exact ⟨rfl, hbB1.trans (hb.mono hbB1.size)⟩
          · have hp0 := HRR.out
            unfold Ty.eqT at hp
            rw [hp, Bool.true_and] at hp0
            have HP := Lib.hid hp0
            rw [show Ty.eqT kk kks kk2 kks2 = true from hp] at HC
            clear hp hp0
            go_wp2_with fail
            go_still_tail 10, (by kernel_rfl)
            change wpList _ _ _ _ _ (wr.drewN 1)
            have hsz : (wr.drewN 1).heap.size = wr.heap.size := rfl
            clear e0 e1 g0 g1 c1' c2' x1 x2
            generalize wr.drewN 1 = w2 at *
            go_wp2_with fail
            refine (HC.out _ hBd.out).mono ?_
            rintro e w3 ⟨rfl, hb⟩
            have hB2 : Below wr.heap.size wr w3 := hBd.out.trans (hb.mono (by omega))
            have hbb := Lib.hid (HST.out w3 hB2 HL.out)
            have hbb2 : Hid (Over2 w w3 (some ⟨bb2, oo2, none⟩) n (i + 1) s) := Lib.hid ⟨by omega, HL2.out.below hB2⟩
            clear hb hB2 hsz
            go_wp2_with fail
            go_roundw
            case rel => exact ⟨i + 1, r, s, by go_num, hbb.out, hbb2.out, HP.out⟩
            case measure => simp [intOf]; omega
end Go.Proofs.YtmcmdlaedpdoiaaGreatDoor
