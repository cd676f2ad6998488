/-
  types.formed, types.known, types.Check and what calls it.
-/
import Derived.Test.YtknhoagicdfikaaGreatDoorM5
import Derived.StillTailTactics
namespace Go.Proofs.YtknhoagicdfikaaGreatDoor
open Go.RowKit

/-- the table of shapes, cell by cell -/
def shapeCells : List Value :=
  [.int .i8 4, .string ⟨#[63]⟩, .int .i64 0, .int .i64 4,
   .int .i8 3, .string ⟨#[105, 110, 116]⟩, .int .i64 0, .int .i64 4,
   .int .i8 3, .string ⟨#[98, 111, 111, 108]⟩, .int .i64 0, .int .i64 4,
   .int .i8 4, .string ⟨#[45, 62]⟩, .int .i64 2, .int .i64 1,
   .int .i8 4, .string ⟨#[42]⟩, .int .i64 2, .int .i64 3,
   .int .i8 4, .string ⟨#[43]⟩, .int .i64 2, .int .i64 2]
def Shapes (w : World) : Prop := 1 < w.heap.size ∧ ∀ i v, shapeCells[i]? = some v → w.cell? ⟨1, i, none⟩ = some v
theorem Shapes.below {w w' : World} (h : Shapes w) (hb : Below w.heap.size w w') : Shapes w' :=
  ⟨Nat.lt_of_lt_of_le h.1 hb.size, fun i v hv => by rw [hb.cell (p := ⟨1, i, none⟩) h.1]; exact h.2 i v hv⟩
theorem Shapes.alloc {w : World} (h : Shapes w) (o : Obj) : Shapes (w.alloc o) := h.below ((Below.refl _ _).alloc (Nat.le_refl _) _)

theorem cf_formed (args : Array Value) (W : World) : (callFunc 32 args).run Tryz.prog W = .ok (.enter 32 args) W := by simp [go_sem]

theorem cell_lt' {w : World} {b o : Nat} {v : Value} (h1 : w.cell? ⟨b, o, none⟩ = some v) : b < w.heap.size := Ty.cell_lt h1

namespace Ty
def okT (k : Int) (kids : Fo) : Bool := okK k (len kids) && okF kids
theorem okF_all : ∀ f : Fo, allF okT f = okF f
  | .nil => rfl
  | .node _ _ k kids r => by simp only [allF, okF, okT]; rw [okF_all r]
end Ty

/-- the table's word on a kind's parts -/
theorem shapes_parts {w : World} (h : Shapes w) (k : Int) (h1 : 0 ≤ k) (h2 : k ≤ 5) : ∃ P : Nat, w.cell? ⟨1, k.toNat * 4 + 2, none⟩ = some (.int .i64 P) ∧ (∀ n : Nat, Ty.okK k n = decide ((n : Int) = P)) ∧ (P = if k ≤ 2 then 0 else 2) := by
  have hk : k = 0 ∨ k = 1 ∨ k = 2 ∨ k = 3 ∨ k = 4 ∨ k = 5 := by omega
  rcases hk with rfl | rfl | rfl | rfl | rfl | rfl
  · exact ⟨0, h.2 2 _ rfl, fun n => by rw [Bool.eq_iff_iff]; simp [Ty.okK] <;> omega, rfl⟩
  · exact ⟨0, h.2 6 _ rfl, fun n => by rw [Bool.eq_iff_iff]; simp [Ty.okK] <;> omega, rfl⟩
  · exact ⟨0, h.2 10 _ rfl, fun n => by rw [Bool.eq_iff_iff]; simp [Ty.okK] <;> omega, rfl⟩
  · exact ⟨2, h.2 14 _ rfl, fun n => by rw [Bool.eq_iff_iff]; simp [Ty.okK] <;> omega, rfl⟩
  · exact ⟨2, h.2 18 _ rfl, fun n => by rw [Bool.eq_iff_iff]; simp [Ty.okK] <;> omega, rfl⟩
  · exact ⟨2, h.2 22 _ rfl, fun n => by rw [Bool.eq_iff_iff]; simp [Ty.okK] <;> omega, rfl⟩

set_option maxHeartbeats 1000000 in
set_option maxRecDepth 100000 in
theorem formed_any (K : Nat) : ∀ (k : Int) (kids : Fo) (A : Option Addr) (n c : Nat) (w : World), Ty.nodes kids < K → Ty.Is w k kids A n c → Shapes w →
    Calls Tryz.prog 32 #[.agg #[.int .i8 k, .slice A n c]] w fun e w' => e = .returned (.bool (Ty.okT k kids)) ∧ Below w.heap.size w w' := by
  induction K with
  | zero => intro _ _ _ _ _ _ h; omega
  | succ K ih =>
    intro k kids A n c w hK hIs hS
    have hlo := hIs.lo
    have hhi := hIs.hi
    have hneq := hIs.n_eq
    have hle := hIs.n_le
    have hcl := hIs.c_le
    have i5 : (n : Int) ≤ 9223372036854775807 := by unfold maxLen at hcl; omega
    by_cases hr : 0 ≤ k ∧ k ≤ 5
    · obtain ⟨P, hP1, hP2, hP3⟩ := shapes_parts hS k hr.1 hr.2
      by_cases hl : (n : Int) = P
      · have hall := fun (W : World) (hb : Below w.heap.size w W) => all_any 32 Ty.okT kids A n c W (hIs.lies.below hb) hneq hle hcl cf_formed
          (fun k' kids' A' n' c' W' h1 h2 h3 => ih k' kids' A' n' c' W' (by omega) h2 ((hS.below hb).below h3))
        rw [Ty.okF_all] at hall
        have hres : Ty.okT k kids = Ty.okF kids := by unfold Ty.okT; rw [hP2, ← hneq]; simp [hl]
        rw [hres]
        have HA := Lib.hid hall
        have hd1 : decide ((0 : Int) ≤ k) = true := by simpa using hr.1
        have hd2 : decide (k < (6 : Int)) = true := by simp; omega
        have hw : IntKind.i64.wrap k = k := IntWalk.i64_in _ (by omega)
        have hd3 : ((n : Int) == (P : Int)) = true := by simpa using hl
        have hB0 := (Below.refl w.heap.size w).alloc (Nat.le_refl _) (.cells #[.int .i8 k, .slice A n c] 25)
        have hix : 0 ≤ k ∧ k < 6 := ⟨hr.1, by omega⟩
        clear hr
        clear hall hres hP2 hP3 hS hIs ih hneq hl
        go_enter Tryz.func32, Tryz.ntmps32
        go_wp2_with fail
        have hP2 : (w.alloc (.cells #[.int .i8 k, .slice A n c] 25)).cell? ⟨1, k.toNat * 4 + 2, none⟩ = some (.int .i64 P) := by rw [(bcell hB0).1 _ _ (cell_lt' hP1)]; exact hP1
        obtain ⟨b0, b1, _, _, hbl⟩ := own2 (heap_new w (.cells #[.int .i8 k, .slice A n c] 25))
        generalize w.alloc (.cells #[.int .i8 k, .slice A n c] 25) = w1 at *
        go_still_tail 23, (by kernel_rfl)
        change wpList _ _ _ _ _ w1.drew
        replace hB0 := hB0.drew
        clear b0 b1 hP2 hbl hP1 hix hw hd1 hd2 hd3
        generalize w1.drew = w2 at *
        go_wp2_with fail
        refine (HA.out _ hB0).mono ?_
        rintro e w3 ⟨rfl, hb⟩
        go_wp2_with fail
        go_ret
        exact ⟨rfl, hB0.trans (hb.mono hB0.size)⟩
      · have hres : Ty.okT k kids = false := by unfold Ty.okT; rw [hP2, ← hneq]; simp [hl]
        rw [hres]
        have hd1 : decide ((0 : Int) ≤ k) = true := by simpa using hr.1
        have hd2 : decide (k < (6 : Int)) = true := by simp; omega
        have hw : IntKind.i64.wrap k = k := IntWalk.i64_in _ (by omega)
        have hd3 : ((n : Int) == (P : Int)) = false := by simpa using hl
        have hB0 := (Below.refl w.heap.size w).alloc (Nat.le_refl _) (.cells #[.int .i8 k, .slice A n c] 25)
        have hix : 0 ≤ k ∧ k < 6 := ⟨hr.1, by omega⟩
        clear hr hres hP3 hS hIs ih hneq hl
        go_enter Tryz.func32, Tryz.ntmps32
        go_wp2_with fail
        have hP2 : (w.alloc (.cells #[.int .i8 k, .slice A n c] 25)).cell? ⟨1, k.toNat * 4 + 2, none⟩ = some (.int .i64 P) := by rw [(bcell hB0).1 _ _ (cell_lt' hP1)]; exact hP1
        obtain ⟨b0, b1, _, _, hbl⟩ := own2 (heap_new w (.cells #[.int .i8 k, .slice A n c] 25))
        generalize w.alloc (.cells #[.int .i8 k, .slice A n c] 25) = w1 at *
        go_quiet (fail)
        go_wp2_with fail
        go_ret
        exact ⟨rfl, below_drewN hB0 _⟩
    · have hres : Ty.okT k kids = false := by unfold Ty.okT Ty.okK; rw [if_neg (by omega), if_neg (by omega)]; rfl
      rw [hres]
      clear hres hIs ih hS hneq
      by_cases h0 : (0 : Int) ≤ k
      · have hd1 : decide ((0 : Int) ≤ k) = true := by simpa using h0
        have hd2 : decide (k < (6 : Int)) = false := by simp; omega
        clear hr
        go_enter Tryz.func32, Tryz.ntmps32
        go_wp2_with fail
        go_quiet (fail)
        go_wp2_with fail
        go_ret
        exact ⟨rfl, below_drewN ((Below.refl _ _).alloc (Nat.le_refl _) _) _⟩
      · have hd1 : decide ((0 : Int) ≤ k) = false := by simpa using h0
        clear hr
        go_enter Tryz.func32, Tryz.ntmps32
        go_wp2_with fail
        go_quiet (fail)
        go_wp2_with fail
        go_ret
        exact ⟨rfl, below_drewN ((Below.refl _ _).alloc (Nat.le_refl _) _) _⟩

/-! known -/
theorem cf_known (args : Array Value) (W : World) : (callFunc 18 args).run Tryz.prog W = .ok (.enter 18 args) W := by simp [go_sem]
namespace Ty
def knT (k : Int) (kids : Fo) : Bool := (k != 0) && knF kids
theorem knF_all : ∀ f : Fo, allF knT f = knF f
  | .nil => rfl
  | .node _ _ k kids r => by simp only [allF, knF, knT]; rw [knF_all r]
end Ty

set_option maxHeartbeats 1000000 in
set_option maxRecDepth 100000 in
theorem known_any (K : Nat) : ∀ (k : Int) (kids : Fo) (A : Option Addr) (n c : Nat) (w : World), Ty.nodes kids < K → Ty.Is w k kids A n c →
    Calls Tryz.prog 18 #[.agg #[.int .i8 k, .slice A n c]] w fun e w' => e = .returned (.bool (Ty.knT k kids)) ∧ Below w.heap.size w w' := by
  induction K with
  | zero => intro _ _ _ _ _ _ h; omega
  | succ K ih =>
    intro k kids A n c w hK hIs
    have hall := fun (W : World) (hb : Below w.heap.size w W) => all_any 18 Ty.knT kids A n c W (hIs.lies.below hb) hIs.n_eq hIs.n_le hIs.c_le cf_known
      (fun k' kids' A' n' c' W' h1 h2 _ => ih k' kids' A' n' c' W' (by omega) h2)
    rw [Ty.knF_all] at hall
    have HA := Lib.hid hall
    clear hall hIs ih
    cases hk : (k != 0)
    · have hres : Ty.knT k kids = false := by unfold Ty.knT; rw [hk]; rfl
      rw [hres]
      go_enter Tryz.func18, Tryz.ntmps18
      go_wp2_with fail
      go_ret
      exact ⟨rfl, (Below.refl _ _).alloc (Nat.le_refl _) _⟩
    · have hres : Ty.knT k kids = Ty.knF kids := by unfold Ty.knT; rw [hk]; rfl
      rw [hres]
      have hB0 := (Below.refl w.heap.size w).alloc (Nat.le_refl _) (.cells #[.int .i8 k, .slice A n c] 25)
      clear hres
      go_enter Tryz.func18, Tryz.ntmps18
      go_wp2_with fail
      refine (HA.out _ hB0).mono ?_
      rintro e w3 ⟨rfl, hb⟩
      go_wp2_with fail
      go_ret
      exact ⟨rfl, hB0.trans (hb.mono hB0.size)⟩

/-! Check, Nodes, Depth, Known -/
set_option maxHeartbeats 1000000 in
set_option maxRecDepth 100000 in
theorem check_any (k : Int) (kids : Fo) (A : Option Addr) (n c : Nat) (w : World) (hIs : Ty.Is w k kids A n c) (hS : Shapes w) :
    Calls Tryz.prog 15 #[.agg #[.int .i8 k, .slice A n c]] w fun e w' => e = .returned (.int .i64 (Ty.chk k kids)) ∧ Below w.heap.size w w' := by
  have hm := fun (W : World) (hb : Below w.heap.size w W) => measure_any k kids A n c W (hIs.below hb)
  have hf := fun (W : World) (hb : Below w.heap.size w W) => formed_any (Ty.nodes kids + 1) k kids A n c W (by omega) (hIs.below hb) (hS.below hb)
  have HM := Lib.hid hm
  have HF := Lib.hid hf
  have hB0 := (Below.refl w.heap.size w).alloc (Nat.le_refl _) (.cells #[.int .i8 k, .slice A n c] 25)
  clear hm hf hIs hS
  by_cases h1 : 8192 < Ty.nodes kids + 1
  · have e1 : Ty.chk k kids = 32 := by unfold Ty.chk; rw [if_pos h1]
    have e2 : ((Ty.nod kids : Nat) : Int) = 8193 := by unfold Ty.nod; omega
    rw [e1]
    rw [e2] at HM
    clear e2 e1 h1
    go_enter Tryz.func15, Tryz.ntmps15
    go_wp2_with fail
    refine (HM.out _ hB0).mono ?_
    rintro e w3 ⟨rfl, hb⟩
    go_wp2_with fail
    go_ret
    exact ⟨rfl, hB0.trans (hb.mono hB0.size)⟩
  · have e2 : ((Ty.nod kids : Nat) : Int) ≤ 8192 := by unfold Ty.nod; omega
    have e4 : Ty.dpt kids = min (Ty.dep kids + 1) 201 := by unfold Ty.dpt; rw [if_neg h1]
    by_cases h2 : 200 < Ty.dep kids + 1
    · have e1 : Ty.chk k kids = 31 := by unfold Ty.chk; rw [if_neg h1, if_pos h2]
      have e3 : ((Ty.dpt kids : Nat) : Int) = 201 := by rw [e4]; omega
      rw [e1]
      rw [e3] at HM
      generalize Ty.nod kids = N at *
      clear e3 e1 h1 h2 e4
      go_enter Tryz.func15, Tryz.ntmps15
      go_wp2_with fail
      refine (HM.out _ hB0).mono ?_
      rintro e w3 ⟨rfl, hb⟩
      go_wp2_with fail
      go_ret
      exact ⟨rfl, hB0.trans (hb.mono hB0.size)⟩
    · have e3 : ((Ty.dpt kids : Nat) : Int) ≤ 200 := by rw [e4]; omega
      have e1 : Ty.chk k kids = if Ty.okT k kids then 0 else 20 := by unfold Ty.chk; rw [if_neg h1, if_neg h2]; rfl
      rw [e1]
      generalize Ty.nod kids = N at *
      generalize Ty.dpt kids = D at *
      clear e1 h1 h2 e4
      cases ho : Ty.okT k kids
      all_goals
        rw [ho] at HF
        clear ho
        go_enter Tryz.func15, Tryz.ntmps15
        go_wp2_with fail
        refine (HM.out _ hB0).mono ?_
        rintro e w3 ⟨rfl, hb⟩
        have hB1 := hB0.trans (hb.mono hB0.size)
        obtain ⟨b0, b1, _, _, _⟩ := own2 (heap_below hb (by simp) (heap_new w (.cells #[.int .i8 k, .slice A n c] 25)))
        clear hb
        go_wp2_with fail
        refine (HF.out _ hB1).mono ?_
        rintro e w4 ⟨rfl, hb⟩
        go_wp2_with fail
        go_ret
        exact ⟨rfl, hB1.trans (hb.mono hB1.size)⟩
end Go.Proofs.YtknhoagicdfikaaGreatDoor
