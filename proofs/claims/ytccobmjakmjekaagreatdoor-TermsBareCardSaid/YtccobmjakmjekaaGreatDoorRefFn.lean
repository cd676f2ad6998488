/-
  The reference's Same, Known, Of, Ground; types.Ground.
-/
import Derived.Test.YtccobmjakmjekaaGreatDoorRefEq
import Derived.Deep.OwnRows
namespace Go.Proofs.YtccobmjakmjekaaGreatDoor
open Go.RowKit

theorem Ty.chk_ok {k : Int} {kids : Fo} (h : Ty.chk k kids = 0) : Ty.okT k kids = true ∧ Ty.nodes kids + 1 ≤ 8192 ∧ Ty.dep kids + 1 ≤ 200 := by
  unfold Ty.chk at h
  split at h
  · cases h
  · split at h
    · cases h
    · split at h
      · rename_i h1 h2 h3; exact ⟨h3, by omega, by omega⟩
      · cases h

set_option maxHeartbeats 2000000 in
set_option maxRecDepth 100000 in
theorem ref_same (k : Int) (kids : Fo) (A : Option Addr) (n c : Nat) (k' : Int) (kids' : Fo) (A' : Option Addr) (n' c' : Nat) (w : World) (hIs : Ty.Is w k kids A n c) (hIs' : Ty.Is w k' kids' A' n' c') :
    Calls Tryz.prog 61 #[.agg #[.int .i8 k, .slice A n c], .agg #[.int .i8 k', .slice A' n' c']] w fun e w' => e = .returned (.bool (Ty.sameT k kids k' kids')) ∧ Below w.heap.size w w' := by
  obtain ⟨hB0, hR0, hR1⟩ := two_boxes w k A n c k' A' n' c'
  have HM := Lib.hid (fun (W : World) (hb : Below w.heap.size w W) => ref_check k kids A n c W (hIs.below hb))
  have HN := Lib.hid (fun (W : World) (hb : Below w.heap.size w W) => ref_check k' kids' A' n' c' W (hIs'.below hb))
  have HK := Lib.hid (fun (W : World) (hb : Below w.heap.size w W) => ref_equal (Ty.nodes kids + 1) k kids A n c k' kids' A' n' c' W (by omega) (hIs.below hb) (hIs'.below hb))
  have R0 := Lib.hid hR0
  have R1 := Lib.hid hR1
  clear hIs hIs' hR0 hR1
  by_cases h0 : Ty.chk k kids = 0
  · by_cases h1 : Ty.chk k' kids' = 0
    · have hres : Ty.sameT k kids k' kids' = Ty.eqT k kids k' kids' := by unfold Ty.sameT; rw [h0, h1]; rfl
      have HK2 := Lib.hid (fun W hb => HK.out W hb (Ty.chk_ok h0).1 (Ty.chk_ok h1).1)
      rw [hres]
      rw [h0] at HM
      rw [h1] at HN
      clear hres h0 h1 HK
      go_enter Tryz.func61, Tryz.ntmps61
      go_wp2_with fail
      refine (HM.out _ hB0).mono ?_
      rintro e w3 ⟨rfl, hb⟩
      have hB1 := hB0.trans (hb.mono hB0.size)
      have hR0 := heap_below hb (heap_lt R0.out) R0.out
      have hR1 := heap_below hb (heap_lt R1.out) R1.out
      obtain ⟨b0, b1, _, _, _⟩ := own2 hR0
      obtain ⟨d0, d1, _, _, _⟩ := own2 hR1
      have HR0 := Lib.hid hR0
      have HR1 := Lib.hid hR1
      clear hb hR0 hR1
      go_wp2_with fail
      refine (HN.out _ hB1).mono ?_
      rintro e w4 ⟨rfl, hb⟩
      have hB2 := hB1.trans (hb.mono hB1.size)
      obtain ⟨b0, b1, _, _, _⟩ := own2 (heap_below hb (heap_lt HR0.out) HR0.out)
      obtain ⟨d0, d1, _, _, _⟩ := own2 (heap_below hb (heap_lt HR1.out) HR1.out)
      clear hb
      go_wp2_with fail
      refine (HK2.out _ hB2).mono ?_
      rintro e w5 ⟨rfl, hb⟩
      go_wp2_with fail
      go_ret
      exact ⟨rfl, hB2.trans (hb.mono hB2.size)⟩
    · have hres : Ty.sameT k kids k' kids' = false := by unfold Ty.sameT; simp [h1]
      rw [hres]
      rw [h0] at HM
      have hc : (((Ty.chk k' kids' : Nat) : Int) == 0) = false := by simp; omega
      generalize Ty.chk k' kids' = C at *
      clear hres h0 h1 HK
      go_enter Tryz.func61, Tryz.ntmps61
      go_wp2_with fail
      refine (HM.out _ hB0).mono ?_
      rintro e w3 ⟨rfl, hb⟩
      have hB1 := hB0.trans (hb.mono hB0.size)
      obtain ⟨d0, d1, _, _, _⟩ := own2 (heap_below hb (heap_lt R1.out) R1.out)
      clear hb
      go_wp2_with fail
      refine (HN.out _ hB1).mono ?_
      rintro e w4 ⟨rfl, hb⟩
      go_wp2_with fail
      go_ret
      exact ⟨rfl, hB1.trans (hb.mono hB1.size)⟩
  · have hres : Ty.sameT k kids k' kids' = false := by unfold Ty.sameT; simp [h0]
    rw [hres]
    have hc : (((Ty.chk k kids : Nat) : Int) == 0) = false := by simp; omega
    generalize Ty.chk k kids = C at *
    clear hres h0 HK
    go_enter Tryz.func61, Tryz.ntmps61
    go_wp2_with fail
    refine (HM.out _ hB0).mono ?_
    rintro e w3 ⟨rfl, hb⟩
    go_wp2_with fail
    go_ret
    exact ⟨rfl, hB0.trans (hb.mono hB0.size)⟩

namespace Ty
/-- two parts -/
def two (k : Int) (kids : Fo) (k' : Int) (kids' : Fo) : Fo := .node 0 0 k kids (.node 0 0 k' kids' .nil)
/-- a block of two types' cells -/
theorem lies_two {w : World} {N : Nat} {k k' : Int} {kids kids' : Fo} {A A' : Option Addr} {n c n' c' : Nat} {t : TypeId} (h : w.heap[N]? = some (.cells #[.int .i8 k, .slice A n c, .int .i8 k', .slice A' n' c'] t (0, 0))) (h1 : Is w k kids A n c) (h2 : Is w k' kids' A' n' c') :
    Lies w (two k kids k' kids') (some ⟨N, 0, none⟩) 0 := by
  refine ⟨N, 0, A, c, rfl, ⟨h1.lo, h1.hi⟩, by simp [World.cell?, h], by rw [← h1.n_eq]; simp [World.cell?, h], by rw [← h1.n_eq]; exact h1.n_le, h1.c_le, h1.lies, ?_⟩
  exact ⟨N, 0, A', c', rfl, ⟨h2.lo, h2.hi⟩, by simp [World.cell?, h], by rw [← h2.n_eq]; simp [World.cell?, h], by rw [← h2.n_eq]; exact h2.n_le, h2.c_le, h2.lies, trivial⟩
end Ty

/-- what Of leaves: a type in new memory -/
def OfPost (w : World) (kd k : Int) (kids : Fo) (k' : Int) (kids' : Fo) (e : Ending) (w' : World) : Prop :=
  ∃ N, e = .returned (.agg #[.int .i8 kd, .slice (some ⟨N, 0, none⟩) 2 2]) ∧ w.heap.size ≤ N ∧ Ty.Is w' kd (Ty.two k kids k' kids') (some ⟨N, 0, none⟩) 2 2 ∧ Below w.heap.size w w'

/-- .. cell by cell -/
def OfRaw (w : World) (kd k : Int) (A : Option Addr) (n c : Nat) (k' : Int) (A' : Option Addr) (n' c' : Nat) (e : Ending) (w' : World) : Prop :=
  ∃ N, e = .returned (.agg #[.int .i8 kd, .slice (some ⟨N, 0, none⟩) 2 2]) ∧ w.heap.size ≤ N ∧ w'.heap[N]? = some (.cells #[.int .i8 k, .slice A n c, .int .i8 k', .slice A' n' c'] 25 (0, 0)) ∧ Below w.heap.size w w'

namespace Ty
def gOk (k : Int) (kids : Fo) : Bool := (chk k kids == 0) && (k != 0)
def gK (k : Int) (kids : Fo) : Int := if chk k kids = 0 then k else 0
def gKids (k : Int) (kids : Fo) : Fo := if chk k kids = 0 ∧ 3 ≤ k then two 0 .nil 0 .nil else .nil
theorem is_nil (w : World) (k : Int) (h1 : -128 ≤ k) (h2 : k ≤ 127) : Is w k .nil none 0 0 := ⟨trivial, rfl, Nat.le_refl _, Nat.zero_le _, h1, h2⟩
end Ty
/-- what Ground leaves: a ground in new memory, and whether there is one -/
def GroundPost (w : World) (k : Int) (kids : Fo) (e : Ending) (w' : World) : Prop :=
  ∃ G m c, e = .returned (.tuple #[.agg #[.int .i8 (Ty.gK k kids), .slice G m c], .bool (Ty.gOk k kids)]) ∧ Ty.Is w' (Ty.gK k kids) (Ty.gKids k kids) G m c ∧
    (G = none ∨ ∃ g, G = some ⟨g, 0, none⟩ ∧ w.heap.size ≤ g ∧ m = 2 ∧ w'.heap[g]? = some (.cells #[.int .i8 0, .slice none 0 0, .int .i8 0, .slice none 0 0] 25 (0, 0))) ∧ Below w.heap.size w w'

theorem Ty.okT_range {k : Int} {kids : Fo} (h : Ty.okT k kids = true) : k = 0 ∨ k = 1 ∨ k = 2 ∨ k = 3 ∨ k = 4 ∨ k = 5 := by
  unfold Ty.okT Ty.okK at h
  split at h
  · omega
  · split at h
    · omega
    · simp at h

end Go.Proofs.YtccobmjakmjekaaGreatDoor
