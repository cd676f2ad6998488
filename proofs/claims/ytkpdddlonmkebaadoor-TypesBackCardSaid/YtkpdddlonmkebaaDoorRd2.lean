/-
  The reader goes on, or gives up; which kind the word at hand is for.
-/
import Derived.Test.YtkpdddlonmkebaaDoorRd1
namespace Go.Proofs.YtkpdddlonmkebaaDoor
open Go.RowKit Rd

theorem rdr_set {w : World} {rb n c i : Nat} {A : Option Addr} (h : Rdr w rb A n c i) (j : Nat) : Rdr (w.setCell ⟨rb, 1, none⟩ (.int .i64 j)) rb A n c j := by
  unfold Rdr at h ⊢
  simp [World.setCell, Array.getElem?_modify, h]

set_option maxHeartbeats 4000000 in
set_option maxRecDepth 100000 in
theorem want_yes (A : Option Addr) (n c rb i : Nat) (w : World) (hi : i < maxLen) (hR : Rdr w rb A n c i) :
    Calls Tryd.prog 61 #[.pointer (some ⟨rb, 0, none⟩), .bool true] w fun e w' => e = .returned (.tuple #[]) ∧ Rdr w' rb A n c (i + 1) ∧ w.grownBy w' (some rb) := by
  obtain ⟨r0, r1, f0, f1, hrl⟩ := own2 hR
  have HR := Lib.hid (rdr_set hR (i + 1))
  have j1 : (i : Int) + 1 ≤ 9223372036854775807 := by unfold maxLen at hi; omega
  have hcast : ((i + 1 : Nat) : Int) = (i : Int) + 1 := by omega
  rw [hcast] at HR
  have HG : Hid (w.grownBy (w.setCell ⟨rb, 1, none⟩ (.int .i64 ((i : Int) + 1))) (some rb)) := Lib.hid (only_setCell (only_refl w rb) (.inl rfl) _)
  clear hR hcast
  go_enter Tryd.func61, Tryd.ntmps61
  go_wp2_with fail
  go_end0
  exact ⟨rfl, HR.out, HG.out⟩

/-- what giving up leaves: a fault, in new memory -/
def GaveUp (l : List W4) (i : Nat) (w : World) (e : Ending) (w' : World) : Prop :=
  ∃ g, e = .panicked [{ v := .iface 53 (.pointer (some ⟨g, 0, none⟩)), recovered := false }] ∧ w'.heap[g]? = some (.cells #[.int .i64 40, .int .i64 (Rd.fAt l i), .string (Rd.fWord l i)] 59 (0, 0)) ∧ w.heap.size ≤ g ∧ Below w.heap.size w w'

set_option maxHeartbeats 4000000 in
set_option maxRecDepth 100000 in
theorem want_no (l : List W4) (A : Option Addr) (c rb i : Nat) (w : World) (hl : l.length ≤ maxLen) (hi : i ≤ l.length) (hsm : ∀ x ∈ l, x.text.size ≤ 281474976710656) (hR : Rdr w rb A l.length c i) (hW : WRow w A l) :
    Calls Tryd.prog 61 #[.pointer (some ⟨rb, 0, none⟩), .bool false] w (GaveUp l i w) := by
  have HF := Lib.hid (fault_any l A c rb i w hl hi hsm hR hW)
  clear hR hW hsm
  go_enter Tryd.func61, Tryd.ntmps61
  go_wp2_with fail
  refine HF.out.mono ?_
  rintro e w2 ⟨g, rfl, hg, hgl, hb⟩
  have HP := Lib.hid (show GaveUp l i w _ w2 from ⟨g, rfl, hg, hgl, hb⟩)
  clear hg hgl hb
  go_wp2_with fail
  exact ⟨rfl, HP.out⟩
end Go.Proofs.YtkpdddlonmkebaaDoor
