/-
  P1.2: every text: scan.Key and scan.Name answer as the document's own answers do. The law's walk.
-/
import Derived.Test.YtjngdhbaobbaeaaDoorNameFn
import Derived.Test.YtjngdhbaobbaeaaDoorRefName
namespace Go.Proofs.YtjngdhbaobbaeaaDoor
open Go.RowKit

theorem isKey_let : Sc.isKey ⟨#[108, 101, 116]⟩ = true := by decide +kernel
theorem isName_x : Sc.isName ⟨#[120]⟩ = true := by decide +kernel

set_option maxHeartbeats 400000 in
set_option maxRecDepth 100000 in
theorem law_ScanWord (s : ByteArray) (hs : s.size ≤ 281474976710656) (w : World) (tp : TypeId) (p : Value) (hvar : w.var? Tryd.prog "strconv.ErrRange" = some #[.iface tp p]) :
    Calls Tryd.prog 4 #[.string s] w fun e w' => e = .returned (.bool true) ∧ Below w.heap.size w w' := by
  have k1 := scan_Key_any s
  have k2 := ref_Key_any s
  have k3 := scan_Key_any ⟨#[108, 101, 116]⟩
  rw [isKey_let] at k3
  have n1 := scan_Name_any s hs
  have n2 := ref_Name_any s
  have n3 := scan_Name_any ⟨#[120]⟩ (by decide)
  rw [isName_x] at n3
  have HV := Lib.hid hvar
  clear hvar
  generalize Sc.isKey s = bk at *
  generalize Sc.isName s = bn at *
  go_enter Tryd.func4, Tryd.ntmps4
  go_wp2_with fail
  refine (k1 _).mono ?_
  rintro e w1 ⟨rfl, rfl⟩
  go_wp2_with fail
  refine (k2 _).mono ?_
  rintro e w1 ⟨rfl, rfl⟩
  go_wp2_with fail
  refine (n1 _ tp p HV.out).mono ?_
  rintro e w1 ⟨rfl, hb1⟩
  go_wp2_with fail
  refine (n2 _).mono ?_
  rintro e w2 ⟨rfl, rfl⟩
  go_wp2_with fail
  refine (k3 _).mono ?_
  rintro e w2 ⟨rfl, rfl⟩
  go_wp2_with fail
  refine (n3 _ tp p (var_at hb1 HV.out)).mono ?_
  rintro e w3 ⟨rfl, hb3⟩
  go_wp2_with fail
  go_ret
  exact ⟨rfl, hb1.trans (hb3.mono hb1.size)⟩
end Go.Proofs.YtjngdhbaobbaeaaDoor
