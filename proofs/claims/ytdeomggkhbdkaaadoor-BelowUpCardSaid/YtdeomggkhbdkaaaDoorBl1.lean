/-
  below.two's tell: which row of the table speaks of two kinds, and what stands there; its functions are its fields'.
-/
import Derived.Test.YtdeomggkhbdkaaaDoorBl0
import Derived.Test.YtdeomggkhbdkaaaDoorRefFn
import Derived.Test.YtdeomggkhbdkaaaDoorLow
namespace Go.Proofs.YtdeomggkhbdkaaaDoor
open Go.RowKit

/-- what a function of two types tells of these two -/
def RC (f : FuncId) (k : Int) (kids : Fo) (k' : Int) (kids' : Fo) (r : Bool) : Prop :=
  ∀ (A : Option Addr) (n c : Nat) (A' : Option Addr) (n' c' : Nat) (w : World), Ty.Is w k kids A n c → Ty.Is w k' kids' A' n' c' → Shapes w →
    Calls Tryd.prog f #[.agg #[.int .i8 k, .slice A n c, .int .i8 k', .slice A' n' c']] w fun e w' => e = .returned (.bool r) ∧ Below w.heap.size w w'
/-- a function's value may be called -/
def CF (f : FuncId) : Prop := ∀ (args : Array Value) (W : World), (callFunc f args).run Tryd.prog W = .ok (.enter f args) W
/-- the boxes of tell's two arguments -/
theorem tell_boxes (w : World) (o1 o2 : Obj) : Below w.heap.size w ((w.alloc o1).alloc o2) := ((Below.refl _ _).alloc (Nat.le_refl _) _).alloc (by simp) _
theorem Ty.chk_of {k : Int} {f : Fo} (h1 : Ty.okT k f = true) (h2 : Ty.nodes f + 1 ≤ 8192) (h3 : Ty.dep f + 1 ≤ 200) : Ty.chk k f = 0 := by
  unfold Ty.chk
  rw [if_neg (by omega), if_neg (by omega)]
  exact if_pos h1

set_option maxHeartbeats 4000000 in
set_option maxRecDepth 100000 in
theorem tell_plain (fl fe fa fp : FuncId) (k : Int) (A : Option Addr) (n c : Nat) (k' : Int) (A' : Option Addr) (n' c' : Nat) (w : World) (r : Bool)
    (h : (k = 0 ∧ k' = 0 ∧ r = true) ∨ (k ≠ 0 ∧ k' ≠ 0 ∧ k ≠ k' ∧ r = false) ∨ (k ≠ 0 ∧ k = k' ∧ k ≠ 3 ∧ k ≠ 4 ∧ k ≠ 5 ∧ r = true)) :
    Calls Tryd.prog 34 #[.agg #[.int .i8 k, .slice A n c, .int .i8 k', .slice A' n' c'], .agg #[.func (Fn.func fl) #[] #[], .func (Fn.func fe) #[] #[], .func (Fn.func fa) #[] #[], .func (Fn.func fp) #[] #[]]] w fun e w' => e = .returned (.bool r) ∧ Below w.heap.size w w' := by
  obtain ⟨hR0, hR1, -⟩ := two_new w (.cells #[.int .i8 k, .slice A n c, .int .i8 k', .slice A' n' c'] 37) (.cells #[.func (Fn.func fl) #[] #[], .func (Fn.func fe) #[] #[], .func (Fn.func fa) #[] #[], .func (Fn.func fp) #[] #[]] 43)
  have hB := tell_boxes w (.cells #[.int .i8 k, .slice A n c, .int .i8 k', .slice A' n' c'] 37) (.cells #[.func (Fn.func fl) #[] #[], .func (Fn.func fe) #[] #[], .func (Fn.func fa) #[] #[], .func (Fn.func fp) #[] #[]] 43)
  generalize hw1 : (w.alloc (.cells #[.int .i8 k, .slice A n c, .int .i8 k', .slice A' n' c'] 37)).alloc (.cells #[.func (Fn.func fl) #[] #[], .func (Fn.func fe) #[] #[], .func (Fn.func fa) #[] #[], .func (Fn.func fp) #[] #[]] 43) = w1 at *
  have HW1 := Lib.hid hw1
  clear hw1
  obtain ⟨b0, b1, b2, b3, -, -, -, -, hb0⟩ := own4 hR0
  clear hR0 hR1
  go_enter Tryd.func34, Tryd.ntmps34
  go_wp2_with fail
  rw [HW1.out]
  go_quiet (fail)
  have HB := Lib.hid (below_drewN hB nq)
  clear hB b0 b1 b2 b3 hb0
  generalize w1.drewN nq = w2 at *
  rcases h with ⟨rfl, rfl, rfl⟩ | ⟨h1, h2, h3, rfl⟩ | ⟨h1, rfl, h3, h4, h5, rfl⟩
  · go_wp2_with fail
    go_ret
    exact ⟨rfl, HB.out⟩
  · have e1 : (k == 0) = false := by simpa using h1
    have e2 : (k' == 0) = false := by simpa using h2
    have e3 : (k != k') = true := by simpa using h3
    go_wp2_with fail
    go_ret
    exact ⟨rfl, HB.out⟩
  · have e1 : (k == 0) = false := by simpa using h1
    have e3 : (k != k) = false := by simp
    have e4 : (k == 3) = false := by simpa using h3
    have e5 : (k == 4) = false := by simpa using h4
    have e6 : (k == 5) = false := by simpa using h5
    go_wp2_with fail
    go_ret
    exact ⟨rfl, HB.out⟩
end Go.Proofs.YtdeomggkhbdkaaaDoor
