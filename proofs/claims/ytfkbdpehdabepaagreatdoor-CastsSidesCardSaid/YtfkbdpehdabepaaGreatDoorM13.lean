/-
  Types that agree: what the word says of forests. Types that are less and more precise, and where two meet: what the words say of forests. Types below types: what the table says of forests. agree.agreeing, agree.Agree; the document's Right, Agree. agree.Agree; the document's Right and Agree. below.two's tell: which row of the table speaks of two kinds, and what stands there; its functions are its fields'. The law's LikeType.
-/
import Derived.Test.YtfkbdpehdabepaaGreatDoorRefFn
import Derived.Test.YtfkbdpehdabepaaGreatDoorLow
import Derived.Laws.StructEq
import Derived.Test.YtfkbdpehdabepaaGreatDoorM7
namespace Go.Proofs.YtfkbdpehdabepaaGreatDoor
namespace Ty
/-- a right type's kids: none, or two -/
theorem two_of {k : Int} {kids : Fo} (h : okT k kids = true) (h3 : 3 ≤ k) : ∃ a b k1 f1 c d k2 f2, kids = .node a b k1 f1 (.node c d k2 f2 .nil) ∧ okT k1 f1 = true ∧ okT k2 f2 = true := by
  unfold okT okK at h
  rw [if_neg (by omega), Bool.and_eq_true] at h
  split at h
  · have hl : len kids = 2 := by simpa using h.1
    match kids, hl, h.2 with
    | .node a b k1 f1 (.node c d k2 f2 .nil), _, ho =>
      simp only [okF, Bool.and_eq_true] at ho
      exact ⟨a, b, k1, f1, c, d, k2, f2, rfl, by unfold okT; rw [Bool.and_eq_true]; exact ⟨ho.1.1, ho.1.2⟩, by unfold okT; rw [Bool.and_eq_true]; exact ⟨ho.2.1.1, ho.2.1.2⟩⟩
    | .nil, hl, _ => simp [len] at hl
    | .node _ _ _ _ .nil, hl, _ => simp [len] at hl
    | .node _ _ _ _ (.node _ _ _ _ (.node _ _ _ _ _)), hl, _ => simp [len] at hl
  · simp at h
theorem none_of {k : Int} {kids : Fo} (h : okT k kids = true) (h3 : k ≤ 2) : kids = .nil := by
  have h2 := h
  unfold okT okK at h
  have hr := okT_range h2
  rw [if_pos (by omega), Bool.and_eq_true] at h
  cases kids with
  | nil => rfl
  | node _ _ _ _ _ => simp [len] at h
end Ty
end Go.Proofs.YtfkbdpehdabepaaGreatDoor
namespace Go.Proofs.YtfkbdpehdabepaaGreatDoor
namespace Ty
end Ty
end Go.Proofs.YtfkbdpehdabepaaGreatDoor
namespace Go.Proofs.YtfkbdpehdabepaaGreatDoor
namespace Ty
/-- is a type below ?: it is ?, or below its ground -/
def loT : Int → Fo → Bool
  | _, .nil => true
  | _, .node _ _ _ _ .nil => true
  | k, .node _ _ k1 f1 (.node _ _ k2 f2 _) => if k = 3 then (k1 == 0) && loT k2 f2 else loT k1 f1 && loT k2 f2
/-- the other way round: positively, negatively -/
def sw (m : Nat) : Nat := if m = 1 then 2 else if m = 2 then 1 else m
/-- what the table's row tells of two kinds: p, is the first below ?; q, what the parts tell -/
def hd (m : Nat) (k k' : Int) (p q : Bool) : Bool := if k' = 0 then (k == 0) || (m == 1) || p else if k = 0 then m == 2 else if k = k' then q else false
/-- 0: below; 1: positively; 2: negatively; the first number: how deep -/
def relN : Nat → Nat → Int → Fo → Int → Fo → Bool
  | 0, _, _, _, _, _ => true
  | N + 1, m, k, kids, k', kids' => hd m k k' (loT k kids) (match kids, kids' with
    | .node _ _ k1 f1 (.node _ _ k2 f2 _), .node _ _ k1' f1' (.node _ _ k2' f2' _) => (if k = 3 then relN N (sw m) k1' f1' k1 f1 else relN N m k1 f1 k1' f1') && relN N m k2 f2 k2' f2'
    | _, _ => true)
def relT (m : Nat) (k : Int) (kids : Fo) (k' : Int) (kids' : Fo) : Bool := relN (max (nodes kids) (nodes kids') + 1) m k kids k' kids'
def belowT (m : Nat) (k : Int) (kids : Fo) (k' : Int) (kids' : Fo) : Bool := (chk k kids == 0) && (chk k' kids' == 0) && relT m k kids k' kids'
theorem relN_eq : ∀ (N N' m : Nat) (k : Int) (kids : Fo) (k' : Int) (kids' : Fo), nodes kids < N → nodes kids' < N → nodes kids < N' → nodes kids' < N' → relN N m k kids k' kids' = relN N' m k kids k' kids'
  | 0, _, _, _, _, _, _, h, _, _, _ => by omega
  | _ + 1, 0, _, _, _, _, _, _, _, h, _ => by omega
  | N + 1, N' + 1, m, k, kids, k', kids', h1, h2, h3, h4 => by
    unfold relN
    congr 1
    split
    · simp only [nodes] at h1 h2 h3 h4
      congr 1
      · split
        · exact relN_eq N N' _ _ _ _ _ (by omega) (by omega) (by omega) (by omega)
        · exact relN_eq N N' _ _ _ _ _ (by omega) (by omega) (by omega) (by omega)
      · exact relN_eq N N' _ _ _ _ _ (by omega) (by omega) (by omega) (by omega)
    · rfl
theorem relN_relT {N m : Nat} {k : Int} {kids : Fo} {k' : Int} {kids' : Fo} (h : nodes kids < N) (h' : nodes kids' < N) : relN N m k kids k' kids' = relT m k kids k' kids' :=
  relN_eq _ _ _ _ _ _ _ h h' (by omega) (by omega)
theorem rel_hd (m : Nat) (k : Int) (kids : Fo) (k' : Int) (kids' : Fo) : ∃ q, relT m k kids k' kids' = hd m k k' (loT k kids) q := ⟨_, rfl⟩
theorem rel_zero (m : Nat) (kids kids' : Fo) : relT m 0 kids 0 kids' = true := by
  obtain ⟨q, e⟩ := rel_hd m 0 kids 0 kids'
  rw [e]; rfl
theorem rel_leave (m : Nat) {k : Int} (kids kids' : Fo) (h : k ≠ 0) : relT m k kids 0 kids' = ((m == 1) || loT k kids) := by
  obtain ⟨q, e⟩ := rel_hd m k kids 0 kids'
  rw [e]; unfold hd
  rw [if_pos rfl, show (k == 0) = false by simpa using h, Bool.false_or]
theorem rel_enter (m : Nat) {k' : Int} (kids kids' : Fo) (h : k' ≠ 0) : relT m 0 kids k' kids' = (m == 2) := by
  obtain ⟨q, e⟩ := rel_hd m 0 kids k' kids'
  rw [e]; unfold hd; simp [h]
theorem rel_ne (m : Nat) {k k' : Int} (kids kids' : Fo) (h : k ≠ 0) (h' : k' ≠ 0) (hk : k ≠ k') : relT m k kids k' kids' = false := by
  obtain ⟨q, e⟩ := rel_hd m k kids k' kids'
  rw [e]; unfold hd; simp [h, h', hk]
theorem rel_base (m : Nat) {k : Int} : relT m k .nil k .nil = true := by
  show hd m k k (loT k .nil) true = true
  unfold hd loT
  split
  · simp
  · simp_all
theorem rel_two (m : Nat) {k : Int} {a b c d a' b' c' d' : Nat} {k1 k2 k1' k2' : Int} {f1 f2 r f1' f2' r' : Fo} (h : k ≠ 0) :
    relT m k (.node a b k1 f1 (.node c d k2 f2 r)) k (.node a' b' k1' f1' (.node c' d' k2' f2' r')) = ((if k = 3 then relT (sw m) k1' f1' k1 f1 else relT m k1 f1 k1' f1') && relT m k2 f2 k2' f2') := by
  have e : relT m k (.node a b k1 f1 (.node c d k2 f2 r)) k (.node a' b' k1' f1' (.node c' d' k2' f2' r')) = hd m k k (loT k (.node a b k1 f1 (.node c d k2 f2 r))) ((if k = 3 then relN (max (nodes (.node a b k1 f1 (.node c d k2 f2 r))) (nodes (.node a' b' k1' f1' (.node c' d' k2' f2' r')))) (sw m) k1' f1' k1 f1 else relN (max (nodes (.node a b k1 f1 (.node c d k2 f2 r))) (nodes (.node a' b' k1' f1' (.node c' d' k2' f2' r')))) m k1 f1 k1' f1') && relN (max (nodes (.node a b k1 f1 (.node c d k2 f2 r))) (nodes (.node a' b' k1' f1' (.node c' d' k2' f2' r')))) m k2 f2 k2' f2') := rfl
  rw [e]
  simp only [nodes]
  rw [relN_relT (m := sw m) (by omega) (by omega), relN_relT (m := m) (kids := f1) (by omega) (by omega), relN_relT (m := m) (kids := f2) (by omega) (by omega)]
  unfold hd
  rw [if_neg h, if_neg h, if_pos rfl]
theorem lo_two {k : Int} {a b c d : Nat} {k1 k2 : Int} {f1 f2 r : Fo} : loT k (.node a b k1 f1 (.node c d k2 f2 r)) = (if k = 3 then (k1 == 0) && loT k2 f2 else loT k1 f1 && loT k2 f2) := rfl
/-- a right type and its ground -/
theorem rel_ground {m : Nat} {k : Int} {kids : Fo} (hm : m = 0 ∨ m = 2) (h : okT k kids = true) (h0 : k ≠ 0) : relT m k kids k (if 3 ≤ k then two 0 .nil 0 .nil else .nil) = loT k kids := by
  by_cases h3 : 3 ≤ k
  · rw [if_pos h3]
    obtain ⟨a, b, k1, f1, c, d, k2, f2, rfl, o1, o2⟩ := two_of h h3
    unfold two
    rw [rel_two m h0, lo_two]
    have e : ∀ (kk : Int) (ff : Fo), okT kk ff = true → relT m kk ff 0 .nil = loT kk ff := by
      intro kk ff oo
      by_cases hk : kk = 0
      · subst hk
        obtain rfl := none_of oo (by omega)
        rfl
      · rw [rel_leave m _ _ hk]
        rcases hm with rfl | rfl <;> simp
    rw [e k2 f2 o2, e k1 f1 o1]
    have e1 : relT (sw m) 0 .nil k1 f1 = (k1 == 0) := by
      by_cases hk : k1 = 0
      · subst hk
        rw [rel_zero]; rfl
      · rw [rel_enter _ _ _ hk]
        rcases hm with rfl | rfl <;> simp [sw, hk]
    rw [e1]
    split <;> rfl
  · rw [if_neg h3]
    obtain rfl := none_of h (by omega)
    rw [rel_base]; rfl
/-- two right types: both ?; ? on the left, on the right; unlike; two bases; two with parts -/
theorem cases_two {k k' : Int} {kids kids' : Fo} (h : okT k kids = true) (h' : okT k' kids' = true) :
    (k = 0 ∧ k' = 0 ∧ kids = .nil ∧ kids' = .nil) ∨ (k = 0 ∧ k' ≠ 0 ∧ kids = .nil) ∨ (k ≠ 0 ∧ k' = 0 ∧ kids' = .nil) ∨ (k ≠ 0 ∧ k' ≠ 0 ∧ k ≠ k') ∨ (k ≠ 0 ∧ k = k' ∧ kids = .nil ∧ kids' = .nil) ∨
    (k = k' ∧ 3 ≤ k ∧ ∃ a b k1 f1 c d k2 f2 a' b' k1' f1' c' d' k2' f2', kids = .node a b k1 f1 (.node c d k2 f2 .nil) ∧ kids' = .node a' b' k1' f1' (.node c' d' k2' f2' .nil) ∧ okT k1 f1 = true ∧ okT k2 f2 = true ∧ okT k1' f1' = true ∧ okT k2' f2' = true) := by
  by_cases h0 : k = 0
  · subst h0
    obtain rfl := none_of h (by omega)
    by_cases h1 : k' = 0
    · subst h1
      obtain rfl := none_of h' (by omega)
      exact .inl ⟨rfl, rfl, rfl, rfl⟩
    · exact .inr (.inl ⟨rfl, h1, rfl⟩)
  · by_cases h1 : k' = 0
    · subst h1
      obtain rfl := none_of h' (by omega)
      exact .inr (.inr (.inl ⟨h0, rfl, rfl⟩))
    · by_cases hk : k = k'
      · subst hk
        by_cases h3 : 3 ≤ k
        · obtain ⟨a, b, k1, f1, c, d, k2, f2, rfl, o1, o2⟩ := two_of h h3
          obtain ⟨a', b', k1', f1', c', d', k2', f2', rfl, o1', o2'⟩ := two_of h' h3
          exact .inr (.inr (.inr (.inr (.inr ⟨rfl, h3, a, b, k1, f1, c, d, k2, f2, a', b', k1', f1', c', d', k2', f2', rfl, rfl, o1, o2, o1', o2'⟩))))
        · obtain rfl := none_of h (by omega)
          obtain rfl := none_of h' (by omega)
          exact .inr (.inr (.inr (.inr (.inl ⟨h0, rfl, rfl, rfl⟩))))
      · exact .inr (.inr (.inr (.inl ⟨h0, h1, hk⟩)))
end Ty
end Go.Proofs.YtfkbdpehdabepaaGreatDoor
namespace Go.Proofs.YtfkbdpehdabepaaGreatDoor
open Go.RowKit

end Go.Proofs.YtfkbdpehdabepaaGreatDoor
namespace Go.Proofs.YtfkbdpehdabepaaGreatDoor
open Go.RowKit

end Go.Proofs.YtfkbdpehdabepaaGreatDoor
namespace Go.Proofs.YtfkbdpehdabepaaGreatDoor
open Go.RowKit

/-- what a function of two types tells of these two -/
def RC (f : FuncId) (k : Int) (kids : Fo) (k' : Int) (kids' : Fo) (r : Bool) : Prop :=
  ∀ (A : Option Addr) (n c : Nat) (A' : Option Addr) (n' c' : Nat) (w : World), Ty.Is w k kids A n c → Ty.Is w k' kids' A' n' c' → Shapes w →
    Calls Tryz.prog f #[.agg #[.int .i8 k, .slice A n c, .int .i8 k', .slice A' n' c']] w fun e w' => e = .returned (.bool r) ∧ Below w.heap.size w w'
/-- a function's value may be called -/
def CF (f : FuncId) : Prop := ∀ (args : Array Value) (W : World), (callFunc f args).run Tryz.prog W = .ok (.enter f args) W
/-- the boxes of tell's two arguments -/
theorem tell_boxes (w : World) (o1 o2 : Obj) : Below w.heap.size w ((w.alloc o1).alloc o2) := ((Below.refl _ _).alloc (Nat.le_refl _) _).alloc (by simp) _
theorem Ty.chk_of {k : Int} {f : Fo} (h1 : Ty.okT k f = true) (h2 : Ty.nodes f + 1 ≤ 8192) (h3 : Ty.dep f + 1 ≤ 200) : Ty.chk k f = 0 := by
  unfold Ty.chk
  rw [if_neg (by omega), if_neg (by omega)]
  exact if_pos h1

set_option maxHeartbeats 4000000 in
set_option maxRecDepth 100000 in
theorem tell_plain (fl fe fa fp : FuncId) (k : Int) (A : Option Addr) (n c : Nat) (k' : Int) (A' : Option Addr) (n' c' : Nat) (w : World) (r : Bool)
    (h : (k = 0 ∧ k' = 0 ∧ r = true) ∨ (k ≠ 0 ∧ k' ≠ 0 ∧ k ≠ k' ∧ r = false) ∨ (k ≠ 0 ∧ k = k' ∧ k ≠ 3 ∧ k ≠ 4 ∧ k ≠ 5 ∧ r = true)) :
    Calls Tryz.prog 134 #[.agg #[.int .i8 k, .slice A n c, .int .i8 k', .slice A' n' c'], .agg #[.func (Fn.func fl) #[] #[], .func (Fn.func fe) #[] #[], .func (Fn.func fa) #[] #[], .func (Fn.func fp) #[] #[]]] w fun e w' => e = .returned (.bool r) ∧ Below w.heap.size w w' := by
  obtain ⟨hR0, hR1, -⟩ := two_new w (.cells #[.int .i8 k, .slice A n c, .int .i8 k', .slice A' n' c'] 94) (.cells #[.func (Fn.func fl) #[] #[], .func (Fn.func fe) #[] #[], .func (Fn.func fa) #[] #[], .func (Fn.func fp) #[] #[]] 117)
  have hB := tell_boxes w (.cells #[.int .i8 k, .slice A n c, .int .i8 k', .slice A' n' c'] 94) (.cells #[.func (Fn.func fl) #[] #[], .func (Fn.func fe) #[] #[], .func (Fn.func fa) #[] #[], .func (Fn.func fp) #[] #[]] 117)
  generalize hw1 : (w.alloc (.cells #[.int .i8 k, .slice A n c, .int .i8 k', .slice A' n' c'] 94)).alloc (.cells #[.func (Fn.func fl) #[] #[], .func (Fn.func fe) #[] #[], .func (Fn.func fa) #[] #[], .func (Fn.func fp) #[] #[]] 117) = w1 at *
  have HW1 := Lib.hid hw1
  clear hw1
  obtain ⟨b0, b1, b2, b3, -, -, -, -, hb0⟩ := own4 hR0
  clear hR0 hR1
  go_enter Tryz.func134, Tryz.ntmps134
  go_wp2_with fail
  rw [HW1.out]
  go_quiet (fail)
  have HB := Lib.hid (below_drewN hB nq)
  clear hB b0 b1 b2 b3 hb0
  generalize w1.drewN nq = w2 at *
  rcases h with ⟨rfl, rfl, rfl⟩ | ⟨h1, h2, h3, rfl⟩ | ⟨h1, rfl, h3, h4, h5, rfl⟩
  · go_wp2_with fail
    go_ret
    exact ⟨rfl, HB.out⟩
  · have e1 : (k == 0) = false := by simpa using h1
    have e2 : (k' == 0) = false := by simpa using h2
    have e3 : (k != k') = true := by simpa using h3
    go_wp2_with fail
    go_ret
    exact ⟨rfl, HB.out⟩
  · have e1 : (k == 0) = false := by simpa using h1
    have e3 : (k != k) = false := by simp
    have e4 : (k == 3) = false := by simpa using h3
    have e5 : (k == 4) = false := by simpa using h4
    have e6 : (k == 5) = false := by simpa using h5
    go_wp2_with fail
    go_ret
    exact ⟨rfl, HB.out⟩
end Go.Proofs.YtfkbdpehdabepaaGreatDoor
namespace Go.Proofs.YtfkbdpehdabepaaGreatDoor
open Go.RowKit

set_option maxHeartbeats 2000000 in
set_option maxRecDepth 100000 in
theorem like_any (K : Nat) : ∀ (k : Int) (kids : Fo) (A : Option Addr) (n c : Nat) (k' : Int) (kids' : Fo) (A' : Option Addr) (n' c' : Nat) (w : World), Ty.nodes kids < K → Ty.Is w k kids A n c → Ty.Is w k' kids' A' n' c' →
    Calls Tryz.prog 22 #[.agg #[.int .i8 k, .slice A n c], .agg #[.int .i8 k', .slice A' n' c']] w fun e w' => e = .returned (.bool (Ty.eqT k kids k' kids')) ∧ Below w.heap.size w w' := by
  induction K with
  | zero => intro _ _ _ _ _ _ _ _ _ _ _ h; omega
  | succ K ih =>
    intro k kids A n c k' kids' A' n' c' w hK hIs hIs'
    have i5 : (n : Int) ≤ 9223372036854775807 := by have h1 := hIs.n_le; have h2 := hIs.c_le; unfold maxLen at h2; omega
    obtain ⟨hB0, hR0, hR1⟩ := two_boxes w k A n c k' A' n' c'
    have HI := Lib.hid hIs
    have HI' := Lib.hid hIs'
    have IH := Lib.hid ih
    clear ih hIs hIs'
    obtain ⟨b0, b1, _, _, hb0⟩ := own2 hR0
    obtain ⟨d0, d1, _, _, hd0⟩ := own2 hR1
    cases hk : (k == k')
    · have hres : Ty.eqT k kids k' kids' = false := by unfold Ty.eqT; rw [hk]; rfl
      have hk2 : (k != k') = true := by rw [bne, hk]; rfl
      rw [hres]
      clear hres hR0 hR1 hk
      go_enter Tryz.func22, Tryz.ntmps22
      go_wp2_with fail
      go_ret
      exact ⟨rfl, hB0⟩
    · have hres : Ty.eqT k kids k' kids' = Ty.eqF kids kids' := by unfold Ty.eqT; rw [hk]; rfl
      have hk2 : (k != k') = false := by rw [bne, hk]; rfl
      by_cases hnn : n = n'
      case neg =>
        have hne : Ty.eqF kids kids' = false := by
          have h1 := HI.out.n_eq
          have h2 := HI'.out.n_eq
          exact Ty.eqF_ne _ _ (by omega)
        have i6 : (n' : Int) ≤ 9223372036854775807 := by have h1 := HI'.out.n_le; have h2 := HI'.out.c_le; unfold maxLen at h2; omega
        have hn2 : ((n : Int) != (n' : Int)) = true := by simp; omega
        rw [hres, hne]
        clear hres hR0 hR1 hk hne hnn
        go_enter Tryz.func22, Tryz.ntmps22
        go_wp2_with fail
        go_ret
        exact ⟨rfl, hB0⟩
      subst hnn
      have hn2 : ((n : Int) != (n : Int)) = false := by simp
      rw [hres]
      obtain ⟨R, hR⟩ : ∃ R, Ty.eqF kids kids' = R := ⟨_, rfl⟩
      rw [hR]
      have HR := Lib.hid hR
      have hlies2 := HI'.out.lies.below hB0
      have hst := Over.start (HI.out.lies.below hB0) HI.out.n_eq
      have hst2 : Over2 w _ A' n 0 kids' := ⟨by have := HI'.out.n_eq; omega, hlies2⟩
      clear hres hR0 hR1 hR hlies2
      generalize hw1 : (w.alloc (.cells #[.int .i8 k, .slice A n c] 25)).alloc (.cells #[.int .i8 k', .slice A' n c'] 25) = w1 at *
      have HS := Lib.hid hst
      have HS2 := Lib.hid hst2
      have HW := Lib.hid hw1
      clear hst hst2 hw1
      go_enter Tryz.func22, Tryz.ntmps22
      go_wp2_with fail
      rw [HW.out]
      go_loopw [5] (fun v5 wr => ∃ (i : Nat) (r1 r2 : Fo), v5 = .int .i64 i ∧ Over w1 wr A n (Ty.nodes kids) i r1 ∧ Over2 w wr A' n i r2 ∧ Ty.eqF r1 r2 = R) (fun v _ => n - (intOf v).toNat)
      case atStart => exact ⟨0, kids, kids', rfl, HS.out, HS2.out, HR.out⟩
      case round =>
        obtain ⟨i, r1, r2, rfl, hO, hO2, hRR⟩ := hrel
        have hbB := hB0.trans (hO.below.mono hB0.size)
        obtain ⟨e0, e1⟩ := hO.box b0 b1
        obtain ⟨g0, g1⟩ := hO.box d0 d1
        clear b0 b1 d0 d1
        cases r1 with
        | nil =>
          have hi : i = n := by have := hO.i_eq; simpa [Ty.len] using this
          have hr2 : r2 = .nil := by
            have := hO2.i_eq
            cases r2 with
            | nil => rfl
            | node _ _ _ _ _ => simp only [Ty.len] at this; omega
          subst hr2
          clear hO hO2
          simp only [Ty.eqF] at hRR
          subst hi
          subst hRR
          go_wp2_with fail
          go_ret
          exact ⟨rfl, hbB⟩
        | node a b kk kks r =>
          cases r2 with
          | nil => have q1 := hO.i_eq; have q2 := hO2.i_eq; simp only [Ty.len] at q1 q2; omega
          | node a2 b2 kk2 kks2 s =>
          have hst := fun w2 hb => Over.step (w2 := w2) hO hb
          have h1 := hO.i_eq
          have h2 := hO.lies
          have h3 := hO.sub
          have q1 := hO2.i_eq
          have q2 := hO2.lies
          simp only [Ty.len, Ty.nodes, Ty.eqF] at h1 h3 hRR q1
          obtain ⟨bb, oo, B, c9, rfl, ⟨hk1, hk2'⟩, c1', c2', hl1, hl2, hl3, hl4⟩ := h2
          obtain ⟨bb2, oo2, B2, c3, rfl, ⟨gk1, gk2⟩, x1, x2, gl1, gl2, gl3, gl4⟩ := q2
          have hcall := fun (W : World) (hb : Below wr.heap.size wr W) => IH.out kk kks B (Ty.len kks) c9 kk2 kks2 B2 (Ty.len kks2) c3 W (by omega) ⟨hl3.below hb, rfl, hl1, hl2, hk1, hk2'⟩ ⟨gl3.below hb, rfl, gl1, gl2, gk1, gk2⟩
          have HST := Lib.hid hst
          have HL := Lib.hid hl4
          have HL2 := Lib.hid gl4
          have HC := Lib.hid hcall
          have HRR := Lib.hid hRR
          have j1 : (i : Int) < n := by omega
          have j2 : (0 : Int) ≤ i ∧ (i : Int) < n := by omega
          have hBd := Lib.hid (below_drewN (Below.refl wr.heap.size wr) 1)
          clear hst hl3 hl4 gl3 gl4 hcall hO hO2 hRR
          cases hp : Ty.eqT kk kks kk2 kks2
          · have hp0 : R = false := by rw [← HRR.out]; unfold Ty.eqT at hp; rw [hp]; rfl
            rw [hp] at HC
            subst hp0
            clear hp
            go_wp2_with fail
            go_still_tail 10, (by kernel_rfl)
            change wpList _ _ _ _ _ (wr.drewN 1)
            have hbB1 := hbB.trans (hBd.out.mono hbB.size)
            have hsz : (wr.drewN 1).heap.size = wr.heap.size := rfl
            clear e0 e1 g0 g1 c1' c2' x1 x2
            generalize wr.drewN 1 = w2 at *
            go_wp2_with fail
            refine (HC.out _ hBd.out).mono ?_
            rintro e w3 ⟨rfl, hb⟩
            go_wp2_with fail
            go_ret
            exact ⟨rfl, hbB1.trans (hb.mono hbB1.size)⟩
          · have hp0 := HRR.out
            unfold Ty.eqT at hp
            rw [hp, Bool.true_and] at hp0
            have HP := Lib.hid hp0
            rw [show Ty.eqT kk kks kk2 kks2 = true from hp] at HC
            clear hp hp0
            go_wp2_with fail
            go_still_tail 10, (by kernel_rfl)
            change wpList _ _ _ _ _ (wr.drewN 1)
            have hsz : (wr.drewN 1).heap.size = wr.heap.size := rfl
            clear e0 e1 g0 g1 c1' c2' x1 x2
            generalize wr.drewN 1 = w2 at *
            go_wp2_with fail
            refine (HC.out _ hBd.out).mono ?_
            rintro e w3 ⟨rfl, hb⟩
            have hB2 : Below wr.heap.size wr w3 := hBd.out.trans (hb.mono (by omega))
            have hbb := Lib.hid (HST.out w3 hB2 HL.out)
            have hbb2 : Hid (Over2 w w3 (some ⟨bb2, oo2, none⟩) n (i + 1) s) := Lib.hid ⟨by omega, HL2.out.below hB2⟩
            clear hb hB2 hsz
            go_wp2_with fail
            go_roundw
            case rel => exact ⟨i + 1, r, s, by go_num, hbb.out, hbb2.out, HP.out⟩
            case measure => simp [intOf]; omega
end Go.Proofs.YtfkbdpehdabepaaGreatDoor
