import Derived.Test.YtepmjknljbafgaaGreatDoorM8
import Derived.Deep.OwnRows
import Derived.Test.YtepmjknljbafgaaGreatDoorLow
import Derived.Laws.StructEq
namespace Go.Proofs.YtepmjknljbafgaaGreatDoor
open Go.RowKit
namespace Ty
end Ty
end Go.Proofs.YtepmjknljbafgaaGreatDoor
namespace Go.Proofs.YtepmjknljbafgaaGreatDoor
set_option maxHeartbeats 1000000
set_option maxRecDepth 100000
open Go.RowKit
theorem zD6 (k : Int) (kids : Fo) (A : Option Addr) (n c : Nat) (w : World) (hIs : Ty.Is w k kids A n c) :
    Calls Tryz.prog 127 #[.agg #[.int .i8 k, .slice A n c]] w fun e w' => e = .returned (.int .i64 (Ty.nod kids)) /\ Below w.heap.size w w' := by
  have hB0 := (Below.refl w.heap.size w).alloc (Nat.le_refl _) (.cells #[.int .i8 k, .slice A n c] 30);have HM := k0_ (fun (W : World) (hb : Below w.heap.size w W) => jw k kids A n c W (hIs.below hb));clear hIs
  go_enter Tryz.func127, Tryz.ntmps127
  exact zG2
theorem zDR (k : Int) (kids : Fo) (A : Option Addr) (n c : Nat) (w : World) (hIs : Ty.Is w k kids A n c) :
    Calls Tryz.prog 128 #[.agg #[.int .i8 k, .slice A n c]] w fun e w' => e = .returned (.int .i64 (Ty.dpt kids)) /\ Below w.heap.size w w' := by
  have hB0 := (Below.refl w.heap.size w).alloc (Nat.le_refl _) (.cells #[.int .i8 k, .slice A n c] 30);have HM := k0_ (fun (W : World) (hb : Below w.heap.size w W) => jw k kids A n c W (hIs.below hb));clear hIs
  go_enter Tryz.func128, Tryz.ntmps128
  exact zG2
namespace Ty
end Ty
end Go.Proofs.YtepmjknljbafgaaGreatDoor
namespace Go.Proofs.YtepmjknljbafgaaGreatDoor
open Go.RowKit
namespace Ty
end Ty
theorem wF (w : World) (k : Int) (A : Option Addr) (n c : Nat) (k' : Int) (A' : Option Addr) (n' c' : Nat) :
    Below w.heap.size w ((w.alloc (.cells #[.int .i8 k, .slice A n c] 30)).alloc (.cells #[.int .i8 k', .slice A' n' c'] 30)) /\
    ((w.alloc (.cells #[.int .i8 k, .slice A n c] 30)).alloc (.cells #[.int .i8 k', .slice A' n' c'] 30)).heap[w.heap.size]? = some (.cells #[.int .i8 k, .slice A n c] 30) /\
    ((w.alloc (.cells #[.int .i8 k, .slice A n c] 30)).alloc (.cells #[.int .i8 k', .slice A' n' c'] 30)).heap[w.heap.size + 1]? = some (.cells #[.int .i8 k', .slice A' n' c'] 30) := by
  refine ⟨((Below.refl w.heap.size w).alloc (Nat.le_refl _) _).alloc (by simp) _, zG (zF w _) _, ?_⟩;have := zF (w.alloc (.cells #[.int .i8 k, .slice A n c] 30)) (.cells #[.int .i8 k', .slice A' n' c'] 30)
  simpa using this
theorem Ty.qp {k : Int} {kids : Fo} (h : Ty.chk k kids = 0) : Ty.okT k kids = true /\ Ty.nodes kids + 1 <= 8192 /\ Ty.dep kids + 1 <= 200 := by
  unfold Ty.chk at h
  split at h
  · cases h
  · split at h
    · cases h
    · split at h
      · rename_i h1 h2 h3; exact ⟨h3, by omega, by omega⟩
      · cases h
namespace Ty
def two (k : Int) (kids : Fo) (k' : Int) (kids' : Fo) : Fo := .node 0 0 k kids (.node 0 0 k' kids' .nil)
end Ty
namespace Ty
end Ty
theorem Ty.jV {k : Int} {kids : Fo} (h : Ty.okT k kids = true) : k = 0 \/ k = 1 \/ k = 2 \/ k = 3 \/ k = 4 \/ k = 5 := by
  unfold Ty.okT Ty.okK at h
  split at h
  · omega
  · split at h
    · omega
    · simp at h
theorem zG7 {P : Prop} (h : P := by
  go_enter Tryz.func74, Tryz.ntmps74
  go_wp2_with fail
  rw [HW.out]
  go_wp2_with fail
  go_ret
  exact ⟨rfl, hB0⟩) : P := h
end Go.Proofs.YtepmjknljbafgaaGreatDoor
namespace Go.Proofs.YtepmjknljbafgaaGreatDoor
namespace Ty
def agF : Fo -> Fo -> Bool
  | .nil, _ => true
  | .node _ _ _ _ _, .nil => true
  | .node _ _ k kids r, .node _ _ k' kids' r' => ((k == 0) || (k' == 0) || ((k == k') && agF kids kids')) && agF r r'
def agT (k : Int) (kids : Fo) (k' : Int) (kids' : Fo) : Bool := (k == 0) || (k' == 0) || ((k == k') && agF kids kids')
def agreeT (k : Int) (kids : Fo) (k' : Int) (kids' : Fo) : Bool := (chk k kids == 0) && (chk k' kids' == 0) && agT k kids k' kids'
theorem wE (kids : Fo) (k' : Int) (kids' : Fo) : agT 0 kids k' kids' = true := rfl
theorem xk (k : Int) (kids kids' : Fo) : agT k kids 0 kids' = true := by unfold agT; simp
theorem zFE {k k' : Int} (kids kids' : Fo) (h1 : k ≠ 0) (h2 : k' ≠ 0) (h : k ≠ k') : agT k kids k' kids' = false := by unfold agT; simp [h1, h2, h]
theorem zCC {k : Int} (kids kids' : Fo) (h1 : k ≠ 0) : agT k kids k kids' = agF kids kids' := by unfold agT; simp [h1]
theorem yU {k : Int} {kids : Fo} (h : okT k kids = true) (h3 : 3 <= k) : ∃ a b k1 f1 c d k2 f2, kids = .node a b k1 f1 (.node c d k2 f2 .nil) /\ okT k1 f1 = true /\ okT k2 f2 = true := by
  unfold okT okK at h;rw [if_neg (by omega), Bool.and_eq_true] at h
  split at h
  · have hl : len kids = 2 := by simpa using h.1
    match kids, hl, h.2 with
    | .node a b k1 f1 (.node c d k2 f2 .nil), _, ho =>
      simp only [okF, Bool.and_eq_true] at ho;exact ⟨a, b, k1, f1, c, d, k2, f2, rfl, by unfold okT; rw [Bool.and_eq_true]; exact ⟨ho.1.1, ho.1.2⟩, by unfold okT; rw [Bool.and_eq_true]; exact ⟨ho.2.1.1, ho.2.1.2⟩⟩
    | .nil, hl, _ => simp [len] at hl
    | .node _ _ _ _ .nil, hl, _ => simp [len] at hl
    | .node _ _ _ _ (.node _ _ _ _ (.node _ _ _ _ _)), hl, _ => simp [len] at hl
  · simp at h
theorem kD {k : Int} {kids : Fo} (h : okT k kids = true) (h3 : k <= 2) : kids = .nil := by
  have h2 := h;unfold okT okK at h;have hr := jV h2;rw [if_pos (by omega), Bool.and_eq_true] at h
  cases kids with
  | nil => rfl
  | node _ _ _ _ _ => simp [len] at h
end Ty
end Go.Proofs.YtepmjknljbafgaaGreatDoor
namespace Go.Proofs.YtepmjknljbafgaaGreatDoor
open Go.RowKit
theorem zDP (d : Nat) (a b c e : Int) (w : World) : (Op.equalIn (d + 1 + 1) 153 (.agg #[.int .i8 a, .int .i8 b]) (.agg #[.int .i8 c, .int .i8 e])).run Tryz.prog w = .ok ((a == c) && (b == e)) w := by
  have hu : Tryz.prog.underlying 153 = some (.array 2 27) := Tryz.underlying153;have hi : Tryz.prog.underlying 27 = some (.int .i8) := Tryz.underlying27;have e1 := fun W => run_equalIn_int (P := Tryz.prog) W d 27 .i8 .i8 a c hi
  have e2 := fun W => run_equalIn_int (P := Tryz.prog) W d 27 .i8 .i8 b e hi
  have p1 : ∀ (x y : Int) W, (part 27 #[.int .i8 x, .int .i8 y] 0).run Tryz.prog W = .ok (.int .i8 x) W := fun _ _ W => by kernel_rfl
  have p2 : ∀ (x y : Int) W, (part 27 #[.int .i8 x, .int .i8 y] 1).run Tryz.prog W = .ok (.int .i8 y) W := fun _ _ W => by kernel_rfl
  have hs : ∀ W, (sizeOf 27).run Tryz.prog W = .ok 1 W := fun W => by kernel_rfl
  rw [Op.equalIn];simp only [Sem.run_bind, run_underlying hu, Result.andThen_ok, hs];rw [Std.Legacy.Range.forIn_eq_forIn_range'];simp only [Std.Legacy.Range.size, List.range', List.forIn_cons, List.forIn_nil, Sem.run_bind, Nat.zero_add, Nat.mul_one, p1, e1, Result.andThen_ok];cases a == c
  · simp
  · cases hb : b == e <;> simp [p2, e2, hb]
theorem zW (a b c d : Int) (w : World) : (binOp .eql 153 (.agg #[.int .i8 a, .int .i8 b]) (.agg #[.int .i8 c, .int .i8 d])).run Tryz.prog w = .ok (.bool ((a == c) && (b == d))) w := by
  rw [run_eql_struct, zDP 9998 a b c d w]
  rfl
theorem Ty.zEe {w : World} {a b c d : Nat} {k1 k2 : Int} {f1 f2 : Fo} {A : Option Addr} (h : Ty.Lies w (.node a b k1 f1 (.node c d k2 f2 .nil)) A 0) :
    ∃ bb oo B1 c1 B2 c2, A = some ⟨bb, oo, none⟩ /\ w.cell? ⟨bb, oo, none⟩ = some (.int .i8 k1) /\ w.cell? ⟨bb, oo + 1, none⟩ = some (.slice B1 (Ty.len f1) c1) /\ w.cell? ⟨bb, oo + 2, none⟩ = some (.int .i8 k2) /\ w.cell? ⟨bb, oo + 3, none⟩ = some (.slice B2 (Ty.len f2) c2) /\ Ty.Is w k1 f1 B1 (Ty.len f1) c1 /\ Ty.Is w k2 f2 B2 (Ty.len f2) c2 := by
  obtain ⟨bb, oo, B1, c1, rfl, ⟨h1, h2⟩, h3, h4, h5, h6, h7, ⟨bb', oo', B2, c2, e, ⟨g1, g2⟩, g3, g4, g5, g6, g7, -⟩⟩ := h;exact zI3
set_option maxHeartbeats 4000000 in
set_option maxRecDepth 100000 in
theorem zA3 (K : Nat) : ∀ (k : Int) (kids : Fo) (A : Option Addr) (n c : Nat) (k' : Int) (kids' : Fo) (A' : Option Addr) (n' c' : Nat) (w : World), Ty.nodes kids < K -> Ty.Is w k kids A n c -> Ty.Is w k' kids' A' n' c' -> Ty.okT k kids = true -> Ty.okT k' kids' = true ->
    Calls Tryz.prog 74 #[.agg #[.int .i8 k, .slice A n c], .agg #[.int .i8 k', .slice A' n' c']] w fun e w' => e = .returned (.bool (Ty.agT k kids k' kids')) /\ Below w.heap.size w w' := by
  induction K with
  | zero => intro _ _ _ _ _ _ _ _ _ _ _ h; omega
  | succ K ih =>
    intro k kids A n c k' kids' A' n' c' w hK hIs hIs' ho ho';obtain ⟨hB0, hR0, hR1⟩ := wF w k A n c k' A' n' c';have HI := k0_ (hIs.below hB0);have HI' := k0_ (hIs'.below hB0);have IH := k0_ ih;clear ih hIs hIs';obtain ⟨b0, b1, _, _, hb0⟩ := zK hR0;obtain ⟨d0, d1, _, _, hd0⟩ := zK hR1;clear hR0 hR1;generalize hw1 : (w.alloc (.cells #[.int .i8 k, .slice A n c] 30)).alloc (.cells #[.int .i8 k', .slice A' n' c'] 30) = w1 at *;have HW := k0_ hw1;clear hw1
    by_cases hk0 : k = 0
    · subst hk0
      rw [Ty.wE];clear ho ho';exact zG7
    by_cases hk0' : k' = 0
    · subst hk0'
      rw [Ty.xk];have hz : (k == 0) = false := by simpa using hk0
      clear ho ho' hk0;exact zG7
    have hz : (k == 0) = false := by simpa using hk0
    have hz' : (k' == 0) = false := by simpa using hk0'
    by_cases hkk : k = k'
    · subst hkk
      by_cases hlow : k <= 2
      · obtain rfl := Ty.kD ho hlow
        obtain rfl := Ty.kD ho' hlow;rw [Ty.zCC _ _ hk0];have hr := Ty.jV ho;have hr2 : k = 1 \/ k = 2 := by omega
        clear ho ho' hr hk0 hk0' hlow;rcases hr2 with rfl | rfl
        all_goals
          have e1 := fun W => zW 1 1 1 1 W
          have e2 := fun W => zW 2 2 1 1 W
          have e3 := fun W => zW 2 2 2 2 W
          exact zG7
      · obtain ⟨a1, a2, p1, f1, a3, a4, p2, f2, rfl, o1, o2⟩ := Ty.yU ho (by omega)
        obtain ⟨a1', a2', p1', f1', a3', a4', p2', f2', rfl, o1', o2'⟩ := Ty.yU ho' (by omega);rw [Ty.zCC _ _ hk0];have hn := HI.out.n_eq;have hn' := HI'.out.n_eq;simp only [Ty.len] at hn hn';subst hn;subst hn';simp only [Ty.nodes] at hK;obtain ⟨bb, oo, B1, c1, B2, c2, rfl, x0, x1, x2, x3, i1, i2⟩ := Ty.zEe HI.out.lies;obtain ⟨bb', oo', B1', c1', B2', c2', rfl, y0, y1, y2, y3, i1', i2'⟩ := Ty.zEe HI'.out.lies;have D1 := k0_ (fun (u : World) (hE : Below w1.heap.size w1 u) => IH.out p1 f1 B1 _ c1 p1' f1' B1' _ c1' u (by omega) (i1.below hE) (i1'.below hE) o1 o1');have D2 := k0_ (fun (u : World) (hE : Below w1.heap.size w1 u) => IH.out p2 f2 B2 _ c2 p2' f2' B2' _ c2' u (by omega) (i2.below hE) (i2'.below hE) o2 o2');have hres : Ty.agF (.node a1 a2 p1 f1 (.node a3 a4 p2 f2 .nil)) (.node a1' a2' p1' f1' (.node a3' a4' p2' f2' .nil)) = (Ty.agT p1 f1 p1' f1' && Ty.agT p2 f2 p2' f2') := by simp [Ty.agF, Ty.agT]
        rw [hres];have hr := Ty.jV ho;have hr2 : k = 3 \/ k = 4 \/ k = 5 := by omega
        generalize hg1 : Ty.agT p1 f1 p1' f1' = R1 at D1;generalize hg2 : Ty.agT p2 f2 p2' f2' = R2 at D2;generalize Ty.len f1 = m1 at *;generalize Ty.len f2 = m2 at *;generalize Ty.len f1' = m1' at *;generalize Ty.len f2' = m2' at *;clear hres ho ho' hr hk0 hk0' hlow HI HI' IH i1 i2 i1' i2' o1 o2 o1' o2' hK hg1 hg2;rcases hr2 with rfl | rfl | rfl
        all_goals
          have e1 := fun W => zW 3 3 1 1 W
          have e2 := fun W => zW 3 3 2 2 W
          have e3 := fun W => zW 3 3 3 3 W
          have f1 := fun W => zW 4 4 1 1 W
          have f2 := fun W => zW 4 4 2 2 W
          have f3 := fun W => zW 4 4 3 3 W
          have f4 := fun W => zW 4 4 4 4 W
          have g1 := fun W => zW 5 5 1 1 W
          have g2 := fun W => zW 5 5 2 2 W
          have g3 := fun W => zW 5 5 3 3 W
          have g4 := fun W => zW 5 5 4 4 W
          have g5 := fun W => zW 5 5 5 5 W
          cases R1
          all_goals
            go_enter Tryz.func74, Tryz.ntmps74
            go_wp2_with fail
            rw [HW.out]
            go_wp2_with fail
            clear e1 e2 e3 f1 f2 f3 f4 g1 g2 g3 g4 g5;have B0 := zu b0;have B1 := zu b1;have C0 := zu d0;have C1 := zu d1;have X0 := zu x0;have X1 := zu x1;have X2 := zu x2;have X3 := zu x3;have Y0 := zu y0;have Y1 := zu y1;have Y2 := zu y2;have Y3 := zu y3;clear b0 b1 d0 d1 x0 x1 x2 x3 y0 y1 y2 y3;refine xm (by kernel_rfl) (by kernel_rfl) ?_
            repeat
              first
                | go_big_quiet_skip
                | (go_big_quiet_want
                   go_big_quiet_op
                   first
                     | go_big_quiet_on
                     | (refine ⟨_, fun _ => rfl, ?_⟩
                        go_big_quiet_on)
                     | (apply Exists.intro
                        refine ⟨fun h => ?_, ?_⟩
                        · first
                            | (go_at_call 74; with_reducible exact zAx h (D1.out h.u h.low))
                            | (go_at_call 74; with_reducible exact zAx h (D2.out h.u h.low))
                        go_big_quiet_on))
            refine wpQuiet_nil ?_;rintro _ ⟨⟨w8, E⟩, rfl⟩
            go_wp2_with fail
            go_ret
            exact ⟨rfl, hB0.trans (E.mono hB0.size)⟩
    · rw [Ty.zFE _ _ hk0 hk0' hkk]
      have e1 : ∀ W, (binOp .eql 153 (.agg #[.int .i8 k, .int .i8 k']) (.agg #[.int .i8 1, .int .i8 1])).run Tryz.prog W = .ok (.bool false) W := fun W => by rw [zW]; simp; omega
      have e2 : ∀ W, (binOp .eql 153 (.agg #[.int .i8 k, .int .i8 k']) (.agg #[.int .i8 2, .int .i8 2])).run Tryz.prog W = .ok (.bool false) W := fun W => by rw [zW]; simp; omega
      have e3 : ∀ W, (binOp .eql 153 (.agg #[.int .i8 k, .int .i8 k']) (.agg #[.int .i8 3, .int .i8 3])).run Tryz.prog W = .ok (.bool false) W := fun W => by rw [zW]; simp; omega
      have e4 : ∀ W, (binOp .eql 153 (.agg #[.int .i8 k, .int .i8 k']) (.agg #[.int .i8 4, .int .i8 4])).run Tryz.prog W = .ok (.bool false) W := fun W => by rw [zW]; simp; omega
      have e5 : ∀ W, (binOp .eql 153 (.agg #[.int .i8 k, .int .i8 k']) (.agg #[.int .i8 5, .int .i8 5])).run Tryz.prog W = .ok (.bool false) W := fun W => by rw [zW]; simp; omega
      clear ho ho' hkk hk0 hk0';exact zG7
set_option maxHeartbeats 2000000 in
set_option maxRecDepth 100000 in
theorem uC (k : Int) (kids : Fo) (A : Option Addr) (n c : Nat) (k' : Int) (kids' : Fo) (A' : Option Addr) (n' c' : Nat) (w : World) (hIs : Ty.Is w k kids A n c) (hIs' : Ty.Is w k' kids' A' n' c') (hS : Shapes w) :
    Calls Tryz.prog 40 #[.agg #[.int .i8 k, .slice A n c], .agg #[.int .i8 k', .slice A' n' c']] w fun e w' => e = .returned (.bool (Ty.agreeT k kids k' kids')) /\ Below w.heap.size w w' := by
  obtain ⟨hB0, hR0, hR1⟩ := wF w k A n c k' A' n' c';have HM := k0_ (fun (W : World) (hb : Below w.heap.size w W) => qc k kids A n c W (hIs.below hb) (hS.below hb));have HN := k0_ (fun (W : World) (hb : Below w.heap.size w W) => qc k' kids' A' n' c' W (hIs'.below hb) (hS.below hb));have HK := k0_ (fun (W : World) (hb : Below w.heap.size w W) (h1 : Ty.okT k kids = true) (h2 : Ty.okT k' kids' = true) => zA3 (Ty.nodes kids + 1) k kids A n c k' kids' A' n' c' W (by omega) (hIs.below hb) (hIs'.below hb) h1 h2);have R0 := k0_ hR0;have R1 := k0_ hR1;have HB0 := k0_ hB0;clear hIs hIs' hS hR0 hR1
  by_cases h0 : Ty.chk k kids = 0
  · have o1 := (Ty.qp h0).1
    rw [h0] at HM
    by_cases h1 : Ty.chk k' kids' = 0
    · have o2 := (Ty.qp h1).1
      have hres : Ty.agreeT k kids k' kids' = Ty.agT k kids k' kids' := by unfold Ty.agreeT; rw [h0, h1]; rfl
      have HKK := k0_ (fun (W : World) (hb : Below w.heap.size w W) => HK.out W hb o1 o2);rw [hres];rw [h1] at HN;clear hres h0 h1 o1 o2 HK hB0
      go_enter Tryz.func40, Tryz.ntmps40
      go_wp2_with fail
      refine (HM.out _ HB0.out).mono ?_;rintro e w3 ⟨rfl, hb⟩;have hB1 := kt_ HB0 hb;have hR0 := zB hb (zD R0.out) R0.out;have hR1 := zB hb (zD R1.out) R1.out;obtain ⟨b0, b1, _, _, _⟩ := zK hR0;obtain ⟨d0, d1, _, _, _⟩ := zK hR1;have HR0 := k0_ hR0;have HR1 := k0_ hR1;clear hb hR0 hR1
      go_wp2_with fail
      refine (HN.out _ hB1.out).mono ?_;rintro e w4 ⟨rfl, hb⟩;have hB2 := kt_ hB1 hb;obtain ⟨b0, b1, _, _, _⟩ := zK (zB hb (zD HR0.out) HR0.out);obtain ⟨d0, d1, _, _, _⟩ := zK (zB hb (zD HR1.out) HR1.out);clear hb
      go_wp2_with fail
      refine (HKK.out _ hB2.out).mono ?_;rintro e w5 ⟨rfl, hb⟩
      go_wp2_with fail
      go_ret
      exact ⟨rfl, hB2.out.trans (hb.mono hB2.out.size)⟩
    · have hres : Ty.agreeT k kids k' kids' = false := by unfold Ty.agreeT; simp [h1]
      rw [hres];have hc : (((Ty.chk k' kids' : Nat) : Int) == 0) = false := by simp; omega
      generalize Ty.chk k' kids' = C at *;clear hres h0 h1 HK o1 hB0
      go_enter Tryz.func40, Tryz.ntmps40
      go_wp2_with fail
      refine (HM.out _ HB0.out).mono ?_;rintro e w3 ⟨rfl, hb⟩;have hB1 := kt_ HB0 hb;obtain ⟨d0, d1, _, _, _⟩ := zK (zB hb (zD R1.out) R1.out);clear hb
      go_wp2_with fail
      refine (HN.out _ hB1.out).mono ?_;rintro e w4 ⟨rfl, hb⟩
      go_wp2_with fail
      go_ret
      exact ⟨rfl, hB1.out.trans (hb.mono hB1.out.size)⟩
  · have hres : Ty.agreeT k kids k' kids' = false := by unfold Ty.agreeT; simp [h0]
    rw [hres];have hc : (((Ty.chk k kids : Nat) : Int) == 0) = false := by simp; omega
    generalize Ty.chk k kids = C at *;clear hres h0 HK hB0
    go_enter Tryz.func40, Tryz.ntmps40
    go_wp2_with fail
    refine (HM.out _ HB0.out).mono ?_;rintro e w3 ⟨rfl, hb⟩
    go_wp2_with fail
    go_ret
    exact ⟨rfl, HB0.out.trans (hb.mono HB0.out.size)⟩
end Go.Proofs.YtepmjknljbafgaaGreatDoor
namespace Go.Proofs.YtepmjknljbafgaaGreatDoor
namespace Ty
def leF : Fo -> Fo -> Bool
  | .nil, _ => true
  | .node _ _ _ _ _, .nil => true
  | .node _ _ k kids r, .node _ _ k' kids' r' => ((k == 0) || ((k == k') && leF kids kids')) && leF r r'
def leT (k : Int) (kids : Fo) (k' : Int) (kids' : Fo) : Bool := (k == 0) || ((k == k') && leF kids kids')
theorem xK : ∀ f : Fo, leF f f = true
  | .nil => rfl
  | .node _ _ k kids r => by simp [leF, xK kids, xK r]
def mF : Fo -> Fo -> Fo
  | .nil, _ => .nil
  | .node a b k kids r, .nil => .node a b k kids r
  | .node a b k kids r, .node _ _ k' kids' r' => .node a b (if k = 0 then k' else k) (if k = 0 then kids' else if k' = 0 then kids else mF kids kids') (mF r r')
def mK (k k' : Int) : Int := if k = 0 then k' else k
def mT (k : Int) (kids : Fo) (k' : Int) (kids' : Fo) : Fo := if k = 0 then kids' else if k' = 0 then kids else mF kids kids'
theorem zAY {k : Int} (kids kids' : Fo) (h : k ≠ 0) : mT k kids 0 kids' = kids := by unfold mT; simp [h]
theorem zEc {k k' : Int} (kids kids' : Fo) (h : k ≠ 0) (h' : k' ≠ 0) : mT k kids k' kids' = mF kids kids' := by unfold mT; simp [h, h']
theorem wT {k : Int} (k' : Int) (h : k ≠ 0) : mK k k' = k := by unfold mK; simp [h]
end Ty
end Go.Proofs.YtepmjknljbafgaaGreatDoor
