import Derived.Test.YtepmjknljbafgaaGreatDoorM12
import Derived.Test.YtepmjknljbafgaaGreatDoorM15
import Derived.Test.YtepmjknljbafgaaGreatDoorDd2
import Derived.LoopN
namespace Go.Proofs.YtepmjknljbafgaaGreatDoor
set_option maxHeartbeats 4000000
set_option maxRecDepth 100000
open Go.RowKit Rd
theorem yD {n i : Nat} (h : i <= n) : placed n (i : Int) = i := by unfold placed; omega
theorem zAW (p : Option Addr) (w : World) : (binOp .neq 32 (.iface 44 (.pointer p)) .nilIface).run Tryz.prog w = .ok (.bool true) w := by kernel_rfl
theorem zCg {w w1 u : World} {k : Int} {f : Fo} {G : Option Addr} {m cg j : Nat} (HX : u.heap[w.heap.size]? = some (.cells #[.int .i8 0, .slice none 0 0] 30 (0, 0))) (HY : u.heap[w1.heap.size]? = some (.cells #[.int .i8 0, .slice none 0 0] 30 (0, 0))) (hl : w.heap.size < w1.heap.size) (hF : Far (w1.heap.size + 1) u k f G m cg) (hb : Below w.heap.size w u) :
    ∃ Y G' m' cg', Value.pointer (some ⟨w1.heap.size, 0, none⟩) = .pointer (some ⟨Y, 0, none⟩) /\ Value.int .i64 j = .int .i64 j /\ Value.nilIface = .nilIface /\ ((u.setCell ⟨w1.heap.size, 0, none⟩ (.int .i8 k)).setCell ⟨w1.heap.size, 1, none⟩ (.slice G m cg)).heap[Y]? = some (.cells #[.int .i8 k, .slice G' m' cg'] 30 (0, 0)) /\ w.heap.size < Y /\ Far (w.heap.size + 1) ((u.setCell ⟨w1.heap.size, 0, none⟩ (.int .i8 k)).setCell ⟨w1.heap.size, 1, none⟩ (.slice G m cg)) k f G' m' cg' /\ ((u.setCell ⟨w1.heap.size, 0, none⟩ (.int .i8 k)).setCell ⟨w1.heap.size, 1, none⟩ (.slice G m cg)).heap[w.heap.size]? = some (.cells #[.int .i8 0, .slice none 0 0] 30 (0, 0)) /\ Below w.heap.size w ((u.setCell ⟨w1.heap.size, 0, none⟩ (.int .i8 k)).setCell ⟨w1.heap.size, 1, none⟩ (.slice G m cg)) := by
  refine ⟨w1.heap.size, G, m, cg, rfl, rfl, rfl, (by simp [World.setCell, Array.getElem?_modify, HY]), hl, (hF.keep fun b o v hb hc => ?_).low (by omega), ?_, (hb.setCell (Nat.le_of_lt hl) _).setCell (Nat.le_of_lt hl) _⟩
  · have hne : b ≠ w1.heap.size := by omega
    rw [← hc];exact World.cell?_of_block (by rw [Below.heap_setCell _ _ _ b hne, Below.heap_setCell _ _ _ b hne])
  · have hne : w.heap.size ≠ w1.heap.size := by omega
    rw [Below.heap_setCell _ _ _ _ hne, Below.heap_setCell _ _ _ _ hne]; exact HX
theorem zCh {n rb : Nat} {wc : World} {k : Int} {f : Fo} {G : Option Addr} {m cg : Nat} {v v0 v1 : Value} (hr : rb <= n) (hF : Far (n + 1) wc k f G m cg) : Far n (((wc.setCell ⟨rb, 1, none⟩ v).setCell ⟨n, 0, none⟩ v0).setCell ⟨n, 1, none⟩ v1) k f G m cg := by
  refine (hF.keep fun b o x hb hc => ?_).low (Nat.le_succ n);have hne : b ≠ n := by omega
  have hne2 : b ≠ rb := by omega
  rw [← hc];exact World.cell?_of_block (by rw [Below.heap_setCell _ _ _ b hne, Below.heap_setCell _ _ _ b hne, Below.heap_setCell _ _ _ b hne2])
theorem zBA {w wc : World} {n rb : Nat} {v v0 v1 : Value} (hn : w.heap.size <= n) (hg : w.grownBy wc (some rb)) : w.grownBy (((wc.setCell ⟨rb, 1, none⟩ v).setCell ⟨n, 0, none⟩ v0).setCell ⟨n, 1, none⟩ v1) (some rb) :=
  zL (zL (zL hg (.inl rfl) _) (.inr hn) _) (.inr hn) _
theorem kP (l : List W4) (A : Option Addr) (c rb i : Nat) (mv : Value) (w : World) (h : PdS l A c rb mv w i) {k : Int} {f : Fo} {j : Nat} {a : Int} {t : ByteArray} (hO : Out l i k f j 0 a t) :
    Calls Tryz.prog 121 #[.pointer (some ⟨rb, 0, none⟩)] w fun e w' => ∃ G m cg, e = .returned (.agg #[.int .i8 k, .slice G m cg]) /\ Far w.heap.size w' k f G m cg /\ PGo l A c rb mv w j w' := by
  have hb0 : Below w.heap.size w (w.alloc (.cells #[.int .i8 0, .slice none 0 0] 30)) := (Below.refl _ _).alloc (Nat.le_refl _) _;have HX := k0_ (zF w (.cells #[.int .i8 0, .slice none 0 0] 30));have HS1 := k0_ (h.below hb0);have HB0 := k0_ hb0;have hne : w.heap.size ≠ rb := by have := zD h.rdr; omega
  obtain ⟨r0, r1, r2, -, z1, -, hrl⟩ := qE HS1.out.rdr;have CR := k0_ (fun (W : World) (hb : Below w.heap.size w W) => zEE l A c (i : Int) W (h.row.below hb) (h.sh.below hb) h.len h.small);rw [yD h.le] at CR;have H := k0_ h;have HO := k0_ hO;clear hb0 h hO;generalize hw1 : w.alloc (.cells #[.int .i8 0, .slice none 0 0] 30) = w1 at *;have HW := k0_ hw1;clear hw1
  go_enter Tryz.func121, Tryz.ntmps121
  go_wp2_with fail
  rw [HW.out];have D0 := k0_ (HB0.out.drew);have hwl := zD HX.out;have D1 := k0_ (show Below w.heap.size w (w1.alloc (.cells #[.int .i8 0, .slice none 0 0] 30)).drew from (HB0.out.alloc HB0.out.size _).drew);have HX0 : Hid (w1.drew.heap[w.heap.size]? = some (.cells #[.int .i8 0, .slice none 0 0] 30)) := k0_ HX.out;have HX1 : Hid ((w1.alloc (.cells #[.int .i8 0, .slice none 0 0] 30)).drew.heap[w.heap.size]? = some (.cells #[.int .i8 0, .slice none 0 0] 30)) := k0_ (zG HX.out (.cells #[.int .i8 0, .slice none 0 0] 30));have HY1 : Hid ((w1.alloc (.cells #[.int .i8 0, .slice none 0 0] 30)).drew.heap[w1.heap.size]? = some (.cells #[.int .i8 0, .slice none 0 0] 30)) := k0_ (zF w1 (.cells #[.int .i8 0, .slice none 0 0] 30))
  go_cut [3, 4, 5] (fun s3 s4 s5 wx => ∃ Y G m cg, s3 = .pointer (some ⟨Y, 0, none⟩) /\ s4 = .int .i64 j /\ s5 = .nilIface /\ wx.heap[Y]? = some (.cells #[.int .i8 k, .slice G m cg] 30 (0, 0)) /\ w.heap.size < Y /\ Far (w.heap.size + 1) wx k f G m cg /\ wx.heap[w.heap.size]? = some (.cells #[.int .i8 0, .slice none 0 0] 30 (0, 0)) /\ Below w.heap.size w wx)
  case first =>
    go_region_law? (first
      | (go_simp; go_at_call 144; (first | (with_reducible refine (CR.out _ D0.out).mono ?_) | (with_reducible refine (CR.out _ D1.out).mono ?_)); rintro e u ⟨k', f', j', E', a', t', G, m, cg, err, hO', rfl, hF, hT, hb⟩; obtain ⟨rfl, rfl, rfl, rfl, rfl, rfl⟩ := HO.out.det hO'; rcases hT with ⟨rfl, -⟩ | ⟨_, -, -, hE⟩; rotate_left; exact absurd hE (by decide); have HBU := k0_ (by first | exact D0.out.trans (hb.mono D0.out.size) | exact D1.out.trans (hb.mono D1.out.size) : Below w.heap.size w u); have HFU := k0_ (by first | exact hF.low (n0 := w.heap.size + 1) hwl | exact hF.low (n0 := w1.heap.size + 1) (by simp [World.drew]) : Far _ u k' f' G m cg); have HXU := k0_ (by first | exact zB hb hwl HX0.out | exact zB hb (zD HX1.out) HX1.out : u.heap[w.heap.size]? = some (.cells #[.int .i8 0, .slice none 0 0] 30)); try (have HYU := kp_ hb HY1; obtain ⟨y0, y1, yf0, yf1, yl⟩ := zK HYU.out); clear hb hF hO'; go_wp2_with fail))
    all_goals
      go_wp2_with fail
      go_meet
      first
      | exact ⟨_, G, m, cg, rfl, rfl, rfl, zF u _, zD HXU.out, HFU.out.below ((Below.refl _ _).alloc (Nat.le_refl _) _), zG HXU.out _, HBU.out.alloc HBU.out.size _⟩
      | exact zCg HXU.out HYU.out hwl HFU.out HBU.out
  case rest =>
    obtain ⟨Y, G, m, cg, rfl, rfl, rfl, hY, hYn, hF, hX, hb⟩ := hcut;have HSX := k0_ (H.out.below hb);obtain ⟨y0, y1, yf0, yf1, yl⟩ := zK hY;obtain ⟨x0, x1, xf0, xf1, xl⟩ := zK hX;have HYY := k0_ hY;have HXX := k0_ hX;have HBX := k0_ hb;have HFX := k0_ hF;obtain ⟨s0, s1, s2, t0, t1, t2, sl⟩ := qE HSX.out.rdr;clear hY hX hb hF;have hrw := zD H.out.rdr;have hYr : Y ≠ rb := by omega
    have hYw : Y ≠ w.heap.size := by omega
    clear hrl hwl HX0 HX1 HY1 D0 D1 CR
    go_wp2_with fail
    refine bodyPost_ret (v := .agg #[.int .i8 k, .slice G m cg]) (by simp [results, Tryz.results121, go_sem, *]) rfl ⟨G, m, cg, rfl, (zCh (Nat.le_of_lt hrw) HFX.out), ?_, zBA (Nat.le_refl _) (zJ (rb := rb) HBX.out)⟩;have e3 := HSX.out.rdr;unfold PRd at e3 ⊢;rw [Below.heap_setCell _ _ _ rb (Ne.symm hne), Below.heap_setCell _ _ _ rb (Ne.symm hne)]
    simp [World.setCell, Array.getElem?_modify, e3]
theorem zFM (l : List W4) (A : Option Addr) (c : Nat) (at_ : Int) (w : World) (hW : WRow w A l) (hS : Shapes w) (hl : l.length < maxLen) (hsm : ∀ x ∈ l, x.text.size <= 281474976710656) {k : Int} {f : Fo} {N : Nat} {E a : Int} {t : ByteArray} (hO : Out l (placed l.length at_) k f N E a t) (hE : E ≠ 0) :
    Calls Tryz.prog 144 #[.slice A l.length c, .int .i64 at_] w fun e w' => ∃ g, e = .returned (.tuple #[.agg #[.int .i8 0, .slice none 0 0], .int .i64 0, .iface 44 (.pointer (some ⟨g, 0, none⟩))]) /\ w'.heap[g]? = some (.cells #[.int .i64 E, .int .i64 a, .string t] 95 (0, 0)) /\ w.heap.size <= g /\ Below w.heap.size w w' := by
  refine (zAR l A c at_ w hW hS hl hsm).mono ?_;rintro e w' (⟨k2, zO, j, hR, hc, G, m, cg, he, hF, hb⟩ | ⟨k2, zO, j, hR, hc, g, he, hI, hg, hb⟩ | ⟨q, hR, g, he, hI, hg, hb⟩)
  · obtain ⟨-, -, -, h0, -, -⟩ := hO.det (.inl ⟨hR, hc, rfl, rfl, rfl⟩)
    exact absurd h0.symm hE
  · obtain ⟨rfl, rfl, rfl, rfl, rfl, rfl⟩ := hO.det (.inr (.inl ⟨k2, zO, j, hR, hc, rfl, rfl, rfl, rfl, rfl, rfl⟩))
    exact ⟨g, he, hI, hg, hb⟩
  · obtain ⟨rfl, rfl, rfl, rfl, rfl, rfl⟩ := hO.det (.inr (.inr ⟨q, hR, rfl, rfl, rfl, rfl, rfl, rfl⟩))
    exact ⟨g, he, hI, hg, hb⟩
theorem zAA {w w1 u : World} {k : Int} {G : Option Addr} {m cg g : Nat} {E a : Int} {t : ByteArray} (HY : u.heap[w1.heap.size]? = some (.cells #[.int .i8 0, .slice none 0 0] 30 (0, 0))) (hl : w.heap.size < w1.heap.size) (hF : u.heap[g]? = some (.cells #[.int .i64 E, .int .i64 a, .string t] 95 (0, 0))) (hg : w.heap.size <= g) (hb : Below w.heap.size w u) :
    ∃ g', Value.iface 44 (.pointer (some ⟨g, 0, none⟩)) = .iface 44 (.pointer (some ⟨g', 0, none⟩)) /\ ((u.setCell ⟨w1.heap.size, 0, none⟩ (.int .i8 k)).setCell ⟨w1.heap.size, 1, none⟩ (.slice G m cg)).heap[g']? = some (.cells #[.int .i64 E, .int .i64 a, .string t] 95 (0, 0)) /\ w.heap.size <= g' /\ Below w.heap.size w ((u.setCell ⟨w1.heap.size, 0, none⟩ (.int .i8 k)).setCell ⟨w1.heap.size, 1, none⟩ (.slice G m cg)) := by
  have hne : g ≠ w1.heap.size := fun e => by subst e; rw [HY] at hF; injection hF with hF; injection hF with h1 h2; cases h1
  exact ⟨g, rfl, by rw [Below.heap_setCell _ _ _ _ hne, Below.heap_setCell _ _ _ _ hne]; exact hF, hg, (hb.setCell (Nat.le_of_lt hl) _).setCell (Nat.le_of_lt hl) _⟩
theorem yS (l : List W4) (A : Option Addr) (c rb i : Nat) (mv : Value) (w : World) (h : PdS l A c rb mv w i) {k : Int} {f : Fo} {j : Nat} {E a : Int} {t : ByteArray} (hO : Out l i k f j E a t) (hE : E ≠ 0) :
    Calls Tryz.prog 121 #[.pointer (some ⟨rb, 0, none⟩)] w (PBad rb w E a t) := by
  have hb0 : Below w.heap.size w (w.alloc (.cells #[.int .i8 0, .slice none 0 0] 30)) := (Below.refl _ _).alloc (Nat.le_refl _) _;have HX := k0_ (zF w (.cells #[.int .i8 0, .slice none 0 0] 30));have HS1 := k0_ (h.below hb0);have HB0 := k0_ hb0;have hne : w.heap.size ≠ rb := by have := zD h.rdr; omega
  obtain ⟨r0, r1, r2, -, z1, -, hrl⟩ := qE HS1.out.rdr;have CR := k0_ (fun (W : World) (hb : Below w.heap.size w W) => zFM l A c (i : Int) W (h.row.below hb) (h.sh.below hb) h.len h.small (by rw [yD h.le]; exact hO) hE);have H := k0_ h;have HO := k0_ hO;clear hb0 h hO;generalize hw1 : w.alloc (.cells #[.int .i8 0, .slice none 0 0] 30) = w1 at *;have HW := k0_ hw1;clear hw1
  go_enter Tryz.func121, Tryz.ntmps121
  go_wp2_with fail
  rw [HW.out];have D0 := k0_ (HB0.out.drew);have hwl := zD HX.out;have D1 := k0_ (show Below w.heap.size w (w1.alloc (.cells #[.int .i8 0, .slice none 0 0] 30)).drew from (HB0.out.alloc HB0.out.size _).drew);have HX0 : Hid (w1.drew.heap[w.heap.size]? = some (.cells #[.int .i8 0, .slice none 0 0] 30)) := k0_ HX.out;have HX1 : Hid ((w1.alloc (.cells #[.int .i8 0, .slice none 0 0] 30)).drew.heap[w.heap.size]? = some (.cells #[.int .i8 0, .slice none 0 0] 30)) := k0_ (zG HX.out (.cells #[.int .i8 0, .slice none 0 0] 30));have HY1 : Hid ((w1.alloc (.cells #[.int .i8 0, .slice none 0 0] 30)).drew.heap[w1.heap.size]? = some (.cells #[.int .i8 0, .slice none 0 0] 30)) := k0_ (zF w1 (.cells #[.int .i8 0, .slice none 0 0] 30))
  go_cut [5] (fun s5 wx => ∃ g, s5 = .iface 44 (.pointer (some ⟨g, 0, none⟩)) /\ wx.heap[g]? = some (.cells #[.int .i64 E, .int .i64 a, .string t] 95 (0, 0)) /\ w.heap.size <= g /\ Below w.heap.size w wx)
  case first =>
    go_region_law? (first
      | (go_simp; go_at_call 144; (first | (with_reducible refine (CR.out _ D0.out).mono ?_) | (with_reducible refine (CR.out _ D1.out).mono ?_)); rintro e u ⟨g, rfl, hI, hg, hb⟩; have HBU := k0_ (by first | exact D0.out.trans (hb.mono D0.out.size) | exact D1.out.trans (hb.mono D1.out.size) : Below w.heap.size w u); have HFU := k0_ hI; have HGU := k0_ (by first | exact Nat.le_trans D0.out.size hg | exact Nat.le_trans D1.out.size hg : w.heap.size <= g); have HXU := k0_ (by first | exact zB hb hwl HX0.out | exact zB hb (zD HX1.out) HX1.out : u.heap[w.heap.size]? = some (.cells #[.int .i8 0, .slice none 0 0] 30)); try (have HYU := kp_ hb HY1; obtain ⟨y0, y1, yf0, yf1, yl⟩ := zK HYU.out); clear hb hI hg; go_wp2_with fail))
    all_goals
      go_wp2_with fail
      go_meet
      first
      | exact ⟨g, rfl, zG HFU.out _, HGU.out, HBU.out.alloc HBU.out.size _⟩
      | exact zAA HYU.out hwl HFU.out HGU.out HBU.out
  case rest =>
    obtain ⟨g, rfl, hF, hgl, hb⟩ := hcut;have en := zAW (some ⟨g, 0, none⟩);have HP := k0_ (show PBad rb w E a t (.panicked [{ v := .iface 102 (.agg #[.iface 44 (.pointer (some ⟨g, 0, none⟩))]), recovered := false }]) wc from ⟨g, rfl, hF, hgl, zJ hb⟩);clear hF hgl hb hrl hwl HX0 HX1 HY1 D0 D1 CR
    go_wp2_with fail
    exact ⟨rfl, HP.out⟩
set_option maxHeartbeats 4000000
set_option maxRecDepth 100000
open Go.RowKit Rd
theorem zFv {n : Nat} {wc : World} {k : Int} {f : Fo} {G : Option Addr} {m cg : Nat} {v0 v1 : Value} (hF : Far (n + 1) wc k f G m cg) : Far n ((wc.setCell ⟨n, 0, none⟩ v0).setCell ⟨n, 1, none⟩ v1) k f G m cg := by
  refine (hF.keep fun b o x hb hc => ?_).low (Nat.le_succ n);have hne : b ≠ n := by omega
  rw [← hc];exact World.cell?_of_block (by rw [Below.heap_setCell _ _ _ b hne, Below.heap_setCell _ _ _ b hne])
theorem zEV {w wc : World} {n rb : Nat} {v0 v1 : Value} (hn : w.heap.size <= n) (hg : w.grownBy wc (some rb)) : w.grownBy ((wc.setCell ⟨n, 0, none⟩ v0).setCell ⟨n, 1, none⟩ v1) (some rb) :=
  zL (zL hg (.inr hn) _) (.inr hn) _
theorem vO (l : List W4) (A : Option Addr) (c rb i : Nat) (mv : Value) (w : World) (h : PdS l A c rb mv w i) (hi : i < l.length) (hs : ((fx (wAt l i)).toList == (⟨#[58]⟩ : ByteArray).toList) = true) {k : Int} {f : Fo} {j : Nat} {a : Int} {t : ByteArray} (hO : Out l (i + 1) k f j 0 a t) :
    Calls Tryz.prog 87 #[.pointer (some ⟨rb, 0, none⟩)] w fun e w' => ∃ G m cg, e = .returned (.agg #[.int .i8 k, .slice G m cg]) /\ Far w.heap.size w' k f G m cg /\ PGo l A c rb mv w j w' := by
  have hb0 : Below w.heap.size w (w.alloc (.cells #[.int .i8 0, .slice none 0 0] 30)) := (Below.refl _ _).alloc (Nat.le_refl _) _;have HX := k0_ (zF w (.cells #[.int .i8 0, .slice none 0 0] 30));have HB0 := k0_ hb0;have hrl := zD h.rdr;have hne : w.heap.size ≠ rb := by omega
  have CW := k0_ (fun (W : World) (hb : Below w.heap.size w W) => kW l A c rb i mv ⟨#[58]⟩ W (h.below hb) hi hs);have CT := k0_ (fun (W : World) (hg : w.grownBy W (some rb)) (hR : PRd W rb A l.length c (i + 1 : Nat) mv) => kP l A c rb (i + 1) mv W (h.step hg hR hi) hO);clear hb0 h hO hs;generalize hw1 : w.alloc (.cells #[.int .i8 0, .slice none 0 0] 30) = w1 at *;have HW := k0_ hw1;clear hw1
  go_enter Tryz.func87, Tryz.ntmps87
  go_wp2_with fail
  rw [HW.out]
  go_wp2_with fail
  refine (CW.out _ HB0.out).mono ?_;rintro e w2 ⟨rfl, hR, hg⟩;have hwl := zD HX.out;have HX2 := k0_ ((hg.block _ hwl (fun e => hne (by injection e))).trans HX.out);have HG2 := k0_ (zI (zJ (rb := rb) HB0.out) hg);have HR2 := k0_ hR;have hwl2 := zD HX2.out;clear hR hg
  go_wp2_with fail
  refine (CT.out _ HG2.out HR2.out).mono ?_;rintro e w3 ⟨G, m, cg, rfl, hF, hR, hg⟩;have HX3 := k0_ ((hg.block _ hwl2 (fun e => hne (by injection e))).trans HX2.out);have HG3 := k0_ (zI HG2.out hg);have HR3 := k0_ hR;have HF3 := k0_ (hF.low (n0 := w.heap.size + 1) hwl2);obtain ⟨x0, x1, xf0, xf1, xl⟩ := zK HX3.out;clear hR hg hF
  go_wp2_with fail
  refine bodyPost_ret (v := .agg #[.int .i8 k, .slice G m cg]) (by simp [results, Tryz.results87, go_sem, *]) rfl ⟨G, m, cg, rfl, zFv HF3.out, ?_, zEV (Nat.le_refl _) HG3.out⟩;have e3 := HR3.out;unfold PRd at e3 ⊢;rw [Below.heap_setCell _ _ _ rb (Ne.symm hne), Below.heap_setCell _ _ _ rb (Ne.symm hne)];exact e3
theorem kK (l : List W4) (A : Option Addr) (c rb i : Nat) (mv : Value) (w : World) (h : PdS l A c rb mv w i) (hi : i < l.length) (hs : ((fx (wAt l i)).toList == (⟨#[58]⟩ : ByteArray).toList) = true) {k : Int} {f : Fo} {j : Nat} {E a : Int} {t : ByteArray} (hO : Out l (i + 1) k f j E a t) (hE : E ≠ 0) :
    Calls Tryz.prog 87 #[.pointer (some ⟨rb, 0, none⟩)] w (PBad rb w E a t) := by
  have hb0 : Below w.heap.size w (w.alloc (.cells #[.int .i8 0, .slice none 0 0] 30)) := (Below.refl _ _).alloc (Nat.le_refl _) _;have HB0 := k0_ hb0;have CW := k0_ (fun (W : World) (hb : Below w.heap.size w W) => kW l A c rb i mv ⟨#[58]⟩ W (h.below hb) hi hs);have CT := k0_ (fun (W : World) (hg : w.grownBy W (some rb)) (hR : PRd W rb A l.length c (i + 1 : Nat) mv) => (yS l A c rb (i + 1) mv W (h.step hg hR hi) hO hE).mono (fun e w' hP => hP.from hg));clear hb0 h hO hs;generalize hw1 : w.alloc (.cells #[.int .i8 0, .slice none 0 0] 30) = w1 at *;have HW := k0_ hw1;clear hw1
  go_enter Tryz.func87, Tryz.ntmps87
  go_wp2_with fail
  rw [HW.out]
  go_wp2_with fail
  refine (CW.out _ HB0.out).mono ?_;rintro e w2 ⟨rfl, hR, hg⟩;have HG2 := k0_ (zI (zJ (rb := rb) HB0.out) hg);have HR2 := k0_ hR;clear hR hg
  go_wp2_with fail
  refine (CT.out _ HG2.out HR2.out).mono ?_;intro e w4 hP;have HP := k0_ hP;exact qY
theorem jf (l : List W4) (A : Option Addr) (c rb i : Nat) (mv : Value) (w : World) (h : PdS l A c rb mv w i) (hs : ((fx (wAt l i)).toList == (⟨#[58]⟩ : ByteArray).toList) = false) :
    Calls Tryz.prog 87 #[.pointer (some ⟨rb, 0, none⟩)] w (PBad rb w 40 (Rd.fAt l i) (Rd.fWord l i)) := by
  have hb0 : Below w.heap.size w (w.alloc (.cells #[.int .i8 0, .slice none 0 0] 30)) := (Below.refl _ _).alloc (Nat.le_refl _) _;have CW := k0_ (fun (W : World) (hb : Below w.heap.size w W) => (zAS l A c rb i mv ⟨#[58]⟩ W (h.below hb) hs).mono (fun e w' hP => hP.from (zJ hb)));have HB0 := k0_ hb0;clear hb0 h hs;generalize hw1 : w.alloc (.cells #[.int .i8 0, .slice none 0 0] 30) = w1 at *;have HW := k0_ hw1;clear hw1
  go_enter Tryz.func87, Tryz.ntmps87
  go_wp2_with fail
  rw [HW.out]
  go_wp2_with fail
  refine (CW.out _ HB0.out).mono ?_;intro e w4 hP;have HP := k0_ hP;exact qY
set_option maxHeartbeats 4000000
set_option maxRecDepth 100000
open Go.RowKit Rd
theorem zHX : ∀ w, (Instr.makeSlice 39 (.int .i64 1) (.int .i64 1)).run Tryz.prog w = .ok (.slice (some ⟨w.heap.size, 0, none⟩) 1 1) (w.alloc (.cells #[.int .i8 0, .string ⟨#[]⟩, .string ⟨#[]⟩, .int .i64 0, .int .i8 0, .slice none 0 0, .int .i8 0, .slice none 0 0, .int .i64 0, .int .i64 0, .slice none 0 0] 41)) := fun _ => by kernel_rfl
theorem zHW : ∀ w, (Instr.makeSlice 39 (.int .i64 2) (.int .i64 2)).run Tryz.prog w = .ok (.slice (some ⟨w.heap.size, 0, none⟩) 2 2) (w.alloc (.cells #[.int .i8 0, .string ⟨#[]⟩, .string ⟨#[]⟩, .int .i64 0, .int .i8 0, .slice none 0 0, .int .i8 0, .slice none 0 0, .int .i64 0, .int .i64 0, .slice none 0 0, .int .i8 0, .string ⟨#[]⟩, .string ⟨#[]⟩, .int .i64 0, .int .i8 0, .slice none 0 0, .int .i8 0, .slice none 0 0, .int .i64 0, .int .i64 0, .slice none 0 0] 41)) := fun _ => by kernel_rfl
theorem zHV : ∀ w, (Instr.makeSlice 39 (.int .i64 3) (.int .i64 3)).run Tryz.prog w = .ok (.slice (some ⟨w.heap.size, 0, none⟩) 3 3) (w.alloc (.cells #[.int .i8 0, .string ⟨#[]⟩, .string ⟨#[]⟩, .int .i64 0, .int .i8 0, .slice none 0 0, .int .i8 0, .slice none 0 0, .int .i64 0, .int .i64 0, .slice none 0 0, .int .i8 0, .string ⟨#[]⟩, .string ⟨#[]⟩, .int .i64 0, .int .i8 0, .slice none 0 0, .int .i8 0, .slice none 0 0, .int .i64 0, .int .i64 0, .slice none 0 0, .int .i8 0, .string ⟨#[]⟩, .string ⟨#[]⟩, .int .i64 0, .int .i8 0, .slice none 0 0, .int .i8 0, .slice none 0 0, .int .i64 0, .int .i64 0, .slice none 0 0] 41)) := fun _ => by kernel_rfl
theorem zT (w : World) (R X0 : Nat) (h0 : Hd) (p0 : Pl) (hR : w.heap[R]? = some (.cells #[.pointer (some ⟨X0, 0, none⟩)] 108 (0, 0))) (hX0 : w.heap[X0]? = some (.cells (h0.cells p0).toArray 41 (0, 0))) :
    Calls Tryz.prog 88 #[.slice (some ⟨R, 0, none⟩) 1 1] w fun e w' => e = .returned (.slice (some ⟨w.heap.size, 0, none⟩) 1 1) /\ w.alloc (.cells (tC_ h0 p0) 41) = w' := by
  try unfold tC_
  have hm := zHX;have r0 := (qX hR).1;have rl := zD hR;obtain ⟨x0_0, x0_1, x0_2, x0_3, x0_4, x0_5, x0_6, x0_7, x0_8, x0_9, x0_10, xl0⟩ := zS hX0;clear hR hX0;have zf : ∀ o, w.frozen? ⟨w.heap.size, o, none⟩ = false := by intro o; simp [World.frozen?]
  have n0 : R ≠ w.heap.size := by omega
  have m0 : X0 ≠ w.heap.size := by omega
  go_enter Tryz.func88, Tryz.ntmps88
  go_wp2_with fail
  refine wp_loop_rounds 2 ?_;exact zH2
theorem zO (w : World) (R X0 X1 : Nat) (h0 h1 : Hd) (p0 p1 : Pl) (hR : w.heap[R]? = some (.cells #[.pointer (some ⟨X0, 0, none⟩), .pointer (some ⟨X1, 0, none⟩)] 108 (0, 0))) (hX0 : w.heap[X0]? = some (.cells (h0.cells p0).toArray 41 (0, 0))) (hX1 : w.heap[X1]? = some (.cells (h1.cells p1).toArray 41 (0, 0))) :
    Calls Tryz.prog 88 #[.slice (some ⟨R, 0, none⟩) 2 2] w fun e w' => e = .returned (.slice (some ⟨w.heap.size, 0, none⟩) 2 2) /\ w.alloc (.cells #[.int .i8 h0.kind, .string h0.name, .string h0.arg, .int .i64 h0.num, .int .i8 h0.tk, .slice p0.TA p0.tn p0.tc, .int .i8 h0.uk, .slice p0.UA p0.un p0.uc, .int .i64 h0.label, .int .i64 h0.pos, .slice p0.A p0.n p0.c, .int .i8 h1.kind, .string h1.name, .string h1.arg, .int .i64 h1.num, .int .i8 h1.tk, .slice p1.TA p1.tn p1.tc, .int .i8 h1.uk, .slice p1.UA p1.un p1.uc, .int .i64 h1.label, .int .i64 h1.pos, .slice p1.A p1.n p1.c] 41) = w' := by
  have hm := zHW;have r0 := (zK hR).1;have r1 := (zK hR).2.1;have rl := zD hR;obtain ⟨x0_0, x0_1, x0_2, x0_3, x0_4, x0_5, x0_6, x0_7, x0_8, x0_9, x0_10, xl0⟩ := zS hX0;obtain ⟨x1_0, x1_1, x1_2, x1_3, x1_4, x1_5, x1_6, x1_7, x1_8, x1_9, x1_10, xl1⟩ := zS hX1;clear hR hX0 hX1;have zf : ∀ o, w.frozen? ⟨w.heap.size, o, none⟩ = false := by intro o; simp [World.frozen?]
  have n0 : R ≠ w.heap.size := by omega
  have m0 : X0 ≠ w.heap.size := by omega
  have m1 : X1 ≠ w.heap.size := by omega
  go_enter Tryz.func88, Tryz.ntmps88
  go_wp2_with fail
  refine wp_loop_rounds 3 ?_;rw [rounds_succ]
  go_wp2_with fail
  exact zH2
theorem zAa (w : World) (R X0 X1 X2 : Nat) (h0 h1 h2 : Hd) (p0 p1 p2 : Pl) (hR : w.heap[R]? = some (.cells #[.pointer (some ⟨X0, 0, none⟩), .pointer (some ⟨X1, 0, none⟩), .pointer (some ⟨X2, 0, none⟩)] 108 (0, 0))) (hX0 : w.heap[X0]? = some (.cells (h0.cells p0).toArray 41 (0, 0))) (hX1 : w.heap[X1]? = some (.cells (h1.cells p1).toArray 41 (0, 0))) (hX2 : w.heap[X2]? = some (.cells (h2.cells p2).toArray 41 (0, 0))) :
    Calls Tryz.prog 88 #[.slice (some ⟨R, 0, none⟩) 3 3] w fun e w' => e = .returned (.slice (some ⟨w.heap.size, 0, none⟩) 3 3) /\ w.alloc (.cells #[.int .i8 h0.kind, .string h0.name, .string h0.arg, .int .i64 h0.num, .int .i8 h0.tk, .slice p0.TA p0.tn p0.tc, .int .i8 h0.uk, .slice p0.UA p0.un p0.uc, .int .i64 h0.label, .int .i64 h0.pos, .slice p0.A p0.n p0.c, .int .i8 h1.kind, .string h1.name, .string h1.arg, .int .i64 h1.num, .int .i8 h1.tk, .slice p1.TA p1.tn p1.tc, .int .i8 h1.uk, .slice p1.UA p1.un p1.uc, .int .i64 h1.label, .int .i64 h1.pos, .slice p1.A p1.n p1.c, .int .i8 h2.kind, .string h2.name, .string h2.arg, .int .i64 h2.num, .int .i8 h2.tk, .slice p2.TA p2.tn p2.tc, .int .i8 h2.uk, .slice p2.UA p2.un p2.uc, .int .i64 h2.label, .int .i64 h2.pos, .slice p2.A p2.n p2.c] 41) = w' := by
  have hm := zHV;obtain ⟨r0, r1, r2, -, -, -, -⟩ := qE hR;have rl := zD hR;obtain ⟨x0_0, x0_1, x0_2, x0_3, x0_4, x0_5, x0_6, x0_7, x0_8, x0_9, x0_10, xl0⟩ := zS hX0;obtain ⟨x1_0, x1_1, x1_2, x1_3, x1_4, x1_5, x1_6, x1_7, x1_8, x1_9, x1_10, xl1⟩ := zS hX1;obtain ⟨x2_0, x2_1, x2_2, x2_3, x2_4, x2_5, x2_6, x2_7, x2_8, x2_9, x2_10, xl2⟩ := zS hX2;clear hR hX0 hX1 hX2;have zf : ∀ o, w.frozen? ⟨w.heap.size, o, none⟩ = false := by intro o; simp [World.frozen?]
  have n0 : R ≠ w.heap.size := by omega
  have m0 : X0 ≠ w.heap.size := by omega
  have m1 : X1 ≠ w.heap.size := by omega
  have m2 : X2 ≠ w.heap.size := by omega
  go_enter Tryz.func88, Tryz.ntmps88
  go_wp2_with fail
  refine wp_loop_rounds 4 ?_;rw [rounds_succ]
  go_wp2_with fail
  rw [rounds_succ]
  go_wp2_with fail
  exact zH2
end Go.Proofs.YtepmjknljbafgaaGreatDoor
namespace Go.Proofs.YtepmjknljbafgaaGreatDoor
open Go.RowKit Rd Tt
def KeepFrom (n0 : Nat) (w u : World) : Prop := ∀ b o v, n0 <= b -> w.cell? ⟨b, o, none⟩ = some v -> u.cell? ⟨b, o, none⟩ = some v
theorem KeepFrom.trans {n0 : Nat} {w u v : World} (h : KeepFrom n0 w u) (k : KeepFrom n0 u v) : KeepFrom n0 w v := fun b o x hb hc => k b o x hb (h b o x hb hc)
theorem KeepFrom.low {n0 n1 : Nat} {w u : World} (h : KeepFrom n0 w u) (hn : n0 <= n1) : KeepFrom n1 w u := fun b o x hb hc => h b o x (Nat.le_trans hn hb) hc
theorem KeepFrom.below {n0 : Nat} {w u : World} (hb : Below w.heap.size w u) : KeepFrom n0 w u := fun b o v _ hc => by rw [hb.cell (p := ⟨b, o, none⟩) (Ty.zN hc)]; exact hc
theorem KeepFrom.grown {n0 rb : Nat} {w u : World} (hg : w.grownBy u (some rb)) (hr : rb < n0) : KeepFrom n0 w u := fun b o v hb hc => by
  rw [World.cell?_of_block (hg.block b (Ty.zN hc) (fun e => by injection e with e; omega))]; exact hc
def FarT (n0 : Nat) (w : World) (h : Hd) (kids : Tm) (p : Pl) : Prop := ∀ u : World, KeepFrom n0 w u -> Tm.Is u h kids p
theorem FarT.is {n0 : Nat} {w : World} {h : Hd} {kids : Tm} {p : Pl} (f : FarT n0 w h kids p) : Tm.Is w h kids p := f w fun _ _ _ _ h => h
theorem FarT.keep {n0 : Nat} {w w' : World} {h : Hd} {kids : Tm} {p : Pl} (f : FarT n0 w h kids p) (hk : KeepFrom n0 w w') : FarT n0 w' h kids p := fun u hu => f u (hk.trans hu)
theorem FarT.low {n0 n1 : Nat} {w : World} {h : Hd} {kids : Tm} {p : Pl} (f : FarT n1 w h kids p) (hn : n0 <= n1) : FarT n0 w h kids p := fun u hu => f u (hu.low hn)
def FlatF (n0 : Nat) (w : World) : Tm -> List Value -> Prop
  | .nil, xs => xs = []
  | .node h kids r, xs => ∃ p ys, xs = h.cells p ++ ys /\ FarT n0 w h kids p /\ FlatF n0 w r ys
theorem vL {n0 Z : Nat} {w : World} {C : List Value} {ty : TypeId} (hZ : w.heap[Z]? = some (.cells C.toArray ty (0, 0))) (hn : n0 <= Z) : ∀ (f : Tm) (xs : List Value) (i : Nat), FlatF n0 w f xs -> (∀ j v, xs[j]? = some v -> C[i * 11 + j]? = some v) -> ∀ u, KeepFrom n0 w u -> Tm.Lies u f (some ⟨Z, 0, none⟩) i
  | .nil, _, _, _, _, _, _ => trivial
  | .node h kids r, _, i, e, hc, u, hu => by
    obtain ⟨p, ys, rfl, h1, h2⟩ := e;have hlen : (h.cells p).length = 11 := rfl;refine ⟨Z, 0, p, rfl, fun j v hv => ?_, (h1 u hu).fit, (h1 u hu).lies, ?_⟩
    · have hj : j < (h.cells p).length := by
        rcases Nat.lt_or_ge j (h.cells p).length with q | q
        · exact q
        · rw [List.getElem?_eq_none q] at hv; cases hv
      rw [Nat.zero_add];exact hu Z _ v hn (cell_of_heap hZ _ (by rw [List.getElem?_toArray]; exact hc j v (by rw [List.getElem?_append_left hj]; exact hv)))
    · exact vL hZ hn r ys (i + 1) h2 (fun j v hv => by
        have := hc (j + 11) v (by rw [List.getElem?_append_right (by rw [hlen]; omega), hlen, show j + 11 - 11 = j by omega]; exact hv)
        rw [show (i + 1) * 11 + j = i * 11 + (j + 11) by omega]; exact this) u hu
theorem zHS {n0 Z : Nat} {w : World} {h0 : Hd} {t0 : Tm} {p0 : Pl} {ty : TypeId} (hZ : w.heap[Z]? = some (.cells (h0.cells p0).toArray ty (0, 0))) (hn : n0 <= Z) (f0 : FarT n0 w h0 t0 p0) (u : World) (hu : KeepFrom n0 w u) : Tm.Lies u (.node h0 t0 .nil) (some ⟨Z, 0, none⟩) 0 :=
  vL hZ hn (.node h0 t0 .nil) (h0.cells p0) 0 ⟨p0, [], (List.append_nil _).symm, f0, rfl⟩ (fun j v hv => by rw [Nat.zero_mul, Nat.zero_add]; exact hv) u hu
theorem zIh {n0 Z : Nat} {w : World} {h0 h1 : Hd} {t0 t1 : Tm} {p0 p1 : Pl} {ty : TypeId} (hZ : w.heap[Z]? = some (.cells (h0.cells p0 ++ h1.cells p1).toArray ty (0, 0))) (hn : n0 <= Z) (f0 : FarT n0 w h0 t0 p0) (f1 : FarT n0 w h1 t1 p1) (u : World) (hu : KeepFrom n0 w u) : Tm.Lies u (.node h0 t0 (.node h1 t1 .nil)) (some ⟨Z, 0, none⟩) 0 :=
  vL hZ hn (.node h0 t0 (.node h1 t1 .nil)) (h0.cells p0 ++ h1.cells p1) 0 ⟨p0, _, rfl, f0, p1, [], (List.append_nil _).symm, f1, rfl⟩ (fun j v hv => by rw [Nat.zero_mul, Nat.zero_add]; exact hv) u hu
theorem zIg {n0 Z : Nat} {w : World} {h0 h1 h2 : Hd} {t0 t1 t2 : Tm} {p0 p1 p2 : Pl} {ty : TypeId} (hZ : w.heap[Z]? = some (.cells (h0.cells p0 ++ (h1.cells p1 ++ h2.cells p2)).toArray ty (0, 0))) (hn : n0 <= Z) (f0 : FarT n0 w h0 t0 p0) (f1 : FarT n0 w h1 t1 p1) (f2 : FarT n0 w h2 t2 p2) (u : World) (hu : KeepFrom n0 w u) : Tm.Lies u (.node h0 t0 (.node h1 t1 (.node h2 t2 .nil))) (some ⟨Z, 0, none⟩) 0 :=
  vL hZ hn (.node h0 t0 (.node h1 t1 (.node h2 t2 .nil))) (h0.cells p0 ++ (h1.cells p1 ++ h2.cells p2)) 0 ⟨p0, _, rfl, f0, p1, _, rfl, f1, p2, [], (List.append_nil _).symm, f2, rfl⟩ (fun j v hv => by rw [Nat.zero_mul, Nat.zero_add]; exact hv) u hu
def TAt (n0 : Nat) (w : World) (X : Nat) (h : Hd) (kids : Tm) : Prop := n0 <= X /\ ∃ p, w.heap[X]? = some (.cells (h.cells p).toArray 41 (0, 0)) /\ FarT n0 w h kids p
theorem TAt.low {n0 n1 X : Nat} {w : World} {h : Hd} {kids : Tm} (f : TAt n1 w X h kids) (hn : n0 <= n1) : TAt n0 w X h kids := by
  obtain ⟨h1, p, h2, h3⟩ := f; exact ⟨Nat.le_trans hn h1, p, h2, h3.low hn⟩
theorem TAt.grown {n0 X rb : Nat} {w w' : World} {h : Hd} {kids : Tm} (f : TAt n0 w X h kids) (hg : w.grownBy w' (some rb)) (hr : rb < n0) : TAt n0 w' X h kids := by
  obtain ⟨h1, p, h2, h3⟩ := f;exact ⟨h1, p, (hg.block X (zD h2) (fun e => by injection e with e; omega)).trans h2, h3.keep (.grown hg hr)⟩
theorem TAt.below {n0 X : Nat} {w w' : World} {h : Hd} {kids : Tm} (f : TAt n0 w X h kids) (hb : Below w.heap.size w w') : TAt n0 w' X h kids := by
  obtain ⟨h1, p, h2, h3⟩ := f;exact ⟨h1, p, zB hb (zD h2) h2, h3.keep (.below hb)⟩
def TPost (l : List W4) (A : Option Addr) (c rb : Nat) (mv : Value) (w : World) (r : Tt.Rs) (e : Ending) (w' : World) : Prop := match r with
  | .ok [.tm h t] j => ∃ X, e = .returned (.pointer (some ⟨X, 0, none⟩)) /\ TAt w.heap.size w' X h t /\ PGo l A c rb mv w j w'
  | .ok _ _ => False
  | .bad E a s => PBad rb w E a s e w'
def Reads (l : List W4) (A : Option Addr) (c rb : Nat) (mv : Value) (f : FuncId) (more : List Value) (t : Tt.Tg) : Prop :=
  ∀ (w : World) (r : Tt.Rs), PdS l A c rb mv w t.start -> T l t r -> Calls Tryz.prog f (.pointer (some ⟨rb, 0, none⟩) :: more).toArray w (TPost l A c rb mv w r)
structure Needs (l : List W4) (A : Option Addr) (c rb : Nat) (mv : Value) (i : Nat) : Prop where
  term : ∀ j, i < j -> j <= l.length -> Reads l A c rb mv 33 [] (.term j)
  part : ∀ (q j : Nat), i < j -> j <= l.length -> Reads l A c rb mv 68 [.int .i64 q] (.part q j)
theorem TPost.from {l : List W4} {A : Option Addr} {c rb : Nat} {mv : Value} {w u w' : World} {r : Tt.Rs} {e : Ending} (h : TPost l A c rb mv u r e w') (hg : w.grownBy u (some rb)) : TPost l A c rb mv w r e w' := by
  unfold TPost at h ⊢
  split at h
  · obtain ⟨X, h1, h2, h3⟩ := h
    exact ⟨X, h1, h2.low hg.size, h3.from hg⟩
  · exact h
  · exact h.from hg
theorem zX {n0 N o : Nat} {w : World} {v : Value} (h : N < n0) : KeepFrom n0 w (w.setCell ⟨N, o, none⟩ v) := fun b o' x hb hc => by
  rw [← hc];exact World.cell?_of_block (by rw [Below.heap_setCell _ _ _ b (by show b ≠ N; omega)])
theorem zk {n0 : Nat} {w : World} (o : Obj) : KeepFrom n0 w (w.alloc o) := .below ((Below.refl _ _).alloc (Nat.le_refl _) _)
theorem zGw {w : World} {k p : Int} {A : Option Addr} {n : Nat} (h1 : -128 <= k) (h2 : k <= 127) (hn : n <= 3) : Tm.Fit w (hd0 k p) ⟨none, 0, 0, none, 0, 0, A, n, n⟩ n :=
  ⟨⟨trivial, rfl, Nat.le_refl _, Nat.zero_le _, by show (-128 : Int) <= 0; omega, by show (0 : Int) <= 127; omega⟩, ⟨trivial, rfl, Nat.le_refl _, Nat.zero_le _, by show (-128 : Int) <= 0; omega, by show (0 : Int) <= 127; omega⟩, rfl, Nat.le_refl _, by show n <= maxLen; unfold maxLen; omega, h1, h2, by show (-9223372036854775808 : Int) <= 0; omega, by show (0 : Int) <= 9223372036854775807; omega, Nat.zero_le _, Nat.zero_le _⟩
theorem qj {l : List W4} {i : Nat} (hi : i < l.length) : (wAt l i).pos = posAt l i := by
  unfold wAt posAt;rw [List.getElem?_eq_getElem hi]
theorem zHU {n N : Nat} {w : World} {k p : Int} {h : Hd} {t : Tm} {o : Obj} (hk1 : -128 <= k) (hk2 : k <= 127) (hn : n <= N) (hN : w.heap[N]? = some (.cells #[.int .i8 k, .string ⟨#[]⟩, .string ⟨#[]⟩, .int .i64 0, .int .i8 0, .slice none 0 0, .int .i8 0, .slice none 0 0, .int .i64 0, .int .i64 p, .slice none 0 0] 41 (0, 0)))
    {q : Pl} (hF : FarT (N + 1) w h t q) :
    TAt n (((w.alloc o).alloc (.cells (h.cells q).toArray 41)).setCell ⟨N, 10, none⟩ (.slice (some ⟨w.heap.size + 1, 0, none⟩) 1 1)) N (hd0 k p) (.node h t .nil) := by
  rw [show w.heap.size + 1 = (w.alloc o).heap.size by simp];have hNl := zD hN;have hN2 := zG (zG hN o) (.cells (h.cells q).toArray 41);have hZ := zF (w.alloc o) (.cells (h.cells q).toArray 41);have hs : (w.alloc o).heap.size = w.heap.size + 1 := by simp
  refine ⟨hn, ⟨none, 0, 0, none, 0, 0, some ⟨(w.alloc o).heap.size, 0, none⟩, 1, 1⟩, ?_, fun u hu => ⟨zGw hk1 hk2 (by omega), ?_⟩⟩
  · exact zC7
  · have hZ2 : (((w.alloc o).alloc (.cells (h.cells q).toArray 41)).setCell ⟨N, 10, none⟩ (.slice (some ⟨(w.alloc o).heap.size, 0, none⟩) 1 1)).heap[(w.alloc o).heap.size]? = some (.cells (h.cells q).toArray 41 (0, 0)) := by
      exact zF5
    exact zHS (n0 := N + 1) hZ2 (by omega) (hF.keep (((zk o).trans (zk _)).trans (zX (Nat.lt_succ_self N)))) u (hu.low (by omega))
set_option maxHeartbeats 4000000 in
set_option maxRecDepth 100000 in
theorem xB (l : List W4) (A : Option Addr) (c rb i : Nat) (mv : Value) (k : Int) (hk1 : -128 <= k) (hk2 : k < 100) (w : World) (hS : PdS l A c rb mv w i) (hi : i < l.length) (hN : Needs l A c rb mv i) (r : Tt.Rs) (hT : T l (.seq [.pt 4] (i + 1)) r) :
    Calls Tryz.prog 122 #[.pointer (some ⟨rb, 0, none⟩), .int .i8 k] w (TPost l A c rb mv w (r.make k (posAt l i))) := by
  have CH := k0_ (qQ l A c rb i mv k w hS hi);have hrl := zD hS.rdr;rw [qj hi] at CH;have HS := k0_ hS
  cases hT with
  | @ptNo _ _ E a s _ f =>
    have CP := k0_ (fun (W : World) (hg : w.grownBy W (some rb)) (hR : PRd W rb A l.length c (i + 1 : Nat) mv) => (hN.part 4 (i + 1) (Nat.lt_succ_self i) hi W _ (hS.step hg hR hi) f).mono (fun e w' hP => TPost.from hP hg));clear hS hN f
    go_enter Tryz.func122, Tryz.ntmps122
    go_wp2_with fail
    refine CH.out.mono ?_;rintro e w2 ⟨N, rfl, hN1, hN2, hX, hR, hg⟩;have HG2 := k0_ hg;have HR2 := k0_ hR;clear hR hg hX
    go_wp2_with fail
    refine (CP.out _ HG2.out HR2.out).mono ?_;intro e w4 hP;have HP := k0_ hP;exact qY
  | @pt _ _ j h t _ r' f g =>
    cases g;have CP := k0_ (fun (W : World) (hg : w.grownBy W (some rb)) (hR : PRd W rb A l.length c (i + 1 : Nat) mv) => hN.part 4 (i + 1) (Nat.lt_succ_self i) hi W _ (hS.step hg hR hi) f);clear hS hN f
    go_enter Tryz.func122, Tryz.ntmps122
    go_wp2_with fail
    refine CH.out.mono ?_;rintro e w2 ⟨N, rfl, hN1, hN2, hX, hR, hg⟩;have HG2 := k0_ hg;have HR2 := k0_ hR;have HX2 := k0_ hX;clear hR hg hX
    go_wp2_with fail
    refine (CP.out _ HG2.out HR2.out).mono ?_;rintro e w3 ⟨X, rfl, ⟨hXn, p, hX, hF⟩, hR, hg⟩;have HX3 := k0_ ((hg.block _ hN2 (fun e => by injection e with e; omega)).trans HX2.out);have HG3 := k0_ (zI HG2.out hg);have HR3 := k0_ hR;have HY3 := k0_ hX;have HF3 := k0_ (hF.low (n0 := N + 1) hN2);have hNX : N ≠ X := by omega
    have CK := k0_ (zT (w3.alloc (.cells #[.pointer (some ⟨X, 0, none⟩)] 108)) w3.heap.size X h p (zF _ _) (zG hX _));clear hX hR hg hF
    go_wp2_with fail
    refine CK.out.mono ?_;rintro e w4 ⟨rfl, rfl⟩;have HX5 := zG (zG HX3.out (.cells #[.pointer (some ⟨X, 0, none⟩)] 108)) (.cells (h.cells p).toArray 41);have c10 := cell_of_heap HX5 10 rfl;have z10 : (((w3.alloc (.cells #[.pointer (some ⟨X, 0, none⟩)] 108)).alloc (.cells (h.cells p).toArray 41))).frozen? ⟨N, 10, none⟩ = false := by simp [World.frozen?, HX5]
    have HX6 := k0_ HX5;clear HX5
    go_wp2_with fail
    go_ret
    have hq : mk k (posAt l i) [.tm h t] = (hd0 k (posAt l i), .node h t .nil) := if_neg (by omega);show ∃ X', _ = _ /\ TAt w.heap.size _ X' (mk k (posAt l i) [.tm h t]).1 (mk k (posAt l i) [.tm h t]).2 /\ _
    rw [hq];have hr3 : rb ≠ N := by omega
    refine ⟨N, rfl, zHU hk1 (by omega) hN1 HX3.out HF3.out, ?_, ?_⟩
    · have e3 := zG (zG HR3.out (.cells #[.pointer (some ⟨X, 0, none⟩)] 108)) (.cells (h.cells p).toArray 41)
      unfold PRd;rw [Below.heap_setCell _ _ _ rb hr3];exact e3
    · exact zL (zI HG3.out (zJ (((Below.refl _ _).alloc (Nat.le_refl _) _).alloc (by simp) _))) (p := ⟨N, 10, none⟩) (.inr hN1) _
end Go.Proofs.YtepmjknljbafgaaGreatDoor
namespace Go.Proofs.YtepmjknljbafgaaGreatDoor
set_option maxHeartbeats 4000000
set_option maxRecDepth 100000
open Go.RowKit Rd Tt
def Says (s : ByteArray) (k : Int) (t : List UInt8) : Prop := s.toList = t /\ t ≠ [] /\ (k = 3 /\ Sc.isKey s = true \/ k = 4 /\ Sc.isKey s = false)
theorem qi {l : List W4} {i : Nat} {s : ByteArray} {k : Int} {t : List UInt8} (h : Says s k t) (hok : ∀ x ∈ l, OkWord x) : ((fx (wAt l i)).toList == s.toList) = sees l i k t := by
  obtain ⟨rfl, h2, ⟨rfl, h3⟩ | ⟨rfl, h3⟩⟩ := h
  · exact zGv l i s hok h3 h2
  · exact zFs l i s hok h3 h2
theorem qF (l : List W4) (A : Option Addr) (c rb i : Nat) (mv : Value) (s : ByteArray) (w : World) (h : PdS l A c rb mv w i) {k : Int} {t : List UInt8} (hs : Says s k t) (hw : sees l i k t = true) :
    Calls Tryz.prog 90 #[.pointer (some ⟨rb, 0, none⟩), .string s] w fun e w' => e = .returned (.tuple #[]) /\ PGo l A c rb mv w (i + 1) w' :=
  kW l A c rb i mv s w h (zQ hw) ((qi hs h.okw).trans hw)
theorem qN (l : List W4) (A : Option Addr) (c rb i : Nat) (mv : Value) (s : ByteArray) (w : World) (h : PdS l A c rb mv w i) {k : Int} {t : List UInt8} (hs : Says s k t) (hw : sees l i k t = false) :
    Calls Tryz.prog 90 #[.pointer (some ⟨rb, 0, none⟩), .string s] w (TPost l A c rb mv w (flt l i)) :=
  zAS l A c rb i mv s w h ((qi hs h.okw).trans hw)
theorem zn {c : UInt8} (h : Sc.isKey ⟨#[c]⟩ = false) : Says ⟨#[c]⟩ 4 [c] := ⟨(Lib.toList_data _).trans rfl, by simp, .inr ⟨rfl, h⟩⟩
theorem zg (l : List W4) (A : Option Addr) (c rb i : Nat) (mv : Value) (s : ByteArray) (w : World) (hS : PdS l A c rb mv w i) {k : Int} {t : List UInt8} (hs : Says s k t) (hw : sees l i k t = true) (hR : Reads l A c rb mv 33 [] (.term (i + 1))) (r : Tt.Rs) (hT : T l (.term (i + 1)) r) :
    Calls Tryz.prog 89 #[.pointer (some ⟨rb, 0, none⟩), .string s] w (TPost l A c rb mv w r) := by
  have CW := k0_ (qF l A c rb i mv s w hS hs hw);have hi := zQ hw;have hsg : Tt.Rs.single r := T.single hT;have CT := k0_ (fun (W : World) (hg : w.grownBy W (some rb)) (hr : PRd W rb A l.length c (i + 1 : Nat) mv) => (hR W r (hS.step hg hr hi) hT).mono (fun e w' hP => TPost.from hP hg));clear hS hR hT hs hw
  go_enter Tryz.func89, Tryz.ntmps89
  go_wp2_with fail
  refine CW.out.mono ?_;rintro e w2 ⟨rfl, hr, hg⟩;have HG2 := k0_ hg;have HR2 := k0_ hr;clear hr hg
  go_wp2_with fail
  refine (CT.out _ HG2.out HR2.out).mono ?_;intro e w3 hP;have HP := k0_ hP;clear CT CW;exact zHq
theorem qI (l : List W4) (A : Option Addr) (c rb i : Nat) (mv : Value) (s : ByteArray) (w : World) (hS : PdS l A c rb mv w i) {k : Int} {t : List UInt8} (hs : Says s k t) (hw : sees l i k t = false) :
    Calls Tryz.prog 89 #[.pointer (some ⟨rb, 0, none⟩), .string s] w (TPost l A c rb mv w (flt l i)) := by
  have CW := k0_ (qN l A c rb i mv s w hS hs hw);clear hS hs hw
  go_enter Tryz.func89, Tryz.ntmps89
  go_wp2_with fail
  refine CW.out.mono ?_;intro e w3 hP;have HP := k0_ hP;exact qY
theorem xz (l : List W4) (A : Option Addr) (c rb i : Nat) (mv : Value) (w : World) (hS : PdS l A c rb mv w i) (h1 : Says ⟨#[40]⟩ 4 [40]) (h2 : Says ⟨#[41]⟩ 4 [41]) (hw : sees l i 4 [40] = true) (hN : Needs l A c rb mv i) (r : Tt.Rs) (hT : T l (.seq [.tm, sg 41] (i + 1)) r) :
    Calls Tryz.prog 145 #[.pointer (some ⟨rb, 0, none⟩)] w (TPost l A c rb mv w (r.make 100 (posAt l i))) := by
  have CW := k0_ (qF l A c rb i mv _ w hS h1 hw);have hi := zQ hw;have hrl := zD hS.rdr;have CT := k0_ (fun (r : Tt.Rs) (hT : T l (.term (i + 1)) r) (W : World) (hg : w.grownBy W (some rb)) (hr : PRd W rb A l.length c (i + 1 : Nat) mv) => hN.term (i + 1) (Nat.lt_succ_self i) hi W r (hS.step hg hr hi) hT);have HS := k0_ hS;clear hS hN hw
  go_enter Tryz.func145, Tryz.ntmps145
  go_wp2_with fail
  refine CW.out.mono ?_;rintro e w2 ⟨rfl, hr, hg⟩;have HG2 := k0_ hg;have HR2 := k0_ hr;clear hr hg CW
  cases hT with
  | @tmNo _ E a s _ f =>
    have CP := k0_ (CT.out _ f _ HG2.out HR2.out);clear CT f
    go_wp2_with fail
    refine CP.out.mono ?_;intro e w3 hP;have HP := k0_ (TPost.from hP HG2.out);exact qY
  | @tm _ j h t _ r' f g =>
    have CP := k0_ (CT.out _ f _ HG2.out HR2.out);have hj := (T.goes f hi).2;clear CT f
    go_wp2_with fail
    refine CP.out.mono ?_;rintro e w3 ⟨X, rfl, hX, hr, hg⟩;have HG3 := k0_ (zI HG2.out hg);have HR3 := k0_ hr;have HX3 := k0_ (hX.low HG2.out.size);have HS3 := k0_ (HS.out.step HG3.out hr hj);clear hr hg hX CP
    cases g with
    | wordNo hw2 =>
      have CW := k0_ (qN l A c rb j mv _ w3 HS3.out h2 hw2)
      go_wp2_with fail
      refine CW.out.mono ?_;intro e w4 hP;have HP := k0_ (TPost.from hP HG3.out);exact qY
    | word hw2 g2 =>
      cases g2;have CW := k0_ (qF l A c rb j mv _ w3 HS3.out h2 hw2)
      go_wp2_with fail
      refine CW.out.mono ?_;rintro e w4 ⟨rfl, hr, hg⟩;have HG4 := k0_ (zI HG3.out hg);have HR4 := k0_ hr;have HX4 := k0_ (HX3.out.grown hg hrl);clear hr hg
      go_wp2_with fail
      go_ret
      exact ⟨X, rfl, HX4.out, HR4.out, HG4.out⟩
end Go.Proofs.YtepmjknljbafgaaGreatDoor
namespace Go.Proofs.YtepmjknljbafgaaGreatDoor
open Go.RowKit Rd Tt
theorem qB {s : ByteArray} {t : List UInt8} (h1 : s.toList = t) (h2 : t ≠ []) (h3 : Sc.isKey s = true) : Says s 3 t := ⟨h1, h2, .inl ⟨rfl, h3⟩⟩
theorem zIa : Says ⟨#[108, 101, 116]⟩ 3 kLet := qB ((Lib.toList_data _).trans rfl) (by decide) (by unfold Sc.isKey; rw [Lib.toList_data]; decide)
theorem yIn : Says ⟨#[105, 110]⟩ 3 kIn := qB ((Lib.toList_data _).trans rfl) (by decide) (by unfold Sc.isKey; rw [Lib.toList_data]; decide)
theorem yIf : Says ⟨#[105, 102]⟩ 3 kIf := qB ((Lib.toList_data _).trans rfl) (by decide) (by unfold Sc.isKey; rw [Lib.toList_data]; decide)
theorem zHM : Says ⟨#[116, 104, 101, 110]⟩ 3 kThen := qB ((Lib.toList_data _).trans rfl) (by decide) (by unfold Sc.isKey; rw [Lib.toList_data]; decide)
theorem zHN : Says ⟨#[101, 108, 115, 101]⟩ 3 kElse := qB ((Lib.toList_data _).trans rfl) (by decide) (by unfold Sc.isKey; rw [Lib.toList_data]; decide)
theorem zIZ : Says ⟨#[114, 101, 99]⟩ 3 kRec := qB ((Lib.toList_data _).trans rfl) (by decide) (by unfold Sc.isKey; rw [Lib.toList_data]; decide)
theorem zHO : Says ⟨#[99, 97, 115, 101]⟩ 3 kCase := qB ((Lib.toList_data _).trans rfl) (by decide) (by unfold Sc.isKey; rw [Lib.toList_data]; decide)
theorem yOf : Says ⟨#[111, 102]⟩ 3 kOf := qB ((Lib.toList_data _).trans rfl) (by decide) (by unfold Sc.isKey; rw [Lib.toList_data]; decide)
theorem zId : Says ⟨#[102, 115, 116]⟩ 3 kFst := qB ((Lib.toList_data _).trans rfl) (by decide) (by unfold Sc.isKey; rw [Lib.toList_data]; decide)
theorem zIY : Says ⟨#[115, 110, 100]⟩ 3 kSnd := qB ((Lib.toList_data _).trans rfl) (by decide) (by unfold Sc.isKey; rw [Lib.toList_data]; decide)
theorem zIc : Says ⟨#[105, 110, 108]⟩ 3 kInl := qB ((Lib.toList_data _).trans rfl) (by decide) (by unfold Sc.isKey; rw [Lib.toList_data]; decide)
theorem zIb : Says ⟨#[105, 110, 114]⟩ 3 kInr := qB ((Lib.toList_data _).trans rfl) (by decide) (by unfold Sc.isKey; rw [Lib.toList_data]; decide)
theorem zHL : Says ⟨#[116, 114, 117, 101]⟩ 3 kTrue := qB ((Lib.toList_data _).trans rfl) (by decide) (by unfold Sc.isKey; rw [Lib.toList_data]; decide)
theorem zGh : Says ⟨#[102, 97, 108, 115, 101]⟩ 3 kFalse := qB ((Lib.toList_data _).trans rfl) (by decide) (by unfold Sc.isKey; rw [Lib.toList_data]; decide)
theorem y40 : Says ⟨#[40]⟩ 4 [40] := zn (by unfold Sc.isKey; rw [Lib.toList_data]; decide)
theorem y41 : Says ⟨#[41]⟩ 4 [41] := zn (by unfold Sc.isKey; rw [Lib.toList_data]; decide)
theorem y42 : Says ⟨#[42]⟩ 4 [42] := zn (by unfold Sc.isKey; rw [Lib.toList_data]; decide)
theorem y43 : Says ⟨#[43]⟩ 4 [43] := zn (by unfold Sc.isKey; rw [Lib.toList_data]; decide)
theorem y44 : Says ⟨#[44]⟩ 4 [44] := zn (by unfold Sc.isKey; rw [Lib.toList_data]; decide)
theorem y45 : Says ⟨#[45]⟩ 4 [45] := zn (by unfold Sc.isKey; rw [Lib.toList_data]; decide)
theorem y46 : Says ⟨#[46]⟩ 4 [46] := zn (by unfold Sc.isKey; rw [Lib.toList_data]; decide)
theorem y47 : Says ⟨#[47]⟩ 4 [47] := zn (by unfold Sc.isKey; rw [Lib.toList_data]; decide)
theorem y58 : Says ⟨#[58]⟩ 4 [58] := zn (by unfold Sc.isKey; rw [Lib.toList_data]; decide)
theorem y60 : Says ⟨#[60]⟩ 4 [60] := zn (by unfold Sc.isKey; rw [Lib.toList_data]; decide)
theorem y61 : Says ⟨#[61]⟩ 4 [61] := zn (by unfold Sc.isKey; rw [Lib.toList_data]; decide)
theorem y91 : Says ⟨#[91]⟩ 4 [91] := zn (by unfold Sc.isKey; rw [Lib.toList_data]; decide)
theorem y92 : Says ⟨#[92]⟩ 4 [92] := zn (by unfold Sc.isKey; rw [Lib.toList_data]; decide)
theorem y93 : Says ⟨#[93]⟩ 4 [93] := zn (by unfold Sc.isKey; rw [Lib.toList_data]; decide)
theorem zHQ : Says ⟨#[123]⟩ 4 [123] := zn (by unfold Sc.isKey; rw [Lib.toList_data]; decide)
theorem zIe : Says ⟨#[124]⟩ 4 [124] := zn (by unfold Sc.isKey; rw [Lib.toList_data]; decide)
theorem zHP : Says ⟨#[125]⟩ 4 [125] := zn (by unfold Sc.isKey; rw [Lib.toList_data]; decide)
end Go.Proofs.YtepmjknljbafgaaGreatDoor
namespace Go.Proofs.YtepmjknljbafgaaGreatDoor
open Go.RowKit
namespace Rd
theorem qG {l : List W4} (hz : ∀ i x, l[i]? = some x -> x.kind ≠ 0 -> i + 1 < l.length) {i : Nat} {k : Int} {t : List UInt8} (h : sees l i k t = true) (hk : k ≠ 0) : i + 1 < l.length := by
  unfold sees at h
  cases hx : l[i]? with
  | none => rw [hx] at h; cases h
  | some x =>
    rw [hx] at h;refine hz i x hx ?_
    simp at h
    omega
theorem zGC {l : List W4} (hz : ∀ i x, l[i]? = some x -> x.kind ≠ 0 -> i + 1 < l.length) {i : Nat} {k : Int} (h : atK l i = some k) : i + 1 < l.length := by
  unfold atK at h
  split at h
  · exact qG hz (by assumption) (by decide)
  split at h
  · exact qG hz (by assumption) (by decide)
  split at h
  · exact qG hz (by assumption) (by decide)
  · cases h
theorem zFX {l : List W4} (hz : ∀ i x, l[i]? = some x -> x.kind ≠ 0 -> i + 1 < l.length) {i : Nat} (h : opK l i ≠ 0) : i + 1 < l.length := by
  unfold opK at h
  split at h
  · exact qG hz (by assumption) (by decide)
  split at h
  · exact qG hz (by assumption) (by decide)
  split at h
  · exact qG hz (by assumption) (by decide)
  · exact absurd rfl h
theorem R.shy {l : List W4} (hz : ∀ i x, l[i]? = some x -> x.kind ≠ 0 -> i + 1 < l.length) {t : Tg} {r : Rs} (h : R l t r) : t.start < l.length -> ∀ k kids j, r = .ok k kids j -> j < l.length := by
  induction h with
  | word h hb => intro _ k kids j e; injection e with _ _ e; subst e; exact zGC hz h
  | no h hb => intro _ _ _ _ e; cases e
  | brBad hb h ih => intro _ _ _ _ e; cases e
  | brNo hb h hc ih => intro _ _ _ _ e; cases e
  | br hb h hc ih => intro _ k kids j e; injection e with _ _ e; subst e; exact qG hz hc (by decide)
  | whBad h ih => intro _ _ _ _ e; cases e
  | whGo h g ihh ihg => intro hs k kids j e; exact ihg (ihh hs _ _ _ rfl) k kids j e
  | stop h => intro hs k kids j e; injection e with _ _ e; subst e; exact hs
  | opBad h hb g ih => intro _ _ _ _ e; cases e
  | op h hb g f ihg ihf => intro hs k kids j e; exact ihf (ihg (zFX hz h) _ _ _ rfl) k kids j e
end Rd
namespace Tt
open Rd
def Tg.fine : Tg -> Prop
  | .seq its _ => ∀ k t, It.w k t ∈ its -> k ≠ 0
  | _ => True
theorem wY {l : List W4} (hz : ∀ i x, l[i]? = some x -> x.kind ≠ 0 -> i + 1 < l.length) {i : Nat} {k : Int} {its : List It} (h : formT l i = some (k, its)) : i + 1 < l.length /\ ∀ k t, It.w k t ∈ its -> k ≠ 0 := by
  unfold formT at h
  repeat' split at h
  all_goals first
    | (cases h; done)
    | (injection h with h; injection h with h1 h2; subst h2; refine ⟨qG hz (by assumption) (by decide), fun k t m => ?_⟩; simp [sg] at m; omega)
theorem wZ {l : List W4} (hz : ∀ i x, l[i]? = some x -> x.kind ≠ 0 -> i + 1 < l.length) (i : Nat) (hi : i < l.length) : (formO l i).2.2.1 < l.length /\ ∀ k t, It.w k t ∈ (formO l i).2.1 -> k ≠ 0 := by
  have key : ∀ q, formO l i = q -> q.2.2.1 < l.length /\ ∀ k t, It.w k t ∈ q.2.1 -> k ≠ 0 := by
    intro q h;unfold formO at h
    repeat' split at h
    all_goals
      subst h
      first
      | (refine ⟨qG hz (by assumption) (by decide), fun k t m => ?_⟩; simp [sg] at m; done)
      | (refine ⟨qG hz (by assumption) (by decide), fun k t m => ?_⟩; simp [sg] at m; omega)
      | (refine ⟨hi, fun k t m => ?_⟩; simp at m)
  exact key _ rfl
theorem zCU {l : List W4} (hz : ∀ i x, l[i]? = some x -> x.kind ≠ 0 -> i + 1 < l.length) {i : Nat} {k : Int} {s lf : Nat} {its : List It} (h : opr l i = some (k, s, lf, its)) : i + 1 < l.length /\ ∀ k t, It.w k t ∈ its -> k ≠ 0 := by
  unfold opr at h
  repeat' split at h
  all_goals first
    | (cases h; done)
    | (injection h with h; injection h with h1 h2; injection h2 with h2 h3; injection h3 with h3 h4; subst h4; refine ⟨qG hz (by assumption) (by decide), fun k t m => ?_⟩; simp [sg] at m; done)
    | (injection h with h; injection h with h1 h2; injection h2 with h2 h3; injection h3 with h3 h4; subst h4; refine ⟨qG hz (by assumption) (by decide), fun k t m => ?_⟩; simp [sg] at m; omega)
theorem T.shy {l : List W4} (hz : ∀ i x, l[i]? = some x -> x.kind ≠ 0 -> i + 1 < l.length) {t : Tg} {r : Rs} (h : T l t r) : t.fine -> t.start < l.length -> ∀ vs j, r = .ok vs j -> j < l.length := by
  induction h with
  | nil => intro _ hs vs j e; injection e with _ e; subst e; exact hs
  | word h g ih => intro hf hs vs j e; exact ih (fun k t m => hf k t (List.mem_cons_of_mem _ m)) (qG hz h (hf _ _ (List.mem_cons_self ..))) vs j e
  | wordNo h => intro _ _ vs j e; cases e
  | @nm i x its r h hk g ih => intro hf hs vs j e; cases r with
    | bad => cases e
    | ok vs2 j2 => injection e with _ e; subst e; exact ih (fun k t m => hf k t (List.mem_cons_of_mem _ m)) (hz i x h (by rw [hk]; decide)) _ _ rfl
  | nmNo h => intro _ _ vs j e; cases e
  | @nu i x its r h hk g ih => intro hf hs vs j e; cases r with
    | bad => cases e
    | ok vs2 j2 => injection e with _ e; subst e; exact ih (fun k t m => hf k t (List.mem_cons_of_mem _ m)) (hz i x h (by rw [hk]; decide)) _ _ rfl
  | nuNo h => intro _ _ vs j e; cases e
  | @ty i j0 k f a t its r h g ih => intro hf hs vs j e; cases r with
    | bad => cases e
    | ok vs2 j2 =>
      injection e with _ e; subst e
      have hj : j0 < l.length := by
        rcases h with ⟨h1, -⟩ | ⟨k1, f1, j1, h1, h2, -, -, -, h3, -⟩ | ⟨q, -, -, -, -, h3, -⟩
        · exact h1.shy hz (by exact hs) _ _ _ rfl
        · exact absurd h3.symm (by exact_mod_cast h2)
        · exact absurd h3 (by decide)
      exact ih (fun k t m => hf k t (List.mem_cons_of_mem _ m)) hj _ _ rfl
  | tyNo h hE => intro _ _ vs j e; cases e
  | @tm i j0 h t its r f g ihf ihg => intro hf hs vs j e; cases r with
    | bad => cases e
    | ok vs2 j2 => injection e with _ e; subst e; exact ihg (fun k t m => hf k t (List.mem_cons_of_mem _ m)) (ihf trivial hs _ _ rfl) _ _ rfl
  | tmNo f ih => intro _ _ vs j e; cases e
  | @pt q i j0 h t its r f g ihf ihg => intro hf hs vs j e; cases r with
    | bad => cases e
    | ok vs2 j2 => injection e with _ e; subst e; exact ihg (fun k t m => hf k t (List.mem_cons_of_mem _ m)) (ihf trivial hs _ _ rfl) _ _ rfl
  | ptNo f ih => intro _ _ vs j e; cases e
  | @opn i k its r h g ih => intro hf hs vs j e; cases r with
    | bad => cases e
    | ok vs2 j2 => injection e with _ e; subst e; exact ih (wY hz h).2 (wY hz h).1 _ _ rfl
  | term h g ih => intro hf hs vs j e; exact ih trivial hs vs j e
  | @opnd i r g ih => intro hf hs vs j e; cases r with
    | bad => cases e
    | ok vs2 j2 => injection e with _ e; subst e; exact ih (wZ hz i hs).2 (wZ hz i hs).1 _ _ rfl
  | part f g ihf ihg => intro hf hs vs j e; exact ihg trivial (ihf trivial hs _ _ rfl) vs j e
  | partNo f ih => intro _ _ vs j e; cases e
  | stop e => intro hf hs vs j e; injection e with _ e; subst e; exact hs
  | go e h1 h2 f g ihf ihg => intro hf hs vs j e2; exact ihg trivial (ihf (zCU hz e).2 (zCU hz e).1 _ _ rfl) vs j e2
  | goNo e h1 h2 f ih => intro _ _ vs j e; cases e
end Tt
open Rd Tt
def w4 (x : Sc.Wd) : W4 := ⟨x.1, x.2.1, x.2.2.1, x.2.2.2⟩
def wl (s : ByteArray) : List W4 := ((Sc.tk s 0).1 ++ [((0 : Int), (⟨#[]⟩ : ByteArray), (0 : Int), s.size)]).map w4
theorem Sc.OkW.fine {x : Sc.Wd} (h : Sc.OkW x) : OkWord (w4 x) := by
  obtain ⟨n, k, e, v, pos, b, hh⟩ := h;have hex : x.2.1.extract 0 (Sc.fN x.2.1) = x.2.1 := by rw [n]; simp
  have hne : x.2.1.toList ≠ [] := by
    intro h0;exact Sc.zFy x.2.1 pos (by rw [← ByteArray.toList_eq]; exact h0)
  refine ⟨fun hk => ?_, fun hk => ?_, fun hk => ?_, fun hk => ?_, fun _ => hne⟩
  · have hk : x.1 = 3 := hk
    rw [hk] at k;unfold Sc.fK at k
    split at k
    · rw [hex] at k
      unfold Sc.nameKind at k
      split at k
      · cases k
      split at k
      · assumption
      · cases k
    split at k
    · cases k
    split at k <;> cases k
  · have hk : x.1 = 4 := hk
    rw [hk] at k
    cases hK : Sc.isKey (w4 x).text with
    | false => rfl
    | true =>
      exfalso
      have hK : Sc.isKey x.2.1 = true := hK
      have hl : Sc.lett (Sc.hd x.2.1) = true := by
        unfold Sc.hd;rw [← ByteArray.toList_eq];unfold Sc.isKey at hK;have := of_decide_eq_true hK;simp only [List.mem_cons, List.not_mem_nil, or_false] at this;rcases this with h | h | h | h | h | h | h | h | h | h | h | h | h | h | h | h <;> rw [h] <;> rfl
      unfold Sc.fK at k;rw [hl, if_pos rfl] at k;unfold Sc.nameKind at k
      split at k
      · cases k
      split at k <;> cases k
  · have hk : x.1 = 1 := hk
    show Sc.isName x.2.1 = true;unfold Sc.isName;rw [if_neg (by omega)]
    simp [e, k, hk, n]
  · have hk : x.1 = 2 := hk
    have hv : (w4 x).num = x.2.2.1 := rfl;rw [hv, ← v];unfold Sc.fV
    split
    · omega
    split
    · unfold Sc.numNum
      split
      · rename_i h1
        unfold Sc.numErr at h1
        split at h1
        · cases h1
        · omega
      · omega
    · omega
theorem uD (s : ByteArray) : (wl s).length = (Sc.tk s 0).1.length + 1 := by unfold wl; simp
theorem zGj (s : ByteArray) : ∀ i x, (wl s)[i]? = some x -> x.kind ≠ 0 -> i + 1 < (wl s).length := by
  intro i x hx hk;rw [uD];unfold wl at hx;rw [List.getElem?_map, Option.map_eq_some_iff] at hx;obtain ⟨y, hy, rfl⟩ := hx;rcases Nat.lt_or_ge i (Sc.tk s 0).1.length with h | h
  · omega
  · rw [List.getElem?_append_right h] at hy
    cases hi : i - (Sc.tk s 0).1.length with
    | zero => rw [hi] at hy; injection hy with hy; subst hy; exact absurd rfl hk
    | succ n => rw [hi] at hy; simp at hy
theorem xc {s : ByteArray} : ∀ {l : List Sc.Wd} {lo : Nat}, Sc.Chain s lo l -> ∀ x ∈ l, x.2.1.size <= s.size
  | [], _, _, x, h => by cases h
  | y :: l, _, ⟨h1, h2, h3, h4, h5⟩, x, h => by
    rcases List.mem_cons.mp h with rfl | h
    · omega
    · exact xc h5 x h
theorem zDk {s : ByteArray} : ∀ {l : List Sc.Wd} {lo : Nat}, Sc.Chain s lo l -> l.length <= s.size := by
  have key : ∀ (l : List Sc.Wd) (lo : Nat), lo <= s.size -> Sc.Chain s lo l -> l.length + lo <= s.size := by
    intro l
    induction l with
    | nil => intro lo h _; simpa using h
    | cons y l ih =>
      intro lo h hc;obtain ⟨h1, h2, h3, h4, h5⟩ := hc;have := ih _ h2 h5;have := h4.pos;rw [List.length_cons]
      omega
  intro l lo h;rcases Nat.lt_or_ge s.size lo with q | q
  · cases l with
    | nil => exact Nat.zero_le _
    | cons y l => obtain ⟨h1, h2, -⟩ := h; omega
  · have := key l lo q h; omega
theorem zGJ {s : ByteArray} (h : (Sc.tk s 0).2 = none) : ∀ x ∈ wl s, OkWord x /\ x.text.size <= s.size := by
  intro x hx;unfold wl at hx;obtain ⟨y, hy, rfl⟩ := List.mem_map.mp hx;have hc := Sc.zAs s (s.size + 1) 0 (by omega) h;rcases List.mem_append.mp hy with hy | hy
  · exact ⟨(Sc.zF1 hc y hy).fine, xc hc y hy⟩
  · have := List.mem_singleton.mp hy
    subst this;exact ⟨⟨fun h => absurd (show (0 : Int) = 3 from h) (by decide), fun h => absurd (show (0 : Int) = 4 from h) (by decide), fun h => absurd (show (0 : Int) = 1 from h) (by decide), fun h => absurd (show (0 : Int) = 2 from h) (by decide), fun h => absurd (show (0 : Int) = 3 \/ (0 : Int) = 4 from h) (by decide)⟩, Nat.zero_le _⟩
theorem zFF {w : World} {base : Nat} {e : TypeId} {g m cap : Nat} {l : List Sc.Wd} (h : w.ownsRow base e 4 (.slice (some ⟨g, 0, none⟩) m cap) m (Sc.flat l)) (hm : l.length <= m) : WRow w (some ⟨g, 0, none⟩) (l.map w4) := by
  have hw := Sc.zAd (l := l) (X := []) (by rw [List.append_nil]; exact h) hm;intro i x hx;rw [List.getElem?_map, Option.map_eq_some_iff] at hx;obtain ⟨y, hy, rfl⟩ := hx
  have hi : i < l.length := by
    rcases Nat.lt_or_ge i l.length with q | q
    · exact q
    · rw [List.getElem?_eq_none q] at hy; cases hy
  obtain ⟨a0, a1, a2, a3⟩ := hw i y hi hy;exact ⟨g, 0, rfl, by rw [Nat.zero_add]; exact a0, by rw [Nat.zero_add]; exact a1, by rw [Nat.zero_add]; exact a2, by rw [Nat.zero_add]; exact a3⟩
end Go.Proofs.YtepmjknljbafgaaGreatDoor
