import Derived.Lib.Builder
import Derived.Lib.FrozenHead
import Derived.Lib.OthersKept
import Derived.Laws.Externs
import Derived.Test.YtepmjknljbafgaaGreatDoorM6
import Derived.Test.YtepmjknljbafgaaGreatDoorShelf
namespace Go.Proofs.YtepmjknljbafgaaGreatDoor
open Go.RowKit
theorem zIX {P : Prop} (h : P := by
  go_wp2_with fail
  refine (zDj B b _ _ h).mono ?_;rintro e w1 ⟨rfl, ⟨hB, v, hbk, hown, hne⟩, hw1⟩;have hsz := hw1.below.size;have hlt := zD hbk;obtain ⟨c0, c1, _, f1, _⟩ := zK hbk;have HW := k0_ hw1;clear hw1
  go_wp2_with (at_builtin; refine Lib.wpList_append_own_stringF _ rfl _ _ 50 9 rfl B 5 i0 Tryz.underlying50 Tryz.underlying9 hi hz0 hz1 hz2 _ _ _ rfl hown s rfl ?c3 ?c4 ?c5 ?_)
  case c3 => unfold maxLen; omega
  case c4 => omega
  case c5 => omega
  intro v' w2 hown' hgrow _;have hb2 : w2.heap[b]? = some (.cells #[.pointer (some ⟨b, 0, none⟩), v] 52 (0, 0)) := by rw [hgrow.block b hlt (fun e => hne e.symm)]; exact hbk
  obtain ⟨d0, d1, _, f1, _⟩ := zK hb2
  obtain ⟨ao, n', cap, rfl⟩ : ∃ ao n' cap, v' = .slice ao n' cap := by
    rcases hown'.2 with ⟨hv, _⟩ | ⟨g, cap, cur, fz, hv, _⟩
    · exact ⟨_, _, _, hv⟩
    · exact ⟨_, _, _, hv⟩
  have hfin : WroteStr B b l s w (.returned (.tuple #[.int .i64 s.size, .nilIface])) (w2.setCell ⟨b, 1, none⟩ (.slice ao n' cap)) := by
    refine ⟨rfl, ?_, ?_, (HW.out.others.grown hgrow (Lib.ownsRowF_kind hown)).setCell ⟨b, 1, none⟩ rfl _⟩
    · have := Lib.BuilderAtF.put (T := 52) (e := 5) hB hb2 (bs' := Lib.byteCells l ++ Lib.strCells s) (by simpa [Lib.strCells_length] using hown') (by decide)
      refine .inr ?_;rw [Lib.strCells_eq] at this
      simpa [Lib.byteCells] using this
    · exact (HW.out.below.grown hgrow (by omega) (fun k hk => (hown.lt k hk).1)).setCell (p := ⟨b, 1, none⟩) hB _
  have HF := k0_ hfin;clear hfin hown' hgrow hown
  go_wp2_with fail
  go_ret2
  exact HF.out) : P := h
end Go.Proofs.YtepmjknljbafgaaGreatDoor
namespace Go.Proofs.YtepmjknljbafgaaGreatDoor
set_option maxHeartbeats 2000000
set_option maxRecDepth 100000
open Go.RowKit
def Bld (B b : Nat) (l : List UInt8) (w : World) : Prop := Lib.IsBuilderF 52 5 B b (Lib.byteCells l) w
structure Wrote (B b : Nat) (w w' : World) : Prop where
  below : Below B w w'
  others : Lib.OthersKept 5 (some b) w w'
theorem Wrote.refl (B b : Nat) (w : World) : Wrote B b w w := ⟨Below.refl _ _, Lib.OthersKept.refl _ _ _⟩
theorem Wrote.trans {B b : Nat} {w w1 w2 : World} (h : Wrote B b w w1) (k : Wrote B b w1 w2) : Wrote B b w w2 := ⟨h.below.trans k.below, h.others.trans k.others⟩
theorem Wrote.alloc {B b : Nat} {w w1 : World} (h : Wrote B b w w1) (hB : B <= w1.heap.size) (o : Obj) : Wrote B b w (w1.alloc o) := ⟨h.below.alloc hB o, h.others.alloc o⟩
theorem Wrote.box {B b g : Nat} {w w' : World} {cs : Array Value} {t : TypeId} {fz : Nat × Nat} (h : Wrote B b w w') (hg : w.heap[g]? = some (.cells cs t fz)) (hb : g ≠ b) (ht : t ≠ 5) : w'.heap[g]? = some (.cells cs t fz) :=
  h.others g _ hg (by intro e; injection e with e; exact hb e) (by intro c f e; injection e with _ e; exact ht e)
theorem zDG : (Tryz.prog.info? 5).map (fun i => (i.zero, i.size, i.bytes)) = some (some (.int .u8 0), 1, 1) := by kernel_rfl
theorem zAc : (Tryz.prog.info? 52).map (·.size) = some 2 := by kernel_rfl
theorem zEd : liesAt Tryz.prog Tryz.prog.depth 52 (2 / Tryz.prog.cellsOf 52) 0 52 1 = true := by kernel_rfl
theorem zC4 (b : Nat) (w : World) (h0 : w.cell? ⟨b, 0, none⟩ = some (.pointer (some ⟨b, 0, none⟩))) :
    Calls Tryz.prog 50 #[.pointer (some ⟨b, 0, none⟩)] w fun e w' => e = .returned (.tuple #[]) /\ w' = w := by
  obtain ⟨j, hj, _⟩ := Option.map_eq_some_iff.1 zAc;have hne := fun W : World => Lib.run_neq_ptr_same (P := Tryz.prog) W ⟨b, 0, none⟩ Tryz.underlying49 hj
  go_enter Tryz.func50, Tryz.ntmps50
  go_wp2
  go_end0
  exact ⟨rfl, rfl⟩
theorem zAr (b : Nat) (w : World) (h0 : w.cell? ⟨b, 0, none⟩ = some (.pointer none)) (hsh : w.shape? b = some (52, 2)) (hfz : w.frozen? ⟨b, 0, none⟩ = false) :
    Calls Tryz.prog 50 #[.pointer (some ⟨b, 0, none⟩)] w fun e w' => e = .returned (.tuple #[]) /\ w' = w.setCell ⟨b, 0, none⟩ (.pointer (some ⟨b, 0, none⟩)) := by
  obtain ⟨j, hj, hjs⟩ := Option.map_eq_some_iff.1 zAc;have q1 := Lib.run_to_unsafe (P := Tryz.prog) w ⟨b, 0, none⟩ Tryz.underlying49 Tryz.underlying65 hj (by rw [hjs]; decide) hsh (Nat.zero_lt_succ 1);have q2 := @run_callFunc_extern Tryz.prog 79 _ Extern.AbiNoEscape.same Tryz.func79 (by kernel_rfl) (by kernel_rfl) (by kernel_rfl) (by kernel_rfl);have q3 := fun W x => Lib.run_noEscape (P := Tryz.prog) W x
  have q4 := Lib.run_from_unsafe (P := Tryz.prog) w ⟨b, 0, none⟩ Tryz.underlying65 Tryz.underlying49 hj hsh zEd;have hne := fun W : World => Lib.run_neq_ptr_same (P := Tryz.prog) W ⟨b, 0, none⟩ Tryz.underlying49 hj
  clear hj hjs hsh
  go_enter Tryz.func50, Tryz.ntmps50
  go_wp2
  go_end0
  exact ⟨rfl, rfl⟩
theorem zDj (B b : Nat) (bs : List Value) (w : World) (h : Lib.IsBuilderF 52 5 B b bs w) :
    Calls Tryz.prog 50 #[.pointer (some ⟨b, 0, none⟩)] w fun e w' => e = .returned (.tuple #[]) /\ Lib.BuilderAtF 52 5 B b (.pointer (some ⟨b, 0, none⟩)) bs w' /\ Wrote B b w w' := by
  rcases h with h | h
  · refine (zAr b w h.cell0 h.shape h.frozen0).mono ?_
    rintro e w' ⟨rfl, rfl⟩;exact ⟨rfl, h.used _, (Below.refl B w).setCell (p := ⟨b, 0, none⟩) h.1 _, (Lib.OthersKept.refl _ _ w).setCell ⟨b, 0, none⟩ rfl _⟩
  · refine (zC4 b w h.cell0).mono ?_
    rintro e w' ⟨rfl, rfl⟩;exact ⟨rfl, h, Wrote.refl _ _ _⟩
def WroteStr (B b : Nat) (l : List UInt8) (s : ByteArray) (w : World) (e : Ending) (w' : World) : Prop :=
  e = .returned (.tuple #[.int .i64 s.size, .nilIface]) /\ Bld B b (l ++ s.data.toList) w' /\ Wrote B b w w'
theorem yR (B b : Nat) (l : List UInt8) (s : ByteArray) (w : World) (h : Bld B b l w) (hlen : l.length + s.size <= 140737488355328) (hBw : B <= w.heap.size) :
    Calls Tryz.prog 25 #[.pointer (some ⟨b, 0, none⟩), .string s] w (WroteStr B b l s w) /\
    ∀ u, CallsD Tryz.prog 25 #[.pointer (some ⟨b, 0, none⟩), .string s] u w fun e u' w' => u' = u /\ WroteStr B b l s w e w' := by
  obtain ⟨i0, hi, hz0, hz1, hz2⟩ := info_parts zDG;have hlen2 : (Lib.byteCells l).length + s.size <= 140737488355328 := by rw [Lib.byteCells_length]; exact hlen
  refine ⟨?_, fun u => ?_⟩
  · go_enter Tryz.func25, Tryz.ntmps25
    exact zIX
  · go_enter_d Tryz.func25, Tryz.ntmps25
    exact zIX
theorem qM (B b : Nat) (l : List UInt8) (s : ByteArray) (w : World) (h : Bld B b l w) (hlen : l.length + s.size <= 140737488355328) (hBw : B <= w.heap.size) :
    Calls Tryz.prog 25 #[.pointer (some ⟨b, 0, none⟩), .string s] w (WroteStr B b l s w) := (yR B b l s w h hlen hBw).1
theorem jg (B b : Nat) (l : List UInt8) (s : ByteArray) (w : World) (h : Bld B b l w) (hlen : l.length + s.size <= 140737488355328) (hBw : B <= w.heap.size) (u : FrameMode) :
    CallsD Tryz.prog 25 #[.pointer (some ⟨b, 0, none⟩), .string s] u w fun e u' w' => u' = u /\ WroteStr B b l s w e w' := (yR B b l s w h hlen hBw).2 u
theorem Bld.alloc {B b : Nat} {l : List UInt8} {w : World} (h : Bld B b l w) (o : Obj) : Bld B b l (w.alloc o) := Lib.IsBuilderF.alloc h o
theorem Bld.lt {B b : Nat} {l : List UInt8} {w : World} (h : Bld B b l w) : B <= b /\ b < w.heap.size := by
  rcases h with h | h
  · exact ⟨h.1, h.lt⟩
  · exact ⟨h.1, h.lt⟩
end Go.Proofs.YtepmjknljbafgaaGreatDoor
