/-
  The law's CopiedType.
-/
import Derived.Test.YtccobmjakmjekaaDoorVeil
import Derived.Laws.MakeOwn
import Derived.Deep.RegionLaw
import Derived.Deep.RegionHeld3
import Derived.Deep.AppendLies
namespace Go.Proofs.YtccobmjakmjekaaDoor
open Go.RowKit

theorem info_T : (Tryd.prog.info? 25).map (fun i => (i.zero, i.size, decide (i.bytes ≤ 64))) = some (some (.agg #[.int .i8 0, .slice none 0 0]), 2, true) := by kernel_rfl
theorem make_kids (n : Nat) (hn : n ≤ 32768) (w : World) :
    (Instr.makeSlice 23 (.int .i64 0) (.int .i64 ((n : Int) + 1))).run Tryd.prog w = .ok (.slice (some ⟨w.heap.size, 0, none⟩) 0 (n + 1)) (w.alloc (.cells (madeCells #[.int .i8 0, .slice none 0 0] ((n + 1) * 2)) 25)) := by
  have hT := info_T
  cases hi : Tryd.prog.info? 25 with
  | none => rw [hi] at hT; cases hT
  | some i =>
    rw [hi] at hT
    simp only [Option.map_some, Option.some.injEq, Prod.mk.injEq, decide_eq_true_eq] at hT
    obtain ⟨hz, hs, hb⟩ := hT
    have hbytes : (i.bytes : Int) * ((n : Int) + 1) ≤ 281474976710656 := by
      have h1 : (i.bytes : Int) ≤ 64 := by omega
      exact Int.le_trans (Int.mul_le_mul_of_nonneg_right h1 (by omega)) (by omega)
    have hr := run_make (P := Tryd.prog) w 23 25 i _ Tryd.underlying23 hi hz .i64 .i64 0 ((n : Int) + 1) (by omega) (by omega) hbytes (by omega)
    rw [hs, show ((n : Int) + 1).toNat = n + 1 by omega] at hr
    exact hr
theorem keepAt {wb w2 : World} {b o : Nat} {v : Value} (h : wb.cell? ⟨b, o, none⟩ = some v) (hb : Below wb.heap.size wb w2) : w2.cell? ⟨b, o, none⟩ = some v := by rw [(bcell hb).1 _ _ (Ty.cell_lt h)]; exact h
theorem keepSet {u : World} {b o Z p : Nat} {v : Value} {ob : Obj} {vs : List Value} (h : u.cell? ⟨b, o, none⟩ = some v) (hne : b ≠ Z) : ((u.alloc ob).setCells Z p vs).cell? ⟨b, o, none⟩ = some v := by
  rw [World.cell?_setCells_out Z vs p _ _ (fun e => absurd e hne)]
  exact keepAt h ((Below.refl _ _).alloc (Nat.le_refl _) _)
theorem keepFz {wb w2 : World} {b o : Nat} (h : wb.frozen? ⟨b, o, none⟩ = false) (hl : b < wb.heap.size) (hb : Below wb.heap.size wb w2) : w2.frozen? ⟨b, o, none⟩ = false := by rw [(bcell hb).2 _ _ hl]; exact h
theorem keepFzSet {u : World} {b o Z p : Nat} {ob : Obj} {vs : List Value} (h : u.frozen? ⟨b, o, none⟩ = false) (hl : b < u.heap.size) : ((u.alloc ob).setCells Z p vs).frozen? ⟨b, o, none⟩ = false := by
  rw [World.frozen?_setCells]
  exact keepFz h hl ((Below.refl _ _).alloc (Nat.le_refl _) _)
theorem info_T2 : ∃ i, Tryd.prog.info? 25 = some i ∧ i.size = 2 := by
  have hT := info_T
  cases hi : Tryd.prog.info? 25 with
  | none => rw [hi] at hT; cases hT
  | some i =>
    rw [hi] at hT
    simp only [Option.map_some, Option.some.injEq, Prod.mk.injEq, decide_eq_true_eq] at hT
    exact ⟨i, rfl, hT.2.1⟩
theorem made_some {w : World} {Z n : Nat} (h : w.heap[Z]? = some (.cells (madeCells #[.int .i8 0, .slice none 0 0] (n * 2)) 25 (0, 0))) (j : Nat) (hj : j < n * 2) : (w.cell? ⟨Z, j, none⟩).isSome = true ∧ w.frozen? ⟨Z, j, none⟩ = false := by
  have hs := size_madeCells #[.int .i8 0, .slice none 0 0] (n * 2)
  generalize madeCells #[.int .i8 0, .slice none 0 0] (n * 2) = cs at *
  simp [World.cell?, World.frozen?, h, Array.getElem?_eq_getElem (show j < cs.size by omega)]

namespace Ty
theorem Done.liesV {n n0 : Nat} {w : World} {b : Nat} (h0 : n0 ≤ n) (hb : n0 ≤ b) : ∀ (f : Fo) (o : Nat), Done n w (len f) f b (o * 2) → Lies (veil n0 w) f (some ⟨b, 0, none⟩) o
  | .nil, _, _ => trivial
  | .node _ _ k kids r, o, h => by
    simp only [len] at h
    obtain ⟨⟨B, m, c, e1, e2, e3⟩, e4⟩ := h
    have e5 : Is (veil n0 w) k kids B m c := e3.keep h0 fun _ _ _ _ hc => hc
    refine ⟨b, 0, B, c, rfl, ⟨e5.lo, e5.hi⟩, by rw [veil_off hb, Nat.zero_add]; exact e1, by rw [veil_off hb, Nat.zero_add, ← e5.n_eq]; exact e2, by rw [← e5.n_eq]; exact e5.n_le, e5.c_le, e5.lies, ?_⟩
    exact Done.liesV h0 hb r (o + 1) (by rw [Nat.add_mul, Nat.one_mul]; exact e4)
end Ty
/-- a copy in new memory -/
def CopyNew (w : World) (k : Int) (kids : Fo) (e : Ending) (w' : World) : Prop :=
  ∃ G m c, e = .returned (.agg #[.int .i8 k, .slice G m c]) ∧ Ty.IsNew w.heap.size w' k kids G m c ∧ Below w.heap.size w w'

theorem setCells2 (w : World) (Z p : Nat) (a b : Value) : w.setCells Z p [a, b] = (w.setCell ⟨Z, p, none⟩ a).setCell ⟨Z, p + 1, none⟩ b := rfl
theorem Ty.behind_next {a b : Nat} {k : Int} {kids s : Fo} : ∀ (i : Nat) (f : Fo), Ty.behind i f = .node a b k kids s → Ty.behind (i + 1) f = s
  | 0, .nil, h => by cases h
  | 0, .node _ _ _ _ _, h => by cases h; rfl
  | _ + 1, .nil, h => by cases h
  | i + 1, .node _ _ _ _ r, h => Ty.behind_next i r h
/-- a round's end: the row has one more -/
theorem copy_round {w2 wr u2 : World} {O Z i n n0 : Nat} {k kk : Int} {G : Option Addr} {m cg a b : Nat} {kids kks r : Fo} {T : TypeId} (hOZ : O ≠ Z)
    (hob : wr.heap[O]? = some (.cells #[.int .i8 k, .slice (some ⟨Z, 0, none⟩) i (n + 1)] T (0, 0)))
    (hsp : ∀ j, j < (n + 1) * 2 → (wr.cell? ⟨Z, j, none⟩).isSome = true ∧ wr.frozen? ⟨Z, j, none⟩ = false) (hdn : Ty.Done n0 wr i kids Z 0) (hbh : Ty.behind i kids = .node a b kk kks r)
    (E2 : Below wr.heap.size wr u2) (hnew : Ty.IsNew n0 u2 kk kks G m cg) (hi : i < n) (hOn : O < n0) (hZn : Z < n0) (hO : w2.heap.size ≤ O) (hZ : w2.heap.size ≤ Z) (hbl : Below w2.heap.size w2 wr) :
    Ty.behind (i + 1) kids = r ∧ Below w2.heap.size w2 (((u2.alloc (.cells #[.int .i8 kk, .slice G m cg] T)).setCells Z (i * 2) [.int .i8 kk, .slice G m cg]).setCell ⟨O, 1, none⟩ (.slice (some ⟨Z, 0, none⟩) (i + 1) (n + 1))) ∧
    wr.heap.size ≤ (((u2.alloc (.cells #[.int .i8 kk, .slice G m cg] T)).setCells Z (i * 2) [.int .i8 kk, .slice G m cg]).setCell ⟨O, 1, none⟩ (.slice (some ⟨Z, 0, none⟩) (i + 1) (n + 1))).heap.size ∧
    (((u2.alloc (.cells #[.int .i8 kk, .slice G m cg] T)).setCells Z (i * 2) [.int .i8 kk, .slice G m cg]).setCell ⟨O, 1, none⟩ (.slice (some ⟨Z, 0, none⟩) (i + 1) (n + 1))).heap[O]? = some (.cells #[.int .i8 k, .slice (some ⟨Z, 0, none⟩) (i + 1) (n + 1)] T (0, 0)) ∧
    (∀ j, j < (n + 1) * 2 → ((((u2.alloc (.cells #[.int .i8 kk, .slice G m cg] T)).setCells Z (i * 2) [.int .i8 kk, .slice G m cg]).setCell ⟨O, 1, none⟩ (.slice (some ⟨Z, 0, none⟩) (i + 1) (n + 1))).cell? ⟨Z, j, none⟩).isSome = true ∧
      (((u2.alloc (.cells #[.int .i8 kk, .slice G m cg] T)).setCells Z (i * 2) [.int .i8 kk, .slice G m cg]).setCell ⟨O, 1, none⟩ (.slice (some ⟨Z, 0, none⟩) (i + 1) (n + 1))).frozen? ⟨Z, j, none⟩ = false) ∧
    Ty.Done n0 (((u2.alloc (.cells #[.int .i8 kk, .slice G m cg] T)).setCells Z (i * 2) [.int .i8 kk, .slice G m cg]).setCell ⟨O, 1, none⟩ (.slice (some ⟨Z, 0, none⟩) (i + 1) (n + 1))) (i + 1) kids Z 0 := by
  have hZl : Z < wr.heap.size := by
    have := (hsp 0 (by omega)).1
    rcases Nat.lt_or_ge Z wr.heap.size with h | h
    · exact h
    · simp [World.cell?, Array.getElem?_eq_none h] at this
  have hOl := heap_lt hob
  have hu := E2.size
  have hBa : Below wr.heap.size wr (u2.alloc (.cells #[.int .i8 kk, .slice G m cg] T)) := E2.alloc E2.size _
  have hnew2 : Ty.IsNew n0 (u2.alloc (.cells #[.int .i8 kk, .slice G m cg] T)) kk kks G m cg := hnew.below ((Below.refl _ _).alloc (Nat.le_refl _) _)
  have hbl2 : Below w2.heap.size w2 (u2.alloc (.cells #[.int .i8 kk, .slice G m cg] T)) := hbl.trans (hBa.mono hbl.size)
  have hOb2 := heap_below hBa hOl hob
  generalize u2.alloc (.cells #[.int .i8 kk, .slice G m cg] T) = v at *
  rw [setCells2]
  have hZc := fun o => (bcell hBa).1 Z o hZl
  have hZf := fun o => (bcell hBa).2 Z o hZl
  -- cells behind the three stores
  have hother : ∀ (b o : Nat) (x : Value), b ≠ Z → b ≠ O → v.cell? ⟨b, o, none⟩ = some x → (((v.setCell ⟨Z, i * 2, none⟩ (.int .i8 kk)).setCell ⟨Z, i * 2 + 1, none⟩ (.slice G m cg)).setCell ⟨O, 1, none⟩ (.slice (some ⟨Z, 0, none⟩) (i + 1) (n + 1))).cell? ⟨b, o, none⟩ = some x := by
    intro b o x h1 h2 h3
    rw [World.cell?_setCell_other _ _ _ _ (fun e => h2 (by injection e with e; exact e.symm)), World.cell?_setCell_other _ _ _ _ (fun e => h1 (by injection e with e; exact e.symm)), World.cell?_setCell_other _ _ _ _ (fun e => h1 (by injection e with e; exact e.symm))]
    exact h3
  have hZo : ∀ (j : Nat), j ≠ i * 2 → j ≠ i * 2 + 1 → (((v.setCell ⟨Z, i * 2, none⟩ (.int .i8 kk)).setCell ⟨Z, i * 2 + 1, none⟩ (.slice G m cg)).setCell ⟨O, 1, none⟩ (.slice (some ⟨Z, 0, none⟩) (i + 1) (n + 1))).cell? ⟨Z, j, none⟩ = v.cell? ⟨Z, j, none⟩ := by
    intro j h1 h2
    rw [World.cell?_setCell_other _ _ _ _ (fun e => hOZ (by injection e)), World.cell?_setCell_other _ _ _ _ (fun e => h2 (by injection e with _ e; exact e.symm)), World.cell?_setCell_other _ _ _ _ (fun e => h1 (by injection e with _ e; exact e.symm))]
  obtain ⟨x0, hx0⟩ := Option.isSome_iff_exists.1 (hsp (i * 2) (by omega)).1
  obtain ⟨x1, hx1⟩ := Option.isSome_iff_exists.1 (hsp (i * 2 + 1) (by omega)).1
  rw [← hZc] at hx0 hx1
  have hc0 : (((v.setCell ⟨Z, i * 2, none⟩ (.int .i8 kk)).setCell ⟨Z, i * 2 + 1, none⟩ (.slice G m cg)).setCell ⟨O, 1, none⟩ (.slice (some ⟨Z, 0, none⟩) (i + 1) (n + 1))).cell? ⟨Z, i * 2, none⟩ = some (.int .i8 kk) := by
    rw [World.cell?_setCell_other _ _ _ _ (fun e => hOZ (by injection e)), World.cell?_setCell_other _ _ _ _ (fun e => by injection e with _ e; omega)]
    exact World.cell?_setCell_same _ _ _ hx0
  have hc1 : (((v.setCell ⟨Z, i * 2, none⟩ (.int .i8 kk)).setCell ⟨Z, i * 2 + 1, none⟩ (.slice G m cg)).setCell ⟨O, 1, none⟩ (.slice (some ⟨Z, 0, none⟩) (i + 1) (n + 1))).cell? ⟨Z, i * 2 + 1, none⟩ = some (.slice G m cg) := by
    rw [World.cell?_setCell_other _ _ _ _ (fun e => hOZ (by injection e))]
    refine World.cell?_setCell_same _ _ _ (u := x1) ?_
    rw [World.cell?_setCell_other _ _ _ _ (fun e => by injection e with _ e; omega)]
    exact hx1
  refine ⟨Ty.behind_next i kids hbh, ((hbl2.setCell hZ _).setCell hZ _).setCell hO _, by simpa [World.setCell] using hBa.size, ?_, ?_, ?_⟩
  · have h1 : ((v.setCell ⟨Z, i * 2, none⟩ (.int .i8 kk)).setCell ⟨Z, i * 2 + 1, none⟩ (.slice G m cg)).heap[O]? = some (.cells #[.int .i8 k, .slice (some ⟨Z, 0, none⟩) i (n + 1)] T (0, 0)) := by
      rw [Below.heap_setCell _ _ _ O hOZ, Below.heap_setCell _ _ _ O hOZ]; exact hOb2
    generalize (v.setCell ⟨Z, i * 2, none⟩ (.int .i8 kk)).setCell ⟨Z, i * 2 + 1, none⟩ (.slice G m cg) = y at h1 ⊢
    simp [World.setCell, Array.getElem?_modify, h1]
  · intro j hj
    constructor
    · by_cases e0 : j = i * 2
      · rw [e0, hc0]; rfl
      · by_cases e1 : j = i * 2 + 1
        · rw [e1, hc1]; rfl
        · rw [hZo j e0 e1, hZc]; exact (hsp j hj).1
    · rw [World.frozen?_setCell, World.frozen?_setCell, World.frozen?_setCell, hZf]; exact (hsp j hj).2
  · refine Ty.Done.next i kids Z 0 (Ty.Done.keep i kids Z 0 hdn ?_ ?_) hbh (by rw [show 0 + 2 * i = i * 2 by omega]; exact hc0) (by rw [show 0 + 2 * i + 1 = i * 2 + 1 by omega]; exact hc1) ?_
    · intro j x hj hx
      rw [hZo j (by omega) (by omega), hZc]; exact hx
    · intro k' kids' B m' c' h
      exact h.keep (Nat.le_refl _) fun b o x hb hx => hother b o x (by omega) (by omega) (by rw [(bcell hBa).1 b o (Ty.cell_lt hx)]; exact hx)
    · exact hnew2.keep (Nat.le_refl _) fun b o x hb hx => hother b o x (by omega) (by omega) hx

set_option maxHeartbeats 4000000 in
set_option maxRecDepth 100000 in
theorem copy_any (K : Nat) : ∀ (k : Int) (kids : Fo) (A : Option Addr) (n c : Nat) (w : World), Ty.nodes kids < K → Ty.Is w k kids A n c → Ty.nodes kids + 1 ≤ 32768 →
    Calls Tryd.prog 20 #[.agg #[.int .i8 k, .slice A n c]] w (CopyNew w k kids) := by
  induction K with
  | zero => intro _ _ _ _ _ _ h; omega
  | succ K ih =>
    intro k kids A n c w hK hIs hsm
    have hnn := hIs.n_eq
    have hln := Ty.len_le_nodes kids
    have hB0 : Below w.heap.size w ((w.alloc (.cells #[.int .i8 k, .slice A n c] 25)).alloc (.cells #[.int .i8 0, .slice none 0 0] 25)) := ((Below.refl w.heap.size w).alloc (Nat.le_refl _) _).alloc (by simp) _
    obtain ⟨n0, n1, n2⟩ := two_new w (.cells #[.int .i8 k, .slice A n c] 25) (.cells #[.int .i8 0, .slice none 0 0] 25)
    have HI := Lib.hid (hIs.below hB0)
    have IH := Lib.hid ih
    have hlo := hIs.lo
    have hhi := hIs.hi
    clear ih hIs
    cases kids with
    | nil =>
      have hn0 : n = 0 := hnn
      subst hn0
      clear hnn hln HI IH hK hsm
      go_enter Tryd.func20, Tryd.ntmps20
      go_wp2_with fail
      refine bodyPost_ret (v := .agg #[.int .i8 k, .slice none 0 0]) (by simp [results, Tryd.results20, go_sem, *]) rfl ⟨none, 0, 0, rfl, Ty.isNew_nil _ _ k hlo hhi, ?_⟩
      exact ((Below.refl w.heap.size w).alloc (Nat.le_refl _) _).alloc (by simp) _
    | node a b k1 kids1 r =>
      have hn1 : 0 < n := by rw [hnn]; simp [Ty.len]
      generalize hkk : Go.Deep.BT.node a b k1 kids1 r = kids at *
      have hn2 : n ≤ 32768 := by omega
      have hmk := make_kids n hn2
      have i5 : (n : Int) ≤ 32768 := by omega
      have i6 : (0 : Int) < n := by omega
      have HNN := Lib.hid hnn
      obtain ⟨b0, b1, _, _, hb0⟩ := own2 n0
      obtain ⟨d0, d1, f0, f1, hd0⟩ := own2 n1
      clear hkk hnn hln hn1
      go_enter Tryd.func20, Tryd.ntmps20
      go_upto_region 3 with fail
      generalize hw2 : (w.alloc (.cells #[.int .i8 k, .slice A n c] 25)).alloc (.cells #[.int .i8 0, .slice none 0 0] 25) = w2 at *
      have HZ2 := Lib.hid n2
      have HN0 := Lib.hid n0
      have HN1 := Lib.hid n1
      clear hw2 n0 n1 n2
      go_cut [3] (fun s3 wx => ∃ O Z, s3 = .pointer (some ⟨O, 0, none⟩) ∧ w2.heap.size ≤ O ∧ w2.heap.size ≤ Z ∧ O ≠ Z ∧ wx.heap[O]? = some (.cells #[.int .i8 k, .slice (some ⟨Z, 0, none⟩) 0 (n + 1)] 25 (0, 0)) ∧
        wx.heap[Z]? = some (.cells (madeCells #[.int .i8 0, .slice none 0 0] ((n + 1) * 2)) 25 (0, 0)) ∧ Below w2.heap.size w2 wx)
      case first =>
        go_region
        all_goals
          go_wp2_with fail
          go_meet
        · refine ⟨_, w2.heap.size, rfl, by omega, by omega, by omega, ?_, ?_, ?_⟩
          · exact (two_new w2 _ _).2.1
          · exact heap_old (heap_new w2 (.cells (madeCells #[.int .i8 0, .slice none 0 0] ((n + 1) * 2)) 25)) (.cells #[.int .i8 k, .slice (some ⟨w2.heap.size, 0, none⟩) 0 (n + 1)] 25)
          · exact (((Below.refl w2.heap.size w2).alloc (Nat.le_refl _) _).alloc (by simp) _).drew
        · refine ⟨_, w2.heap.size + 1, rfl, by omega, by omega, by omega, ?_, ?_, ?_⟩
          · exact (two_new w2 _ _).1
          · exact (two_new w2 _ _).2.1
          · exact (((Below.refl w2.heap.size w2).alloc (Nat.le_refl _) _).alloc (by simp) _).drew
      case rest =>
        obtain ⟨O, Z, rfl, hO, hZ, hOZ, hOb, hZb, hb⟩ := hcut
        have hsp := made_some hZb
        have hOl := heap_lt hOb
        have hZl := heap_lt hZb
        have HOb := Lib.hid hOb
        have HSP := Lib.hid hsp
        have HB := Lib.hid hb
        have HST := Lib.hid (Over.start HI.out.lies HNN.out)
        obtain ⟨b0, b1, _, _, hl1⟩ := own2 (heap_below hb (by have := HZ2.out; omega) HN0.out)
        have HNR := Lib.hid (heap_below hb (by have := HZ2.out; omega) HN1.out)
        have hz2 := HZ2.out
        clear hOb hZb hsp hb d0 d1 f0 f1 hd0
        go_wp2_with fail
        go_loopw [4] (fun v4 wr => ∃ (i : Nat) (rest : Fo), v4 = .int .i64 i ∧ Over w2 w2 A n (Ty.nodes kids) i rest ∧ Ty.behind i kids = rest ∧ Below w2.heap.size w2 wr ∧ wc.heap.size ≤ wr.heap.size ∧
          wr.heap[O]? = some (.cells #[.int .i8 k, .slice (some ⟨Z, 0, none⟩) i (n + 1)] 25 (0, 0)) ∧
          (∀ j, j < (n + 1) * 2 → (wr.cell? ⟨Z, j, none⟩).isSome = true ∧ wr.frozen? ⟨Z, j, none⟩ = false) ∧ Ty.Done wc.heap.size wr i kids Z 0) (fun v _ => n - (intOf v).toNat)
        case atStart => exact ⟨0, kids, rfl, HST.out, rfl, HB.out, Nat.le_refl _, HOb.out, HSP.out, trivial⟩
        case round =>
          obtain ⟨i, rest, rfl, hOv, hbh, hbl, hwr, hob, hsp, hdn⟩ := hrel
          obtain ⟨b0, b1, _, _, hl1⟩ := own2 (heap_below hbl (by omega) HN0.out)
          have HBL := Lib.hid hbl
          obtain ⟨o0, o1, g0, g1, hol⟩ := own2 hob
          have HNR := Lib.hid (heap_below hbl (by omega) HN1.out)
          have HDN := Lib.hid hdn
          have HSP2 := Lib.hid hsp
          have HOB := Lib.hid hob
          clear hbl hdn hsp hob
          cases rest with
          | nil =>
            have hi : i = n := by have := hOv.i_eq; simpa [Ty.len] using this
            subst hi
            obtain ⟨d0, d1, f0, f1, hd0⟩ := own2 HNR.out
            clear hOv hbh
            go_wp2_with fail
            have hw' : Ty.Done wc.heap.size ((wr.setCell ⟨w.heap.size + 1, 0, none⟩ (.int .i8 k)).setCell ⟨w.heap.size + 1, 1, none⟩ (.slice (some ⟨Z, 0, none⟩) i (i + 1))) i kids Z 0 := by
              have hc : ∀ (b o : Nat) (v : Value), b ≠ w.heap.size + 1 → wr.cell? ⟨b, o, none⟩ = some v → ((wr.setCell ⟨w.heap.size + 1, 0, none⟩ (.int .i8 k)).setCell ⟨w.heap.size + 1, 1, none⟩ (.slice (some ⟨Z, 0, none⟩) i (i + 1))).cell? ⟨b, o, none⟩ = some v := fun b o v hb hc => by
                rw [World.cell?_setCell_other _ _ _ _ (fun e => hb (by injection e with e; exact e.symm)), World.cell?_setCell_other _ _ _ _ (fun e => hb (by injection e with e; exact e.symm))]; exact hc
              exact HDN.out.keep _ _ _ _ (fun j v _ h => hc _ _ _ (by omega) h) (fun k kids B m c h => h.keep (Nat.le_refl _) fun b o v hb h => hc _ _ _ (by omega) h)
            refine bodyPost_ret (v := .agg #[.int .i8 k, .slice (some ⟨Z, 0, none⟩) i (i + 1)]) (by simp [results, Tryd.results20, go_sem, *]) rfl ⟨_, _, _, rfl, ⟨Ty.Done.liesV (n := wc.heap.size) (n0 := w.heap.size) (by omega) (by omega) kids 0 (by rw [← HNN.out]; exact hw'), HNN.out, by omega, by unfold maxLen; omega, hlo, hhi⟩, ?_⟩
            exact (((hB0.trans (HBL.out.mono (by omega))).setCell (by simp) _).setCell (by simp) _)
          | node a b kk kks r =>
            have h1 := hOv.i_eq
            have h2 := hOv.lies
            have h3 := hOv.sub
            simp only [Ty.len, Ty.nodes] at h1 h3
            have j1 : (i : Int) < n := by omega
            have HOV := Lib.hid hOv
            have HBH := Lib.hid hbh
            clear hOv hbh
            have E1 : Below wr.heap.size wr wr.drew := (Below.refl _ _).drew
            obtain ⟨bb, oo, B, c9, rfl, ⟨hk1, hk2⟩, c1', c2', hl1', hl2', hl3, hl4⟩ := h2
            have q0 : wr.cell? ⟨bb, oo + i * 2, none⟩ = some (.int .i8 kk) := by rw [(bcell HBL.out).1 _ _ (Ty.cell_lt c1')]; exact c1'
            have q1 : wr.cell? ⟨bb, oo + i * 2 + 1, none⟩ = some (.slice B (Ty.len kks) c9) := by rw [(bcell HBL.out).1 _ _ (Ty.cell_lt c1')]; exact c2'
            have hI3 := Lib.hid (fun (u : World) (hE : Below wr.heap.size wr u) => IH.out kk kks B (Ty.len kks) c9 u (by omega) ⟨(hl3.below HBL.out).below hE, rfl, hl1', hl2', hk1, hk2⟩ (by omega))
            have HL4 := Lib.hid hl4
            have j2 : (0 : Int) ≤ i ∧ (i : Int) < n := by omega
            have HBB := Lib.hid (show bb ≠ Z from by have := Ty.cell_lt c1'; omega)
            have HSPA := Lib.hid (fun (u : World) (ob : Obj) (hE : Below wr.heap.size wr u) (j : Nat) (hj : j < 2) => (show ((u.alloc ob).cell? ⟨Z, 0 + i * 2 + j, none⟩).isSome = true ∧ (u.alloc ob).frozen? ⟨Z, 0 + i * 2 + j, none⟩ = false by
              have hq := bcell (hE.alloc hE.size ob)
              rw [hq.1 _ _ (by omega), hq.2 _ _ (by omega)]
              exact HSP2.out _ (by omega)))
            clear hl3 hl4 c1' c2'
            go_wp2_with fail
            obtain ⟨ti, hti, hts⟩ := info_T2
            have HTI := Lib.hid hti
            have HTS := Lib.hid hts
            clear hti hts
            go_region_law (first
                | (go_simp; go_at_call 20; (refine (hI3.out _ E1).mono ?_); rintro e u2 ⟨G, m, cg, rfl, hnew, hb⟩; have E2 := E1.trans (hb.mono E1.size); have HNW := Lib.hid hnew; have o1a := keepAt o1 E2; have g1a := keepFz g1 hol E2; have hola := Nat.lt_of_lt_of_le hol E2.size; clear hnew hb; go_wp2_with fail)
                | ((refine step_append_room (by rfl) (.tmp 28) (.tmp 35) 23 (by rfl) 25 ti 2 Tryd.underlying23 HTI.out HTS.out Z 0 i (n + 1) (by rfl) ⟨u2.heap.size, 0, none⟩ 1 1 [.int .i8 kk, .slice G m cg] (by rfl) (by rfl) (World.news_of_block (cs := #[.int .i8 kk, .slice G m cg]) (t := 25) (fr := (0, 0)) (heap_alloc_new u2 _)) (by simp [Value.oneCell']) (by omega) (fun j hj => HSPA.out u2 _ E2 j hj) ?_); simp only [Nat.zero_add]; have o1b := keepSet (ob := .cells #[.int .i8 kk, .slice G m cg] 25) (p := i * 2) (vs := [.int .i8 kk, .slice G m cg]) o1a hOZ; have g1b := keepFzSet (ob := .cells #[.int .i8 kk, .slice G m cg] 25) (Z := Z) (p := i * 2) (vs := [.int .i8 kk, .slice G m cg]) g1a hola))
            all_goals
              go_wp2_with fail
              go_roundw
              case rel =>
                have hR := copy_round (k := k) (kk := kk) (G := G) (m := m) (cg := cg) hOZ HOB.out HSP2.out HDN.out HBH.out E2 (HNW.out.keep (n' := wc.heap.size) hwr fun _ _ _ _ h => h) (by omega) hOl hZl hO hZ HBL.out
                obtain ⟨r1, r2, r3, r4, r5, r6⟩ := hR
                exact ⟨i + 1, r, by go_num, HOV.out.step (Below.refl _ _) HL4.out, r1, r2, by omega, by exact r4, r5, r6⟩
              case measure => simp [intOf]; omega
end Go.Proofs.YtccobmjakmjekaaDoor
