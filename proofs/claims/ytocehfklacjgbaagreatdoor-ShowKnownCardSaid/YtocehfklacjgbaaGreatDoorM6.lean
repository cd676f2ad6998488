/-
  show's leaves: how strong an operator and a term are; words put behind what is written. How long what is written is; words put behind it.
-/
import Derived.Test.YtocehfklacjgbaaGreatDoorSh0
import Derived.Test.YtocehfklacjgbaaGreatDoorM4
import Derived.Test.YtocehfklacjgbaaGreatDoorBuilder
import Derived.Deep.DeepCutAuto
import Derived.Test.YtocehfklacjgbaaGreatDoorM5
namespace Go.Proofs.YtocehfklacjgbaaGreatDoor
open Go.RowKit

theorem Sh.opS_of {s : ByteArray} {b0 b1 b2 b3 : Bool} (h0 : (s.toList == [42]) = b0) (h1 : (s.toList == [47]) = b1) (h2 : (s.toList == [43]) = b2) (h3 : (s.toList == [45]) = b3) :
    Sh.opS s = if b0 || b1 then (3, 3, 4) else if b2 || b3 then (2, 2, 3) else (1, 2, 2) := by
  subst h0; subst h1; subst h2; subst h3
  unfold Sh.opS
  simp

set_option maxHeartbeats 1000000 in
set_option maxRecDepth 100000 in
theorem sop_any (s : ByteArray) (w : World) :
    Calls Tryz.prog 96 #[.string s] w fun e w' => e = .returned (.tuple #[.int .i64 (Sh.opS s).1, .int .i64 (Sh.opS s).2.1, .int .i64 (Sh.opS s).2.2]) ∧ w' = w := by
  obtain ⟨b0, h0⟩ : ∃ b, (s.toList == [42]) = b := ⟨_, rfl⟩
  obtain ⟨b1, h1⟩ : ∃ b, (s.toList == [47]) = b := ⟨_, rfl⟩
  obtain ⟨b2, h2⟩ : ∃ b, (s.toList == [43]) = b := ⟨_, rfl⟩
  obtain ⟨b3, h3⟩ : ∃ b, (s.toList == [45]) = b := ⟨_, rfl⟩
  rw [Sh.opS_of h0 h1 h2 h3]
  cases b0 <;> cases b1 <;> cases b2 <;> cases b3
  all_goals
    simp only [Bool.or_true, Bool.true_or, Bool.or_self, if_true, Bool.false_eq_true, if_false]
    go_enter Tryz.func96, Tryz.ntmps96
    go_wp2_with fail
    first
      | exact bodyPost_ret (v := .tuple #[.int .i64 3, .int .i64 3, .int .i64 4]) (by simp [results, Tryz.results96, go_sem]) rfl ⟨rfl, rfl⟩
      | exact bodyPost_ret (v := .tuple #[.int .i64 2, .int .i64 2, .int .i64 3]) (by simp [results, Tryz.results96, go_sem]) rfl ⟨rfl, rfl⟩
      | exact bodyPost_ret (v := .tuple #[.int .i64 1, .int .i64 2, .int .i64 2]) (by simp [results, Tryz.results96, go_sem]) rfl ⟨rfl, rfl⟩

set_option maxHeartbeats 4000000 in
set_option maxRecDepth 100000 in
theorem sst_any (h : Hd) (p : Pl) (w : World) (hk : 0 ≤ h.kind ∧ h.kind ≤ 16) :
    Calls Tryz.prog 48 #[.agg #[.int .i8 h.kind, .string h.name, .string h.arg, .int .i64 h.num, .int .i8 h.tk, .slice p.TA p.tn p.tc, .int .i8 h.uk, .slice p.UA p.un p.uc, .int .i64 h.label, .int .i64 h.pos, .slice p.A p.n p.c]] w fun e w' => e = .returned (.int .i64 (Sh.st h)) ∧ Below w.heap.size w w' := by
  have hB0 : ∀ o : Obj, Below w.heap.size w (w.alloc o) := fun o => (Below.refl _ _).alloc (Nat.le_refl _) o
  have CO := Lib.hid (fun W => sop_any h.name W)
  obtain ⟨k, hkk⟩ : ∃ k, h.kind = k := ⟨_, rfl⟩
  rw [hkk] at hk
  have hcase : k = 0 ∨ k = 1 ∨ k = 2 ∨ k = 3 ∨ k = 4 ∨ k = 5 ∨ k = 6 ∨ k = 7 ∨ k = 8 ∨ k = 9 ∨ k = 10 ∨ k = 11 ∨ k = 12 ∨ k = 13 ∨ k = 14 ∨ k = 15 ∨ k = 16 := by omega
  have hst : Sh.st h = if k = 4 ∨ k = 5 ∨ k = 7 ∨ k = 8 ∨ k = 14 then -1 else if k = 16 then 0 else if k = 15 then (Sh.opS h.name).1 else if k = 10 ∨ k = 11 ∨ k = 12 ∨ k = 13 then 4 else if k = 1 ∧ h.num < 0 then 4 else 5 := by unfold Sh.st; rw [hkk]
  rw [hst]
  clear hst hk
  generalize Sh.opS h.name = O at *
  obtain ⟨o1, o2, o3⟩ := O
  rcases hcase with rfl | rfl | rfl | rfl | rfl | rfl | rfl | rfl | rfl | rfl | rfl | rfl | rfl | rfl | rfl | rfl | rfl
  case inr.inl =>
    by_cases hn : h.num < 0
    · simp only [hn]
      go_enter Tryz.func48, Tryz.ntmps48
      go_wp2_with fail
      go_ret
      exact ⟨rfl, hB0 _⟩
    · simp only [hn]
      go_enter Tryz.func48, Tryz.ntmps48
      go_wp2_with fail
      go_ret
      exact ⟨rfl, hB0 _⟩
  case inr.inr.inr.inr.inr.inr.inr.inr.inr.inr.inr.inr.inr.inr.inr.inl =>
    go_enter Tryz.func48, Tryz.ntmps48
    go_wp2_with fail
    refine (CO.out _).mono ?_
    rintro e w2 ⟨rfl, rfl⟩
    go_wp2_with fail
    go_ret
    exact ⟨rfl, hB0 _⟩
  all_goals
    go_enter Tryz.func48, Tryz.ntmps48
    go_wp2_with fail
    go_ret
    exact ⟨rfl, hB0 _⟩
end Go.Proofs.YtocehfklacjgbaaGreatDoor
namespace Go.Proofs.YtocehfklacjgbaaGreatDoor
open Go.RowKit

theorem bld_row {B b : Nat} {l : List UInt8} {w : World} (h : Bld B b l w) : ∃ v0 A n c, w.heap[b]? = some (.cells #[v0, .slice A n c] 70 (0, 0)) ∧ n = l.length ∧ (n : Int) ≤ 9223372036854775807 := by
  have key : ∀ p, Lib.BuilderAtF 70 5 B b p (Lib.byteCells l) w → ∃ v0 A n c, w.heap[b]? = some (.cells #[v0, .slice A n c] 70 (0, 0)) ∧ n = l.length ∧ (n : Int) ≤ 9223372036854775807 := by
    rintro p ⟨hB, v, hbk, hown, hne⟩
    have hl : (Lib.byteCells l).length = l.length := Lib.byteCells_length l
    rcases hown.2 with ⟨rfl, h0⟩ | ⟨g, cap, cur, fz, rfl, _, _, _, h1, h2, _⟩
    · exact ⟨p, none, 0, 0, hbk, by omega, by omega⟩
    · exact ⟨p, _, _, cap, hbk, hl, by unfold maxLen at h2; omega⟩
  rcases h with h | h
  · exact key _ h
  · exact key _ h

set_option maxHeartbeats 1000000 in
set_option maxRecDepth 100000 in
theorem blen_any (B b : Nat) (l : List UInt8) (w : World) (h : Bld B b l w) :
    Calls Tryz.prog 26 #[.pointer (some ⟨b, 0, none⟩)] w fun e w' => e = .returned (.int .i64 l.length) ∧ w' = w := by
  obtain ⟨v0, A, n, c, hb, hn, hm⟩ := bld_row h
  obtain ⟨c0, c1, _, _, hlt⟩ := own2 hb
  rw [← hn]
  clear h hn hb
  go_enter Tryz.func26, Tryz.ntmps26
  go_wp2_with fail
  go_ret
  exact ⟨rfl, rfl⟩

/-- a row of words, in a block that is none of bytes -/
def Row (w : World) (b : Nat) (A : Option Addr) (ws : List ByteArray) : Prop := ws = [] ∨ ∃ g t, A = some ⟨g, 0, none⟩ ∧ w.heap[g]? = some (.cells (ws.map Value.string).toArray t (0, 0)) ∧ g ≠ b ∧ t ≠ 5
theorem Row.wrote {B b : Nat} {A : Option Addr} {ws : List ByteArray} {w w' : World} (h : Row w b A ws) (hw : Wrote B b w w') : Row w' b A ws := by
  rcases h with h | ⟨g, t, h1, h2, h3, h4⟩
  · exact .inl h
  · exact .inr ⟨g, t, h1, hw.box h2 h3 h4, h3, h4⟩
theorem Row.cell {w : World} {b : Nat} {A : Option Addr} {ws : List ByteArray} (h : Row w b A ws) {i : Nat} {x : ByteArray} (hx : ws[i]? = some x) : ∃ g, A = some ⟨g, 0, none⟩ ∧ w.cell? ⟨g, i, none⟩ = some (.string x) := by
  rcases h with rfl | ⟨g, t, h1, h2, h3, h4⟩
  · simp at hx
  · exact ⟨g, h1, cell_of_heap h2 i (by simp [hx])⟩
def bytes (ws : List ByteArray) : List (List UInt8) := ws.map fun x => x.data.toList
/-- what the putting of words leaves -/
def Puts (B b : Nat) (l : List UInt8) (ws : List (List UInt8)) (w : World) (e : Ending) (w' : World) : Prop := e = .returned (.tuple #[]) ∧ Bld B b (Sh.puts l ws) w' ∧ Wrote B b w w'

theorem take_snoc {α : Type} (xs : List α) (i : Nat) (x : α) (h : xs[i]? = some x) : xs.take (i + 1) = xs.take i ++ [x] := by
  rw [List.take_add_one, h]; rfl
theorem puts_snoc (l : List UInt8) (ws : List ByteArray) (i : Nat) (x : ByteArray) (h : ws[i]? = some x) : Sh.puts l (bytes (ws.take (i + 1))) = Sh.put1 (Sh.puts l (bytes (ws.take i))) x.data.toList := by
  unfold bytes
  rw [take_snoc ws i x h, List.map_append, Sh.puts_app]
  rfl
theorem tl_take : ∀ (ws : List (List UInt8)) (i : Nat), Sh.tl (ws.take i) ≤ Sh.tl ws
  | [], i => by simp
  | w :: r, 0 => by simp [Sh.tl]
  | w :: r, i + 1 => by simp only [List.take_succ_cons, Sh.tl]; have := tl_take r i; omega

set_option maxHeartbeats 4000000 in
set_option maxRecDepth 100000 in
theorem put_any (B b : Nat) (l : List UInt8) (ws : List ByteArray) (A : Option Addr) (c : Nat) (w : World) (h : Bld B b l w) (hB : B ≤ w.heap.size) (hr : Row w b A ws) (hn : ws.length ≤ 1000) (hl : l.length + Sh.tl (bytes ws) ≤ 140737488355328) :
    Calls Tryz.prog 25 #[.slice A ws.length c, .pointer (some ⟨b, 0, none⟩)] w (Puts B b l (bytes ws) w) := by
  obtain ⟨n, hN⟩ : ∃ n, n = ws.length := ⟨_, rfl⟩
  rw [← hN]
  have i5 : (n : Int) ≤ 9223372036854775807 := by omega
  have HR := Lib.hid hr
  have HN := Lib.hid hN
  have HL := Lib.hid hl
  have H0 := Lib.hid h
  have HB := Lib.hid hB
  clear h hB hr hl hN hn
  go_enter Tryz.func25, Tryz.ntmps25
  go_wp2_with fail
  go_loopw [7] (fun v wr => ∃ i : Nat, v = .int .i64 i ∧ i ≤ n ∧ Bld B b (Sh.puts l (bytes (ws.take i))) wr ∧ Wrote B b w wr) (fun v _ => n - (intOf v).toNat)
  case atStart => exact ⟨0, rfl, Nat.zero_le _, by simpa [bytes, Sh.puts_nil] using H0.out, Wrote.refl _ _ _⟩
  case round =>
    obtain ⟨i, rfl, hi, hb, hw⟩ := hrel
    by_cases hin : i = n
    · subst hin
      have hfin : Puts B b l (bytes ws) w (.returned (.tuple #[])) wr := ⟨rfl, by rw [HN.out, List.take_length] at hb; exact hb, hw⟩
      have HF := Lib.hid hfin
      clear hb hw hfin hi
      go_wp2_with fail
      change bodyPost _ _ _ _ _ _
      go_end0
      exact HF.out
    · have hlt : i < ws.length := by have := HN.out; omega
      obtain ⟨x, hx⟩ : ∃ x, ws[i]? = some x := ⟨ws[i]'hlt, List.getElem?_eq_getElem _⟩
      obtain ⟨g, rfl, hc⟩ := (HR.out.wrote hw).cell hx
      have hsn := puts_snoc l ws i x hx
      have hq := Sh.puts_len (bytes (ws.take i)) l
      have hbt : bytes (ws.take (i + 1)) = bytes (ws.take i) ++ [x.data.toList] := by unfold bytes; rw [take_snoc ws i x hx, List.map_append]; rfl
      have hq2 : Sh.tl (bytes (ws.take (i + 1))) ≤ Sh.tl (bytes ws) := by unfold bytes; rw [List.map_take]; exact tl_take _ _
      rw [hbt, Sh.tl_app] at hq2
      simp only [Sh.tl] at hq2
      have hxs : x.data.toList.length = x.size := rfl
      have hLL := HL.out
      have j1 : (i : Int) < n := by omega
      have hbs := hw.below.size
      have HSN := Lib.hid hsn
      have HW := Lib.hid hw
      have HI := Lib.hid hi
      have HBW := Lib.hid (Nat.le_trans HB.out hbs)
      generalize hcur : Sh.puts l (bytes (ws.take i)) = cur at *
      have hlen : cur.length + 1 + x.size ≤ 140737488355328 := by omega
      have C1 := Lib.hid (blen_any B b cur wr hb)
      cases cur with
      | nil =>
        have C2 := Lib.hid (write_str B b [] x wr hb (by simp; omega) HBW.out)
        clear hb hsn hq hbt hq2 hLL hw hbs hxs hlen hi hcur
        go_wp2_with fail
        refine C1.out.mono ?_
        rintro e w2 ⟨rfl, rfl⟩
        go_wp2_with fail
        refine C2.out.mono ?_
        rintro e w3 ⟨rfl, hb3, hw3⟩
        have HB3 := Lib.hid (show Bld B b (Sh.puts l (bytes (ws.take (i + 1)))) w3 by rw [HSN.out]; exact hb3)
        have HW3 := Lib.hid (HW.out.trans hw3)
        clear hb3 hw3 hc
        go_wp2_with fail
        go_roundw
        case rel => exact ⟨i + 1, by go_num, by omega, HB3.out, HW3.out⟩
        case measure => simp [intOf]; omega
      | cons a0 r0 =>
        have C2 := Lib.hid (write_str B b (a0 :: r0) ⟨#[32]⟩ wr hb (by have e1 : (⟨#[32]⟩ : ByteArray).size = 1 := rfl; omega) HBW.out)
        have hpos : (0 : Int) < ((a0 :: r0).length : Nat) := by simp
        have hgt : decide ((0 : Int) < ((a0 :: r0).length : Nat)) = true := by simp
        generalize hcl : ((a0 :: r0).length : Nat) = cl at *
        clear hb hsn hq hbt hq2 hLL hw hbs hxs hi hcur
        go_wp2_with fail
        refine C1.out.mono ?_
        rintro e w2 ⟨rfl, rfl⟩
        go_wp2_with fail
        refine C2.out.mono ?_
        rintro e w3 ⟨rfl, hb3, hw3⟩
        obtain ⟨g', hg', hc3⟩ := (HR.out.wrote (HW.out.trans hw3)).cell hx
        injection hg' with hg'; injection hg' with hg' _; subst hg'
        have C3 := Lib.hid (write_str B b (a0 :: r0 ++ [32]) x w3 hb3 (by simp at hcl ⊢; omega) (Nat.le_trans HBW.out hw3.below.size))
        have HW3 := Lib.hid (HW.out.trans hw3)
        clear hb3 hw3 hc
        go_wp2_with fail
        refine C3.out.mono ?_
        rintro e w4 ⟨rfl, hb4, hw4⟩
        have HB4 := Lib.hid (show Bld B b (Sh.puts l (bytes (ws.take (i + 1)))) w4 by
          rw [HSN.out]
          have : Sh.put1 (a0 :: r0) x.data.toList = a0 :: r0 ++ [32] ++ x.data.toList := by unfold Sh.put1; simp
          rw [this]; exact hb4)
        have HW4 := Lib.hid (HW3.out.trans hw4)
        clear hb4 hw4 hc3
        go_wp2_with fail
        go_roundw
        case rel => exact ⟨i + 1, by go_num, by omega, HB4.out, HW4.out⟩
        case measure => simp [intOf]; omega
end Go.Proofs.YtocehfklacjgbaaGreatDoor
