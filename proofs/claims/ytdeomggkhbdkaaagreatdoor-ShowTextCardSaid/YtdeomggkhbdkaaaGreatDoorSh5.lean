/-
  show: the state of a term's own writing; a type's text.
-/
import Derived.Test.YtdeomggkhbdkaaaGreatDoorM12
namespace Go.Proofs.YtdeomggkhbdkaaaGreatDoor
open Go.RowKit

set_option maxHeartbeats 1000000 in
set_option maxRecDepth 100000 in
theorem styped_any (k : Int) (kids : Fo) (A : Option Addr) (n c : Nat) (w : World) (hIs : Ty.Is w k kids A n c) (hS : Shapes w) (hc : Ty.chk k kids = 0) :
    Calls Tryz.prog 41 #[.agg #[.int .i8 k, .slice A n c]] w fun e w' => e = .returned (.string ⟨(Sh.tyW k kids).toArray⟩) ∧ Below w.heap.size w w' := by
  have hB0 : Below w.heap.size w (w.alloc (.cells #[.int .i8 k, .slice A n c] 25)) := (Below.refl _ _).alloc (Nat.le_refl _) _
  have CT := Lib.hid (text_any k kids A n c _ (hIs.below hB0) (hS.below hB0))
  have e1 : Ty.textT k kids = ⟨(Sh.tyW k kids).toArray⟩ := by unfold Ty.textT; rw [if_pos hc]; rfl
  rw [hc, e1] at CT
  clear hIs hS hc e1
  generalize (⟨(Sh.tyW k kids).toArray⟩ : ByteArray) = s at *
  go_enter Tryz.func41, Tryz.ntmps41
  go_wp2_with fail
  refine CT.out.mono ?_
  rintro e w2 ⟨rfl, hb⟩
  go_wp2_with fail
  go_ret
  exact ⟨rfl, hB0.trans (hb.mono hB0.size)⟩

set_option maxHeartbeats 1000000 in
set_option maxRecDepth 100000 in
theorem skids_any (b : Nat) (h : Hd) (p : Pl) (w : World) :
    Calls Tryz.prog 39 #[.agg #[(.func (Fn.func 8) #[] #[.pointer (some ⟨b, 0, none⟩)])], .agg #[.int .i8 h.kind, .string h.name, .string h.arg, .int .i64 h.num, .int .i8 h.tk, .slice p.TA p.tn p.tc, .int .i8 h.uk, .slice p.UA p.un p.uc, .int .i64 h.label, .int .i64 h.pos, .slice p.A p.n p.c]] w fun e w' => e = .returned (.func (Fn.func 63) #[] #[.pointer (some ⟨w.heap.size, 0, none⟩), .pointer (some ⟨w.heap.size + 1, 0, none⟩), .pointer (some ⟨w.heap.size + 1 + 1, 0, none⟩)]) ∧
      w' = ((w.alloc (.cells #[(.func (Fn.func 8) #[] #[.pointer (some ⟨b, 0, none⟩)])] 46)).alloc (.cells #[.int .i8 h.kind, .string h.name, .string h.arg, .int .i64 h.num, .int .i8 h.tk, .slice p.TA p.tn p.tc, .int .i8 h.uk, .slice p.UA p.un p.uc, .int .i64 h.label, .int .i64 h.pos, .slice p.A p.n p.c] 28)).alloc (.cells #[.int .i64 0] 3) := by
  go_enter Tryz.func39, Tryz.ntmps39
  go_wp2_with fail
  go_ret
  exact ⟨rfl, rfl⟩

/-- the state of a term's own writing: w as it began -/
structure OS (B b : Nat) (w W : World) (h : Hd) (p : Pl) (i : Nat) (cur : List UInt8) : Prop where
  bld : Bld B b cur W
  wz : WrZ B b (w.heap.size + 4) w W
  x1 : W.heap[w.heap.size]? = some (.cells #[(.func (Fn.func 8) #[] #[.pointer (some ⟨b, 0, none⟩)])] 46 (0, 0))
  y1 : W.heap[w.heap.size + 1]? = some (.cells #[.int .i8 h.kind, .string h.name, .string h.arg, .int .i64 h.num, .int .i8 h.tk, .slice p.TA p.tn p.tc, .int .i8 h.uk, .slice p.UA p.un p.uc, .int .i64 h.label, .int .i64 h.pos, .slice p.A p.n p.c] 28 (0, 0))
  x : W.heap[w.heap.size + 2]? = some (.cells #[(.func (Fn.func 8) #[] #[.pointer (some ⟨b, 0, none⟩)])] 46 (0, 0))
  y : W.heap[w.heap.size + 3]? = some (.cells #[.int .i8 h.kind, .string h.name, .string h.arg, .int .i64 h.num, .int .i8 h.tk, .slice p.TA p.tn p.tc, .int .i8 h.uk, .slice p.UA p.un p.uc, .int .i64 h.label, .int .i64 h.pos, .slice p.A p.n p.c] 28 (0, 0))
  z : W.heap[w.heap.size + 4]? = some (.cells #[.int .i64 i] 3 (0, 0))
  lt : b < w.heap.size
  hB : B ≤ w.heap.size
theorem OS.size {B b : Nat} {w W : World} {h : Hd} {p : Pl} {i : Nat} {cur : List UInt8} (S : OS B b w W h p i cur) : B ≤ W.heap.size := Nat.le_trans S.hB S.wz.below.size
theorem OS.wrote {B b : Nat} {w W W' : World} {h : Hd} {p : Pl} {i : Nat} {cur cur' : List UInt8} (S : OS B b w W h p i cur) (hb : Bld B b cur' W') (hw : Wrote B b W W') : OS B b w W' h p i cur' := by
  have hl := S.lt
  exact ⟨hb, S.wz.trans (hw.z _), hw.box S.x1 (by omega) (by decide), hw.box S.y1 (by omega) (by decide), hw.box S.x (by omega) (by decide), hw.box S.y (by omega) (by decide), hw.box S.z (by omega) (by decide), S.lt, S.hB⟩
theorem OS.below {B b : Nat} {w W W' : World} {h : Hd} {p : Pl} {i : Nat} {cur : List UInt8} (S : OS B b w W h p i cur) (hb : Below W.heap.size W W') : OS B b w W' h p i cur := S.wrote (S.bld.low hb) (Wrote.low hb S.size)
theorem OS.start {B b : Nat} {w : World} (h : Hd) (p : Pl) {cur : List UInt8} (hB : B ≤ w.heap.size) (hb : Bld B b cur w) :
    OS B b w (((((w.alloc (.cells #[(.func (Fn.func 8) #[] #[.pointer (some ⟨b, 0, none⟩)])] 46)).alloc (.cells #[.int .i8 h.kind, .string h.name, .string h.arg, .int .i64 h.num, .int .i8 h.tk, .slice p.TA p.tn p.tc, .int .i8 h.uk, .slice p.UA p.un p.uc, .int .i64 h.label, .int .i64 h.pos, .slice p.A p.n p.c] 28)).alloc (.cells #[(.func (Fn.func 8) #[] #[.pointer (some ⟨b, 0, none⟩)])] 46)).alloc (.cells #[.int .i8 h.kind, .string h.name, .string h.arg, .int .i64 h.num, .int .i8 h.tk, .slice p.TA p.tn p.tc, .int .i8 h.uk, .slice p.UA p.un p.uc, .int .i64 h.label, .int .i64 h.pos, .slice p.A p.n p.c] 28)).alloc (.cells #[.int .i64 0] 3)) h p 0 cur := by
  have hbl : Below w.heap.size w (((((w.alloc (.cells #[(.func (Fn.func 8) #[] #[.pointer (some ⟨b, 0, none⟩)])] 46)).alloc (.cells #[.int .i8 h.kind, .string h.name, .string h.arg, .int .i64 h.num, .int .i8 h.tk, .slice p.TA p.tn p.tc, .int .i8 h.uk, .slice p.UA p.un p.uc, .int .i64 h.label, .int .i64 h.pos, .slice p.A p.n p.c] 28)).alloc (.cells #[(.func (Fn.func 8) #[] #[.pointer (some ⟨b, 0, none⟩)])] 46)).alloc (.cells #[.int .i8 h.kind, .string h.name, .string h.arg, .int .i64 h.num, .int .i8 h.tk, .slice p.TA p.tn p.tc, .int .i8 h.uk, .slice p.UA p.un p.uc, .int .i64 h.label, .int .i64 h.pos, .slice p.A p.n p.c] 28)).alloc (.cells #[.int .i64 0] 3)) :=
    (((((Below.refl _ _).alloc (Nat.le_refl _) _).alloc (by simp) _).alloc (by simp; omega) _).alloc (by simp; omega) _).alloc (by simp; omega) _
  obtain ⟨a0, a1, a2⟩ := two_new w (.cells #[(.func (Fn.func 8) #[] #[.pointer (some ⟨b, 0, none⟩)])] 46) (.cells #[.int .i8 h.kind, .string h.name, .string h.arg, .int .i64 h.num, .int .i8 h.tk, .slice p.TA p.tn p.tc, .int .i8 h.uk, .slice p.UA p.un p.uc, .int .i64 h.label, .int .i64 h.pos, .slice p.A p.n p.c] 28)
  obtain ⟨c0, c1, c2⟩ := two_new ((w.alloc (.cells #[(.func (Fn.func 8) #[] #[.pointer (some ⟨b, 0, none⟩)])] 46)).alloc (.cells #[.int .i8 h.kind, .string h.name, .string h.arg, .int .i64 h.num, .int .i8 h.tk, .slice p.TA p.tn p.tc, .int .i8 h.uk, .slice p.UA p.un p.uc, .int .i64 h.label, .int .i64 h.pos, .slice p.A p.n p.c] 28)) (.cells #[(.func (Fn.func 8) #[] #[.pointer (some ⟨b, 0, none⟩)])] 46) (.cells #[.int .i8 h.kind, .string h.name, .string h.arg, .int .i64 h.num, .int .i8 h.tk, .slice p.TA p.tn p.tc, .int .i8 h.uk, .slice p.UA p.un p.uc, .int .i64 h.label, .int .i64 h.pos, .slice p.A p.n p.c] 28)
  rw [a2] at c0 c1
  have e4 := heap_new ((((w.alloc (.cells #[(.func (Fn.func 8) #[] #[.pointer (some ⟨b, 0, none⟩)])] 46)).alloc (.cells #[.int .i8 h.kind, .string h.name, .string h.arg, .int .i64 h.num, .int .i8 h.tk, .slice p.TA p.tn p.tc, .int .i8 h.uk, .slice p.UA p.un p.uc, .int .i64 h.label, .int .i64 h.pos, .slice p.A p.n p.c] 28)).alloc (.cells #[(.func (Fn.func 8) #[] #[.pointer (some ⟨b, 0, none⟩)])] 46)).alloc (.cells #[.int .i8 h.kind, .string h.name, .string h.arg, .int .i64 h.num, .int .i8 h.tk, .slice p.TA p.tn p.tc, .int .i8 h.uk, .slice p.UA p.un p.uc, .int .i64 h.label, .int .i64 h.pos, .slice p.A p.n p.c] 28)) (.cells #[.int .i64 0] 3)
  rw [show ((((w.alloc (.cells #[(.func (Fn.func 8) #[] #[.pointer (some ⟨b, 0, none⟩)])] 46)).alloc (.cells #[.int .i8 h.kind, .string h.name, .string h.arg, .int .i64 h.num, .int .i8 h.tk, .slice p.TA p.tn p.tc, .int .i8 h.uk, .slice p.UA p.un p.uc, .int .i64 h.label, .int .i64 h.pos, .slice p.A p.n p.c] 28)).alloc (.cells #[(.func (Fn.func 8) #[] #[.pointer (some ⟨b, 0, none⟩)])] 46)).alloc (.cells #[.int .i8 h.kind, .string h.name, .string h.arg, .int .i64 h.num, .int .i8 h.tk, .slice p.TA p.tn p.tc, .int .i8 h.uk, .slice p.UA p.un p.uc, .int .i64 h.label, .int .i64 h.pos, .slice p.A p.n p.c] 28)).heap.size = w.heap.size + 4 by rw [c2, a2]] at e4
  exact ⟨hb.low hbl, WrZ.low hbl hB, heap_old (heap_old (heap_old a0 _) _) _, heap_old (heap_old (heap_old a1 _) _) _, heap_old c0 _, heap_old c1 _, e4, hb.lt.2, hB⟩
/-- words are put -/
theorem OS.put {B b : Nat} {w W : World} {h : Hd} {p : Pl} {i : Nat} {cur : List UInt8} (S : OS B b w W h p i cur) (ws : List ByteArray) (hn : ws.length ≤ 1000) (hl : cur.length + Sh.tl (bytes ws) ≤ 100000000) :
    Calls Tryz.prog 8 #[.slice (some ⟨W.heap.size, 0, none⟩) ws.length ws.length, .pointer (some ⟨b, 0, none⟩)] (W.alloc (.cells (ws.map Value.string).toArray 9)) fun e w' => e = .returned (.tuple #[]) ∧ OS B b w w' h p i (Sh.puts cur (bytes ws)) := by
  refine (put_new B b cur ws ws.length W S.bld S.size hn (by omega)).mono ?_
  rintro e w' ⟨h1, h2, h3⟩
  exact ⟨h1, S.wrote h2 h3⟩
/-- a kid, words behind it -/
theorem OS.kid {B b : Nat} {w w0 W : World} {h : Hd} {p : Pl} {i : Nat} {cur : List UInt8} (S : OS B b w W h p i cur) (hb0 : Below B w0 w) {h1 : Hd} {kd : Tm} {q : Pl} (K : KidAt B b w0 p i h1 kd q) (k : Int) (ws : List ByteArray) (A : Option Addr) (c : Nat) (hr : Row W b A ws) (hn : ws.length ≤ 1000) (hl : cur.length + Sh.tl (Sh.stand k h1 kd ++ bytes ws) ≤ 100000000) :
    Calls Tryz.prog 63 #[.int .i64 k, .slice A ws.length c, .pointer (some ⟨w.heap.size + 2, 0, none⟩), .pointer (some ⟨w.heap.size + 3, 0, none⟩), .pointer (some ⟨w.heap.size + 4, 0, none⟩)] W fun e w' => e = .returned (.tuple #[]) ∧ OS B b w w' h p (i + 1) (Sh.puts cur (Sh.stand k h1 kd ++ bytes ws)) := by
  have hl2 := S.lt
  have hB := S.hB
  refine (kid_any B b (w.heap.size + 2) (w.heap.size + 3) (w.heap.size + 4) w0 W h p i h1 kd q k cur ws A c K (hb0.trans S.wz.below) S.size S.bld S.x S.y S.z (by omega) (by omega) (by omega) (by omega) (by omega) (by omega) hr hn hl).mono ?_
  rintro e w' ⟨e1, e2, e3, e4⟩
  exact ⟨e1, e2, S.wz.trans e3, e3.box S.x1 (by omega) (by omega) (by decide), e3.box S.y1 (by omega) (by omega) (by decide), e3.box S.x (by omega) (by omega) (by decide), e3.box S.y (by omega) (by omega) (by decide), e4, S.lt, S.hB⟩
theorem OS.kidN {B b : Nat} {w w0 W : World} {h : Hd} {p : Pl} {i : Nat} {cur : List UInt8} (S : OS B b w W h p i cur) (hb0 : Below B w0 w) {h1 : Hd} {kd : Tm} {q : Pl} (K : KidAt B b w0 p i h1 kd q) (k : Int) (ws : List ByteArray) (hn : ws.length ≤ 1000) (hl : cur.length + Sh.tl (Sh.stand k h1 kd ++ bytes ws) ≤ 100000000) :
    Calls Tryz.prog 63 #[.int .i64 k, .slice (some ⟨W.heap.size, 0, none⟩) ws.length ws.length, .pointer (some ⟨w.heap.size + 2, 0, none⟩), .pointer (some ⟨w.heap.size + 3, 0, none⟩), .pointer (some ⟨w.heap.size + 4, 0, none⟩)] (W.alloc (.cells (ws.map Value.string).toArray 9)) fun e w' => e = .returned (.tuple #[]) ∧ OS B b w w' h p (i + 1) (Sh.puts cur (Sh.stand k h1 kd ++ bytes ws)) :=
  (S.below ((Below.refl _ _).alloc (Nat.le_refl _) _)).kid hb0 K k ws _ _ (row_new W b S.bld.lt.2 ws) hn hl
theorem OS.kid0 {B b : Nat} {w w0 W : World} {h : Hd} {p : Pl} {i : Nat} {cur : List UInt8} (S : OS B b w W h p i cur) (hb0 : Below B w0 w) {h1 : Hd} {kd : Tm} {q : Pl} (K : KidAt B b w0 p i h1 kd q) (k : Int) (hl : cur.length + Sh.tl (Sh.stand k h1 kd) ≤ 100000000) :
    Calls Tryz.prog 63 #[.int .i64 k, .slice none 0 0, .pointer (some ⟨w.heap.size + 2, 0, none⟩), .pointer (some ⟨w.heap.size + 3, 0, none⟩), .pointer (some ⟨w.heap.size + 4, 0, none⟩)] W fun e w' => e = .returned (.tuple #[]) ∧ OS B b w w' h p (i + 1) (Sh.puts cur (Sh.stand k h1 kd)) := by
  have := S.kid hb0 K k [] none 0 (.inl rfl) (by simp) (by simpa [bytes] using hl)
  simpa [bytes] using this
theorem len_step {cur : List UInt8} {s r : List (List UInt8)} {N : Nat} (h : cur.length + Sh.tl (s ++ r) ≤ N) : cur.length + Sh.tl s ≤ N ∧ (Sh.puts cur s).length + Sh.tl r ≤ N := by
  have := Sh.puts_len s cur
  rw [Sh.tl_app] at h
  omega
/-- the end -/
theorem OS.fin {B b : Nat} {w W : World} {h : Hd} {p : Pl} {i : Nat} {cur : List UInt8} (S : OS B b w W h p i cur) : Bld B b cur W ∧ Wrote B b w W := ⟨S.bld, S.wz.wrote (by omega)⟩
end Go.Proofs.YtdeomggkhbdkaaaGreatDoor
