/-
  show: a term's own words, by its kind. gen_sh.py wrote this.
-/
import Derived.Test.YtdeomggkhbdkaaaGreatDoorSh5
namespace Go.Proofs.YtdeomggkhbdkaaaGreatDoor
open Go.RowKit

theorem OS.row {B b : Nat} {w W : World} {h : Hd} {p : Pl} {i : Nat} {cur : List UInt8} (S : OS B b w W h p i cur) : W.cell? ⟨w.heap.size, 0, none⟩ = some (.func (Fn.func 8) #[] #[.pointer (some ⟨b, 0, none⟩)]) ∧ W.cell? ⟨w.heap.size + 1, 0, none⟩ = some (.int .i8 h.kind) ∧ W.cell? ⟨w.heap.size + 1, 1, none⟩ = some (.string h.name) ∧ W.cell? ⟨w.heap.size + 1, 2, none⟩ = some (.string h.arg) ∧ W.cell? ⟨w.heap.size + 1, 3, none⟩ = some (.int .i64 h.num) ∧ W.cell? ⟨w.heap.size + 1, 4, none⟩ = some (.int .i8 h.tk) ∧ W.cell? ⟨w.heap.size + 1, 5, none⟩ = some (.slice p.TA p.tn p.tc) ∧ W.cell? ⟨w.heap.size + 1, 6, none⟩ = some (.int .i8 h.uk) ∧ W.cell? ⟨w.heap.size + 1, 7, none⟩ = some (.slice p.UA p.un p.uc) ∧ W.cell? ⟨w.heap.size + 1, 8, none⟩ = some (.int .i64 h.label) ∧ W.cell? ⟨w.heap.size + 1, 9, none⟩ = some (.int .i64 h.pos) ∧ W.cell? ⟨w.heap.size + 1, 10, none⟩ = some (.slice p.A p.n p.c) := by
  obtain ⟨y0, y1, y2, y3, y4, y5, y6, y7, y8, y9, y10, yl⟩ := own11 S.y1
  exact ⟨(own1 S.x1).1, y0, y1, y2, y3, y4, y5, y6, y7, y8, y9, y10⟩
theorem skids_at (b : Nat) (h : Hd) (p : Pl) (w : World) (X Y Z : Nat) (hX : w.heap.size = X) (hY : X + 1 = Y) (hZ : Y + 1 = Z) :
    Calls Tryz.prog 39 #[.agg #[(.func (Fn.func 8) #[] #[.pointer (some ⟨b, 0, none⟩)])], .agg #[.int .i8 h.kind, .string h.name, .string h.arg, .int .i64 h.num, .int .i8 h.tk, .slice p.TA p.tn p.tc, .int .i8 h.uk, .slice p.UA p.un p.uc, .int .i64 h.label, .int .i64 h.pos, .slice p.A p.n p.c]] w fun e w' => e = .returned (.func (Fn.func 63) #[] #[.pointer (some ⟨X, 0, none⟩), .pointer (some ⟨Y, 0, none⟩), .pointer (some ⟨Z, 0, none⟩)]) ∧
      w' = ((w.alloc (.cells #[(.func (Fn.func 8) #[] #[.pointer (some ⟨b, 0, none⟩)])] 46)).alloc (.cells #[.int .i8 h.kind, .string h.name, .string h.arg, .int .i64 h.num, .int .i8 h.tk, .slice p.TA p.tn p.tc, .int .i8 h.uk, .slice p.UA p.un p.uc, .int .i64 h.label, .int .i64 h.pos, .slice p.A p.n p.c] 28)).alloc (.cells #[.int .i64 0] 3) := by
  subst hX; subst hY; subst hZ; exact skids_any b h p w
/-- what the writing of a term's own words goes by -/
structure OwnCtx (B b : Nat) (w0 w : World) (h : Hd) (p : Pl) : Prop where
  eq : B = w0.heap.size
  below : Below B w0 w
  ty : Ty.Is w0 h.tk h.tkids p.TA p.tn p.tc
  tu : Ty.Is w0 h.uk h.ukids p.UA p.un p.uc
  shapes : Shapes w0
  size : B ≤ w.heap.size
theorem OwnCtx.typed {B b : Nat} {w0 w W : World} {h : Hd} {p : Pl} (C : OwnCtx B b w0 w h p) (hW : Below B w W) (hc : Ty.chk h.tk h.tkids = 0) :
    Calls Tryz.prog 41 #[.agg #[.int .i8 h.tk, .slice p.TA p.tn p.tc]] W fun e w' => e = .returned (.string ⟨(Sh.tyW h.tk h.tkids).toArray⟩) ∧ Below W.heap.size W w' := by
  have hb := C.below.trans hW
  rw [C.eq] at hb
  exact styped_any _ _ _ _ _ W (C.ty.below hb) (C.shapes.below hb) hc
theorem OwnCtx.totyped {B b : Nat} {w0 w W : World} {h : Hd} {p : Pl} (C : OwnCtx B b w0 w h p) (hW : Below B w W) (hc : Ty.chk h.uk h.ukids = 0) :
    Calls Tryz.prog 41 #[.agg #[.int .i8 h.uk, .slice p.UA p.un p.uc]] W fun e w' => e = .returned (.string ⟨(Sh.tyW h.uk h.ukids).toArray⟩) ∧ Below W.heap.size W w' := by
  have hb := C.below.trans hW
  rw [C.eq] at hb
  exact styped_any _ _ _ _ _ W (C.tu.below hb) (C.shapes.below hb) hc

set_option maxHeartbeats 8000000 in
set_option maxRecDepth 100000 in
theorem own_0 (B b : Nat) (l : List UInt8) (w0 w : World) (h : Hd) (p : Pl) (hk : h.kind = 0) (C : OwnCtx B b w0 w h p) (hbl : Bld B b l w) (hl : l.length + Sh.tl (Sh.own h .nil) ≤ 100000000) :
    Calls Tryz.prog 22 #[.agg #[(.func (Fn.func 8) #[] #[.pointer (some ⟨b, 0, none⟩)])], .agg #[.int .i8 h.kind, .string h.name, .string h.arg, .int .i64 h.num, .int .i8 h.tk, .slice p.TA p.tn p.tc, .int .i8 h.uk, .slice p.UA p.un p.uc, .int .i64 h.label, .int .i64 h.pos, .slice p.A p.n p.c]] w (Puts B b l (Sh.own h .nil) w) := by
  have hcf := cf_put
  have hcf2 := cf_kid
  have hO : Sh.own h .nil = bytes [h.name] := by
    unfold Sh.own Sh.ownW
    simp only [hk]
    simp [bytes]
  rw [hO] at hl ⊢
  have HLL := Lib.hid hl
  have g0 : (h.kind == 0) = true := by rw [hk]; rfl
  have g1 : (h.kind == 1) = false := by rw [hk]; rfl
  have g2 : (h.kind == 2) = false := by rw [hk]; rfl
  have g3 : (h.kind == 3) = false := by rw [hk]; rfl
  have g6 : (h.kind == 6) = false := by rw [hk]; rfl
  have g9 : (h.kind == 9) = false := by rw [hk]; rfl
  have g10 : (h.kind == 10) = false := by rw [hk]; rfl
  have g11 : (h.kind == 11) = false := by rw [hk]; rfl
  have g12 : (h.kind == 12) = false := by rw [hk]; rfl
  have g13 : (h.kind == 13) = false := by rw [hk]; rfl
  have g15 : (h.kind == 15) = false := by rw [hk]; rfl
  have g16 : (h.kind == 16) = false := by rw [hk]; rfl
  have HC := Lib.hid C
  have S0 := Lib.hid (OS.start h p C.size hbl)
  have CK := Lib.hid (skids_at b h p ((w.alloc (.cells #[(.func (Fn.func 8) #[] #[.pointer (some ⟨b, 0, none⟩)])] 46)).alloc (.cells #[.int .i8 h.kind, .string h.name, .string h.arg, .int .i64 h.num, .int .i8 h.tk, .slice p.TA p.tn p.tc, .int .i8 h.uk, .slice p.UA p.un p.uc, .int .i64 h.label, .int .i64 h.pos, .slice p.A p.n p.c] 28)) (w.heap.size + 2) (w.heap.size + 3) (w.heap.size + 4) (by simp) rfl rfl)
  clear hk C hbl hl hO
  go_enter Tryz.func22, Tryz.ntmps22
  go_wp2_with fail
  refine CK.out.mono ?_
  rintro e w9 ⟨rfl, hw9⟩
  rw [← hw9] at S0
  clear hw9 CK
  obtain ⟨x0, _, _⟩ := own1 S0.out.x1
  obtain ⟨y0, y1, y2, y3, y4, y5, y6, y7, y8, y9, y10, yl⟩ := own11 S0.out.y1
  have C0 := Lib.hid (show Calls Tryz.prog 8 #[.slice (some ⟨w9.heap.size, 0, none⟩) 1 1, .pointer (some ⟨b, 0, none⟩)] (w9.alloc (.cells #[.string h.name] 9)) fun e w' => e = .returned (.tuple #[]) ∧ OS B b w w' h p 0 (Sh.puts l (bytes [h.name])) from S0.out.put [h.name] (by simp) HLL.out)
  go_wp2_with fail
  refine C0.out.mono ?_
  rintro e v1 ⟨rfl, hs⟩
  have S1 := Lib.hid hs
  clear hs x0 y0 y1 y2 y3 y4 y5 y6 y7 y8 y9 y10 yl
  obtain ⟨x0, _, _⟩ := own1 S1.out.x1
  obtain ⟨y0, y1, y2, y3, y4, y5, y6, y7, y8, y9, y10, yl⟩ := own11 S1.out.y1
  go_wp2_with fail
  change bodyPost _ _ _ _ _ _
  go_end0
  exact ⟨rfl, by first | exact S1.out.fin.1 | (simp only [Sh.puts_app]; simpa only [Sh.puts_app] using S1.out.fin.1), S1.out.fin.2⟩

set_option maxHeartbeats 8000000 in
set_option maxRecDepth 100000 in
theorem own_2 (B b : Nat) (l : List UInt8) (w0 w : World) (h : Hd) (p : Pl) (hk : h.kind = 2) (C : OwnCtx B b w0 w h p) (hbl : Bld B b l w) (hl : l.length + Sh.tl (Sh.own h .nil) ≤ 100000000) :
    Calls Tryz.prog 22 #[.agg #[(.func (Fn.func 8) #[] #[.pointer (some ⟨b, 0, none⟩)])], .agg #[.int .i8 h.kind, .string h.name, .string h.arg, .int .i64 h.num, .int .i8 h.tk, .slice p.TA p.tn p.tc, .int .i8 h.uk, .slice p.UA p.un p.uc, .int .i64 h.label, .int .i64 h.pos, .slice p.A p.n p.c]] w (Puts B b l (Sh.own h .nil) w) := by
  have hcf := cf_put
  have hcf2 := cf_kid
  have hO : Sh.own h .nil = bytes [⟨#[116, 114, 117, 101]⟩] := by
    unfold Sh.own Sh.ownW
    simp only [hk]
    simp [bytes]
  rw [hO] at hl ⊢
  have HLL := Lib.hid hl
  have g0 : (h.kind == 0) = false := by rw [hk]; rfl
  have g1 : (h.kind == 1) = false := by rw [hk]; rfl
  have g2 : (h.kind == 2) = true := by rw [hk]; rfl
  have g3 : (h.kind == 3) = false := by rw [hk]; rfl
  have g6 : (h.kind == 6) = false := by rw [hk]; rfl
  have g9 : (h.kind == 9) = false := by rw [hk]; rfl
  have g10 : (h.kind == 10) = false := by rw [hk]; rfl
  have g11 : (h.kind == 11) = false := by rw [hk]; rfl
  have g12 : (h.kind == 12) = false := by rw [hk]; rfl
  have g13 : (h.kind == 13) = false := by rw [hk]; rfl
  have g15 : (h.kind == 15) = false := by rw [hk]; rfl
  have g16 : (h.kind == 16) = false := by rw [hk]; rfl
  have HC := Lib.hid C
  have S0 := Lib.hid (OS.start h p C.size hbl)
  have CK := Lib.hid (skids_at b h p ((w.alloc (.cells #[(.func (Fn.func 8) #[] #[.pointer (some ⟨b, 0, none⟩)])] 46)).alloc (.cells #[.int .i8 h.kind, .string h.name, .string h.arg, .int .i64 h.num, .int .i8 h.tk, .slice p.TA p.tn p.tc, .int .i8 h.uk, .slice p.UA p.un p.uc, .int .i64 h.label, .int .i64 h.pos, .slice p.A p.n p.c] 28)) (w.heap.size + 2) (w.heap.size + 3) (w.heap.size + 4) (by simp) rfl rfl)
  clear hk C hbl hl hO
  go_enter Tryz.func22, Tryz.ntmps22
  go_wp2_with fail
  refine CK.out.mono ?_
  rintro e w9 ⟨rfl, hw9⟩
  rw [← hw9] at S0
  clear hw9 CK
  obtain ⟨x0, _, _⟩ := own1 S0.out.x1
  obtain ⟨y0, y1, y2, y3, y4, y5, y6, y7, y8, y9, y10, yl⟩ := own11 S0.out.y1
  have C0 := Lib.hid (show Calls Tryz.prog 8 #[.slice (some ⟨w9.heap.size, 0, none⟩) 1 1, .pointer (some ⟨b, 0, none⟩)] (w9.alloc (.cells #[.string ⟨#[116, 114, 117, 101]⟩] 9)) fun e w' => e = .returned (.tuple #[]) ∧ OS B b w w' h p 0 (Sh.puts l (bytes [⟨#[116, 114, 117, 101]⟩])) from S0.out.put [⟨#[116, 114, 117, 101]⟩] (by simp) HLL.out)
  go_wp2_with fail
  refine C0.out.mono ?_
  rintro e v1 ⟨rfl, hs⟩
  have S1 := Lib.hid hs
  clear hs x0 y0 y1 y2 y3 y4 y5 y6 y7 y8 y9 y10 yl
  obtain ⟨x0, _, _⟩ := own1 S1.out.x1
  obtain ⟨y0, y1, y2, y3, y4, y5, y6, y7, y8, y9, y10, yl⟩ := own11 S1.out.y1
  go_wp2_with fail
  change bodyPost _ _ _ _ _ _
  go_end0
  exact ⟨rfl, by first | exact S1.out.fin.1 | (simp only [Sh.puts_app]; simpa only [Sh.puts_app] using S1.out.fin.1), S1.out.fin.2⟩

set_option maxHeartbeats 8000000 in
set_option maxRecDepth 100000 in
theorem own_3 (B b : Nat) (l : List UInt8) (w0 w : World) (h : Hd) (p : Pl) (hk : h.kind = 3) (C : OwnCtx B b w0 w h p) (hbl : Bld B b l w) (hl : l.length + Sh.tl (Sh.own h .nil) ≤ 100000000) :
    Calls Tryz.prog 22 #[.agg #[(.func (Fn.func 8) #[] #[.pointer (some ⟨b, 0, none⟩)])], .agg #[.int .i8 h.kind, .string h.name, .string h.arg, .int .i64 h.num, .int .i8 h.tk, .slice p.TA p.tn p.tc, .int .i8 h.uk, .slice p.UA p.un p.uc, .int .i64 h.label, .int .i64 h.pos, .slice p.A p.n p.c]] w (Puts B b l (Sh.own h .nil) w) := by
  have hcf := cf_put
  have hcf2 := cf_kid
  have hO : Sh.own h .nil = bytes [⟨#[102, 97, 108, 115, 101]⟩] := by
    unfold Sh.own Sh.ownW
    simp only [hk]
    simp [bytes]
  rw [hO] at hl ⊢
  have HLL := Lib.hid hl
  have g0 : (h.kind == 0) = false := by rw [hk]; rfl
  have g1 : (h.kind == 1) = false := by rw [hk]; rfl
  have g2 : (h.kind == 2) = false := by rw [hk]; rfl
  have g3 : (h.kind == 3) = true := by rw [hk]; rfl
  have g6 : (h.kind == 6) = false := by rw [hk]; rfl
  have g9 : (h.kind == 9) = false := by rw [hk]; rfl
  have g10 : (h.kind == 10) = false := by rw [hk]; rfl
  have g11 : (h.kind == 11) = false := by rw [hk]; rfl
  have g12 : (h.kind == 12) = false := by rw [hk]; rfl
  have g13 : (h.kind == 13) = false := by rw [hk]; rfl
  have g15 : (h.kind == 15) = false := by rw [hk]; rfl
  have g16 : (h.kind == 16) = false := by rw [hk]; rfl
  have HC := Lib.hid C
  have S0 := Lib.hid (OS.start h p C.size hbl)
  have CK := Lib.hid (skids_at b h p ((w.alloc (.cells #[(.func (Fn.func 8) #[] #[.pointer (some ⟨b, 0, none⟩)])] 46)).alloc (.cells #[.int .i8 h.kind, .string h.name, .string h.arg, .int .i64 h.num, .int .i8 h.tk, .slice p.TA p.tn p.tc, .int .i8 h.uk, .slice p.UA p.un p.uc, .int .i64 h.label, .int .i64 h.pos, .slice p.A p.n p.c] 28)) (w.heap.size + 2) (w.heap.size + 3) (w.heap.size + 4) (by simp) rfl rfl)
  clear hk C hbl hl hO
  go_enter Tryz.func22, Tryz.ntmps22
  go_wp2_with fail
  refine CK.out.mono ?_
  rintro e w9 ⟨rfl, hw9⟩
  rw [← hw9] at S0
  clear hw9 CK
  obtain ⟨x0, _, _⟩ := own1 S0.out.x1
  obtain ⟨y0, y1, y2, y3, y4, y5, y6, y7, y8, y9, y10, yl⟩ := own11 S0.out.y1
  have C0 := Lib.hid (show Calls Tryz.prog 8 #[.slice (some ⟨w9.heap.size, 0, none⟩) 1 1, .pointer (some ⟨b, 0, none⟩)] (w9.alloc (.cells #[.string ⟨#[102, 97, 108, 115, 101]⟩] 9)) fun e w' => e = .returned (.tuple #[]) ∧ OS B b w w' h p 0 (Sh.puts l (bytes [⟨#[102, 97, 108, 115, 101]⟩])) from S0.out.put [⟨#[102, 97, 108, 115, 101]⟩] (by simp) HLL.out)
  go_wp2_with fail
  refine C0.out.mono ?_
  rintro e v1 ⟨rfl, hs⟩
  have S1 := Lib.hid hs
  clear hs x0 y0 y1 y2 y3 y4 y5 y6 y7 y8 y9 y10 yl
  obtain ⟨x0, _, _⟩ := own1 S1.out.x1
  obtain ⟨y0, y1, y2, y3, y4, y5, y6, y7, y8, y9, y10, yl⟩ := own11 S1.out.y1
  go_wp2_with fail
  change bodyPost _ _ _ _ _ _
  go_end0
  exact ⟨rfl, by first | exact S1.out.fin.1 | (simp only [Sh.puts_app]; simpa only [Sh.puts_app] using S1.out.fin.1), S1.out.fin.2⟩

set_option maxHeartbeats 8000000 in
set_option maxRecDepth 100000 in
theorem own_6 (B b : Nat) (l : List UInt8) (w0 w : World) (h : Hd) (p : Pl) (h1 : Hd) (k1 : Tm) (q1 : Pl) (h2 : Hd) (k2 : Tm) (q2 : Pl) (hk : h.kind = 6) (C : OwnCtx B b w0 w h p) (K0 : KidAt B b w0 p 0 h1 k1 q1) (K1 : KidAt B b w0 p 1 h2 k2 q2) (hbl : Bld B b l w) (hl : l.length + Sh.tl (Sh.own h (.node h1 k1 (.node h2 k2 .nil))) ≤ 100000000) :
    Calls Tryz.prog 22 #[.agg #[(.func (Fn.func 8) #[] #[.pointer (some ⟨b, 0, none⟩)])], .agg #[.int .i8 h.kind, .string h.name, .string h.arg, .int .i64 h.num, .int .i8 h.tk, .slice p.TA p.tn p.tc, .int .i8 h.uk, .slice p.UA p.un p.uc, .int .i64 h.label, .int .i64 h.pos, .slice p.A p.n p.c]] w (Puts B b l (Sh.own h (.node h1 k1 (.node h2 k2 .nil))) w) := by
  have hcf := cf_put
  have hcf2 := cf_kid
  have hO : Sh.own h (.node h1 k1 (.node h2 k2 .nil)) = (Sh.stand 5 h1 k1 ++ bytes [⟨#[40]⟩]) ++ ((Sh.stand (-1) h2 k2 ++ bytes [⟨#[41]⟩])) := by
    unfold Sh.own Sh.ownW
    simp only [hk]
    simp [bytes, Sh.kidsW, Sh.kid, Sh.stand, Sh.own]
  rw [hO] at hl ⊢
  have HLL := Lib.hid hl
  have g0 : (h.kind == 0) = false := by rw [hk]; rfl
  have g1 : (h.kind == 1) = false := by rw [hk]; rfl
  have g2 : (h.kind == 2) = false := by rw [hk]; rfl
  have g3 : (h.kind == 3) = false := by rw [hk]; rfl
  have g6 : (h.kind == 6) = true := by rw [hk]; rfl
  have g9 : (h.kind == 9) = false := by rw [hk]; rfl
  have g10 : (h.kind == 10) = false := by rw [hk]; rfl
  have g11 : (h.kind == 11) = false := by rw [hk]; rfl
  have g12 : (h.kind == 12) = false := by rw [hk]; rfl
  have g13 : (h.kind == 13) = false := by rw [hk]; rfl
  have g15 : (h.kind == 15) = false := by rw [hk]; rfl
  have g16 : (h.kind == 16) = false := by rw [hk]; rfl
  have HC := Lib.hid C
  have S0 := Lib.hid (OS.start h p C.size hbl)
  have CK := Lib.hid (skids_at b h p ((w.alloc (.cells #[(.func (Fn.func 8) #[] #[.pointer (some ⟨b, 0, none⟩)])] 46)).alloc (.cells #[.int .i8 h.kind, .string h.name, .string h.arg, .int .i64 h.num, .int .i8 h.tk, .slice p.TA p.tn p.tc, .int .i8 h.uk, .slice p.UA p.un p.uc, .int .i64 h.label, .int .i64 h.pos, .slice p.A p.n p.c] 28)) (w.heap.size + 2) (w.heap.size + 3) (w.heap.size + 4) (by simp) rfl rfl)
  clear hk C hbl hl hO
  go_enter Tryz.func22, Tryz.ntmps22
  go_wp2_with fail
  refine CK.out.mono ?_
  rintro e w9 ⟨rfl, hw9⟩
  rw [← hw9] at S0
  clear hw9 CK
  obtain ⟨x0, _, _⟩ := own1 S0.out.x1
  obtain ⟨y0, y1, y2, y3, y4, y5, y6, y7, y8, y9, y10, yl⟩ := own11 S0.out.y1
  have HL0 := Lib.hid (len_step HLL.out)
  have C0 := Lib.hid (show Calls Tryz.prog 63 #[.int .i64 5, .slice (some ⟨w9.heap.size, 0, none⟩) 1 1, .pointer (some ⟨w.heap.size + 2, 0, none⟩), .pointer (some ⟨w.heap.size + 3, 0, none⟩), .pointer (some ⟨w.heap.size + 4, 0, none⟩)] (w9.alloc (.cells #[.string ⟨#[40]⟩] 9)) fun e w' => e = .returned (.tuple #[]) ∧ OS B b w w' h p (0 + 1) (Sh.puts l ((Sh.stand 5 h1 k1 ++ bytes [⟨#[40]⟩]))) from S0.out.kidN HC.out.below K0 5 [⟨#[40]⟩] (by simp) HL0.out.1)
  go_wp2_with fail
  refine C0.out.mono ?_
  rintro e v1 ⟨rfl, hs⟩
  have S1 := Lib.hid hs
  clear hs x0 y0 y1 y2 y3 y4 y5 y6 y7 y8 y9 y10 yl
  obtain ⟨x0, _, _⟩ := own1 S1.out.x1
  obtain ⟨y0, y1, y2, y3, y4, y5, y6, y7, y8, y9, y10, yl⟩ := own11 S1.out.y1
  have C1 := Lib.hid (show Calls Tryz.prog 63 #[.int .i64 (-1), .slice (some ⟨v1.heap.size, 0, none⟩) 1 1, .pointer (some ⟨w.heap.size + 2, 0, none⟩), .pointer (some ⟨w.heap.size + 3, 0, none⟩), .pointer (some ⟨w.heap.size + 4, 0, none⟩)] (v1.alloc (.cells #[.string ⟨#[41]⟩] 9)) fun e w' => e = .returned (.tuple #[]) ∧ OS B b w w' h p (1 + 1) (Sh.puts (Sh.puts l ((Sh.stand 5 h1 k1 ++ bytes [⟨#[40]⟩]))) ((Sh.stand (-1) h2 k2 ++ bytes [⟨#[41]⟩]))) from S1.out.kidN HC.out.below K1 (-1) [⟨#[41]⟩] (by simp) HL0.out.2)
  go_wp2_with fail
  refine C1.out.mono ?_
  rintro e v2 ⟨rfl, hs⟩
  have S2 := Lib.hid hs
  clear hs x0 y0 y1 y2 y3 y4 y5 y6 y7 y8 y9 y10 yl
  obtain ⟨x0, _, _⟩ := own1 S2.out.x1
  obtain ⟨y0, y1, y2, y3, y4, y5, y6, y7, y8, y9, y10, yl⟩ := own11 S2.out.y1
  go_wp2_with fail
  change bodyPost _ _ _ _ _ _
  go_end0
  exact ⟨rfl, by first | exact S2.out.fin.1 | (simp only [Sh.puts_app]; simpa only [Sh.puts_app] using S2.out.fin.1), S2.out.fin.2⟩

set_option maxHeartbeats 8000000 in
set_option maxRecDepth 100000 in
theorem own_9 (B b : Nat) (l : List UInt8) (w0 w : World) (h : Hd) (p : Pl) (h1 : Hd) (k1 : Tm) (q1 : Pl) (h2 : Hd) (k2 : Tm) (q2 : Pl) (hk : h.kind = 9) (C : OwnCtx B b w0 w h p) (K0 : KidAt B b w0 p 0 h1 k1 q1) (K1 : KidAt B b w0 p 1 h2 k2 q2) (hbl : Bld B b l w) (hl : l.length + Sh.tl (Sh.own h (.node h1 k1 (.node h2 k2 .nil))) ≤ 100000000) :
    Calls Tryz.prog 22 #[.agg #[(.func (Fn.func 8) #[] #[.pointer (some ⟨b, 0, none⟩)])], .agg #[.int .i8 h.kind, .string h.name, .string h.arg, .int .i64 h.num, .int .i8 h.tk, .slice p.TA p.tn p.tc, .int .i8 h.uk, .slice p.UA p.un p.uc, .int .i64 h.label, .int .i64 h.pos, .slice p.A p.n p.c]] w (Puts B b l (Sh.own h (.node h1 k1 (.node h2 k2 .nil))) w) := by
  have hcf := cf_put
  have hcf2 := cf_kid
  have hO : Sh.own h (.node h1 k1 (.node h2 k2 .nil)) = bytes [⟨#[91]⟩] ++ ((Sh.stand (-1) h1 k1 ++ bytes [⟨#[44]⟩]) ++ ((Sh.stand (-1) h2 k2 ++ bytes [⟨#[93]⟩]))) := by
    unfold Sh.own Sh.ownW
    simp only [hk]
    simp [bytes, Sh.kidsW, Sh.kid, Sh.stand, Sh.own]
  rw [hO] at hl ⊢
  have HLL := Lib.hid hl
  have g0 : (h.kind == 0) = false := by rw [hk]; rfl
  have g1 : (h.kind == 1) = false := by rw [hk]; rfl
  have g2 : (h.kind == 2) = false := by rw [hk]; rfl
  have g3 : (h.kind == 3) = false := by rw [hk]; rfl
  have g6 : (h.kind == 6) = false := by rw [hk]; rfl
  have g9 : (h.kind == 9) = true := by rw [hk]; rfl
  have g10 : (h.kind == 10) = false := by rw [hk]; rfl
  have g11 : (h.kind == 11) = false := by rw [hk]; rfl
  have g12 : (h.kind == 12) = false := by rw [hk]; rfl
  have g13 : (h.kind == 13) = false := by rw [hk]; rfl
  have g15 : (h.kind == 15) = false := by rw [hk]; rfl
  have g16 : (h.kind == 16) = false := by rw [hk]; rfl
  have HC := Lib.hid C
  have S0 := Lib.hid (OS.start h p C.size hbl)
  have CK := Lib.hid (skids_at b h p ((w.alloc (.cells #[(.func (Fn.func 8) #[] #[.pointer (some ⟨b, 0, none⟩)])] 46)).alloc (.cells #[.int .i8 h.kind, .string h.name, .string h.arg, .int .i64 h.num, .int .i8 h.tk, .slice p.TA p.tn p.tc, .int .i8 h.uk, .slice p.UA p.un p.uc, .int .i64 h.label, .int .i64 h.pos, .slice p.A p.n p.c] 28)) (w.heap.size + 2) (w.heap.size + 3) (w.heap.size + 4) (by simp) rfl rfl)
  clear hk C hbl hl hO
  go_enter Tryz.func22, Tryz.ntmps22
  go_wp2_with fail
  refine CK.out.mono ?_
  rintro e w9 ⟨rfl, hw9⟩
  rw [← hw9] at S0
  clear hw9 CK
  obtain ⟨x0, _, _⟩ := own1 S0.out.x1
  obtain ⟨y0, y1, y2, y3, y4, y5, y6, y7, y8, y9, y10, yl⟩ := own11 S0.out.y1
  have HL0 := Lib.hid (len_step HLL.out)
  have C0 := Lib.hid (show Calls Tryz.prog 8 #[.slice (some ⟨w9.heap.size, 0, none⟩) 1 1, .pointer (some ⟨b, 0, none⟩)] (w9.alloc (.cells #[.string ⟨#[91]⟩] 9)) fun e w' => e = .returned (.tuple #[]) ∧ OS B b w w' h p 0 (Sh.puts l (bytes [⟨#[91]⟩])) from S0.out.put [⟨#[91]⟩] (by simp) HL0.out.1)
  go_wp2_with fail
  refine C0.out.mono ?_
  rintro e v1 ⟨rfl, hs⟩
  have S1 := Lib.hid hs
  clear hs x0 y0 y1 y2 y3 y4 y5 y6 y7 y8 y9 y10 yl
  obtain ⟨x0, _, _⟩ := own1 S1.out.x1
  obtain ⟨y0, y1, y2, y3, y4, y5, y6, y7, y8, y9, y10, yl⟩ := own11 S1.out.y1
  have HL1 := Lib.hid (len_step HL0.out.2)
  have C1 := Lib.hid (show Calls Tryz.prog 63 #[.int .i64 (-1), .slice (some ⟨v1.heap.size, 0, none⟩) 1 1, .pointer (some ⟨w.heap.size + 2, 0, none⟩), .pointer (some ⟨w.heap.size + 3, 0, none⟩), .pointer (some ⟨w.heap.size + 4, 0, none⟩)] (v1.alloc (.cells #[.string ⟨#[44]⟩] 9)) fun e w' => e = .returned (.tuple #[]) ∧ OS B b w w' h p (0 + 1) (Sh.puts (Sh.puts l (bytes [⟨#[91]⟩])) ((Sh.stand (-1) h1 k1 ++ bytes [⟨#[44]⟩]))) from S1.out.kidN HC.out.below K0 (-1) [⟨#[44]⟩] (by simp) HL1.out.1)
  go_wp2_with fail
  refine C1.out.mono ?_
  rintro e v2 ⟨rfl, hs⟩
  have S2 := Lib.hid hs
  clear hs x0 y0 y1 y2 y3 y4 y5 y6 y7 y8 y9 y10 yl
  obtain ⟨x0, _, _⟩ := own1 S2.out.x1
  obtain ⟨y0, y1, y2, y3, y4, y5, y6, y7, y8, y9, y10, yl⟩ := own11 S2.out.y1
  have C2 := Lib.hid (show Calls Tryz.prog 63 #[.int .i64 (-1), .slice (some ⟨v2.heap.size, 0, none⟩) 1 1, .pointer (some ⟨w.heap.size + 2, 0, none⟩), .pointer (some ⟨w.heap.size + 3, 0, none⟩), .pointer (some ⟨w.heap.size + 4, 0, none⟩)] (v2.alloc (.cells #[.string ⟨#[93]⟩] 9)) fun e w' => e = .returned (.tuple #[]) ∧ OS B b w w' h p (1 + 1) (Sh.puts (Sh.puts (Sh.puts l (bytes [⟨#[91]⟩])) ((Sh.stand (-1) h1 k1 ++ bytes [⟨#[44]⟩]))) ((Sh.stand (-1) h2 k2 ++ bytes [⟨#[93]⟩]))) from S2.out.kidN HC.out.below K1 (-1) [⟨#[93]⟩] (by simp) HL1.out.2)
  go_wp2_with fail
  refine C2.out.mono ?_
  rintro e v3 ⟨rfl, hs⟩
  have S3 := Lib.hid hs
  clear hs x0 y0 y1 y2 y3 y4 y5 y6 y7 y8 y9 y10 yl
  obtain ⟨x0, _, _⟩ := own1 S3.out.x1
  obtain ⟨y0, y1, y2, y3, y4, y5, y6, y7, y8, y9, y10, yl⟩ := own11 S3.out.y1
  go_wp2_with fail
  change bodyPost _ _ _ _ _ _
  go_end0
  exact ⟨rfl, by first | exact S3.out.fin.1 | (simp only [Sh.puts_app]; simpa only [Sh.puts_app] using S3.out.fin.1), S3.out.fin.2⟩

set_option maxHeartbeats 8000000 in
set_option maxRecDepth 100000 in
theorem own_10 (B b : Nat) (l : List UInt8) (w0 w : World) (h : Hd) (p : Pl) (h1 : Hd) (k1 : Tm) (q1 : Pl) (hk : h.kind = 10) (C : OwnCtx B b w0 w h p) (K0 : KidAt B b w0 p 0 h1 k1 q1) (hbl : Bld B b l w) (hl : l.length + Sh.tl (Sh.own h (.node h1 k1 .nil)) ≤ 100000000) :
    Calls Tryz.prog 22 #[.agg #[(.func (Fn.func 8) #[] #[.pointer (some ⟨b, 0, none⟩)])], .agg #[.int .i8 h.kind, .string h.name, .string h.arg, .int .i64 h.num, .int .i8 h.tk, .slice p.TA p.tn p.tc, .int .i8 h.uk, .slice p.UA p.un p.uc, .int .i64 h.label, .int .i64 h.pos, .slice p.A p.n p.c]] w (Puts B b l (Sh.own h (.node h1 k1 .nil)) w) := by
  have hcf := cf_put
  have hcf2 := cf_kid
  have hO : Sh.own h (.node h1 k1 .nil) = bytes [⟨#[102, 115, 116]⟩] ++ (Sh.stand 4 h1 k1) := by
    unfold Sh.own Sh.ownW
    simp only [hk]
    simp [bytes, Sh.kidsW, Sh.kid, Sh.stand, Sh.own]
  rw [hO] at hl ⊢
  have HLL := Lib.hid hl
  have g0 : (h.kind == 0) = false := by rw [hk]; rfl
  have g1 : (h.kind == 1) = false := by rw [hk]; rfl
  have g2 : (h.kind == 2) = false := by rw [hk]; rfl
  have g3 : (h.kind == 3) = false := by rw [hk]; rfl
  have g6 : (h.kind == 6) = false := by rw [hk]; rfl
  have g9 : (h.kind == 9) = false := by rw [hk]; rfl
  have g10 : (h.kind == 10) = true := by rw [hk]; rfl
  have g11 : (h.kind == 11) = false := by rw [hk]; rfl
  have g12 : (h.kind == 12) = false := by rw [hk]; rfl
  have g13 : (h.kind == 13) = false := by rw [hk]; rfl
  have g15 : (h.kind == 15) = false := by rw [hk]; rfl
  have g16 : (h.kind == 16) = false := by rw [hk]; rfl
  have HC := Lib.hid C
  have S0 := Lib.hid (OS.start h p C.size hbl)
  have CK := Lib.hid (skids_at b h p ((w.alloc (.cells #[(.func (Fn.func 8) #[] #[.pointer (some ⟨b, 0, none⟩)])] 46)).alloc (.cells #[.int .i8 h.kind, .string h.name, .string h.arg, .int .i64 h.num, .int .i8 h.tk, .slice p.TA p.tn p.tc, .int .i8 h.uk, .slice p.UA p.un p.uc, .int .i64 h.label, .int .i64 h.pos, .slice p.A p.n p.c] 28)) (w.heap.size + 2) (w.heap.size + 3) (w.heap.size + 4) (by simp) rfl rfl)
  clear hk C hbl hl hO
  go_enter Tryz.func22, Tryz.ntmps22
  go_wp2_with fail
  refine CK.out.mono ?_
  rintro e w9 ⟨rfl, hw9⟩
  rw [← hw9] at S0
  clear hw9 CK
  obtain ⟨x0, _, _⟩ := own1 S0.out.x1
  obtain ⟨y0, y1, y2, y3, y4, y5, y6, y7, y8, y9, y10, yl⟩ := own11 S0.out.y1
  have HL0 := Lib.hid (len_step HLL.out)
  have C0 := Lib.hid (show Calls Tryz.prog 8 #[.slice (some ⟨w9.heap.size, 0, none⟩) 1 1, .pointer (some ⟨b, 0, none⟩)] (w9.alloc (.cells #[.string ⟨#[102, 115, 116]⟩] 9)) fun e w' => e = .returned (.tuple #[]) ∧ OS B b w w' h p 0 (Sh.puts l (bytes [⟨#[102, 115, 116]⟩])) from S0.out.put [⟨#[102, 115, 116]⟩] (by simp) HL0.out.1)
  go_wp2_with fail
  refine C0.out.mono ?_
  rintro e v1 ⟨rfl, hs⟩
  have S1 := Lib.hid hs
  clear hs x0 y0 y1 y2 y3 y4 y5 y6 y7 y8 y9 y10 yl
  obtain ⟨x0, _, _⟩ := own1 S1.out.x1
  obtain ⟨y0, y1, y2, y3, y4, y5, y6, y7, y8, y9, y10, yl⟩ := own11 S1.out.y1
  have C1 := Lib.hid (S1.out.kid0 HC.out.below K0 4 HL0.out.2)
  go_wp2_with fail
  refine C1.out.mono ?_
  rintro e v2 ⟨rfl, hs⟩
  have S2 := Lib.hid hs
  clear hs x0 y0 y1 y2 y3 y4 y5 y6 y7 y8 y9 y10 yl
  obtain ⟨x0, _, _⟩ := own1 S2.out.x1
  obtain ⟨y0, y1, y2, y3, y4, y5, y6, y7, y8, y9, y10, yl⟩ := own11 S2.out.y1
  go_wp2_with fail
  change bodyPost _ _ _ _ _ _
  go_end0
  exact ⟨rfl, by first | exact S2.out.fin.1 | (simp only [Sh.puts_app]; simpa only [Sh.puts_app] using S2.out.fin.1), S2.out.fin.2⟩

set_option maxHeartbeats 8000000 in
set_option maxRecDepth 100000 in
theorem own_11 (B b : Nat) (l : List UInt8) (w0 w : World) (h : Hd) (p : Pl) (h1 : Hd) (k1 : Tm) (q1 : Pl) (hk : h.kind = 11) (C : OwnCtx B b w0 w h p) (K0 : KidAt B b w0 p 0 h1 k1 q1) (hbl : Bld B b l w) (hl : l.length + Sh.tl (Sh.own h (.node h1 k1 .nil)) ≤ 100000000) :
    Calls Tryz.prog 22 #[.agg #[(.func (Fn.func 8) #[] #[.pointer (some ⟨b, 0, none⟩)])], .agg #[.int .i8 h.kind, .string h.name, .string h.arg, .int .i64 h.num, .int .i8 h.tk, .slice p.TA p.tn p.tc, .int .i8 h.uk, .slice p.UA p.un p.uc, .int .i64 h.label, .int .i64 h.pos, .slice p.A p.n p.c]] w (Puts B b l (Sh.own h (.node h1 k1 .nil)) w) := by
  have hcf := cf_put
  have hcf2 := cf_kid
  have hO : Sh.own h (.node h1 k1 .nil) = bytes [⟨#[115, 110, 100]⟩] ++ (Sh.stand 4 h1 k1) := by
    unfold Sh.own Sh.ownW
    simp only [hk]
    simp [bytes, Sh.kidsW, Sh.kid, Sh.stand, Sh.own]
  rw [hO] at hl ⊢
  have HLL := Lib.hid hl
  have g0 : (h.kind == 0) = false := by rw [hk]; rfl
  have g1 : (h.kind == 1) = false := by rw [hk]; rfl
  have g2 : (h.kind == 2) = false := by rw [hk]; rfl
  have g3 : (h.kind == 3) = false := by rw [hk]; rfl
  have g6 : (h.kind == 6) = false := by rw [hk]; rfl
  have g9 : (h.kind == 9) = false := by rw [hk]; rfl
  have g10 : (h.kind == 10) = false := by rw [hk]; rfl
  have g11 : (h.kind == 11) = true := by rw [hk]; rfl
  have g12 : (h.kind == 12) = false := by rw [hk]; rfl
  have g13 : (h.kind == 13) = false := by rw [hk]; rfl
  have g15 : (h.kind == 15) = false := by rw [hk]; rfl
  have g16 : (h.kind == 16) = false := by rw [hk]; rfl
  have HC := Lib.hid C
  have S0 := Lib.hid (OS.start h p C.size hbl)
  have CK := Lib.hid (skids_at b h p ((w.alloc (.cells #[(.func (Fn.func 8) #[] #[.pointer (some ⟨b, 0, none⟩)])] 46)).alloc (.cells #[.int .i8 h.kind, .string h.name, .string h.arg, .int .i64 h.num, .int .i8 h.tk, .slice p.TA p.tn p.tc, .int .i8 h.uk, .slice p.UA p.un p.uc, .int .i64 h.label, .int .i64 h.pos, .slice p.A p.n p.c] 28)) (w.heap.size + 2) (w.heap.size + 3) (w.heap.size + 4) (by simp) rfl rfl)
  clear hk C hbl hl hO
  go_enter Tryz.func22, Tryz.ntmps22
  go_wp2_with fail
  refine CK.out.mono ?_
  rintro e w9 ⟨rfl, hw9⟩
  rw [← hw9] at S0
  clear hw9 CK
  obtain ⟨x0, _, _⟩ := own1 S0.out.x1
  obtain ⟨y0, y1, y2, y3, y4, y5, y6, y7, y8, y9, y10, yl⟩ := own11 S0.out.y1
  have HL0 := Lib.hid (len_step HLL.out)
  have C0 := Lib.hid (show Calls Tryz.prog 8 #[.slice (some ⟨w9.heap.size, 0, none⟩) 1 1, .pointer (some ⟨b, 0, none⟩)] (w9.alloc (.cells #[.string ⟨#[115, 110, 100]⟩] 9)) fun e w' => e = .returned (.tuple #[]) ∧ OS B b w w' h p 0 (Sh.puts l (bytes [⟨#[115, 110, 100]⟩])) from S0.out.put [⟨#[115, 110, 100]⟩] (by simp) HL0.out.1)
  go_wp2_with fail
  refine C0.out.mono ?_
  rintro e v1 ⟨rfl, hs⟩
  have S1 := Lib.hid hs
  clear hs x0 y0 y1 y2 y3 y4 y5 y6 y7 y8 y9 y10 yl
  obtain ⟨x0, _, _⟩ := own1 S1.out.x1
  obtain ⟨y0, y1, y2, y3, y4, y5, y6, y7, y8, y9, y10, yl⟩ := own11 S1.out.y1
  have C1 := Lib.hid (S1.out.kid0 HC.out.below K0 4 HL0.out.2)
  go_wp2_with fail
  refine C1.out.mono ?_
  rintro e v2 ⟨rfl, hs⟩
  have S2 := Lib.hid hs
  clear hs x0 y0 y1 y2 y3 y4 y5 y6 y7 y8 y9 y10 yl
  obtain ⟨x0, _, _⟩ := own1 S2.out.x1
  obtain ⟨y0, y1, y2, y3, y4, y5, y6, y7, y8, y9, y10, yl⟩ := own11 S2.out.y1
  go_wp2_with fail
  change bodyPost _ _ _ _ _ _
  go_end0
  exact ⟨rfl, by first | exact S2.out.fin.1 | (simp only [Sh.puts_app]; simpa only [Sh.puts_app] using S2.out.fin.1), S2.out.fin.2⟩
end Go.Proofs.YtdeomggkhbdkaaaGreatDoor
