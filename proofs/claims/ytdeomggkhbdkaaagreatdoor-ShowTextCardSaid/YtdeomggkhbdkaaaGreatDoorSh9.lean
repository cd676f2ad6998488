/-
  show: a term's own words, by its kind. gen_sh.py wrote this.
-/
import Derived.Test.YtdeomggkhbdkaaaGreatDoorSh6
namespace Go.Proofs.YtdeomggkhbdkaaaGreatDoor
open Go.RowKit


set_option maxHeartbeats 8000000 in
set_option maxRecDepth 100000 in
theorem open_7 (B b : Nat) (l : List UInt8) (w0 w : World) (h : Hd) (p : Pl) (h1 : Hd) (k1 : Tm) (q1 : Pl) (h2 : Hd) (k2 : Tm) (q2 : Pl) (hk : h.kind = 7) (C : OwnCtx B b w0 w h p) (hty : Ty.chk h.tk h.tkids = 0) (K0 : KidAt B b w0 p 0 h1 k1 q1) (K1 : KidAt B b w0 p 1 h2 k2 q2) (hbl : Bld B b l w) (hl : l.length + Sh.tl (Sh.own h (.node h1 k1 (.node h2 k2 .nil))) ≤ 100000000) :
    Calls Tryz.prog 42 #[.agg #[(.func (Fn.func 8) #[] #[.pointer (some ⟨b, 0, none⟩)])], .agg #[.int .i8 h.kind, .string h.name, .string h.arg, .int .i64 h.num, .int .i8 h.tk, .slice p.TA p.tn p.tc, .int .i8 h.uk, .slice p.UA p.un p.uc, .int .i64 h.label, .int .i64 h.pos, .slice p.A p.n p.c]] w (Puts B b l (Sh.own h (.node h1 k1 (.node h2 k2 .nil))) w) := by
  have hcf := cf_put
  have hcf2 := cf_kid
  have hO : Sh.own h (.node h1 k1 (.node h2 k2 .nil)) = bytes [⟨#[108, 101, 116]⟩, h.name, ⟨#[58]⟩, ⟨(Sh.tyW h.tk h.tkids).toArray⟩, ⟨#[61]⟩] ++ ((Sh.stand (-1) h1 k1 ++ bytes [⟨#[105, 110]⟩]) ++ (Sh.stand (-1) h2 k2)) := by
    unfold Sh.own Sh.ownW
    simp only [hk]
    simp [bytes, Sh.kidsW, Sh.kid, Sh.stand, Sh.own]
  rw [hO] at hl ⊢
  have HLL := Lib.hid hl
  have g4 : (h.kind == 4) = false := by rw [hk]; rfl
  have g5 : (h.kind == 5) = false := by rw [hk]; rfl
  have g7 : (h.kind == 7) = true := by rw [hk]; rfl
  have g8 : (h.kind == 8) = false := by rw [hk]; rfl
  have g14 : (h.kind == 14) = false := by rw [hk]; rfl
  have HC := Lib.hid C
  have S0 := Lib.hid (OS.start h p C.size hbl)
  have CK := Lib.hid (skids_at b h p ((w.alloc (.cells #[(.func (Fn.func 8) #[] #[.pointer (some ⟨b, 0, none⟩)])] 46)).alloc (.cells #[.int .i8 h.kind, .string h.name, .string h.arg, .int .i64 h.num, .int .i8 h.tk, .slice p.TA p.tn p.tc, .int .i8 h.uk, .slice p.UA p.un p.uc, .int .i64 h.label, .int .i64 h.pos, .slice p.A p.n p.c] 28)) (w.heap.size + 2) (w.heap.size + 3) (w.heap.size + 4) (by simp) rfl rfl)
  clear hk C hbl hl hO
  go_enter Tryz.func42, Tryz.ntmps42
  go_wp2_with fail
  refine CK.out.mono ?_
  rintro e w9 ⟨rfl, hw9⟩
  rw [← hw9] at S0
  clear hw9 CK
  obtain ⟨x0, _, _⟩ := own1 S0.out.x1
  obtain ⟨y0, y1, y2, y3, y4, y5, y6, y7, y8, y9, y10, yl⟩ := own11 S0.out.y1
  have HL0 := Lib.hid (len_step HLL.out)
  have SU := Lib.hid (fun (W : World) (hb : Below w9.heap.size w9 W) => S0.out.below hb)
  have D : Below w9.heap.size w9 w9.drew := (Below.refl _ _).drew
  go_wp2_with fail
  go_region_held3 (fun W => W.cell? ⟨w.heap.size, 0, none⟩ = some (.func (Fn.func 8) #[] #[.pointer (some ⟨b, 0, none⟩)]) ∧ W.cell? ⟨w.heap.size + 1, 0, none⟩ = some (.int .i8 h.kind) ∧ W.cell? ⟨w.heap.size + 1, 1, none⟩ = some (.string h.name) ∧ W.cell? ⟨w.heap.size + 1, 2, none⟩ = some (.string h.arg) ∧ W.cell? ⟨w.heap.size + 1, 3, none⟩ = some (.int .i64 h.num) ∧ W.cell? ⟨w.heap.size + 1, 4, none⟩ = some (.int .i8 h.tk) ∧ W.cell? ⟨w.heap.size + 1, 5, none⟩ = some (.slice p.TA p.tn p.tc) ∧ W.cell? ⟨w.heap.size + 1, 6, none⟩ = some (.int .i8 h.uk) ∧ W.cell? ⟨w.heap.size + 1, 7, none⟩ = some (.slice p.UA p.un p.uc) ∧ W.cell? ⟨w.heap.size + 1, 8, none⟩ = some (.int .i64 h.label) ∧ W.cell? ⟨w.heap.size + 1, 9, none⟩ = some (.int .i64 h.pos) ∧ W.cell? ⟨w.heap.size + 1, 10, none⟩ = some (.slice p.A p.n p.c))
    (first | exact S1.out.row | exact (SU.out _ D).row | exact ((SU.out _ D).below ((Below.refl _ _).alloc (Nat.le_refl _) _)).row)
    (first
    | (go_at_call 41; (with_reducible refine (HC.out.typed (S0.out.wz.below.trans (D.mono S0.out.size)) hty).mono ?_); rintro e u ⟨rfl, hb⟩; have D := D.trans (hb.mono D.size); have CF := Lib.hid (show Calls Tryz.prog 8 #[.slice (some ⟨u.heap.size, 0, none⟩) 5 5, .pointer (some ⟨b, 0, none⟩)] (u.alloc (.cells #[.string ⟨#[108, 101, 116]⟩, .string h.name, .string ⟨#[58]⟩, .string ⟨(Sh.tyW h.tk h.tkids).toArray⟩, .string ⟨#[61]⟩] 9)) (fun e w' => e = .returned (.tuple #[]) ∧ OS B b w w' h p 0 (Sh.puts l (bytes [⟨#[108, 101, 116]⟩, h.name, ⟨#[58]⟩, ⟨(Sh.tyW h.tk h.tkids).toArray⟩, ⟨#[61]⟩]))) from (SU.out u D).put [⟨#[108, 101, 116]⟩, h.name, ⟨#[58]⟩, ⟨(Sh.tyW h.tk h.tkids).toArray⟩, ⟨#[61]⟩] (by simp) HL0.out.1); clear hb)
    | (go_at_call 8; (with_reducible refine CF.out.mono ?_); rintro e v1 ⟨rfl, hs⟩; have S1 := Lib.hid hs; clear hs))
  all_goals
    obtain ⟨x0, _, _⟩ := own1 S1.out.x1
    obtain ⟨y0, y1, y2, y3, y4, y5, y6, y7, y8, y9, y10, yl⟩ := own11 S1.out.y1
    have HL1 := Lib.hid (len_step HL0.out.2)
    have C1 := Lib.hid (show Calls Tryz.prog 63 #[.int .i64 (-1), .slice (some ⟨v1.heap.size, 0, none⟩) 1 1, .pointer (some ⟨w.heap.size + 2, 0, none⟩), .pointer (some ⟨w.heap.size + 3, 0, none⟩), .pointer (some ⟨w.heap.size + 4, 0, none⟩)] (v1.alloc (.cells #[.string ⟨#[105, 110]⟩] 9)) fun e w' => e = .returned (.tuple #[]) ∧ OS B b w w' h p (0 + 1) (Sh.puts (Sh.puts l (bytes [⟨#[108, 101, 116]⟩, h.name, ⟨#[58]⟩, ⟨(Sh.tyW h.tk h.tkids).toArray⟩, ⟨#[61]⟩])) ((Sh.stand (-1) h1 k1 ++ bytes [⟨#[105, 110]⟩]))) from S1.out.kidN HC.out.below K0 (-1) [⟨#[105, 110]⟩] (by simp) HL1.out.1)
    go_wp2_with fail
    refine C1.out.mono ?_
    rintro e v2 ⟨rfl, hs⟩
    have S2 := Lib.hid hs
    clear hs x0 y0 y1 y2 y3 y4 y5 y6 y7 y8 y9 y10 yl
    obtain ⟨x0, _, _⟩ := own1 S2.out.x1
    obtain ⟨y0, y1, y2, y3, y4, y5, y6, y7, y8, y9, y10, yl⟩ := own11 S2.out.y1
    have C2 := Lib.hid (S2.out.kid0 HC.out.below K1 (-1) HL1.out.2)
    go_wp2_with fail
    refine C2.out.mono ?_
    rintro e v3 ⟨rfl, hs⟩
    have S3 := Lib.hid hs
    clear hs x0 y0 y1 y2 y3 y4 y5 y6 y7 y8 y9 y10 yl
    obtain ⟨x0, _, _⟩ := own1 S3.out.x1
    obtain ⟨y0, y1, y2, y3, y4, y5, y6, y7, y8, y9, y10, yl⟩ := own11 S3.out.y1
    go_wp2_with fail
    change bodyPost _ _ _ _ _ _
    go_end0
    exact ⟨rfl, by first | exact S3.out.fin.1 | (simp only [Sh.puts_app]; simpa only [Sh.puts_app] using S3.out.fin.1), S3.out.fin.2⟩

set_option maxHeartbeats 8000000 in
set_option maxRecDepth 100000 in
theorem open_8 (B b : Nat) (l : List UInt8) (w0 w : World) (h : Hd) (p : Pl) (h1 : Hd) (k1 : Tm) (q1 : Pl) (h2 : Hd) (k2 : Tm) (q2 : Pl) (h3 : Hd) (k3 : Tm) (q3 : Pl) (hk : h.kind = 8) (C : OwnCtx B b w0 w h p) (K0 : KidAt B b w0 p 0 h1 k1 q1) (K1 : KidAt B b w0 p 1 h2 k2 q2) (K2 : KidAt B b w0 p 2 h3 k3 q3) (hbl : Bld B b l w) (hl : l.length + Sh.tl (Sh.own h (.node h1 k1 (.node h2 k2 (.node h3 k3 .nil)))) ≤ 100000000) :
    Calls Tryz.prog 42 #[.agg #[(.func (Fn.func 8) #[] #[.pointer (some ⟨b, 0, none⟩)])], .agg #[.int .i8 h.kind, .string h.name, .string h.arg, .int .i64 h.num, .int .i8 h.tk, .slice p.TA p.tn p.tc, .int .i8 h.uk, .slice p.UA p.un p.uc, .int .i64 h.label, .int .i64 h.pos, .slice p.A p.n p.c]] w (Puts B b l (Sh.own h (.node h1 k1 (.node h2 k2 (.node h3 k3 .nil)))) w) := by
  have hcf := cf_put
  have hcf2 := cf_kid
  have hO : Sh.own h (.node h1 k1 (.node h2 k2 (.node h3 k3 .nil))) = bytes [⟨#[105, 102]⟩] ++ ((Sh.stand (-1) h1 k1 ++ bytes [⟨#[116, 104, 101, 110]⟩]) ++ ((Sh.stand (-1) h2 k2 ++ bytes [⟨#[101, 108, 115, 101]⟩]) ++ (Sh.stand (-1) h3 k3))) := by
    unfold Sh.own Sh.ownW
    simp only [hk]
    simp [bytes, Sh.kidsW, Sh.kid, Sh.stand, Sh.own]
  rw [hO] at hl ⊢
  have HLL := Lib.hid hl
  have g4 : (h.kind == 4) = false := by rw [hk]; rfl
  have g5 : (h.kind == 5) = false := by rw [hk]; rfl
  have g7 : (h.kind == 7) = false := by rw [hk]; rfl
  have g8 : (h.kind == 8) = true := by rw [hk]; rfl
  have g14 : (h.kind == 14) = false := by rw [hk]; rfl
  have HC := Lib.hid C
  have S0 := Lib.hid (OS.start h p C.size hbl)
  have CK := Lib.hid (skids_at b h p ((w.alloc (.cells #[(.func (Fn.func 8) #[] #[.pointer (some ⟨b, 0, none⟩)])] 46)).alloc (.cells #[.int .i8 h.kind, .string h.name, .string h.arg, .int .i64 h.num, .int .i8 h.tk, .slice p.TA p.tn p.tc, .int .i8 h.uk, .slice p.UA p.un p.uc, .int .i64 h.label, .int .i64 h.pos, .slice p.A p.n p.c] 28)) (w.heap.size + 2) (w.heap.size + 3) (w.heap.size + 4) (by simp) rfl rfl)
  clear hk C hbl hl hO
  go_enter Tryz.func42, Tryz.ntmps42
  go_wp2_with fail
  refine CK.out.mono ?_
  rintro e w9 ⟨rfl, hw9⟩
  rw [← hw9] at S0
  clear hw9 CK
  obtain ⟨x0, _, _⟩ := own1 S0.out.x1
  obtain ⟨y0, y1, y2, y3, y4, y5, y6, y7, y8, y9, y10, yl⟩ := own11 S0.out.y1
  have HL0 := Lib.hid (len_step HLL.out)
  have C0 := Lib.hid (show Calls Tryz.prog 8 #[.slice (some ⟨w9.heap.size, 0, none⟩) 1 1, .pointer (some ⟨b, 0, none⟩)] (w9.alloc (.cells #[.string ⟨#[105, 102]⟩] 9)) fun e w' => e = .returned (.tuple #[]) ∧ OS B b w w' h p 0 (Sh.puts l (bytes [⟨#[105, 102]⟩])) from S0.out.put [⟨#[105, 102]⟩] (by simp) HL0.out.1)
  go_wp2_with fail
  refine C0.out.mono ?_
  rintro e v1 ⟨rfl, hs⟩
  have S1 := Lib.hid hs
  clear hs x0 y0 y1 y2 y3 y4 y5 y6 y7 y8 y9 y10 yl
  obtain ⟨x0, _, _⟩ := own1 S1.out.x1
  obtain ⟨y0, y1, y2, y3, y4, y5, y6, y7, y8, y9, y10, yl⟩ := own11 S1.out.y1
  have HL1 := Lib.hid (len_step HL0.out.2)
  have C1 := Lib.hid (show Calls Tryz.prog 63 #[.int .i64 (-1), .slice (some ⟨v1.heap.size, 0, none⟩) 1 1, .pointer (some ⟨w.heap.size + 2, 0, none⟩), .pointer (some ⟨w.heap.size + 3, 0, none⟩), .pointer (some ⟨w.heap.size + 4, 0, none⟩)] (v1.alloc (.cells #[.string ⟨#[116, 104, 101, 110]⟩] 9)) fun e w' => e = .returned (.tuple #[]) ∧ OS B b w w' h p (0 + 1) (Sh.puts (Sh.puts l (bytes [⟨#[105, 102]⟩])) ((Sh.stand (-1) h1 k1 ++ bytes [⟨#[116, 104, 101, 110]⟩]))) from S1.out.kidN HC.out.below K0 (-1) [⟨#[116, 104, 101, 110]⟩] (by simp) HL1.out.1)
  go_wp2_with fail
  refine C1.out.mono ?_
  rintro e v2 ⟨rfl, hs⟩
  have S2 := Lib.hid hs
  clear hs x0 y0 y1 y2 y3 y4 y5 y6 y7 y8 y9 y10 yl
  obtain ⟨x0, _, _⟩ := own1 S2.out.x1
  obtain ⟨y0, y1, y2, y3, y4, y5, y6, y7, y8, y9, y10, yl⟩ := own11 S2.out.y1
  have HL2 := Lib.hid (len_step HL1.out.2)
  have C2 := Lib.hid (show Calls Tryz.prog 63 #[.int .i64 (-1), .slice (some ⟨v2.heap.size, 0, none⟩) 1 1, .pointer (some ⟨w.heap.size + 2, 0, none⟩), .pointer (some ⟨w.heap.size + 3, 0, none⟩), .pointer (some ⟨w.heap.size + 4, 0, none⟩)] (v2.alloc (.cells #[.string ⟨#[101, 108, 115, 101]⟩] 9)) fun e w' => e = .returned (.tuple #[]) ∧ OS B b w w' h p (1 + 1) (Sh.puts (Sh.puts (Sh.puts l (bytes [⟨#[105, 102]⟩])) ((Sh.stand (-1) h1 k1 ++ bytes [⟨#[116, 104, 101, 110]⟩]))) ((Sh.stand (-1) h2 k2 ++ bytes [⟨#[101, 108, 115, 101]⟩]))) from S2.out.kidN HC.out.below K1 (-1) [⟨#[101, 108, 115, 101]⟩] (by simp) HL2.out.1)
  go_wp2_with fail
  refine C2.out.mono ?_
  rintro e v3 ⟨rfl, hs⟩
  have S3 := Lib.hid hs
  clear hs x0 y0 y1 y2 y3 y4 y5 y6 y7 y8 y9 y10 yl
  obtain ⟨x0, _, _⟩ := own1 S3.out.x1
  obtain ⟨y0, y1, y2, y3, y4, y5, y6, y7, y8, y9, y10, yl⟩ := own11 S3.out.y1
  have C3 := Lib.hid (S3.out.kid0 HC.out.below K2 (-1) HL2.out.2)
  go_wp2_with fail
  refine C3.out.mono ?_
  rintro e v4 ⟨rfl, hs⟩
  have S4 := Lib.hid hs
  clear hs x0 y0 y1 y2 y3 y4 y5 y6 y7 y8 y9 y10 yl
  obtain ⟨x0, _, _⟩ := own1 S4.out.x1
  obtain ⟨y0, y1, y2, y3, y4, y5, y6, y7, y8, y9, y10, yl⟩ := own11 S4.out.y1
  go_wp2_with fail
  change bodyPost _ _ _ _ _ _
  go_end0
  exact ⟨rfl, by first | exact S4.out.fin.1 | (simp only [Sh.puts_app]; simpa only [Sh.puts_app] using S4.out.fin.1), S4.out.fin.2⟩

set_option maxHeartbeats 8000000 in
set_option maxRecDepth 100000 in
theorem open_14 (B b : Nat) (l : List UInt8) (w0 w : World) (h : Hd) (p : Pl) (h1 : Hd) (k1 : Tm) (q1 : Pl) (h2 : Hd) (k2 : Tm) (q2 : Pl) (h3 : Hd) (k3 : Tm) (q3 : Pl) (hk : h.kind = 14) (C : OwnCtx B b w0 w h p) (K0 : KidAt B b w0 p 0 h1 k1 q1) (K1 : KidAt B b w0 p 1 h2 k2 q2) (K2 : KidAt B b w0 p 2 h3 k3 q3) (hbl : Bld B b l w) (hl : l.length + Sh.tl (Sh.own h (.node h1 k1 (.node h2 k2 (.node h3 k3 .nil)))) ≤ 100000000) :
    Calls Tryz.prog 42 #[.agg #[(.func (Fn.func 8) #[] #[.pointer (some ⟨b, 0, none⟩)])], .agg #[.int .i8 h.kind, .string h.name, .string h.arg, .int .i64 h.num, .int .i8 h.tk, .slice p.TA p.tn p.tc, .int .i8 h.uk, .slice p.UA p.un p.uc, .int .i64 h.label, .int .i64 h.pos, .slice p.A p.n p.c]] w (Puts B b l (Sh.own h (.node h1 k1 (.node h2 k2 (.node h3 k3 .nil)))) w) := by
  have hcf := cf_put
  have hcf2 := cf_kid
  have hO : Sh.own h (.node h1 k1 (.node h2 k2 (.node h3 k3 .nil))) = bytes [⟨#[99, 97, 115, 101]⟩] ++ ((Sh.stand (-1) h1 k1 ++ bytes [⟨#[111, 102]⟩, h.name, ⟨#[46]⟩]) ++ ((Sh.stand (-1) h2 k2 ++ bytes [⟨#[124]⟩, h.arg, ⟨#[46]⟩]) ++ (Sh.stand (-1) h3 k3))) := by
    unfold Sh.own Sh.ownW
    simp only [hk]
    simp [bytes, Sh.kidsW, Sh.kid, Sh.stand, Sh.own]
  rw [hO] at hl ⊢
  have HLL := Lib.hid hl
  have g4 : (h.kind == 4) = false := by rw [hk]; rfl
  have g5 : (h.kind == 5) = false := by rw [hk]; rfl
  have g7 : (h.kind == 7) = false := by rw [hk]; rfl
  have g8 : (h.kind == 8) = false := by rw [hk]; rfl
  have g14 : (h.kind == 14) = true := by rw [hk]; rfl
  have HC := Lib.hid C
  have S0 := Lib.hid (OS.start h p C.size hbl)
  have CK := Lib.hid (skids_at b h p ((w.alloc (.cells #[(.func (Fn.func 8) #[] #[.pointer (some ⟨b, 0, none⟩)])] 46)).alloc (.cells #[.int .i8 h.kind, .string h.name, .string h.arg, .int .i64 h.num, .int .i8 h.tk, .slice p.TA p.tn p.tc, .int .i8 h.uk, .slice p.UA p.un p.uc, .int .i64 h.label, .int .i64 h.pos, .slice p.A p.n p.c] 28)) (w.heap.size + 2) (w.heap.size + 3) (w.heap.size + 4) (by simp) rfl rfl)
  clear hk C hbl hl hO
  go_enter Tryz.func42, Tryz.ntmps42
  go_wp2_with fail
  refine CK.out.mono ?_
  rintro e w9 ⟨rfl, hw9⟩
  rw [← hw9] at S0
  clear hw9 CK
  obtain ⟨x0, _, _⟩ := own1 S0.out.x1
  obtain ⟨y0, y1, y2, y3, y4, y5, y6, y7, y8, y9, y10, yl⟩ := own11 S0.out.y1
  have HL0 := Lib.hid (len_step HLL.out)
  have C0 := Lib.hid (show Calls Tryz.prog 8 #[.slice (some ⟨w9.heap.size, 0, none⟩) 1 1, .pointer (some ⟨b, 0, none⟩)] (w9.alloc (.cells #[.string ⟨#[99, 97, 115, 101]⟩] 9)) fun e w' => e = .returned (.tuple #[]) ∧ OS B b w w' h p 0 (Sh.puts l (bytes [⟨#[99, 97, 115, 101]⟩])) from S0.out.put [⟨#[99, 97, 115, 101]⟩] (by simp) HL0.out.1)
  go_wp2_with fail
  refine C0.out.mono ?_
  rintro e v1 ⟨rfl, hs⟩
  have S1 := Lib.hid hs
  clear hs x0 y0 y1 y2 y3 y4 y5 y6 y7 y8 y9 y10 yl
  obtain ⟨x0, _, _⟩ := own1 S1.out.x1
  obtain ⟨y0, y1, y2, y3, y4, y5, y6, y7, y8, y9, y10, yl⟩ := own11 S1.out.y1
  have HL1 := Lib.hid (len_step HL0.out.2)
  have C1 := Lib.hid (show Calls Tryz.prog 63 #[.int .i64 (-1), .slice (some ⟨v1.heap.size, 0, none⟩) 3 3, .pointer (some ⟨w.heap.size + 2, 0, none⟩), .pointer (some ⟨w.heap.size + 3, 0, none⟩), .pointer (some ⟨w.heap.size + 4, 0, none⟩)] (v1.alloc (.cells #[.string ⟨#[111, 102]⟩, .string h.name, .string ⟨#[46]⟩] 9)) fun e w' => e = .returned (.tuple #[]) ∧ OS B b w w' h p (0 + 1) (Sh.puts (Sh.puts l (bytes [⟨#[99, 97, 115, 101]⟩])) ((Sh.stand (-1) h1 k1 ++ bytes [⟨#[111, 102]⟩, h.name, ⟨#[46]⟩]))) from S1.out.kidN HC.out.below K0 (-1) [⟨#[111, 102]⟩, h.name, ⟨#[46]⟩] (by simp) HL1.out.1)
  go_wp2_with fail
  refine C1.out.mono ?_
  rintro e v2 ⟨rfl, hs⟩
  have S2 := Lib.hid hs
  clear hs x0 y0 y1 y2 y3 y4 y5 y6 y7 y8 y9 y10 yl
  obtain ⟨x0, _, _⟩ := own1 S2.out.x1
  obtain ⟨y0, y1, y2, y3, y4, y5, y6, y7, y8, y9, y10, yl⟩ := own11 S2.out.y1
  have HL2 := Lib.hid (len_step HL1.out.2)
  have C2 := Lib.hid (show Calls Tryz.prog 63 #[.int .i64 (-1), .slice (some ⟨v2.heap.size, 0, none⟩) 3 3, .pointer (some ⟨w.heap.size + 2, 0, none⟩), .pointer (some ⟨w.heap.size + 3, 0, none⟩), .pointer (some ⟨w.heap.size + 4, 0, none⟩)] (v2.alloc (.cells #[.string ⟨#[124]⟩, .string h.arg, .string ⟨#[46]⟩] 9)) fun e w' => e = .returned (.tuple #[]) ∧ OS B b w w' h p (1 + 1) (Sh.puts (Sh.puts (Sh.puts l (bytes [⟨#[99, 97, 115, 101]⟩])) ((Sh.stand (-1) h1 k1 ++ bytes [⟨#[111, 102]⟩, h.name, ⟨#[46]⟩]))) ((Sh.stand (-1) h2 k2 ++ bytes [⟨#[124]⟩, h.arg, ⟨#[46]⟩]))) from S2.out.kidN HC.out.below K1 (-1) [⟨#[124]⟩, h.arg, ⟨#[46]⟩] (by simp) HL2.out.1)
  go_wp2_with fail
  refine C2.out.mono ?_
  rintro e v3 ⟨rfl, hs⟩
  have S3 := Lib.hid hs
  clear hs x0 y0 y1 y2 y3 y4 y5 y6 y7 y8 y9 y10 yl
  obtain ⟨x0, _, _⟩ := own1 S3.out.x1
  obtain ⟨y0, y1, y2, y3, y4, y5, y6, y7, y8, y9, y10, yl⟩ := own11 S3.out.y1
  have C3 := Lib.hid (S3.out.kid0 HC.out.below K2 (-1) HL2.out.2)
  go_wp2_with fail
  refine C3.out.mono ?_
  rintro e v4 ⟨rfl, hs⟩
  have S4 := Lib.hid hs
  clear hs x0 y0 y1 y2 y3 y4 y5 y6 y7 y8 y9 y10 yl
  obtain ⟨x0, _, _⟩ := own1 S4.out.x1
  obtain ⟨y0, y1, y2, y3, y4, y5, y6, y7, y8, y9, y10, yl⟩ := own11 S4.out.y1
  go_wp2_with fail
  change bodyPost _ _ _ _ _ _
  go_end0
  exact ⟨rfl, by first | exact S4.out.fin.1 | (simp only [Sh.puts_app]; simpa only [Sh.puts_app] using S4.out.fin.1), S4.out.fin.2⟩
end Go.Proofs.YtdeomggkhbdkaaaGreatDoor
