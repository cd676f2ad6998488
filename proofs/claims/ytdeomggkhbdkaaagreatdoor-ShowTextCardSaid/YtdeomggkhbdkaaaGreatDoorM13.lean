/-
  show: a term's own words, by its kind. gen_sh.py wrote this. show: a term's own words, by its kind. gen_sh.py wrote this. show: a term's own words, by its kind. gen_sh.py wrote this.
-/
import Derived.Test.YtdeomggkhbdkaaaGreatDoorSh6
namespace Go.Proofs.YtdeomggkhbdkaaaGreatDoor
open Go.RowKit


set_option maxHeartbeats 8000000 in
set_option maxRecDepth 100000 in
theorem own_12 (B b : Nat) (l : List UInt8) (w0 w : World) (h : Hd) (p : Pl) (h1 : Hd) (k1 : Tm) (q1 : Pl) (hk : h.kind = 12) (C : OwnCtx B b w0 w h p) (hty : Ty.chk h.tk h.tkids = 0) (K0 : KidAt B b w0 p 0 h1 k1 q1) (hbl : Bld B b l w) (hl : l.length + Sh.tl (Sh.own h (.node h1 k1 .nil)) ≤ 100000000) :
    Calls Tryz.prog 22 #[.agg #[(.func (Fn.func 8) #[] #[.pointer (some ⟨b, 0, none⟩)])], .agg #[.int .i8 h.kind, .string h.name, .string h.arg, .int .i64 h.num, .int .i8 h.tk, .slice p.TA p.tn p.tc, .int .i8 h.uk, .slice p.UA p.un p.uc, .int .i64 h.label, .int .i64 h.pos, .slice p.A p.n p.c]] w (Puts B b l (Sh.own h (.node h1 k1 .nil)) w) := by
  have hcf := cf_put
  have hcf2 := cf_kid
  have hO : Sh.own h (.node h1 k1 .nil) = bytes [⟨#[105, 110, 108]⟩, ⟨#[123]⟩, ⟨(Sh.tyW h.tk h.tkids).toArray⟩, ⟨#[125]⟩] ++ (Sh.stand 4 h1 k1) := by
    unfold Sh.own Sh.ownW
    simp only [hk]
    simp [bytes, Sh.kidsW, Sh.kid, Sh.stand, Sh.own]
  rw [hO] at hl ⊢
  have HLL := Lib.hid hl
  have g0 : (h.kind == 0) = false := by rw [hk]; rfl
  have g1 : (h.kind == 1) = false := by rw [hk]; rfl
  have g2 : (h.kind == 2) = false := by rw [hk]; rfl
  have g3 : (h.kind == 3) = false := by rw [hk]; rfl
  have g6 : (h.kind == 6) = false := by rw [hk]; rfl
  have g9 : (h.kind == 9) = false := by rw [hk]; rfl
  have g10 : (h.kind == 10) = false := by rw [hk]; rfl
  have g11 : (h.kind == 11) = false := by rw [hk]; rfl
  have g12 : (h.kind == 12) = true := by rw [hk]; rfl
  have g13 : (h.kind == 13) = false := by rw [hk]; rfl
  have g15 : (h.kind == 15) = false := by rw [hk]; rfl
  have g16 : (h.kind == 16) = false := by rw [hk]; rfl
  have HC := Lib.hid C
  have S0 := Lib.hid (OS.start h p C.size hbl)
  have CK := Lib.hid (skids_at b h p ((w.alloc (.cells #[(.func (Fn.func 8) #[] #[.pointer (some ⟨b, 0, none⟩)])] 46)).alloc (.cells #[.int .i8 h.kind, .string h.name, .string h.arg, .int .i64 h.num, .int .i8 h.tk, .slice p.TA p.tn p.tc, .int .i8 h.uk, .slice p.UA p.un p.uc, .int .i64 h.label, .int .i64 h.pos, .slice p.A p.n p.c] 28)) (w.heap.size + 2) (w.heap.size + 3) (w.heap.size + 4) (by simp) rfl rfl)
  clear hk C hbl hl hO
  go_enter Tryz.func22, Tryz.ntmps22
  go_wp2_with fail
  refine CK.out.mono ?_
  rintro e w9 ⟨rfl, hw9⟩
  rw [← hw9] at S0
  clear hw9 CK
  obtain ⟨x0, _, _⟩ := own1 S0.out.x1
  obtain ⟨y0, y1, y2, y3, y4, y5, y6, y7, y8, y9, y10, yl⟩ := own11 S0.out.y1
  have HL0 := Lib.hid (len_step HLL.out)
  have SU := Lib.hid (fun (W : World) (hb : Below w9.heap.size w9 W) => S0.out.below hb)
  have D : Below w9.heap.size w9 w9.drew := (Below.refl _ _).drew
  go_wp2_with fail
  go_region_held3 (fun W => W.cell? ⟨w.heap.size, 0, none⟩ = some (.func (Fn.func 8) #[] #[.pointer (some ⟨b, 0, none⟩)]) ∧ W.cell? ⟨w.heap.size + 1, 0, none⟩ = some (.int .i8 h.kind) ∧ W.cell? ⟨w.heap.size + 1, 1, none⟩ = some (.string h.name) ∧ W.cell? ⟨w.heap.size + 1, 2, none⟩ = some (.string h.arg) ∧ W.cell? ⟨w.heap.size + 1, 3, none⟩ = some (.int .i64 h.num) ∧ W.cell? ⟨w.heap.size + 1, 4, none⟩ = some (.int .i8 h.tk) ∧ W.cell? ⟨w.heap.size + 1, 5, none⟩ = some (.slice p.TA p.tn p.tc) ∧ W.cell? ⟨w.heap.size + 1, 6, none⟩ = some (.int .i8 h.uk) ∧ W.cell? ⟨w.heap.size + 1, 7, none⟩ = some (.slice p.UA p.un p.uc) ∧ W.cell? ⟨w.heap.size + 1, 8, none⟩ = some (.int .i64 h.label) ∧ W.cell? ⟨w.heap.size + 1, 9, none⟩ = some (.int .i64 h.pos) ∧ W.cell? ⟨w.heap.size + 1, 10, none⟩ = some (.slice p.A p.n p.c))
    (first | exact S1.out.row | exact (SU.out _ D).row | exact ((SU.out _ D).below ((Below.refl _ _).alloc (Nat.le_refl _) _)).row)
    (first
    | (go_at_call 41; (with_reducible refine (HC.out.typed (S0.out.wz.below.trans (D.mono S0.out.size)) hty).mono ?_); rintro e u ⟨rfl, hb⟩; have D := D.trans (hb.mono D.size); have CF := Lib.hid (show Calls Tryz.prog 8 #[.slice (some ⟨u.heap.size, 0, none⟩) 4 4, .pointer (some ⟨b, 0, none⟩)] (u.alloc (.cells #[.string ⟨#[105, 110, 108]⟩, .string ⟨#[123]⟩, .string ⟨(Sh.tyW h.tk h.tkids).toArray⟩, .string ⟨#[125]⟩] 9)) (fun e w' => e = .returned (.tuple #[]) ∧ OS B b w w' h p 0 (Sh.puts l (bytes [⟨#[105, 110, 108]⟩, ⟨#[123]⟩, ⟨(Sh.tyW h.tk h.tkids).toArray⟩, ⟨#[125]⟩]))) from (SU.out u D).put [⟨#[105, 110, 108]⟩, ⟨#[123]⟩, ⟨(Sh.tyW h.tk h.tkids).toArray⟩, ⟨#[125]⟩] (by simp) HL0.out.1); clear hb)
    | (go_at_call 8; (with_reducible refine CF.out.mono ?_); rintro e v1 ⟨rfl, hs⟩; have S1 := Lib.hid hs; clear hs))
  all_goals
    obtain ⟨x0, _, _⟩ := own1 S1.out.x1
    obtain ⟨y0, y1, y2, y3, y4, y5, y6, y7, y8, y9, y10, yl⟩ := own11 S1.out.y1
    have C1 := Lib.hid (S1.out.kid0 HC.out.below K0 4 HL0.out.2)
    go_wp2_with fail
    refine C1.out.mono ?_
    rintro e v2 ⟨rfl, hs⟩
    have S2 := Lib.hid hs
    clear hs x0 y0 y1 y2 y3 y4 y5 y6 y7 y8 y9 y10 yl
    obtain ⟨x0, _, _⟩ := own1 S2.out.x1
    obtain ⟨y0, y1, y2, y3, y4, y5, y6, y7, y8, y9, y10, yl⟩ := own11 S2.out.y1
    go_wp2_with fail
    change bodyPost _ _ _ _ _ _
    go_end0
    exact ⟨rfl, by first | exact S2.out.fin.1 | (simp only [Sh.puts_app]; simpa only [Sh.puts_app] using S2.out.fin.1), S2.out.fin.2⟩

set_option maxHeartbeats 8000000 in
set_option maxRecDepth 100000 in
theorem own_13 (B b : Nat) (l : List UInt8) (w0 w : World) (h : Hd) (p : Pl) (h1 : Hd) (k1 : Tm) (q1 : Pl) (hk : h.kind = 13) (C : OwnCtx B b w0 w h p) (hty : Ty.chk h.tk h.tkids = 0) (K0 : KidAt B b w0 p 0 h1 k1 q1) (hbl : Bld B b l w) (hl : l.length + Sh.tl (Sh.own h (.node h1 k1 .nil)) ≤ 100000000) :
    Calls Tryz.prog 22 #[.agg #[(.func (Fn.func 8) #[] #[.pointer (some ⟨b, 0, none⟩)])], .agg #[.int .i8 h.kind, .string h.name, .string h.arg, .int .i64 h.num, .int .i8 h.tk, .slice p.TA p.tn p.tc, .int .i8 h.uk, .slice p.UA p.un p.uc, .int .i64 h.label, .int .i64 h.pos, .slice p.A p.n p.c]] w (Puts B b l (Sh.own h (.node h1 k1 .nil)) w) := by
  have hcf := cf_put
  have hcf2 := cf_kid
  have hO : Sh.own h (.node h1 k1 .nil) = bytes [⟨#[105, 110, 114]⟩, ⟨#[123]⟩, ⟨(Sh.tyW h.tk h.tkids).toArray⟩, ⟨#[125]⟩] ++ (Sh.stand 4 h1 k1) := by
    unfold Sh.own Sh.ownW
    simp only [hk]
    simp [bytes, Sh.kidsW, Sh.kid, Sh.stand, Sh.own]
  rw [hO] at hl ⊢
  have HLL := Lib.hid hl
  have g0 : (h.kind == 0) = false := by rw [hk]; rfl
  have g1 : (h.kind == 1) = false := by rw [hk]; rfl
  have g2 : (h.kind == 2) = false := by rw [hk]; rfl
  have g3 : (h.kind == 3) = false := by rw [hk]; rfl
  have g6 : (h.kind == 6) = false := by rw [hk]; rfl
  have g9 : (h.kind == 9) = false := by rw [hk]; rfl
  have g10 : (h.kind == 10) = false := by rw [hk]; rfl
  have g11 : (h.kind == 11) = false := by rw [hk]; rfl
  have g12 : (h.kind == 12) = false := by rw [hk]; rfl
  have g13 : (h.kind == 13) = true := by rw [hk]; rfl
  have g15 : (h.kind == 15) = false := by rw [hk]; rfl
  have g16 : (h.kind == 16) = false := by rw [hk]; rfl
  have HC := Lib.hid C
  have S0 := Lib.hid (OS.start h p C.size hbl)
  have CK := Lib.hid (skids_at b h p ((w.alloc (.cells #[(.func (Fn.func 8) #[] #[.pointer (some ⟨b, 0, none⟩)])] 46)).alloc (.cells #[.int .i8 h.kind, .string h.name, .string h.arg, .int .i64 h.num, .int .i8 h.tk, .slice p.TA p.tn p.tc, .int .i8 h.uk, .slice p.UA p.un p.uc, .int .i64 h.label, .int .i64 h.pos, .slice p.A p.n p.c] 28)) (w.heap.size + 2) (w.heap.size + 3) (w.heap.size + 4) (by simp) rfl rfl)
  clear hk C hbl hl hO
  go_enter Tryz.func22, Tryz.ntmps22
  go_wp2_with fail
  refine CK.out.mono ?_
  rintro e w9 ⟨rfl, hw9⟩
  rw [← hw9] at S0
  clear hw9 CK
  obtain ⟨x0, _, _⟩ := own1 S0.out.x1
  obtain ⟨y0, y1, y2, y3, y4, y5, y6, y7, y8, y9, y10, yl⟩ := own11 S0.out.y1
  have HL0 := Lib.hid (len_step HLL.out)
  have SU := Lib.hid (fun (W : World) (hb : Below w9.heap.size w9 W) => S0.out.below hb)
  have D : Below w9.heap.size w9 w9.drew := (Below.refl _ _).drew
  go_wp2_with fail
  go_region_held3 (fun W => W.cell? ⟨w.heap.size, 0, none⟩ = some (.func (Fn.func 8) #[] #[.pointer (some ⟨b, 0, none⟩)]) ∧ W.cell? ⟨w.heap.size + 1, 0, none⟩ = some (.int .i8 h.kind) ∧ W.cell? ⟨w.heap.size + 1, 1, none⟩ = some (.string h.name) ∧ W.cell? ⟨w.heap.size + 1, 2, none⟩ = some (.string h.arg) ∧ W.cell? ⟨w.heap.size + 1, 3, none⟩ = some (.int .i64 h.num) ∧ W.cell? ⟨w.heap.size + 1, 4, none⟩ = some (.int .i8 h.tk) ∧ W.cell? ⟨w.heap.size + 1, 5, none⟩ = some (.slice p.TA p.tn p.tc) ∧ W.cell? ⟨w.heap.size + 1, 6, none⟩ = some (.int .i8 h.uk) ∧ W.cell? ⟨w.heap.size + 1, 7, none⟩ = some (.slice p.UA p.un p.uc) ∧ W.cell? ⟨w.heap.size + 1, 8, none⟩ = some (.int .i64 h.label) ∧ W.cell? ⟨w.heap.size + 1, 9, none⟩ = some (.int .i64 h.pos) ∧ W.cell? ⟨w.heap.size + 1, 10, none⟩ = some (.slice p.A p.n p.c))
    (first | exact S1.out.row | exact (SU.out _ D).row | exact ((SU.out _ D).below ((Below.refl _ _).alloc (Nat.le_refl _) _)).row)
    (first
    | (go_at_call 41; (with_reducible refine (HC.out.typed (S0.out.wz.below.trans (D.mono S0.out.size)) hty).mono ?_); rintro e u ⟨rfl, hb⟩; have D := D.trans (hb.mono D.size); have CF := Lib.hid (show Calls Tryz.prog 8 #[.slice (some ⟨u.heap.size, 0, none⟩) 4 4, .pointer (some ⟨b, 0, none⟩)] (u.alloc (.cells #[.string ⟨#[105, 110, 114]⟩, .string ⟨#[123]⟩, .string ⟨(Sh.tyW h.tk h.tkids).toArray⟩, .string ⟨#[125]⟩] 9)) (fun e w' => e = .returned (.tuple #[]) ∧ OS B b w w' h p 0 (Sh.puts l (bytes [⟨#[105, 110, 114]⟩, ⟨#[123]⟩, ⟨(Sh.tyW h.tk h.tkids).toArray⟩, ⟨#[125]⟩]))) from (SU.out u D).put [⟨#[105, 110, 114]⟩, ⟨#[123]⟩, ⟨(Sh.tyW h.tk h.tkids).toArray⟩, ⟨#[125]⟩] (by simp) HL0.out.1); clear hb)
    | (go_at_call 8; (with_reducible refine CF.out.mono ?_); rintro e v1 ⟨rfl, hs⟩; have S1 := Lib.hid hs; clear hs))
  all_goals
    obtain ⟨x0, _, _⟩ := own1 S1.out.x1
    obtain ⟨y0, y1, y2, y3, y4, y5, y6, y7, y8, y9, y10, yl⟩ := own11 S1.out.y1
    have C1 := Lib.hid (S1.out.kid0 HC.out.below K0 4 HL0.out.2)
    go_wp2_with fail
    refine C1.out.mono ?_
    rintro e v2 ⟨rfl, hs⟩
    have S2 := Lib.hid hs
    clear hs x0 y0 y1 y2 y3 y4 y5 y6 y7 y8 y9 y10 yl
    obtain ⟨x0, _, _⟩ := own1 S2.out.x1
    obtain ⟨y0, y1, y2, y3, y4, y5, y6, y7, y8, y9, y10, yl⟩ := own11 S2.out.y1
    go_wp2_with fail
    change bodyPost _ _ _ _ _ _
    go_end0
    exact ⟨rfl, by first | exact S2.out.fin.1 | (simp only [Sh.puts_app]; simpa only [Sh.puts_app] using S2.out.fin.1), S2.out.fin.2⟩
end Go.Proofs.YtdeomggkhbdkaaaGreatDoor
namespace Go.Proofs.YtdeomggkhbdkaaaGreatDoor
open Go.RowKit


set_option maxHeartbeats 8000000 in
set_option maxRecDepth 100000 in
theorem own_15 (B b : Nat) (l : List UInt8) (w0 w : World) (h : Hd) (p : Pl) (h1 : Hd) (k1 : Tm) (q1 : Pl) (h2 : Hd) (k2 : Tm) (q2 : Pl) (hk : h.kind = 15) (C : OwnCtx B b w0 w h p) (K0 : KidAt B b w0 p 0 h1 k1 q1) (K1 : KidAt B b w0 p 1 h2 k2 q2) (hbl : Bld B b l w) (hl : l.length + Sh.tl (Sh.own h (.node h1 k1 (.node h2 k2 .nil))) ≤ 100000000) :
    Calls Tryz.prog 22 #[.agg #[(.func (Fn.func 8) #[] #[.pointer (some ⟨b, 0, none⟩)])], .agg #[.int .i8 h.kind, .string h.name, .string h.arg, .int .i64 h.num, .int .i8 h.tk, .slice p.TA p.tn p.tc, .int .i8 h.uk, .slice p.UA p.un p.uc, .int .i64 h.label, .int .i64 h.pos, .slice p.A p.n p.c]] w (Puts B b l (Sh.own h (.node h1 k1 (.node h2 k2 .nil))) w) := by
  have hcf := cf_put
  have hcf2 := cf_kid
  have hO : Sh.own h (.node h1 k1 (.node h2 k2 .nil)) = (Sh.stand (Sh.opS h.name).2.1 h1 k1 ++ bytes [h.name]) ++ (Sh.stand (Sh.opS h.name).2.2 h2 k2) := by
    unfold Sh.own Sh.ownW
    simp only [hk]
    simp [bytes, Sh.kidsW, Sh.kid, Sh.stand, Sh.own]
  rw [hO] at hl ⊢
  have CO := fun W => sop_any h.name W
  clear hO
  generalize (Sh.opS h.name).2.1 = so2 at *
  generalize (Sh.opS h.name).2.2 = so3 at *
  generalize (Sh.opS h.name).1 = so1 at *
  have CO := Lib.hid CO
  have HLL := Lib.hid hl
  have g0 : (h.kind == 0) = false := by rw [hk]; rfl
  have g1 : (h.kind == 1) = false := by rw [hk]; rfl
  have g2 : (h.kind == 2) = false := by rw [hk]; rfl
  have g3 : (h.kind == 3) = false := by rw [hk]; rfl
  have g6 : (h.kind == 6) = false := by rw [hk]; rfl
  have g9 : (h.kind == 9) = false := by rw [hk]; rfl
  have g10 : (h.kind == 10) = false := by rw [hk]; rfl
  have g11 : (h.kind == 11) = false := by rw [hk]; rfl
  have g12 : (h.kind == 12) = false := by rw [hk]; rfl
  have g13 : (h.kind == 13) = false := by rw [hk]; rfl
  have g15 : (h.kind == 15) = true := by rw [hk]; rfl
  have g16 : (h.kind == 16) = false := by rw [hk]; rfl
  have HC := Lib.hid C
  have S0 := Lib.hid (OS.start h p C.size hbl)
  have CK := Lib.hid (skids_at b h p ((w.alloc (.cells #[(.func (Fn.func 8) #[] #[.pointer (some ⟨b, 0, none⟩)])] 46)).alloc (.cells #[.int .i8 h.kind, .string h.name, .string h.arg, .int .i64 h.num, .int .i8 h.tk, .slice p.TA p.tn p.tc, .int .i8 h.uk, .slice p.UA p.un p.uc, .int .i64 h.label, .int .i64 h.pos, .slice p.A p.n p.c] 28)) (w.heap.size + 2) (w.heap.size + 3) (w.heap.size + 4) (by simp) rfl rfl)
  clear hk C hbl hl
  go_enter Tryz.func22, Tryz.ntmps22
  go_wp2_with fail
  refine CK.out.mono ?_
  rintro e w9 ⟨rfl, hw9⟩
  rw [← hw9] at S0
  clear hw9 CK
  obtain ⟨x0, _, _⟩ := own1 S0.out.x1
  obtain ⟨y0, y1, y2, y3, y4, y5, y6, y7, y8, y9, y10, yl⟩ := own11 S0.out.y1
  go_wp2_with fail
  refine (CO.out w9).mono ?_
  rintro e wo ⟨rfl, hwo⟩
  rw [hwo]
  clear hwo
  have HL0 := Lib.hid (len_step HLL.out)
  have C0 := Lib.hid (show Calls Tryz.prog 63 #[.int .i64 so2, .slice (some ⟨w9.heap.size, 0, none⟩) 1 1, .pointer (some ⟨w.heap.size + 2, 0, none⟩), .pointer (some ⟨w.heap.size + 3, 0, none⟩), .pointer (some ⟨w.heap.size + 4, 0, none⟩)] (w9.alloc (.cells #[.string h.name] 9)) fun e w' => e = .returned (.tuple #[]) ∧ OS B b w w' h p (0 + 1) (Sh.puts l ((Sh.stand so2 h1 k1 ++ bytes [h.name]))) from S0.out.kidN HC.out.below K0 so2 [h.name] (by simp) HL0.out.1)
  go_wp2_with fail
  refine C0.out.mono ?_
  rintro e v1 ⟨rfl, hs⟩
  have S1 := Lib.hid hs
  clear hs x0 y0 y1 y2 y3 y4 y5 y6 y7 y8 y9 y10 yl
  obtain ⟨x0, _, _⟩ := own1 S1.out.x1
  obtain ⟨y0, y1, y2, y3, y4, y5, y6, y7, y8, y9, y10, yl⟩ := own11 S1.out.y1
  have C1 := Lib.hid (S1.out.kid0 HC.out.below K1 so3 HL0.out.2)
  go_wp2_with fail
  refine C1.out.mono ?_
  rintro e v2 ⟨rfl, hs⟩
  have S2 := Lib.hid hs
  clear hs x0 y0 y1 y2 y3 y4 y5 y6 y7 y8 y9 y10 yl
  obtain ⟨x0, _, _⟩ := own1 S2.out.x1
  obtain ⟨y0, y1, y2, y3, y4, y5, y6, y7, y8, y9, y10, yl⟩ := own11 S2.out.y1
  go_wp2_with fail
  change bodyPost _ _ _ _ _ _
  go_end0
  exact ⟨rfl, by first | exact S2.out.fin.1 | (simp only [Sh.puts_app]; simpa only [Sh.puts_app] using S2.out.fin.1), S2.out.fin.2⟩
end Go.Proofs.YtdeomggkhbdkaaaGreatDoor
namespace Go.Proofs.YtdeomggkhbdkaaaGreatDoor
open Go.RowKit


set_option maxHeartbeats 8000000 in
set_option maxRecDepth 100000 in
theorem own_16 (B b : Nat) (l : List UInt8) (w0 w : World) (h : Hd) (p : Pl) (h1 : Hd) (k1 : Tm) (q1 : Pl) (hk : h.kind = 16) (C : OwnCtx B b w0 w h p) (hty : Ty.chk h.tk h.tkids = 0) (K0 : KidAt B b w0 p 0 h1 k1 q1) (hbl : Bld B b l w) (hl : l.length + Sh.tl (Sh.own h (.node h1 k1 .nil)) ≤ 100000000) :
    Calls Tryz.prog 22 #[.agg #[(.func (Fn.func 8) #[] #[.pointer (some ⟨b, 0, none⟩)])], .agg #[.int .i8 h.kind, .string h.name, .string h.arg, .int .i64 h.num, .int .i8 h.tk, .slice p.TA p.tn p.tc, .int .i8 h.uk, .slice p.UA p.un p.uc, .int .i64 h.label, .int .i64 h.pos, .slice p.A p.n p.c]] w (Puts B b l (Sh.own h (.node h1 k1 .nil)) w) := by
  have hcf := cf_put
  have hcf2 := cf_kid
  have hO : Sh.own h (.node h1 k1 .nil) = (Sh.stand 0 h1 k1 ++ bytes [⟨#[58]⟩, ⟨(Sh.tyW h.tk h.tkids).toArray⟩]) := by
    unfold Sh.own Sh.ownW
    simp only [hk]
    simp [bytes, Sh.kidsW, Sh.kid, Sh.stand, Sh.own]
  rw [hO] at hl ⊢
  have HLL := Lib.hid hl
  have g0 : (h.kind == 0) = false := by rw [hk]; rfl
  have g1 : (h.kind == 1) = false := by rw [hk]; rfl
  have g2 : (h.kind == 2) = false := by rw [hk]; rfl
  have g3 : (h.kind == 3) = false := by rw [hk]; rfl
  have g6 : (h.kind == 6) = false := by rw [hk]; rfl
  have g9 : (h.kind == 9) = false := by rw [hk]; rfl
  have g10 : (h.kind == 10) = false := by rw [hk]; rfl
  have g11 : (h.kind == 11) = false := by rw [hk]; rfl
  have g12 : (h.kind == 12) = false := by rw [hk]; rfl
  have g13 : (h.kind == 13) = false := by rw [hk]; rfl
  have g15 : (h.kind == 15) = false := by rw [hk]; rfl
  have g16 : (h.kind == 16) = true := by rw [hk]; rfl
  have HC := Lib.hid C
  have S0 := Lib.hid (OS.start h p C.size hbl)
  have CK := Lib.hid (skids_at b h p ((w.alloc (.cells #[(.func (Fn.func 8) #[] #[.pointer (some ⟨b, 0, none⟩)])] 46)).alloc (.cells #[.int .i8 h.kind, .string h.name, .string h.arg, .int .i64 h.num, .int .i8 h.tk, .slice p.TA p.tn p.tc, .int .i8 h.uk, .slice p.UA p.un p.uc, .int .i64 h.label, .int .i64 h.pos, .slice p.A p.n p.c] 28)) (w.heap.size + 2) (w.heap.size + 3) (w.heap.size + 4) (by simp) rfl rfl)
  clear hk C hbl hl hO
  go_enter Tryz.func22, Tryz.ntmps22
  go_wp2_with fail
  refine CK.out.mono ?_
  rintro e w9 ⟨rfl, hw9⟩
  rw [← hw9] at S0
  clear hw9 CK
  obtain ⟨x0, _, _⟩ := own1 S0.out.x1
  obtain ⟨y0, y1, y2, y3, y4, y5, y6, y7, y8, y9, y10, yl⟩ := own11 S0.out.y1
  have SU := Lib.hid (fun (W : World) (hb : Below w9.heap.size w9 W) => S0.out.below hb)
  go_wp2_with fail
  refine (HC.out.typed S0.out.wz.below hty).mono ?_
  rintro e u ⟨rfl, D⟩
  have CF := Lib.hid (show Calls Tryz.prog 63 #[.int .i64 0, .slice (some ⟨u.heap.size, 0, none⟩) 2 2, .pointer (some ⟨w.heap.size + 2, 0, none⟩), .pointer (some ⟨w.heap.size + 3, 0, none⟩), .pointer (some ⟨w.heap.size + 4, 0, none⟩)] (u.alloc (.cells #[.string ⟨#[58]⟩, .string ⟨(Sh.tyW h.tk h.tkids).toArray⟩] 9)) (fun e w' => e = .returned (.tuple #[]) ∧ OS B b w w' h p (0 + 1) (Sh.puts l ((Sh.stand 0 h1 k1 ++ bytes [⟨#[58]⟩, ⟨(Sh.tyW h.tk h.tkids).toArray⟩])))) from (SU.out u D).kidN HC.out.below K0 0 [⟨#[58]⟩, ⟨(Sh.tyW h.tk h.tkids).toArray⟩] (by simp) HLL.out)
  clear D x0 y0 y1 y2 y3 y4 y5 y6 y7 y8 y9 y10 yl
  go_wp2_with fail
  refine CF.out.mono ?_
  rintro e v1 ⟨rfl, hs⟩
  have S1 := Lib.hid hs
  clear hs
  go_wp2_with fail
  change bodyPost _ _ _ _ _ _
  go_end0
  exact ⟨rfl, by first | exact S1.out.fin.1 | (simp only [Sh.puts_app]; simpa only [Sh.puts_app] using S1.out.fin.1), S1.out.fin.2⟩
end Go.Proofs.YtdeomggkhbdkaaaGreatDoor
