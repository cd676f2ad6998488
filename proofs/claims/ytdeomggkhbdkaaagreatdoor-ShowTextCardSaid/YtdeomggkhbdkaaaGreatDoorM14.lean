/-
  show: a term's own words, by its kind. gen_sh.py wrote this. show: a number's words; what is open to the right, from own; a term at a strength. gen_sh.py's kin wrote this.
-/
import Derived.Test.YtdeomggkhbdkaaaGreatDoorSh6
import Derived.Test.YtdeomggkhbdkaaaGreatDoorM13
import Derived.Test.YtdeomggkhbdkaaaGreatDoorSh9
namespace Go.Proofs.YtdeomggkhbdkaaaGreatDoor
open Go.RowKit


set_option maxHeartbeats 8000000 in
set_option maxRecDepth 100000 in
theorem open_4 (B b : Nat) (l : List UInt8) (w0 w : World) (h : Hd) (p : Pl) (h1 : Hd) (k1 : Tm) (q1 : Pl) (hk : h.kind = 4) (C : OwnCtx B b w0 w h p) (hty : Ty.chk h.tk h.tkids = 0) (K0 : KidAt B b w0 p 0 h1 k1 q1) (hbl : Bld B b l w) (hl : l.length + Sh.tl (Sh.own h (.node h1 k1 .nil)) ≤ 100000000) :
    Calls Tryz.prog 42 #[.agg #[(.func (Fn.func 8) #[] #[.pointer (some ⟨b, 0, none⟩)])], .agg #[.int .i8 h.kind, .string h.name, .string h.arg, .int .i64 h.num, .int .i8 h.tk, .slice p.TA p.tn p.tc, .int .i8 h.uk, .slice p.UA p.un p.uc, .int .i64 h.label, .int .i64 h.pos, .slice p.A p.n p.c]] w (Puts B b l (Sh.own h (.node h1 k1 .nil)) w) := by
  have hcf := cf_put
  have hcf2 := cf_kid
  have hO : Sh.own h (.node h1 k1 .nil) = bytes [⟨#[92]⟩, h.name, ⟨#[58]⟩, ⟨(Sh.tyW h.tk h.tkids).toArray⟩, ⟨#[46]⟩] ++ (Sh.stand (-1) h1 k1) := by
    unfold Sh.own Sh.ownW
    simp only [hk]
    simp [bytes, Sh.kidsW, Sh.kid, Sh.stand, Sh.own]
  rw [hO] at hl ⊢
  have HLL := Lib.hid hl
  have g4 : (h.kind == 4) = true := by rw [hk]; rfl
  have g5 : (h.kind == 5) = false := by rw [hk]; rfl
  have g7 : (h.kind == 7) = false := by rw [hk]; rfl
  have g8 : (h.kind == 8) = false := by rw [hk]; rfl
  have g14 : (h.kind == 14) = false := by rw [hk]; rfl
  have HC := Lib.hid C
  have S0 := Lib.hid (OS.start h p C.size hbl)
  have CK := Lib.hid (skids_at b h p ((w.alloc (.cells #[(.func (Fn.func 8) #[] #[.pointer (some ⟨b, 0, none⟩)])] 46)).alloc (.cells #[.int .i8 h.kind, .string h.name, .string h.arg, .int .i64 h.num, .int .i8 h.tk, .slice p.TA p.tn p.tc, .int .i8 h.uk, .slice p.UA p.un p.uc, .int .i64 h.label, .int .i64 h.pos, .slice p.A p.n p.c] 28)) (w.heap.size + 2) (w.heap.size + 3) (w.heap.size + 4) (by simp) rfl rfl)
  clear hk C hbl hl hO
  go_enter Tryz.func42, Tryz.ntmps42
  go_wp2_with fail
  refine CK.out.mono ?_
  rintro e w9 ⟨rfl, hw9⟩
  rw [← hw9] at S0
  clear hw9 CK
  obtain ⟨x0, _, _⟩ := own1 S0.out.x1
  obtain ⟨y0, y1, y2, y3, y4, y5, y6, y7, y8, y9, y10, yl⟩ := own11 S0.out.y1
  have HL0 := Lib.hid (len_step HLL.out)
  have SU := Lib.hid (fun (W : World) (hb : Below w9.heap.size w9 W) => S0.out.below hb)
  have D : Below w9.heap.size w9 w9.drew := (Below.refl _ _).drew
  go_wp2_with fail
  go_region_held3 (fun W => W.cell? ⟨w.heap.size, 0, none⟩ = some (.func (Fn.func 8) #[] #[.pointer (some ⟨b, 0, none⟩)]) ∧ W.cell? ⟨w.heap.size + 1, 0, none⟩ = some (.int .i8 h.kind) ∧ W.cell? ⟨w.heap.size + 1, 1, none⟩ = some (.string h.name) ∧ W.cell? ⟨w.heap.size + 1, 2, none⟩ = some (.string h.arg) ∧ W.cell? ⟨w.heap.size + 1, 3, none⟩ = some (.int .i64 h.num) ∧ W.cell? ⟨w.heap.size + 1, 4, none⟩ = some (.int .i8 h.tk) ∧ W.cell? ⟨w.heap.size + 1, 5, none⟩ = some (.slice p.TA p.tn p.tc) ∧ W.cell? ⟨w.heap.size + 1, 6, none⟩ = some (.int .i8 h.uk) ∧ W.cell? ⟨w.heap.size + 1, 7, none⟩ = some (.slice p.UA p.un p.uc) ∧ W.cell? ⟨w.heap.size + 1, 8, none⟩ = some (.int .i64 h.label) ∧ W.cell? ⟨w.heap.size + 1, 9, none⟩ = some (.int .i64 h.pos) ∧ W.cell? ⟨w.heap.size + 1, 10, none⟩ = some (.slice p.A p.n p.c))
    (first | exact S1.out.row | exact (SU.out _ D).row | exact ((SU.out _ D).below ((Below.refl _ _).alloc (Nat.le_refl _) _)).row)
    (first
    | (go_at_call 41; (with_reducible refine (HC.out.typed (S0.out.wz.below.trans (D.mono S0.out.size)) hty).mono ?_); rintro e u ⟨rfl, hb⟩; have D := D.trans (hb.mono D.size); have CF := Lib.hid (show Calls Tryz.prog 8 #[.slice (some ⟨u.heap.size, 0, none⟩) 5 5, .pointer (some ⟨b, 0, none⟩)] (u.alloc (.cells #[.string ⟨#[92]⟩, .string h.name, .string ⟨#[58]⟩, .string ⟨(Sh.tyW h.tk h.tkids).toArray⟩, .string ⟨#[46]⟩] 9)) (fun e w' => e = .returned (.tuple #[]) ∧ OS B b w w' h p 0 (Sh.puts l (bytes [⟨#[92]⟩, h.name, ⟨#[58]⟩, ⟨(Sh.tyW h.tk h.tkids).toArray⟩, ⟨#[46]⟩]))) from (SU.out u D).put [⟨#[92]⟩, h.name, ⟨#[58]⟩, ⟨(Sh.tyW h.tk h.tkids).toArray⟩, ⟨#[46]⟩] (by simp) HL0.out.1); clear hb)
    | (go_at_call 8; (with_reducible refine CF.out.mono ?_); rintro e v1 ⟨rfl, hs⟩; have S1 := Lib.hid hs; clear hs))
  all_goals
    obtain ⟨x0, _, _⟩ := own1 S1.out.x1
    obtain ⟨y0, y1, y2, y3, y4, y5, y6, y7, y8, y9, y10, yl⟩ := own11 S1.out.y1
    have C1 := Lib.hid (S1.out.kid0 HC.out.below K0 (-1) HL0.out.2)
    go_wp2_with fail
    refine C1.out.mono ?_
    rintro e v2 ⟨rfl, hs⟩
    have S2 := Lib.hid hs
    clear hs x0 y0 y1 y2 y3 y4 y5 y6 y7 y8 y9 y10 yl
    obtain ⟨x0, _, _⟩ := own1 S2.out.x1
    obtain ⟨y0, y1, y2, y3, y4, y5, y6, y7, y8, y9, y10, yl⟩ := own11 S2.out.y1
    go_wp2_with fail
    change bodyPost _ _ _ _ _ _
    go_end0
    exact ⟨rfl, by first | exact S2.out.fin.1 | (simp only [Sh.puts_app]; simpa only [Sh.puts_app] using S2.out.fin.1), S2.out.fin.2⟩

set_option maxHeartbeats 8000000 in
set_option maxRecDepth 100000 in
theorem open_5 (B b : Nat) (l : List UInt8) (w0 w : World) (h : Hd) (p : Pl) (h1 : Hd) (k1 : Tm) (q1 : Pl) (hk : h.kind = 5) (C : OwnCtx B b w0 w h p) (hty : Ty.chk h.tk h.tkids = 0) (hto : Ty.chk h.uk h.ukids = 0) (K0 : KidAt B b w0 p 0 h1 k1 q1) (hbl : Bld B b l w) (hl : l.length + Sh.tl (Sh.own h (.node h1 k1 .nil)) ≤ 100000000) :
    Calls Tryz.prog 42 #[.agg #[(.func (Fn.func 8) #[] #[.pointer (some ⟨b, 0, none⟩)])], .agg #[.int .i8 h.kind, .string h.name, .string h.arg, .int .i64 h.num, .int .i8 h.tk, .slice p.TA p.tn p.tc, .int .i8 h.uk, .slice p.UA p.un p.uc, .int .i64 h.label, .int .i64 h.pos, .slice p.A p.n p.c]] w (Puts B b l (Sh.own h (.node h1 k1 .nil)) w) := by
  have hcf := cf_put
  have hcf2 := cf_kid
  have hO : Sh.own h (.node h1 k1 .nil) = bytes [⟨#[114, 101, 99]⟩, h.name, ⟨#[40]⟩, h.arg, ⟨#[58]⟩, ⟨(Sh.tyW h.tk h.tkids).toArray⟩, ⟨#[41]⟩, ⟨#[58]⟩, ⟨(Sh.tyW h.uk h.ukids).toArray⟩, ⟨#[46]⟩] ++ (Sh.stand (-1) h1 k1) := by
    unfold Sh.own Sh.ownW
    simp only [hk]
    simp [bytes, Sh.kidsW, Sh.kid, Sh.stand, Sh.own]
  rw [hO] at hl ⊢
  have HLL := Lib.hid hl
  have g4 : (h.kind == 4) = false := by rw [hk]; rfl
  have g5 : (h.kind == 5) = true := by rw [hk]; rfl
  have g7 : (h.kind == 7) = false := by rw [hk]; rfl
  have g8 : (h.kind == 8) = false := by rw [hk]; rfl
  have g14 : (h.kind == 14) = false := by rw [hk]; rfl
  have HC := Lib.hid C
  have S0 := Lib.hid (OS.start h p C.size hbl)
  have CK := Lib.hid (skids_at b h p ((w.alloc (.cells #[(.func (Fn.func 8) #[] #[.pointer (some ⟨b, 0, none⟩)])] 46)).alloc (.cells #[.int .i8 h.kind, .string h.name, .string h.arg, .int .i64 h.num, .int .i8 h.tk, .slice p.TA p.tn p.tc, .int .i8 h.uk, .slice p.UA p.un p.uc, .int .i64 h.label, .int .i64 h.pos, .slice p.A p.n p.c] 28)) (w.heap.size + 2) (w.heap.size + 3) (w.heap.size + 4) (by simp) rfl rfl)
  clear hk C hbl hl hO
  go_enter Tryz.func42, Tryz.ntmps42
  go_wp2_with fail
  refine CK.out.mono ?_
  rintro e w9 ⟨rfl, hw9⟩
  rw [← hw9] at S0
  clear hw9 CK
  obtain ⟨x0, _, _⟩ := own1 S0.out.x1
  obtain ⟨y0, y1, y2, y3, y4, y5, y6, y7, y8, y9, y10, yl⟩ := own11 S0.out.y1
  have HL0 := Lib.hid (len_step HLL.out)
  have SU := Lib.hid (fun (W : World) (hb : Below w9.heap.size w9 W) => S0.out.below hb)
  have D : Below w9.heap.size w9 w9.drew := (Below.refl _ _).drew
  go_wp2_with fail
  go_region_held3 (fun W => W.cell? ⟨w.heap.size, 0, none⟩ = some (.func (Fn.func 8) #[] #[.pointer (some ⟨b, 0, none⟩)]) ∧ W.cell? ⟨w.heap.size + 1, 0, none⟩ = some (.int .i8 h.kind) ∧ W.cell? ⟨w.heap.size + 1, 1, none⟩ = some (.string h.name) ∧ W.cell? ⟨w.heap.size + 1, 2, none⟩ = some (.string h.arg) ∧ W.cell? ⟨w.heap.size + 1, 3, none⟩ = some (.int .i64 h.num) ∧ W.cell? ⟨w.heap.size + 1, 4, none⟩ = some (.int .i8 h.tk) ∧ W.cell? ⟨w.heap.size + 1, 5, none⟩ = some (.slice p.TA p.tn p.tc) ∧ W.cell? ⟨w.heap.size + 1, 6, none⟩ = some (.int .i8 h.uk) ∧ W.cell? ⟨w.heap.size + 1, 7, none⟩ = some (.slice p.UA p.un p.uc) ∧ W.cell? ⟨w.heap.size + 1, 8, none⟩ = some (.int .i64 h.label) ∧ W.cell? ⟨w.heap.size + 1, 9, none⟩ = some (.int .i64 h.pos) ∧ W.cell? ⟨w.heap.size + 1, 10, none⟩ = some (.slice p.A p.n p.c))
    (first | exact S1.out.row | exact (SU.out _ D).row | exact ((SU.out _ D).below ((Below.refl _ _).alloc (Nat.le_refl _) _)).row)
    (first
    | (go_at_call 41; (with_reducible refine (HC.out.typed (S0.out.wz.below.trans (D.mono S0.out.size)) hty).mono ?_); rintro e u ⟨rfl, hb⟩; have D := D.trans (hb.mono D.size); have CF := Lib.hid (show Calls Tryz.prog 8 #[.slice (some ⟨u.heap.size, 0, none⟩) 10 10, .pointer (some ⟨b, 0, none⟩)] (u.alloc (.cells #[.string ⟨#[114, 101, 99]⟩, .string h.name, .string ⟨#[40]⟩, .string h.arg, .string ⟨#[58]⟩, .string ⟨(Sh.tyW h.tk h.tkids).toArray⟩, .string ⟨#[41]⟩, .string ⟨#[58]⟩, .string ⟨(Sh.tyW h.uk h.ukids).toArray⟩, .string ⟨#[46]⟩] 9)) (fun e w' => e = .returned (.tuple #[]) ∧ OS B b w w' h p 0 (Sh.puts l (bytes [⟨#[114, 101, 99]⟩, h.name, ⟨#[40]⟩, h.arg, ⟨#[58]⟩, ⟨(Sh.tyW h.tk h.tkids).toArray⟩, ⟨#[41]⟩, ⟨#[58]⟩, ⟨(Sh.tyW h.uk h.ukids).toArray⟩, ⟨#[46]⟩]))) from (SU.out u D).put [⟨#[114, 101, 99]⟩, h.name, ⟨#[40]⟩, h.arg, ⟨#[58]⟩, ⟨(Sh.tyW h.tk h.tkids).toArray⟩, ⟨#[41]⟩, ⟨#[58]⟩, ⟨(Sh.tyW h.uk h.ukids).toArray⟩, ⟨#[46]⟩] (by simp) HL0.out.1); clear hb)
    | (go_at_call 41; (with_reducible refine (HC.out.totyped (S0.out.wz.below.trans (D.mono S0.out.size)) hto).mono ?_); rintro e u ⟨rfl, hb⟩; have D := D.trans (hb.mono D.size); have CF := Lib.hid (show Calls Tryz.prog 8 #[.slice (some ⟨u.heap.size, 0, none⟩) 10 10, .pointer (some ⟨b, 0, none⟩)] (u.alloc (.cells #[.string ⟨#[114, 101, 99]⟩, .string h.name, .string ⟨#[40]⟩, .string h.arg, .string ⟨#[58]⟩, .string ⟨(Sh.tyW h.tk h.tkids).toArray⟩, .string ⟨#[41]⟩, .string ⟨#[58]⟩, .string ⟨(Sh.tyW h.uk h.ukids).toArray⟩, .string ⟨#[46]⟩] 9)) (fun e w' => e = .returned (.tuple #[]) ∧ OS B b w w' h p 0 (Sh.puts l (bytes [⟨#[114, 101, 99]⟩, h.name, ⟨#[40]⟩, h.arg, ⟨#[58]⟩, ⟨(Sh.tyW h.tk h.tkids).toArray⟩, ⟨#[41]⟩, ⟨#[58]⟩, ⟨(Sh.tyW h.uk h.ukids).toArray⟩, ⟨#[46]⟩]))) from (SU.out u D).put [⟨#[114, 101, 99]⟩, h.name, ⟨#[40]⟩, h.arg, ⟨#[58]⟩, ⟨(Sh.tyW h.tk h.tkids).toArray⟩, ⟨#[41]⟩, ⟨#[58]⟩, ⟨(Sh.tyW h.uk h.ukids).toArray⟩, ⟨#[46]⟩] (by simp) HL0.out.1); clear hb)
    | (go_at_call 8; (with_reducible refine CF.out.mono ?_); rintro e v1 ⟨rfl, hs⟩; have S1 := Lib.hid hs; clear hs))
  all_goals
    obtain ⟨x0, _, _⟩ := own1 S1.out.x1
    obtain ⟨y0, y1, y2, y3, y4, y5, y6, y7, y8, y9, y10, yl⟩ := own11 S1.out.y1
    have C1 := Lib.hid (S1.out.kid0 HC.out.below K0 (-1) HL0.out.2)
    go_wp2_with fail
    refine C1.out.mono ?_
    rintro e v2 ⟨rfl, hs⟩
    have S2 := Lib.hid hs
    clear hs x0 y0 y1 y2 y3 y4 y5 y6 y7 y8 y9 y10 yl
    obtain ⟨x0, _, _⟩ := own1 S2.out.x1
    obtain ⟨y0, y1, y2, y3, y4, y5, y6, y7, y8, y9, y10, yl⟩ := own11 S2.out.y1
    go_wp2_with fail
    change bodyPost _ _ _ _ _ _
    go_end0
    exact ⟨rfl, by first | exact S2.out.fin.1 | (simp only [Sh.puts_app]; simpa only [Sh.puts_app] using S2.out.fin.1), S2.out.fin.2⟩
end Go.Proofs.YtdeomggkhbdkaaaGreatDoor
namespace Go.Proofs.YtdeomggkhbdkaaaGreatDoor
open Go.RowKit

set_option maxHeartbeats 8000000 in
set_option maxRecDepth 100000 in
theorem own_1 (B b : Nat) (l : List UInt8) (w0 w : World) (h : Hd) (p : Pl) (hk : h.kind = 1) (C : OwnCtx B b w0 w h p) (h0 : -9223372036854775808 < h.num) (h1 : h.num ≤ 9223372036854775807) (ht : Tens w0) (hbl : Bld B b l w) (hl : l.length + Sh.tl (Sh.own h .nil) ≤ 100000000) :
    Calls Tryz.prog 22 #[.agg #[(.func (Fn.func 8) #[] #[.pointer (some ⟨b, 0, none⟩)])], .agg #[.int .i8 h.kind, .string h.name, .string h.arg, .int .i64 h.num, .int .i8 h.tk, .slice p.TA p.tn p.tc, .int .i8 h.uk, .slice p.UA p.un p.uc, .int .i64 h.label, .int .i64 h.pos, .slice p.A p.n p.c]] w (Puts B b l (Sh.own h .nil) w) := by
  have hcf := cf_put
  have hO : Sh.own h .nil = Sh.numW h.num := by unfold Sh.own Sh.ownW; simp [hk]
  rw [hO] at hl ⊢
  have g0 : (h.kind == 0) = false := by rw [hk]; rfl
  have g1 : (h.kind == 1) = true := by rw [hk]; rfl
  have g2 : (h.kind == 2) = false := by rw [hk]; rfl
  have g3 : (h.kind == 3) = false := by rw [hk]; rfl
  have g6 : (h.kind == 6) = false := by rw [hk]; rfl
  have g9 : (h.kind == 9) = false := by rw [hk]; rfl
  have g10 : (h.kind == 10) = false := by rw [hk]; rfl
  have g11 : (h.kind == 11) = false := by rw [hk]; rfl
  have g12 : (h.kind == 12) = false := by rw [hk]; rfl
  have g13 : (h.kind == 13) = false := by rw [hk]; rfl
  have g15 : (h.kind == 15) = false := by rw [hk]; rfl
  have g16 : (h.kind == 16) = false := by rw [hk]; rfl
  have HT := Lib.hid (fun (W : World) (hb : Below B w W) => show Tens W by have h2 := C.below.trans hb; rw [C.eq] at h2; exact ht.below h2)
  have S0 := Lib.hid (OS.start h p C.size hbl)
  have CK := Lib.hid (skids_at b h p ((w.alloc (.cells #[(.func (Fn.func 8) #[] #[.pointer (some ⟨b, 0, none⟩)])] 46)).alloc (.cells #[.int .i8 h.kind, .string h.name, .string h.arg, .int .i64 h.num, .int .i8 h.tk, .slice p.TA p.tn p.tc, .int .i8 h.uk, .slice p.UA p.un p.uc, .int .i64 h.label, .int .i64 h.pos, .slice p.A p.n p.c] 28)) (w.heap.size + 2) (w.heap.size + 3) (w.heap.size + 4) (by simp) rfl rfl)
  have HL := Lib.hid hl
  clear hk C hbl hl hO
  go_enter Tryz.func22, Tryz.ntmps22
  go_wp2_with fail
  refine CK.out.mono ?_
  rintro e w9 ⟨rfl, hw9⟩
  rw [← hw9] at S0
  clear hw9 CK
  have CN := Lib.hid (snum_any B b l h.num h0 h1 w9 S0.out.bld S0.out.size (fun W hb => HT.out W (S0.out.wz.below.trans hb)) (by have := HL.out; omega))
  obtain ⟨x0, _, _⟩ := own1 S0.out.x1
  obtain ⟨y0, y1, y2, y3, y4, y5, y6, y7, y8, y9, y10, yl⟩ := own11 S0.out.y1
  clear h0 h1
  go_wp2_with fail
  refine CN.out.mono ?_
  rintro e v ⟨rfl, hb, hw⟩
  have HF := Lib.hid (S0.out.wrote hb hw).fin
  go_wp2_with fail
  change bodyPost _ _ _ _ _ _
  go_end0
  exact ⟨rfl, HF.out.1, HF.out.2⟩

set_option maxHeartbeats 8000000 in
set_option maxRecDepth 100000 in
theorem own_open (B b : Nat) (l : List UInt8) (w0 w : World) (h : Hd) (p : Pl) (ws : List (List UInt8)) (hk : h.kind = 4 ∨ h.kind = 5 ∨ h.kind = 7 ∨ h.kind = 8 ∨ h.kind = 14) (C : OwnCtx B b w0 w h p) (hbl : Bld B b l w)
    (hop : ∀ W : World, OwnCtx B b w0 W h p → Below B w W → Bld B b l W → Calls Tryz.prog 42 #[.agg #[(.func (Fn.func 8) #[] #[.pointer (some ⟨b, 0, none⟩)])], .agg #[.int .i8 h.kind, .string h.name, .string h.arg, .int .i64 h.num, .int .i8 h.tk, .slice p.TA p.tn p.tc, .int .i8 h.uk, .slice p.UA p.un p.uc, .int .i64 h.label, .int .i64 h.pos, .slice p.A p.n p.c]] W (Puts B b l ws W)) :
    Calls Tryz.prog 22 #[.agg #[(.func (Fn.func 8) #[] #[.pointer (some ⟨b, 0, none⟩)])], .agg #[.int .i8 h.kind, .string h.name, .string h.arg, .int .i64 h.num, .int .i8 h.tk, .slice p.TA p.tn p.tc, .int .i8 h.uk, .slice p.UA p.un p.uc, .int .i64 h.label, .int .i64 h.pos, .slice p.A p.n p.c]] w (Puts B b l ws w) := by
  have hcf := cf_put
  have g0 : (h.kind == 0) = false := by rcases hk with hk | hk | hk | hk | hk <;> rw [hk] <;> rfl
  have g1 : (h.kind == 1) = false := by rcases hk with hk | hk | hk | hk | hk <;> rw [hk] <;> rfl
  have g2 : (h.kind == 2) = false := by rcases hk with hk | hk | hk | hk | hk <;> rw [hk] <;> rfl
  have g3 : (h.kind == 3) = false := by rcases hk with hk | hk | hk | hk | hk <;> rw [hk] <;> rfl
  have g6 : (h.kind == 6) = false := by rcases hk with hk | hk | hk | hk | hk <;> rw [hk] <;> rfl
  have g9 : (h.kind == 9) = false := by rcases hk with hk | hk | hk | hk | hk <;> rw [hk] <;> rfl
  have g10 : (h.kind == 10) = false := by rcases hk with hk | hk | hk | hk | hk <;> rw [hk] <;> rfl
  have g11 : (h.kind == 11) = false := by rcases hk with hk | hk | hk | hk | hk <;> rw [hk] <;> rfl
  have g12 : (h.kind == 12) = false := by rcases hk with hk | hk | hk | hk | hk <;> rw [hk] <;> rfl
  have g13 : (h.kind == 13) = false := by rcases hk with hk | hk | hk | hk | hk <;> rw [hk] <;> rfl
  have g15 : (h.kind == 15) = false := by rcases hk with hk | hk | hk | hk | hk <;> rw [hk] <;> rfl
  have g16 : (h.kind == 16) = false := by rcases hk with hk | hk | hk | hk | hk <;> rw [hk] <;> rfl
  have S0 := Lib.hid (OS.start h p C.size hbl)
  have CK := Lib.hid (skids_at b h p ((w.alloc (.cells #[(.func (Fn.func 8) #[] #[.pointer (some ⟨b, 0, none⟩)])] 46)).alloc (.cells #[.int .i8 h.kind, .string h.name, .string h.arg, .int .i64 h.num, .int .i8 h.tk, .slice p.TA p.tn p.tc, .int .i8 h.uk, .slice p.UA p.un p.uc, .int .i64 h.label, .int .i64 h.pos, .slice p.A p.n p.c] 28)) (w.heap.size + 2) (w.heap.size + 3) (w.heap.size + 4) (by simp) rfl rfl)
  have HC := Lib.hid C
  have HP := Lib.hid hop
  clear hk C hbl hop
  go_enter Tryz.func22, Tryz.ntmps22
  go_wp2_with fail
  refine CK.out.mono ?_
  rintro e w9 ⟨rfl, hw9⟩
  rw [← hw9] at S0
  clear hw9 CK
  have CN := Lib.hid (HP.out w9 ⟨HC.out.eq, HC.out.below.trans S0.out.wz.below, HC.out.ty, HC.out.tu, HC.out.shapes, S0.out.size⟩ S0.out.wz.below S0.out.bld)
  obtain ⟨x0, _, _⟩ := own1 S0.out.x1
  obtain ⟨y0, y1, y2, y3, y4, y5, y6, y7, y8, y9, y10, yl⟩ := own11 S0.out.y1
  go_wp2_with fail
  refine CN.out.mono ?_
  rintro e v ⟨rfl, hb, hw⟩
  have HF := Lib.hid (S0.out.wrote hb hw).fin
  go_wp2_with fail
  change bodyPost _ _ _ _ _ _
  go_end0
  exact ⟨rfl, HF.out.1, HF.out.2⟩

set_option maxHeartbeats 8000000 in
set_option maxRecDepth 100000 in
theorem stand_of (B b : Nat) (w0 : World) (h : Hd) (kids : Tm) (p : Pl) (hk : 0 ≤ h.kind ∧ h.kind ≤ 16)
    (ho : ∀ (l : List UInt8) (W : World), Below B w0 W → B ≤ W.heap.size → Bld B b l W → l.length + Sh.tl (Sh.own h kids) ≤ 100000000 → Calls Tryz.prog 22 #[.agg #[(.func (Fn.func 8) #[] #[.pointer (some ⟨b, 0, none⟩)])], .agg #[.int .i8 h.kind, .string h.name, .string h.arg, .int .i64 h.num, .int .i8 h.tk, .slice p.TA p.tn p.tc, .int .i8 h.uk, .slice p.UA p.un p.uc, .int .i64 h.label, .int .i64 h.pos, .slice p.A p.n p.c]] W (Puts B b l (Sh.own h kids) W)) : StandOK B b w0 h kids p := by
  intro k l W hb0 hB hbl hl
  have hcf := cf_put
  obtain ⟨r0, r1, r2⟩ := two_new W (.cells #[(.func (Fn.func 8) #[] #[.pointer (some ⟨b, 0, none⟩)])] 46) (.cells #[.int .i8 h.kind, .string h.name, .string h.arg, .int .i64 h.num, .int .i8 h.tk, .slice p.TA p.tn p.tc, .int .i8 h.uk, .slice p.UA p.un p.uc, .int .i64 h.label, .int .i64 h.pos, .slice p.A p.n p.c] 28)
  have hb1 : Below W.heap.size W ((W.alloc (.cells #[(.func (Fn.func 8) #[] #[.pointer (some ⟨b, 0, none⟩)])] 46)).alloc (.cells #[.int .i8 h.kind, .string h.name, .string h.arg, .int .i64 h.num, .int .i8 h.tk, .slice p.TA p.tn p.tc, .int .i8 h.uk, .slice p.UA p.un p.uc, .int .i64 h.label, .int .i64 h.pos, .slice p.A p.n p.c] 28)) := ((Below.refl _ _).alloc (Nat.le_refl _) _).alloc (by simp) _
  have hlt := hbl.lt.2
  generalize hw1 : (W.alloc (.cells #[(.func (Fn.func 8) #[] #[.pointer (some ⟨b, 0, none⟩)])] 46)).alloc (.cells #[.int .i8 h.kind, .string h.name, .string h.arg, .int .i64 h.num, .int .i8 h.tk, .slice p.TA p.tn p.tc, .int .i8 h.uk, .slice p.UA p.un p.uc, .int .i64 h.label, .int .i64 h.pos, .slice p.A p.n p.c] 28) = w1 at *
  have HW := Lib.hid hw1
  have HX := Lib.hid r0
  have HY := Lib.hid r1
  have HB1 := Lib.hid hb1
  have HBL := Lib.hid (hbl.low hb1)
  have HLT := Lib.hid hlt
  have HO := Lib.hid ho
  have HBB := Lib.hid hB
  have HB0 := Lib.hid hb0
  have CS := Lib.hid (sst_any h p w1 hk)
  obtain ⟨x0, _, _⟩ := own1 r0
  obtain ⟨y0, y1, y2, y3, y4, y5, y6, y7, y8, y9, y10, yl⟩ := own11 r1
  by_cases hge : k ≤ Sh.st h
  · have e1 : Sh.stand k h kids = Sh.own h kids := by unfold Sh.stand Sh.atW; rw [if_pos hge]
    rw [e1] at hl ⊢
    have hd : decide (k ≤ Sh.st h) = true := by simpa using hge
    have HL := Lib.hid hl
    generalize Sh.st h = s at *
    clear r0 r1 r2 hb1 hlt hw1 ho hB hb0 hbl hl e1 hk hge
    go_enter Tryz.func11, Tryz.ntmps11
    go_upto_region 1 with fail
    rw [HW.out]
    go_wp2_with fail
    refine CS.out.mono ?_
    rintro e u ⟨rfl, hb⟩
    have HBU := Lib.hid (HB1.out.trans (hb.mono HB1.out.size))
    have CO := Lib.hid (HO.out l u (HB0.out.trans (HBU.out.mono HBB.out)) (Nat.le_trans HBB.out HBU.out.size) (HBL.out.low hb) HL.out)
    have HXu := Lib.hid (heap_below hb (heap_lt HX.out) HX.out)
    have HYu := Lib.hid (heap_below hb (heap_lt HY.out) HY.out)
    clear hb x0 y0 y1 y2 y3 y4 y5 y6 y7 y8 y9 y10 yl
    obtain ⟨x0, _, _⟩ := own1 HXu.out
    obtain ⟨y0, y1, y2, y3, y4, y5, y6, y7, y8, y9, y10, yl⟩ := own11 HYu.out
    go_wp2_with fail
    refine CO.out.mono ?_
    rintro e v ⟨rfl, hb, hw⟩
    have HF := Lib.hid (And.intro hb ((Wrote.low HBU.out HBB.out).trans hw))
    clear hb hw
    go_wp2_with fail
    change bodyPost _ _ _ _ _ _
    go_end0
    exact ⟨rfl, HF.out.1, HF.out.2⟩
  · have e1 : Sh.stand k h kids = bytes [⟨#[40]⟩] ++ (Sh.own h kids ++ bytes [⟨#[41]⟩]) := by unfold Sh.stand Sh.atW; rw [if_neg hge]; rfl
    rw [e1] at hl ⊢
    have hd : decide (k ≤ Sh.st h) = false := by simpa using hge
    have hl1 := len_step hl
    have hl2 := len_step hl1.2
    have HL := Lib.hid (And.intro hl1.1 hl2)
    generalize Sh.st h = s at *
    clear r0 r1 r2 hb1 hlt hw1 ho hB hb0 hbl hl e1 hk hge hl1 hl2
    go_enter Tryz.func11, Tryz.ntmps11
    go_upto_region 1 with fail
    rw [HW.out]
    go_wp2_with fail
    refine CS.out.mono ?_
    rintro e u ⟨rfl, hb⟩
    have HBU := Lib.hid (HB1.out.trans (hb.mono HB1.out.size))
    have HWU := Lib.hid (Wrote.low (b := b) HBU.out HBB.out)
    have C1 := Lib.hid (show Calls Tryz.prog 8 #[.slice (some ⟨u.heap.size, 0, none⟩) 1 1, .pointer (some ⟨b, 0, none⟩)] (u.alloc (.cells #[.string ⟨#[40]⟩] 9)) (Puts B b l (bytes [⟨#[40]⟩]) u) from put_new B b l [⟨#[40]⟩] 1 u (HBL.out.low hb) (Nat.le_trans HBB.out HBU.out.size) (by simp) (by have := HL.out.1; omega))
    have HXu := Lib.hid (heap_below hb (heap_lt HX.out) HX.out)
    have HYu := Lib.hid (heap_below hb (heap_lt HY.out) HY.out)
    clear hb x0 y0 y1 y2 y3 y4 y5 y6 y7 y8 y9 y10 yl
    obtain ⟨x0, _, _⟩ := own1 HXu.out
    go_wp2_with fail
    refine C1.out.mono ?_
    rintro e v ⟨rfl, hb, hw⟩
    have HWV := Lib.hid (HWU.out.trans hw)
    have CO := Lib.hid (HO.out _ v (HB0.out.trans HWV.out.below) (Nat.le_trans HBB.out HWV.out.below.size) hb HL.out.2.1)
    have HXv := Lib.hid (hw.box HXu.out (by have := HLT.out; omega) (by decide))
    have HYv := Lib.hid (hw.box HYu.out (by have := HLT.out; omega) (by decide))
    clear hb hw x0
    obtain ⟨x0, _, _⟩ := own1 HXv.out
    obtain ⟨y0, y1, y2, y3, y4, y5, y6, y7, y8, y9, y10, yl⟩ := own11 HYv.out
    go_wp2_with fail
    refine CO.out.mono ?_
    rintro e z ⟨rfl, hb, hw⟩
    have HWZ := Lib.hid (HWV.out.trans hw)
    have C2 := Lib.hid (show Calls Tryz.prog 8 #[.slice (some ⟨z.heap.size, 0, none⟩) 1 1, .pointer (some ⟨b, 0, none⟩)] (z.alloc (.cells #[.string ⟨#[41]⟩] 9)) (Puts B b (Sh.puts (Sh.puts l (bytes [⟨#[40]⟩])) (Sh.own h kids)) (bytes [⟨#[41]⟩]) z) from put_new B b _ [⟨#[41]⟩] 1 z hb (Nat.le_trans HBB.out HWZ.out.below.size) (by simp) (by have := HL.out.2.2; omega))
    have HXz := Lib.hid (hw.box HXv.out (by have := HLT.out; omega) (by decide))
    clear hb hw x0 y0 y1 y2 y3 y4 y5 y6 y7 y8 y9 y10 yl
    obtain ⟨x0, _, _⟩ := own1 HXz.out
    go_wp2_with fail
    refine C2.out.mono ?_
    rintro e z2 ⟨rfl, hb, hw⟩
    have HF := Lib.hid (And.intro hb (HWZ.out.trans hw))
    clear hb hw
    go_wp2_with fail
    change bodyPost _ _ _ _ _ _
    go_end0
    exact ⟨rfl, by simp only [Sh.puts_app]; exact HF.out.1, HF.out.2⟩
end Go.Proofs.YtdeomggkhbdkaaaGreatDoor
