/-
  terms.typesOf: the types of a term that count.
-/
import Derived.Test.YtfkbdpehdabepaaGreatDoorM2
namespace Go.Proofs.YtfkbdpehdabepaaGreatDoor
open Go.RowKit

theorem info_Type : (Tryz.prog.info? 25).map (fun i => (i.zero, i.size, i.bytes)) = some (some (.agg #[.int .i8 0, .slice none 0 0]), 2, 32) := by kernel_rfl

/-- what typesOf leaves: the list of the types that count -/
def TysPost (w : World) (h : Hd) (e : Ending) (w' : World) : Prop :=
  ∃ A n c, e = .returned (.slice A n c) ∧ Ty.Lies w' (Tm.tys h) A 0 ∧ n = Ty.len (Tm.tys h) ∧ n ≤ c ∧ c ≤ maxLen ∧ Below w.heap.size w w'

theorem Tm.lies_t1 {w : World} {g : Nat} {k : Int} {kids : Fo} {A : Option Addr} {n c : Nat} (h0 : w.cell? ⟨g, 0, none⟩ = some (.int .i8 k)) (h1 : w.cell? ⟨g, 1, none⟩ = some (.slice A n c)) (h : Ty.Is w k kids A n c) :
    Ty.Lies w (.node 0 0 k kids .nil) (some ⟨g, 0, none⟩) 0 :=
  ⟨g, 0, A, c, rfl, ⟨h.lo, h.hi⟩, h0, by rw [← h.n_eq]; exact h1, by rw [← h.n_eq]; exact h.n_le, h.c_le, h.lies, trivial⟩
theorem Tm.lies_t2 {w : World} {g : Nat} {k k2 : Int} {kids kids2 : Fo} {A A2 : Option Addr} {n c n2 c2 : Nat} (h0 : w.cell? ⟨g, 0, none⟩ = some (.int .i8 k)) (h1 : w.cell? ⟨g, 1, none⟩ = some (.slice A n c)) (h : Ty.Is w k kids A n c)
    (h2 : w.cell? ⟨g, 2, none⟩ = some (.int .i8 k2)) (h3 : w.cell? ⟨g, 3, none⟩ = some (.slice A2 n2 c2)) (h' : Ty.Is w k2 kids2 A2 n2 c2) :
    Ty.Lies w (.node 0 0 k kids (.node 0 0 k2 kids2 .nil)) (some ⟨g, 0, none⟩) 0 :=
  ⟨g, 0, A, c, rfl, ⟨h.lo, h.hi⟩, h0, by rw [← h.n_eq]; exact h1, by rw [← h.n_eq]; exact h.n_le, h.c_le, h.lies, g, 0, A2, c2, rfl, ⟨h'.lo, h'.hi⟩, h2, by rw [← h'.n_eq]; exact h3, by rw [← h'.n_eq]; exact h'.n_le, h'.c_le, h'.lies, trivial⟩

set_option maxHeartbeats 2000000 in
set_option maxRecDepth 100000 in
theorem typesOf_any (h : Hd) (n0 : Nat) (p : Pl) (w : World) (hF : Tm.Fit w h p n0) (hS : TShapes w) :
    Calls Tryz.prog 88 #[.agg #[.int .i8 h.kind, .string h.name, .string h.arg, .int .i64 h.num, .int .i8 h.tk, .slice p.TA p.tn p.tc, .int .i8 h.uk, .slice p.UA p.un p.uc, .int .i64 h.label, .int .i64 h.pos, .slice p.A p.n p.c]] w (TysPost w h) := by
  have hB0 : Below w.heap.size w (w.alloc (.cells #[.int .i8 h.kind, .string h.name, .string h.arg, .int .i64 h.num, .int .i8 h.tk, .slice p.TA p.tn p.tc, .int .i8 h.uk, .slice p.UA p.un p.uc, .int .i64 h.label, .int .i64 h.pos, .slice p.A p.n p.c] 28)) := (Below.refl _ _).alloc (Nat.le_refl _) _
  have hsh := shapeOf_any h.kind (w.alloc (.cells #[.int .i8 h.kind, .string h.name, .string h.arg, .int .i64 h.num, .int .i8 h.tk, .slice p.TA p.tn p.tc, .int .i8 h.uk, .slice p.UA p.un p.uc, .int .i64 h.label, .int .i64 h.pos, .slice p.A p.n p.c] 28)) hF.klo hF.khi (hS.below hB0)
  have HTY := Lib.hid (fun (W : World) (hb : Below w.heap.size w W) => (hF.ty.below hb))
  have HTO := Lib.hid (fun (W : World) (hb : Below w.heap.size w W) => (hF.to.below hb))
  have HN := Lib.hid (heap_new w (.cells #[.int .i8 h.kind, .string h.name, .string h.arg, .int .i64 h.num, .int .i8 h.tk, .slice p.TA p.tn p.tc, .int .i8 h.uk, .slice p.UA p.un p.uc, .int .i64 h.label, .int .i64 h.pos, .slice p.A p.n p.c] 28))
  generalize Tm.hasName h.kind = b0 at hsh
  generalize Tm.hasArg h.kind = b1 at hsh
  generalize Tm.hasNum h.kind = b2 at hsh
  generalize Tm.hasLabel h.kind = b5 at hsh
  generalize Tm.kidsN h.kind = kn at hsh
  generalize Tm.isKind h.kind = ik at hsh
  cases ht : Tm.hasType h.kind
  · have hu : Tm.hasTo h.kind = false := by
      cases hq : Tm.hasTo h.kind
      · rfl
      · rw [Tm.hasTo_type hq] at ht; cases ht
    have e1 : Tm.tys h = .nil := by unfold Tm.tys; rw [ht]; rfl
    rw [ht, hu] at hsh
    unfold TysPost
    rw [e1]
    have HS := Lib.hid hsh
    clear hsh hF hS e1 ht hu HTY HTO
    obtain ⟨k, nm, ar, nu, tk, tks, uk, uks, lb, ps⟩ := h
    obtain ⟨TA, tn, tc, UA, un, uc, A, n, c⟩ := p
    dsimp only at *
    go_enter Tryz.func88, Tryz.ntmps88
    obtain ⟨q0, q1, q2, q3, q4, q5, q6, q7, q8, q9, q10, ql⟩ := own11 HN.out
    go_wp2_with fail
    refine HS.out.mono ?_
    rintro e w2 ⟨rfl, hb⟩
    go_wp2_with fail
    go_ret
    exact ⟨none, 0, 0, rfl, trivial, rfl, Nat.le_refl _, Nat.zero_le _, (hB0.trans (hb.mono hB0.size)).alloc (by have := hb.size; simp at this; omega) _⟩
  · cases hu : Tm.hasTo h.kind
    · rw [ht, hu] at hsh
      have e1 : Tm.tys h = .node 0 0 h.tk h.tkids .nil := by unfold Tm.tys; rw [ht, hu]; rfl
      unfold TysPost
      rw [e1]
      have HS := Lib.hid hsh
      clear hsh hF hS e1 ht hu
      obtain ⟨k, nm, ar, nu, tk, tks, uk, uks, lb, ps⟩ := h
      obtain ⟨TA, tn, tc, UA, un, uc, A, n, c⟩ := p
      dsimp only at *
      obtain ⟨i0, hi, hz0, hz1, hz2⟩ := info_parts info_Type
      go_enter Tryz.func88, Tryz.ntmps88
      obtain ⟨q0, q1, q2, q3, q4, q5, q6, q7, q8, q9, q10, ql⟩ := own11 HN.out
      go_wp2_with fail
      refine HS.out.mono ?_
      rintro e w2 ⟨rfl, hb⟩
      have hB2 := hB0.trans (hb.mono hB0.size)
      have HN2 := Lib.hid (heap_below hb (by simp) HN.out)
      obtain ⟨q0, q1, q2, q3, q4, q5, q6, q7, q8, q9, q10, ql⟩ := own11 HN2.out
      clear hb
      go_wp2_with (first | (at_builtin; refine wpList_append_own _ rfl (.tmp 14) (.tmp 17) 23 rfl w.heap.size 25 i0 (.agg #[.int .i8 0, .slice none 0 0]) 2 32 Tryz.underlying23 hi hz0 hz1 hz2 rfl (by decide) (.slice none 0 0) 0 [] rfl ⟨rfl, .inl ⟨rfl, rfl⟩⟩ ⟨w2.heap.size + 1, 0, none⟩ 1 1 [.int .i8 tk, .slice TA tn tc] rfl rfl ?c1 ?c2 ?c3 ?c4 ?c5 ?_))
      case c1 => exact cells_of_heap (heap_new2 w2 _ _)
      case c2 => intro u hu; simp at hu; rcases hu with rfl | rfl <;> rfl
      case c3 => unfold maxLen; omega
      case c4 => omega
      case c5 => have := hB2.size; simp; omega
      intro v1 w3 hown1 hg1 _
      have hbb := Below.grown (Below.refl _ _) hg1 (Nat.le_refl _) (fun k hk => by cases hk)
      have hB3 : Below w.heap.size w w3 := ((hB2.alloc hB2.size _).alloc (by have := hB2.size; simp; omega) _).trans (hbb.mono (by have := hB2.size; simp; omega))
      have HS3 := Lib.hid (heap_below hbb (by simp; omega) (heap_old (heap_new w2 (.cells #[.bool b0, .bool b1, .bool b2, .bool true, .bool false, .bool b5, .int .i64 kn] 78)) (.cells #[.int .i8 tk, .slice TA tn tc] 25)))
      obtain ⟨s0, s1, s2, s3, s4, s5, s6, sl⟩ := own7 HS3.out
      obtain ⟨g, cap, rfl, hg0, hgl, hcap1, hcap2, hcs⟩ := row_reads hown1 (by omega)
      have c0 := hcs 0 _ rfl
      have c1 := hcs 1 _ rfl
      clear hcs hown1 hg1
      go_wp2_with fail
      go_ret
      exact ⟨some ⟨g, 0, none⟩, 1, cap, rfl, Tm.lies_t1 c0 c1 (HTY.out _ hB3), rfl, hcap1, hcap2, hB3⟩
    · rw [ht, hu] at hsh
      have e1 : Tm.tys h = .node 0 0 h.tk h.tkids (.node 0 0 h.uk h.ukids .nil) := by unfold Tm.tys; rw [ht, hu]; rfl
      unfold TysPost
      rw [e1]
      have HS := Lib.hid hsh
      clear hsh hF hS e1 ht hu
      obtain ⟨k, nm, ar, nu, tk, tks, uk, uks, lb, ps⟩ := h
      obtain ⟨TA, tn, tc, UA, un, uc, A, n, c⟩ := p
      dsimp only at *
      obtain ⟨i0, hi, hz0, hz1, hz2⟩ := info_parts info_Type
      go_enter Tryz.func88, Tryz.ntmps88
      obtain ⟨q0, q1, q2, q3, q4, q5, q6, q7, q8, q9, q10, ql⟩ := own11 HN.out
      go_wp2_with fail
      refine HS.out.mono ?_
      rintro e w2 ⟨rfl, hb⟩
      have hB2 := hB0.trans (hb.mono hB0.size)
      have HN2 := Lib.hid (heap_below hb (by simp) HN.out)
      obtain ⟨q0, q1, q2, q3, q4, q5, q6, q7, q8, q9, q10, ql⟩ := own11 HN2.out
      clear hb
      go_wp2_with (first | (at_builtin; refine wpList_append_own _ rfl (.tmp 14) (.tmp 17) 23 rfl w.heap.size 25 i0 (.agg #[.int .i8 0, .slice none 0 0]) 2 32 Tryz.underlying23 hi hz0 hz1 hz2 rfl (by decide) (.slice none 0 0) 0 [] rfl ⟨rfl, .inl ⟨rfl, rfl⟩⟩ ⟨w2.heap.size + 1, 0, none⟩ 1 1 [.int .i8 tk, .slice TA tn tc] rfl rfl ?c1 ?c2 ?c3 ?c4 ?c5 ?_))
      case c1 => exact cells_of_heap (heap_new2 w2 _ _)
      case c2 => intro u hu; simp at hu; rcases hu with rfl | rfl <;> rfl
      case c3 => unfold maxLen; omega
      case c4 => omega
      case c5 => have := hB2.size; simp; omega
      intro v1 w3 hown1 hg1 _
      have hbb := Below.grown (Below.refl _ _) hg1 (Nat.le_refl _) (fun k hk => by cases hk)
      have hB3 : Below w.heap.size w w3 := ((hB2.alloc hB2.size _).alloc (by have := hB2.size; simp; omega) _).trans (hbb.mono (by have := hB2.size; simp; omega))
      have HN3 := Lib.hid (heap_below hbb (by have := heap_lt HN2.out; simp; omega) (heap_old (heap_old HN2.out _) _))
      have HS3 := Lib.hid (heap_below hbb (by simp; omega) (heap_old (heap_new w2 (.cells #[.bool b0, .bool b1, .bool b2, .bool true, .bool true, .bool b5, .int .i64 kn] 78)) (.cells #[.int .i8 tk, .slice TA tn tc] 25)))
      obtain ⟨q0, q1, q2, q3, q4, q5, q6, q7, q8, q9, q10, ql⟩ := own11 HN3.out
      obtain ⟨s0, s1, s2, s3, s4, s5, s6, sl⟩ := own7 HS3.out
      clear hbb hg1
      go_wp2_with (first | (at_builtin; refine wpList_append_own _ rfl (.tmp 21) (.tmp 24) 23 rfl w.heap.size 25 i0 (.agg #[.int .i8 0, .slice none 0 0]) 2 32 Tryz.underlying23 hi hz0 hz1 hz2 rfl (by decide) v1 _ _ rfl (hown1.alloc _) ⟨w3.heap.size, 0, none⟩ 1 1 [.int .i8 uk, .slice UA un uc] rfl rfl ?d1 ?d2 ?d3 ?d4 ?d5 ?_))
      case d1 => exact cells_of_heap (heap_new w3 _)
      case d2 => intro u hu; simp at hu; rcases hu with rfl | rfl <;> rfl
      case d3 => unfold maxLen; omega
      case d4 => omega
      case d5 => have := hB3.size; simp; omega
      intro v2 w4 hown2 hg2 _
      have hB4 : Below w.heap.size w w4 := (hB3.alloc hB3.size _).grown hg2 (by have := hB3.size; simp; omega) fun k hk => (hown1.lt k hk).1
      obtain ⟨g, cap, rfl, hg0, hgl, hcap1, hcap2, hcs⟩ := row_reads hown2 (by omega)
      have c0 := hcs 0 _ rfl
      have c1 := hcs 1 _ rfl
      have c2 := hcs 2 _ rfl
      have c3 := hcs 3 _ rfl
      clear hcs hown2 hg2 hown1
      go_wp2_with fail
      go_ret
      exact ⟨some ⟨g, 0, none⟩, 2, cap, rfl, Tm.lies_t2 c0 c1 (HTY.out _ hB4) c2 c3 (HTO.out _ hB4), rfl, hcap1, hcap2, hB4⟩
end Go.Proofs.YtfkbdpehdabepaaGreatDoor
