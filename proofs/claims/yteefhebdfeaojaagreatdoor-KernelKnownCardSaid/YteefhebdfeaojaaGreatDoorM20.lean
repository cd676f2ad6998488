/-
  What closes a drawn region's goals, by the names that genw.py gives. Layer 9: over, a cast. Layers 9 and 11: rules.copied: a right type, in new memory. The document's rules: what one leaves; types in blocks of which Q holds. Boxes that a drawn region writes: what is kept (genw2.py). A drawn region's other facts stay, whatever an operation does (genw2.py).
-/
import Derived.Test.YteefhebdfeaojaaGreatDoorCkW
import Derived.Test.YteefhebdfeaojaaGreatDoorM18
import Derived.Test.YteefhebdfeaojaaGreatDoorM15
namespace Go.Proofs.YteefhebdfeaojaaGreatDoor
open Go.RowKit
/-- an operation's value, by what is known of the frame -/
theorem EV {P : Prop} (h : P := by (obtain ⟨hcst, hfn⟩ := evc a'; generalize a'.eval = ev at *; clear hp; (try clear y0); (try clear y1); (try clear y2); (try clear y3); (try clear y4); (try clear y5); (try clear y6); (try clear y7); (try clear y8); (try clear y9); (try clear y10); (try clear y11); (try clear y12); (try clear y13); (try clear y14); (try clear y15); (try clear y16); (try clear y17); (try clear y18); (try clear y19); (try clear y20); (try clear y21); (try clear y22); (try clear y23); (try clear y24); (try clear y25); go_simp)) : P := h
theorem SI {α : Type} {a b : α} (h : some a = some b) : a = b := Option.some.inj h
/-- another operation's facts stay -/
theorem K1 {l : Array Bool} {i j : Nat} {A B : Prop} (y : l[j]? = some true → A) (f : A → B := by ((repeat' with_reducible refine And.imp ?_ ?_) <;> first | with_reducible exact id | with_reducible exact fun q => pn q | with_reducible exact fun q => set_keep q | with_reducible exact fun q => Ck.Ly.later q hba | with_reducible exact fun q => Ck.Ly.later q hb | with_reducible exact fun q => Ck.EAt.below q hba | with_reducible exact fun q => Ck.EAt.below q hb | with_reducible exact fun q => heap_old q _ | with_reducible exact fun q => heap_below hb (heap_lt q) q | with_reducible exact eh_old | with_reducible exact eh_below hb | ((with_reducible refine fun q => Ck.Ly.set2 q ?_ _ _); first | exact fun b hq => hq.ne (by omega) (by omega) | exact fun b hq => hq.2 | exact fun b hq => hq.2.1 | exact fun b hq => hq.2.2 | exact fun b hq => by have h1 : _ ≤ b := hq; omega) | ((with_reducible refine fun q => set_two_ne q ?_ _ _); omega) | ((with_reducible refine fun q => eh_set_ne q ?_); omega))) (h : i ≠ j := by decide) : (l.setIfInBounds i true)[j]? = some true → B := kF y f h
theorem V_ {P : Program} {ops : Array Oper} {Q : Exit → Act → World → Prop} {i : Nat} {o : Oper} {K : Act → World → Prop} {a : Act} {w : World} {v : Value} (ho : ops[i]? = some o) (d : Nat) (h : K (a.put (some d) v) w) (hg : o.guard = none := by exact rfl) (hd : o.dst = some d := by exact rfl) (hr : (execOp a.eval o).run P w = .ok (.value v) w := by (obtain ⟨hcst, hfn⟩ := evc a'; generalize a'.eval = ev at *; clear hp; (try clear y0); (try clear y1); (try clear y2); (try clear y3); (try clear y4); (try clear y5); (try clear y6); (try clear y7); (try clear y8); (try clear y9); (try clear y10); (try clear y11); (try clear y12); (try clear y13); (try clear y14); (try clear y15); (try clear y16); (try clear y17); (try clear y18); (try clear y19); (try clear y20); (try clear y21); (try clear y22); (try clear y23); (try clear y24); (try clear y25); go_simp)) : wpOp P ops Q i K a w := wpOp_at ho hg (wp_value d hd hr h)
theorem C_ {P : Program} {ops : Array Oper} {Q : Exit → Act → World → Prop} {i : Nat} {o : Oper} {K : Act → World → Prop} {a : Act} {w : World} {f : FuncId} {args : Array Value} {C : Ending → World → Prop} (ho : ops[i]? = some o) (d : Nat) (hc : Calls P f args w C) (h : ∀ e w', C e w' → ∃ v, e = .returned v ∧ K (a.put (some d) v) w') (hg : o.guard = none := by exact rfl) (hd : o.dst = some d := by exact rfl) (hr : (execOp a.eval o).run P w = .ok (.enter f args) w := by (obtain ⟨hcst, hfn⟩ := evc a'; generalize a'.eval = ev at *; clear hp; (try clear y0); (try clear y1); (try clear y2); (try clear y3); (try clear y4); (try clear y5); (try clear y6); (try clear y7); (try clear y8); (try clear y9); (try clear y10); (try clear y11); (try clear y12); (try clear y13); (try clear y14); (try clear y15); (try clear y16); (try clear y17); (try clear y18); (try clear y19); (try clear y20); (try clear y21); (try clear y22); (try clear y23); (try clear y24); (try clear y25); go_simp; try (first | rfl | exact ⟨rfl, rfl⟩ | exact ⟨rfl, rfl, rfl⟩))) : wpOp P ops Q i K a w := wpOp_at ho hg (wp_calls d hd hr hc h)
theorem M_ {P : Program} {ops : Array Oper} {Q : Exit → Act → World → Prop} {i : Nat} {o : Oper} {K : Act → World → Prop} {a : Act} {w : World} {f : FuncId} {args : Array Value} {C : Ending → World → Prop} (ho : ops[i]? = some o) (d : Nat) (hc : Calls P f args w C) (h : ∀ e w', C e w' → (∃ v, e = .returned v ∧ K (a.put (some d) v) w') ∨ ∃ ch, e = .panicked ch ∧ Q (.panic ch) a w') (hg : o.guard = none := by exact rfl) (hd : o.dst = some d := by exact rfl) (hr : (execOp a.eval o).run P w = .ok (.enter f args) w := by (obtain ⟨hcst, hfn⟩ := evc a'; generalize a'.eval = ev at *; clear hp; (try clear y0); (try clear y1); (try clear y2); (try clear y3); (try clear y4); (try clear y5); (try clear y6); (try clear y7); (try clear y8); (try clear y9); (try clear y10); (try clear y11); (try clear y12); (try clear y13); (try clear y14); (try clear y15); (try clear y16); (try clear y17); (try clear y18); (try clear y19); (try clear y20); (try clear y21); (try clear y22); (try clear y23); (try clear y24); (try clear y25); go_simp; try (first | rfl | exact ⟨rfl, rfl⟩ | exact ⟨rfl, rfl, rfl⟩))) : wpOp P ops Q i K a w := wpOp_at ho hg (wp_may d hd hr hc h)
theorem FH {i n : Nat} {P : Prop} (h : (Array.replicate n false)[i]? = some true) : P := by
  rw [Array.getElem?_replicate] at h
  split at h <;> cases h
theorem KX {A B : Prop} (x : A) (f : A → B := by ((repeat' with_reducible refine And.imp ?_ ?_) <;> exact fun q => pn q)) : B := f x
theorem KN {l : Array Bool} {i j : Nat} {A B : Prop} (y : l[j]? = some true → A) (hi : l[i]? = some false := by exact hi) (f : A → l[i]? = some true := by (intro q; with_reducible first | exact q | exact q.1 | exact q.2.1 | exact q.2.2.1 | exact q.2.2.2.1 | exact q.2.2.2.2.1 | exact q.2.2.2.2.2.1 | exact q.2.2.2.2.2.2.1 | exact q.2.2.2.2.2.2.2.1 | exact q.2.2.2.2.2.2.2.2.1 | exact q.2.2.2.2.2.2.2.2.2.1 | exact q.2.2.2.2.2.2.2.2.2.2.1 | exact q.2.2.2.2.2.2.2.2.2.2.2.1 | exact q.2.2.2.2.2.2.2.2.2.2.2.2.1 | exact q.2.2.2.2.2.2.2.2.2.2.2.2.2.1 | exact q.2.2.2.2.2.2.2.2.2.2.2.2.2.2.1 | exact q.2.2.2.2.2.2.2.2.2.2.2.2.2.2.2.1 | exact q.2.2.2.2.2.2.2.2.2.2.2.2.2.2.2.2.1 | exact q.2.2.2.2.2.2.2.2.2.2.2.2.2.2.2.2.2.1 | exact q.2.2.2.2.2.2.2.2.2.2.2.2.2.2.2.2.2.2.1 | exact q.2.2.2.2.2.2.2.2.2.2.2.2.2.2.2.2.2.2.2.1 | exact q.2.2.2.2.2.2.2.2.2.2.2.2.2.2.2.2.2.2.2.2.1 | exact q.2.2.2.2.2.2.2.2.2.2.2.2.2.2.2.2.2.2.2.2.2.1 | exact q.2.2.2.2.2.2.2.2.2.2.2.2.2.2.2.2.2.2.2.2.2.2.1 | exact q.2.2.2.2.2.2.2.2.2.2.2.2.2.2.2.2.2.2.2.2.2.2.2.1 | exact q.2.2.2.2.2.2.2.2.2.2.2.2.2.2.2.2.2.2.2.2.2.2.2.2.1 | exact q.2.2.2.2.2.2.2.2.2.2.2.2.2.2.2.2.2.2.2.2.2.2.2.2.2.1 | exact q.2 | exact q.2.2 | exact q.2.2.2 | exact q.2.2.2.2 | exact q.2.2.2.2.2 | exact q.2.2.2.2.2.2 | exact q.2.2.2.2.2.2.2 | exact q.2.2.2.2.2.2.2.2 | exact q.2.2.2.2.2.2.2.2.2 | exact q.2.2.2.2.2.2.2.2.2.2 | exact q.2.2.2.2.2.2.2.2.2.2.2 | exact q.2.2.2.2.2.2.2.2.2.2.2.2 | exact q.2.2.2.2.2.2.2.2.2.2.2.2.2 | exact q.2.2.2.2.2.2.2.2.2.2.2.2.2.2 | exact q.2.2.2.2.2.2.2.2.2.2.2.2.2.2.2 | exact q.2.2.2.2.2.2.2.2.2.2.2.2.2.2.2.2 | exact q.2.2.2.2.2.2.2.2.2.2.2.2.2.2.2.2.2 | exact q.2.2.2.2.2.2.2.2.2.2.2.2.2.2.2.2.2.2 | exact q.2.2.2.2.2.2.2.2.2.2.2.2.2.2.2.2.2.2.2 | exact q.2.2.2.2.2.2.2.2.2.2.2.2.2.2.2.2.2.2.2.2 | exact q.2.2.2.2.2.2.2.2.2.2.2.2.2.2.2.2.2.2.2.2.2 | exact q.2.2.2.2.2.2.2.2.2.2.2.2.2.2.2.2.2.2.2.2.2.2 | exact q.2.2.2.2.2.2.2.2.2.2.2.2.2.2.2.2.2.2.2.2.2.2.2 | exact q.2.2.2.2.2.2.2.2.2.2.2.2.2.2.2.2.2.2.2.2.2.2.2.2 | exact q.2.2.2.2.2.2.2.2.2.2.2.2.2.2.2.2.2.2.2.2.2.2.2.2.2)) (h : i ≠ j := by decide) : (l.setIfInBounds i true)[j]? = some true → B := kN y f hi h
end Go.Proofs.YteefhebdfeaojaaGreatDoor
namespace Go.Proofs.YteefhebdfeaojaaGreatDoor
open Go.RowKit
set_option maxHeartbeats 1500000 in
set_option maxRecDepth 100000 in
theorem ckover_17 (rv : Cg.Rv) (Q : Nat → Prop) (h : Hd) (p : Pl) (a : Ck.T2) (Y n cap : Nat) (w : World) (hk : h.kind = 17) (hn : n = 1) (hR : Ck.Row Q w [a] Y) (hS : Shapes w) (hT : Ck.Ly Q w (Ck.TT h) p.TA p.tn p.tc) (hU : Ck.Ly Q w (Ck.UU h) p.UA p.un p.uc) (hca : rv.D.ca = true) :
    Calls Tryz.prog 64 #[.agg #[.func (Fn.func rv.fr) #[] rv.cpt, .func (Fn.func rv.fa) #[] #[], .func (Fn.func rv.fm) #[] #[], .func (Fn.func rv.ft) #[] #[], rv.vg], .agg #[.int .i8 h.kind, .string h.name, .string h.arg, .int .i64 h.num, .int .i8 h.tk, .slice p.TA p.tn p.tc, .int .i8 h.uk, .slice p.UA p.un p.uc, .int .i64 h.label, .int .i64 h.pos, .slice p.A p.n p.c], .slice (some ⟨Y, 0, none⟩) n cap] w (Ck.Post Q w (Cg.over rv.D h a (0, .nil) (0, .nil))) := by
  rw [Cg.over_17 _ _ _ _ _ hk hca]
  obtain ⟨Ga, ma, ca, a0, a1, aL⟩ := hR.cell 0 a rfl
  obtain ⟨w1, hw1, hB3, h0, h1, h2, hz⟩ := boxes3 w (.cells #[.func (Fn.func rv.fr) #[] rv.cpt, .func (Fn.func rv.fa) #[] #[], .func (Fn.func rv.fm) #[] #[], .func (Fn.func rv.ft) #[] #[], rv.vg] 44) (.cells #[.int .i8 h.kind, .string h.name, .string h.arg, .int .i64 h.num, .int .i8 h.tk, .slice p.TA p.tn p.tc, .int .i8 h.uk, .slice p.UA p.un p.uc, .int .i64 h.label, .int .i64 h.pos, .slice p.A p.n p.c] 28) (.cells #[.int .i8 0, .slice none 0 0] 25)
  have HW1 := Lib.hid hw1
  have HB3 := Lib.hid hB3
  have H0 := Lib.hid h0
  have H1 := Lib.hid h1
  have H2 := Lib.hid h2
  have HZ := Lib.hid hz
  have HAL : Hid (Ck.Ly (Ck.Cut Q w.heap.size (w.heap.size + 3)) w1 a Ga ma ca) := Lib.hid ((aL.weak (fun b hl hq => .inl ⟨hq, hl⟩)).later hB3)
  have HS := Lib.hid (hS.below hB3)
  have hfrom := Lib.hid (fun (W : World) (hb : Below w1.heap.size w1 W) => hB3.trans (hb.mono hB3.size))
  have HA := Lib.hid (And.intro (keep_cell a0 hB3) (keep_cell a1 hB3))
  have HK := Lib.hid (fun (W : World) (hb : Below w1.heap.size w1 W) => (show W.cell? ⟨w.heap.size, 0, none⟩ = some (.func (Fn.func rv.fr) #[] rv.cpt) ∧ W.cell? ⟨w.heap.size, 1, none⟩ = some (.func (Fn.func rv.fa) #[] #[]) ∧ W.cell? ⟨w.heap.size, 2, none⟩ = some (.func (Fn.func rv.fm) #[] #[]) ∧ W.cell? ⟨w.heap.size, 3, none⟩ = some (.func (Fn.func rv.ft) #[] #[]) ∧ W.cell? ⟨w.heap.size, 4, none⟩ = some rv.vg ∧ W.cell? ⟨w.heap.size + 1, 0, none⟩ = some (.int .i8 h.kind) ∧ W.cell? ⟨w.heap.size + 1, 1, none⟩ = some (.string h.name) ∧ W.cell? ⟨w.heap.size + 1, 2, none⟩ = some (.string h.arg) ∧ W.cell? ⟨w.heap.size + 1, 3, none⟩ = some (.int .i64 h.num) ∧ W.cell? ⟨w.heap.size + 1, 4, none⟩ = some (.int .i8 h.tk) ∧ W.cell? ⟨w.heap.size + 1, 5, none⟩ = some (.slice p.TA p.tn p.tc) ∧ W.cell? ⟨w.heap.size + 1, 6, none⟩ = some (.int .i8 h.uk) ∧ W.cell? ⟨w.heap.size + 1, 7, none⟩ = some (.slice p.UA p.un p.uc) ∧ W.cell? ⟨w.heap.size + 1, 8, none⟩ = some (.int .i64 h.label) ∧ W.cell? ⟨w.heap.size + 1, 9, none⟩ = some (.int .i64 h.pos) ∧ W.cell? ⟨w.heap.size + 1, 10, none⟩ = some (.slice p.A p.n p.c) ∧ W.cell? ⟨Y, 0, none⟩ = some (.int .i8 a.1) ∧ W.cell? ⟨Y, 1, none⟩ = some (.slice Ga ma ca) from by
    obtain ⟨r0, r1, r2, r3, r4, -⟩ := own5 (heap_below hb (heap_lt H0.out) H0.out)
    obtain ⟨q0, q1, q2, q3, q4, q5, q6, q7, q8, q9, q10, ql⟩ := own11 (heap_below hb (heap_lt H1.out) H1.out)
    exact ⟨r0, r1, r2, r3, r4, q0, q1, q2, q3, q4, q5, q6, q7, q8, q9, q10, keep_cell HA.out.1 hb, keep_cell HA.out.2 hb⟩))
  clear hR hS a0 a1 aL hB3 h0 h1 h2 hz
  subst hn
  have HKK := Lib.hid hk
  clear hk
  obtain ⟨R, hR⟩ : ∃ R, R = (if rv.D.ag a (Ck.TT h) = true then (if rv.D.gs (Ck.TT h) (Ck.UU h) = true then .ok (Ck.UU h) else Ck.fault h 91) else Ck.fault h 91) := ⟨_, rfl⟩
  rw [← hR]
  have HR := Lib.hid hR
  clear hR
  have HT := Lib.hid ((hT.weak (Q' := fun b => Q b ∧ b < w.heap.size) (fun b hl hq => ⟨hq, hl⟩)).later HB3.out)
  have HU := Lib.hid ((hU.weak (Q' := fun b => Q b ∧ b < w.heap.size) (fun b hl hq => ⟨hq, hl⟩)).later HB3.out)
  have HCA := Lib.hid hca
  clear hT hU hca
  go_enter Tryz.func64, Tryz.ntmps64
  go_upto_region 1 with fail
  rw [← HW1.out]
  obtain ⟨r0, r1, r2, r3, r4, q0, q1, q2, q3, q4, q5, q6, q7, q8, q9, q10, y0, y1⟩ := HK.out w1 (Below.refl _ _)
  rw [HKK.out] at q0
  clear hw1
  go_upto_region 30 with fail
  clear r0 r1 r2 r3 r4 q0 q1 q2 q3 q4 q5 q6 q7 q8 q9 q10 y0 y1
  refine region_inv_end2 170 rfl [147, 148, 149, 150, 151, 152, 153, 154] (by kernel_rfl) (by kernel_rfl) (by kernel_rfl) (fun listed a' w' => a'.defers = [] ∧ a'.tmps.size = 170 ∧ (a'.eval (.tmp 2) = .slice (some ⟨Y, 0, none⟩) 1 cap ∧ a'.eval (.tmp 3) = .pointer (some ⟨w.heap.size, 0, none⟩) ∧ a'.eval (.tmp 4) = .pointer (some ⟨w.heap.size + 1, 0, none⟩) ∧ a'.eval (.tmp 6) = .pointer (some ⟨w.heap.size + 1 + 1, 0, none⟩)) ∧ (listed[0]? = some true → (a'.eval (.tmp 147) = .agg #[.func (Fn.func rv.fr) #[] rv.cpt, .func (Fn.func rv.fa) #[] #[], .func (Fn.func rv.fm) #[] #[], .func (Fn.func rv.ft) #[] #[], rv.vg])) ∧ (listed[1]? = some true → (a'.eval (.tmp 148) = .agg #[.int .i8 h.kind, .string h.name, .string h.arg, .int .i64 h.num, .int .i8 h.tk, .slice p.TA p.tn p.tc, .int .i8 h.uk, .slice p.UA p.un p.uc, .int .i64 h.label, .int .i64 h.pos, .slice p.A p.n p.c])) ∧ (listed[2]? = some true → (a'.eval (.tmp 149) = .slice (some ⟨Y, 0, none⟩) 1 cap)) ∧ (listed[3]? = some true → (a'.eval (.tmp 150) = .pointer (some ⟨Y, 0, none⟩))) ∧ (listed[4]? = some true → (a'.eval (.tmp 151) = .agg #[.int .i8 a.1, .slice Ga ma ca])) ∧ (listed[5]? = some true → (a'.eval (.tmp 152) = .pointer (some ⟨w.heap.size + 1, 4, none⟩))) ∧ (listed[6]? = some true → (a'.eval (.tmp 153) = .agg #[.int .i8 h.tk, .slice p.TA p.tn p.tc])) ∧ (listed[7]? = some true → (a'.eval (.tmp 154) = .tuple #[]) ∧ (rv.D.ag a (Ck.TT h) = true)) ∧ Below w1.heap.size w1 w') (fun _ _ _ h => h.1) ?_ ?_ ?_
  · have hz := HZ.out
    refine ⟨rfl, rfl, ⟨rfl, rfl, rfl, rfl⟩, FH, FH, FH, FH, FH, FH, FH, FH, (Below.refl _ _).drew⟩
  · rintro listed a' w' i o ⟨hdf, hsz, hx, y0, y1, y2, y3, y4, y5, y6, y7, hbw⟩ hz hsz0 ho hi hp
    have hi13 : i < 8 := by
      rcases Nat.lt_or_ge i 8 with q | q
      · exact q
      · rw [Array.getElem?_eq_none (by simpa using q)] at ho; cases ho
    rcases (by omega : i = 0 ∨ i = 1 ∨ i = 2 ∨ i = 3 ∨ i = 4 ∨ i = 5 ∨ i = 6 ∨ i = 7) with rfl | rfl | rfl | rfl | rfl | rfl | rfl | rfl
    · obtain rfl := SI ho
      obtain ⟨c0, c1, c2, c3, c4, c5, c6, c7, c8, c9, c10, c11, c12, c13, c14, c15, c16, c17⟩ := HK.out w' hbw
      exact V_ ho 147 ⟨pd hdf, ps hsz, KX hx, (fun _ => pS hsz), K1 y1, K1 y2, K1 y3, K1 y4, K1 y5, K1 y6, K1 y7, hbw⟩
    · obtain rfl := SI ho
      obtain ⟨c0, c1, c2, c3, c4, c5, c6, c7, c8, c9, c10, c11, c12, c13, c14, c15, c16, c17⟩ := HK.out w' hbw
      exact V_ ho 148 ⟨pd hdf, ps hsz, KX hx, K1 y0, (fun _ => pS hsz), K1 y2, K1 y3, K1 y4, K1 y5, K1 y6, K1 y7, hbw⟩
    · obtain rfl := SI ho
      exact V_ ho 149 ⟨pd hdf, ps hsz, KX hx, K1 y0, K1 y1, (fun _ => pS hsz), K1 y3, K1 y4, K1 y5, K1 y6, K1 y7, hbw⟩
    · obtain rfl := SI ho
      have v2 := hpv hp 2 (by simp)
      have ww2 := (y2 v2)
      exact V_ ho 150 ⟨pd hdf, ps hsz, KX hx, K1 y0, K1 y1, K1 y2, (fun _ => pS hsz), K1 y4, K1 y5, K1 y6, K1 y7, hbw⟩
    · obtain rfl := SI ho
      have v3 := hpv hp 3 (by simp)
      have ww3 := (y3 v3)
      obtain ⟨c0, c1, c2, c3, c4, c5, c6, c7, c8, c9, c10, c11, c12, c13, c14, c15, c16, c17⟩ := HK.out w' hbw
      exact V_ ho 151 ⟨pd hdf, ps hsz, KX hx, K1 y0, K1 y1, K1 y2, K1 y3, (fun _ => pS hsz), K1 y5, K1 y6, K1 y7, hbw⟩
    · obtain rfl := SI ho
      exact V_ ho 152 ⟨pd hdf, ps hsz, KX hx, K1 y0, K1 y1, K1 y2, K1 y3, K1 y4, (fun _ => pS hsz), K1 y6, K1 y7, hbw⟩
    · obtain rfl := SI ho
      have v5 := hpv hp 5 (by simp)
      have ww5 := (y5 v5)
      obtain ⟨c0, c1, c2, c3, c4, c5, c6, c7, c8, c9, c10, c11, c12, c13, c14, c15, c16, c17⟩ := HK.out w' hbw
      exact V_ ho 153 ⟨pd hdf, ps hsz, KX hx, K1 y0, K1 y1, K1 y2, K1 y3, K1 y4, K1 y5, (fun _ => pS hsz), K1 y7, hbw⟩
    · obtain rfl := SI ho
      have v0 := hpv hp 0 (by simp)
      have ww0 := (y0 v0)
      have v1 := hpv hp 1 (by simp)
      have ww1 := (y1 v1)
      have v4 := hpv hp 4 (by simp)
      have ww4 := (y4 v4)
      have v6 := hpv hp 6 (by simp)
      have ww6 := (y6 v6)
      refine M_ ho 154 (ckwant_any rv h p a.1 a.2 Ga ma ca h.tk h.tkids p.TA p.tn p.tc w' (HAL.out.later hbw).is (HT.out.later hbw).is (HS.out.below hbw)) fun e u hg => ?_
      · rcases hg with ⟨hq, hg⟩ | ⟨hq, hg⟩
        · have HP : Ck.Post Q w R e u := by rw [HR.out, if_neg (ne_of_false (show rv.D.ag a (Ck.TT h) = false from hq))]; exact Ck.Gave.from hg (hfrom.out w' hbw)
          obtain ⟨g, rfl, hg2⟩ := hg
          exact .inr ⟨_, rfl, hdf, HP⟩
        · obtain ⟨he, hb⟩ := hg
          refine .inl ?_
          refine ⟨.tuple #[], he, ?_⟩
          have hbs := hbw.size
          have hzz := HZ.out
          have hbs2 := hb.size
          exact ⟨pd hdf, ps hsz, KX hx, K1 y0, K1 y1, K1 y2, K1 y3, K1 y4, K1 y5, K1 y6, (fun _ => ⟨pS hsz, hq⟩), hbw.trans (hb.mono hbw.size)⟩
  · rintro listed u w' t ht hu ⟨-, -, -, y0, y1, y2, y3, y4, y5, y6, y7, hbw⟩ hall
    have v7 := hall 7 (by decide)
    have HBW := Lib.hid hbw
    have P1 := Lib.hid ((y7 v7).2)
    clear y0 y1 y2 y3 y4 y5 y6 y7 v7 hall hu
    clear hbw
    simp only [over, List.setIfInBounds_toArray, List.set_cons_succ, List.set_cons_zero] at ht
    subst ht
    obtain ⟨r0, r1, r2, r3, r4, q0, q1, q2, q3, q4, q5, q6, q7, q8, q9, q10, y0, y1⟩ := HK.out w' HBW.out
    have CG := Lib.hid (ckgoes_any rv h p w' HCA.out (HT.out.later HBW.out).is (HU.out.later HBW.out).is (HS.out.below HBW.out))
    go_wp2_with fail
    refine CG.out.mono ?_
    rintro e w5 hg
    rcases hg with ⟨hq, hg⟩ | ⟨hq, he, hb⟩
    · have HP : Ck.Post Q w R e w5 := by rw [HR.out, if_pos P1.out, if_neg (ne_of_false (show rv.D.gs (Ck.TT h) (Ck.UU h) = false from hq))]; exact Ck.Gave.from hg (hfrom.out w' HBW.out)
      obtain ⟨g, rfl, -⟩ := hg
      go_wp2_with fail
      exact ⟨rfl, HP⟩
    · subst he
      have HB5 := Lib.hid (HBW.out.trans (hb.mono HBW.out.size))
      have HGS := Lib.hid (show rv.D.gs (Ck.TT h) (Ck.UU h) = true from hq)
      clear hb hq r0 r1 r2 r3 r4 q0 q1 q2 q3 q4 q5 q6 q7 q8 q9 q10 y0 y1
      obtain ⟨r0, r1, r2, r3, r4, q0, q1, q2, q3, q4, q5, q6, q7, q8, q9, q10, y0, y1⟩ := HK.out w5 HB5.out
      have z2 := heap_below HB5.out (heap_lt H2.out) H2.out
      obtain ⟨x0, x1, f0, f1, xl⟩ := own2 z2
      go_wp2_with fail
      have z3 := set_two z2 (.int .i8 h.uk) (.slice p.UA p.un p.uc)
      obtain ⟨k0, k1, -, -, -⟩ := own2 z3
      refine ⟨rfl, .agg #[.int .i8 h.uk, .slice p.UA p.un p.uc], by simp [results, Tryz.results64, go_sem, k0, k1], ?_⟩
      rw [HR.out, if_pos P1.out, if_pos HGS.out]
      exact ⟨p.UA, p.un, p.uc, rfl, ((HU.out.later HB5.out).set2 (fun b hq => by have := hq.2; omega) _ _).weak (fun b _ hq => .inl hq), below_set2 (hfrom.out _ HB5.out) (by omega) _ _⟩

end Go.Proofs.YteefhebdfeaojaaGreatDoor
namespace Go.Proofs.YteefhebdfeaojaaGreatDoor
open Go.RowKit
end Go.Proofs.YteefhebdfeaojaaGreatDoor
namespace Go.Proofs.YteefhebdfeaojaaGreatDoor
open Go.RowKit
namespace Qr
open Ck
def tyO : R → T2
  | .ok a => a
  | .bad _ _ _ => (0, .nil)
def eO : R → Int
  | .ok _ => 0
  | .bad E _ _ => E
def pO : R → Int
  | .ok _ => 0
  | .bad _ p _ => p
def xO : R → ByteArray
  | .ok _ => ⟨#[]⟩
  | .bad _ _ x => x
/-- an error's number is not 0 -/
def Nz (r : R) : Prop := ∀ E p x, r = .bad E p x → E ≠ 0
/-- what a rule of the document's leaves -/
def Post (Q : Nat → Prop) (w : World) (r : R) (e : Ending) (w' : World) : Prop :=
  Nz r ∧ ∃ G m c, e = .returned (.tuple #[.agg #[.int .i8 (tyO r).1, .slice G m c], .agg #[.int .i64 (eO r), .int .i64 (pO r), .string (xO r)]]) ∧ Ly (Cut Q w.heap.size w.heap.size) w' (tyO r) G m c ∧ Below w.heap.size w w'
theorem Nz.ok (a : T2) : Nz (.ok a) := fun _ _ _ e => by cases e
/-- a contract of the document's, seen from an earlier world -/
theorem Post.from {Q : Nat → Prop} {w u w' : World} {r : R} {e : Ending} (h : Post Q u r e w') (hb : Below w.heap.size w u) (hq : ∀ b, b < u.heap.size → Q b → Cut Q w.heap.size w.heap.size b) : Post Q w r e w' := by
  obtain ⟨h0, G, m, c, h1, h2, h3⟩ := h
  exact ⟨h0, G, m, c, h1, h2.weak (fun b _ q => q.elim (fun q => hq b q.2 q.1) (fun q => .inr (Nat.le_trans hb.size q))), hb.trans (h3.mono hb.size)⟩
end Qr
theorem set_three_ne {u : World} {X Y : Nat} {o : Obj} (h : u.heap[Y]? = some o) (hne : X ≠ Y) (a b c : Value) : (((u.setCell ⟨X, 0, none⟩ a).setCell ⟨X, 1, none⟩ b).setCell ⟨X, 2, none⟩ c).heap[Y]? = some o := by
  simp [World.setCell, Array.getElem?_modify, h, hne]
theorem Ck.Ly.set3 {Q : Nat → Prop} {w : World} {a : Ck.T2} {G : Option Addr} {m c : Nat} (h : Ck.Ly Q w a G m c) {X : Nat} (hX : ∀ b, Q b → b ≠ X) (v0 v1 v2 : Value) : Ck.Ly Q (((w.setCell ⟨X, 0, none⟩ v0).setCell ⟨X, 1, none⟩ v1).setCell ⟨X, 2, none⟩ v2) a G m c := ((h.set hX _ _).set hX _ _).set hX _ _
end Go.Proofs.YteefhebdfeaojaaGreatDoor
namespace Go.Proofs.YteefhebdfeaojaaGreatDoor
open Go.RowKit
theorem eh2_old {w : World} {X : Nat} {o : Obj} (q : ∃ u0 u1, w.heap[X]? = some (.cells #[u0, u1] 25 (0, 0))) : ∃ u0 u1, (w.alloc o).heap[X]? = some (.cells #[u0, u1] 25 (0, 0)) := eh_old q
theorem eh2_below {w u : World} {X : Nat} (hb : Below w.heap.size w u) (q : ∃ u0 u1, w.heap[X]? = some (.cells #[u0, u1] 25 (0, 0))) : ∃ u0 u1, u.heap[X]? = some (.cells #[u0, u1] 25 (0, 0)) := eh_below hb q
theorem eh3_old {T : TypeId} {w : World} {X : Nat} {o : Obj} (q : ∃ u0 u1 u2, w.heap[X]? = some (.cells #[u0, u1, u2] T (0, 0))) : ∃ u0 u1 u2, (w.alloc o).heap[X]? = some (.cells #[u0, u1, u2] T (0, 0)) := q.elim fun _ q => q.elim fun _ q => q.elim fun _ q => ⟨_, _, _, heap_old q _⟩
theorem eh3_below {T : TypeId} {w u : World} {X : Nat} (hb : Below w.heap.size w u) (q : ∃ u0 u1 u2, w.heap[X]? = some (.cells #[u0, u1, u2] T (0, 0))) : ∃ u0 u1 u2, u.heap[X]? = some (.cells #[u0, u1, u2] T (0, 0)) := q.elim fun _ q => q.elim fun _ q => q.elim fun _ q => ⟨_, _, _, heap_below hb (heap_lt q) q⟩
end Go.Proofs.YteefhebdfeaojaaGreatDoor
namespace Go.Proofs.YteefhebdfeaojaaGreatDoor
open Go.RowKit
/-- another operation's facts stay -/
theorem K2 {l : Array Bool} {i j : Nat} {A B : Prop} (y : l[j]? = some true → A) (f : A → B := by ((repeat' with_reducible refine And.imp ?_ ?_) <;> first | with_reducible exact id | with_reducible exact fun q => pn q | with_reducible exact fun q => set_keep q | with_reducible exact fun q => Ck.Ly.later q hba | with_reducible exact fun q => Ck.Ly.later q hb | with_reducible exact fun q => Ck.EAt.below q hba | with_reducible exact fun q => Ck.EAt.below q hb | with_reducible exact fun q => heap_old q _ | with_reducible exact fun q => heap_below hb (heap_lt q) q | with_reducible exact eh2_old | with_reducible exact eh3_old | with_reducible exact eh2_below hb | with_reducible exact eh3_below hb | ((with_reducible refine fun q => Ck.Ly.set2 q ?_ _ _); exact fun b hq => hq.ne (by omega) (by omega)) | ((with_reducible refine fun q => Ck.Ly.set3 q ?_ _ _ _); exact fun b hq => hq.ne (by omega) (by omega)) | ((with_reducible refine fun q => set_two_ne q ?_ _ _); omega) | ((with_reducible refine fun q => set_three_ne q ?_ _ _ _); omega))) (h : i ≠ j := by decide) : (l.setIfInBounds i true)[j]? = some true → B := kF y f h
end Go.Proofs.YteefhebdfeaojaaGreatDoor
