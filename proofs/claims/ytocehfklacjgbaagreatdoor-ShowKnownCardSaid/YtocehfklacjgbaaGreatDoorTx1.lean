/-
  parse.Term: a text's term, or a fault. gen_text.py wrote this.
-/
import Derived.Test.YtocehfklacjgbaaGreatDoorPt22
import Derived.Test.YtocehfklacjgbaaGreatDoorM17
namespace Go.Proofs.YtocehfklacjgbaaGreatDoor
open Go.RowKit Rd Tt

/-- a term, or a fault -/
inductive TRes where
  | ok (h : Hd) (t : Tm)
  | bad (E a : Int) (x : ByteArray)
/-- what is made of what is read -/
inductive Fits (l : List W4) : Tt.Rs → TRes → Prop where
  | bad {E a : Int} {x : ByteArray} : Fits l (.bad E a x) (.bad E a x)
  | poor {h : Hd} {t : Tm} {j : Nat} (h0 : Tm.chk h t ≠ 0) : Fits l (.ok [.tm h t] j) (.bad (Tm.chk h t) 0 ⟨#[]⟩)
  | more {h : Hd} {t : Tm} {j : Nat} {x : W4} (h0 : Tm.chk h t = 0) (hx : l[j]? = some x) (hk : x.kind ≠ 0) : Fits l (.ok [.tm h t] j) (.bad 40 (fAt l j) (fWord l j))
  | good {h : Hd} {t : Tm} {j : Nat} {x : W4} (h0 : Tm.chk h t = 0) (hx : l[j]? = some x) (hk : x.kind = 0) : Fits l (.ok [.tm h t] j) (.ok h t)
/-- what a text is read as -/
inductive TxOut (s : ByteArray) : TRes → Prop where
  | long (h : 65536 < s.size) : TxOut s (.bad 3 0 ⟨#[]⟩)
  | scan {f : Sc.Flt} (h : s.size ≤ 65536) (e : (Sc.tk s 0).2 = some f) : TxOut s (.bad f.1 f.2.1 f.2.2)
  | read {r : Tt.Rs} {q : TRes} (h : s.size ≤ 65536) (e : (Sc.tk s 0).2 = none) (hT : T (wl s) (.term 0) r) (hf : Fits (wl s) r q) : TxOut s q
theorem wpost_cases {w w' : World} {r : Tt.Rs} {e : Ending} {l : List W4} (hw : WPost w r e w') :
    (∃ h t j p, r = .ok [.tm h t] j ∧ Tm.chk h t = 0 ∧ e = .returned (.tuple #[.agg #[.int .i8 h.kind, .string h.name, .string h.arg, .int .i64 h.num, .int .i8 h.tk, .slice p.TA p.tn p.tc, .int .i8 h.uk, .slice p.UA p.un p.uc, .int .i64 h.label, .int .i64 h.pos, .slice p.A p.n p.c], .int .i64 (j : Nat), .nilIface]) ∧ FarT w.heap.size w' h t p ∧ Below w.heap.size w w') ∨ (∃ E a x, Fits l r (.bad E a x) ∧ WBad w E a x e w') := by
  unfold WPost at hw
  split at hw
  · split at hw
    · rename_i h0
      obtain ⟨p, h1, h2, h3⟩ := hw
      exact .inl ⟨_, _, _, p, rfl, h0, h1, h2, h3⟩
    · rename_i h0
      exact .inr ⟨_, _, _, .poor h0, hw⟩
  · exact hw.elim
  · exact .inr ⟨_, _, _, .bad, hw⟩
def TxPost (w : World) (q : TRes) (e : Ending) (w' : World) : Prop := match q with
  | .ok h t => ∃ p, e = .returned (.tuple #[.agg #[.int .i8 h.kind, .string h.name, .string h.arg, .int .i64 h.num, .int .i8 h.tk, .slice p.TA p.tn p.tc, .int .i8 h.uk, .slice p.UA p.un p.uc, .int .i64 h.label, .int .i64 h.pos, .slice p.A p.n p.c], .nilIface]) ∧ FarT w.heap.size w' h t p ∧ Below w.heap.size w w'
  | .bad E a x => ∃ g, e = .returned (.tuple #[.agg #[.int .i8 0, .string ⟨#[]⟩, .string ⟨#[]⟩, .int .i64 0, .int .i8 0, .slice none 0 0, .int .i8 0, .slice none 0 0, .int .i64 0, .int .i64 0, .slice none 0 0], .iface 65 (.pointer (some ⟨g, 0, none⟩))]) ∧ FaultAt w' g E a x ∧ w.heap.size ≤ g ∧ Below w.heap.size w w'

set_option maxHeartbeats 4000000 in
set_option maxRecDepth 100000 in
theorem text_scan (s : ByteArray) (w : World) (E a : Int) (x : ByteArray) (hA : ∀ W : World, Below w.heap.size w W → Calls Tryz.prog 16 #[.string s] W fun e w' => ∃ N, e = .returned (.tuple #[.slice none 0 0, .iface 65 (.pointer (some ⟨N, 0, none⟩))]) ∧ W.heap.size ≤ N ∧ FaultAt w' N E a x ∧ Below W.heap.size W w') :
    Calls Tryz.prog 9 #[.string s] w (TxPost w (.bad E a x)) := by
  have hb0 : Below w.heap.size w (w.alloc (.cells #[.int .i8 0, .string ⟨#[]⟩, .string ⟨#[]⟩, .int .i64 0, .int .i8 0, .slice none 0 0, .int .i8 0, .slice none 0 0, .int .i64 0, .int .i64 0, .slice none 0 0] 30)) := (Below.refl _ _).alloc (Nat.le_refl _) _
  have CA := Lib.hid (hA _ hb0)
  have HB0 := Lib.hid hb0
  have HX := Lib.hid (heap_new w (.cells #[.int .i8 0, .string ⟨#[]⟩, .string ⟨#[]⟩, .int .i64 0, .int .i8 0, .slice none 0 0, .int .i8 0, .slice none 0 0, .int .i64 0, .int .i64 0, .slice none 0 0] 30))
  clear hA hb0
  go_enter Tryz.func9, Tryz.ntmps9
  go_wp2_with fail
  refine CA.out.mono ?_
  rintro e w2 ⟨N, rfl, hN, hF, hb⟩
  have HX2 := Lib.hid (heap_below hb (heap_lt HX.out) HX.out)
  have HB2 := Lib.hid (HB0.out.trans (hb.mono HB0.out.size))
  have HF2 := Lib.hid hF
  have hz2 : (w.alloc (.cells #[.int .i8 0, .string ⟨#[]⟩, .string ⟨#[]⟩, .int .i64 0, .int .i8 0, .slice none 0 0, .int .i8 0, .slice none 0 0, .int .i64 0, .int .i64 0, .slice none 0 0] 30)).heap.size = w.heap.size + 1 := by simp
  have hN2 : w.heap.size < N := by omega
  clear hF hb hN hz2 HX HB0 CA
  obtain ⟨p0, p1, p2, p3, p4, p5, p6, p7, p8, p9, p10, pl⟩ := own11 HX2.out
  have y0 := frozen_at HX2.out 0
  have y1 := frozen_at HX2.out 1
  have y2 := frozen_at HX2.out 2
  have y3 := frozen_at HX2.out 3
  have y4 := frozen_at HX2.out 4
  have y5 := frozen_at HX2.out 5
  have y6 := frozen_at HX2.out 6
  have y7 := frozen_at HX2.out 7
  have y8 := frozen_at HX2.out 8
  have y9 := frozen_at HX2.out 9
  have y10 := frozen_at HX2.out 10
  go_wp2_with fail
  have z1 := set_eleven HX2.out (.int .i8 0) (.string ⟨#[]⟩) (.string ⟨#[]⟩) (.int .i64 0) (.int .i8 0) (.slice none 0 0) (.int .i8 0) (.slice none 0 0) (.int .i64 0) (.int .i64 0) (.slice none 0 0)
  have HE := Lib.hid (show FaultAt (((((((((((w2.setCell ⟨w.heap.size, 0, none⟩ (.int .i8 0)).setCell ⟨w.heap.size, 1, none⟩ (.string ⟨#[]⟩)).setCell ⟨w.heap.size, 2, none⟩ (.string ⟨#[]⟩)).setCell ⟨w.heap.size, 3, none⟩ (.int .i64 0)).setCell ⟨w.heap.size, 4, none⟩ (.int .i8 0)).setCell ⟨w.heap.size, 5, none⟩ (.slice none 0 0)).setCell ⟨w.heap.size, 6, none⟩ (.int .i8 0)).setCell ⟨w.heap.size, 7, none⟩ (.slice none 0 0)).setCell ⟨w.heap.size, 8, none⟩ (.int .i64 0)).setCell ⟨w.heap.size, 9, none⟩ (.int .i64 0)).setCell ⟨w.heap.size, 10, none⟩ (.slice none 0 0)) N E a x ∧ Below w.heap.size w (((((((((((w2.setCell ⟨w.heap.size, 0, none⟩ (.int .i8 0)).setCell ⟨w.heap.size, 1, none⟩ (.string ⟨#[]⟩)).setCell ⟨w.heap.size, 2, none⟩ (.string ⟨#[]⟩)).setCell ⟨w.heap.size, 3, none⟩ (.int .i64 0)).setCell ⟨w.heap.size, 4, none⟩ (.int .i8 0)).setCell ⟨w.heap.size, 5, none⟩ (.slice none 0 0)).setCell ⟨w.heap.size, 6, none⟩ (.int .i8 0)).setCell ⟨w.heap.size, 7, none⟩ (.slice none 0 0)).setCell ⟨w.heap.size, 8, none⟩ (.int .i64 0)).setCell ⟨w.heap.size, 9, none⟩ (.int .i64 0)).setCell ⟨w.heap.size, 10, none⟩ (.slice none 0 0)) from ⟨by unfold FaultAt; rw [set_eleven_ne (X := w.heap.size) (B := N) (by omega)]; exact HF2.out, set_eleven_below HB2.out (Nat.le_refl _) (.int .i8 0) (.string ⟨#[]⟩) (.string ⟨#[]⟩) (.int .i64 0) (.int .i8 0) (.slice none 0 0) (.int .i8 0) (.slice none 0 0) (.int .i64 0) (.int .i64 0) (.slice none 0 0)⟩)
  clear p0 p1 p2 p3 p4 p5 p6 p7 p8 p9 p10 pl y0 y1 y2 y3 y4 y5 y6 y7 y8 y9 y10 HX2 HF2 HB2
  generalize (((((((((((w2.setCell ⟨w.heap.size, 0, none⟩ (.int .i8 0)).setCell ⟨w.heap.size, 1, none⟩ (.string ⟨#[]⟩)).setCell ⟨w.heap.size, 2, none⟩ (.string ⟨#[]⟩)).setCell ⟨w.heap.size, 3, none⟩ (.int .i64 0)).setCell ⟨w.heap.size, 4, none⟩ (.int .i8 0)).setCell ⟨w.heap.size, 5, none⟩ (.slice none 0 0)).setCell ⟨w.heap.size, 6, none⟩ (.int .i8 0)).setCell ⟨w.heap.size, 7, none⟩ (.slice none 0 0)).setCell ⟨w.heap.size, 8, none⟩ (.int .i64 0)).setCell ⟨w.heap.size, 9, none⟩ (.int .i64 0)).setCell ⟨w.heap.size, 10, none⟩ (.slice none 0 0)) = w3 at *
  obtain ⟨p0, p1, p2, p3, p4, p5, p6, p7, p8, p9, p10, -⟩ := own11 z1
  refine bodyPost_ret (v := .tuple #[.agg #[.int .i8 0, .string ⟨#[]⟩, .string ⟨#[]⟩, .int .i64 0, .int .i8 0, .slice none 0 0, .int .i8 0, .slice none 0 0, .int .i64 0, .int .i64 0, .slice none 0 0], .iface 65 (.pointer (some ⟨N, 0, none⟩))]) (by simp [results, Tryz.results9, go_sem, *]) rfl ⟨N, rfl, HE.out.1, Nat.le_of_lt hN2, HE.out.2⟩

set_option maxHeartbeats 1000000 in
set_option maxRecDepth 100000 in
theorem text_words (s : ByteArray) (l : List W4) (w : World) (hG : TGlob w) (hl : l.length < maxLen) (hsm : ∀ x ∈ l, x.text.size ≤ 281474976710656) (hok : ∀ x ∈ l, OkWord x) (hz : ∀ i x, l[i]? = some x → x.kind ≠ 0 → i + 1 < l.length) (hp : 0 < l.length)
    (hA : ∀ W : World, Below w.heap.size w W → Calls Tryz.prog 16 #[.string s] W fun e w' => ∃ A c, e = .returned (.tuple #[.slice A l.length c, .nilIface]) ∧ WRow w' A l ∧ Below W.heap.size W w') (r : Tt.Rs) (hT : T l (.term 0) r) :
    Calls Tryz.prog 9 #[.string s] w (fun e w' => ∃ q, Fits l r q ∧ TxPost w q e w') := by
  have hb0 : Below w.heap.size w (w.alloc (.cells #[.int .i8 0, .string ⟨#[]⟩, .string ⟨#[]⟩, .int .i64 0, .int .i8 0, .slice none 0 0, .int .i8 0, .slice none 0 0, .int .i64 0, .int .i64 0, .slice none 0 0] 30)) := (Below.refl _ _).alloc (Nat.le_refl _) _
  have CA := Lib.hid (hA _ hb0)
  have HB0 := Lib.hid hb0
  have HX := Lib.hid (heap_new w (.cells #[.int .i8 0, .string ⟨#[]⟩, .string ⟨#[]⟩, .int .i64 0, .int .i8 0, .slice none 0 0, .int .i8 0, .slice none 0 0, .int .i64 0, .int .i64 0, .slice none 0 0] 30))
  have h00 : plc l.length 0 = 0 := by unfold plc; omega
  have CW := Lib.hid (fun (W : World) (A : Option Addr) (c : Nat) (hb : Below w.heap.size w W) (hW : WRow W A l) => words_any l A c 0 W hW (hG.below hb) hl hsm hok r (by rw [h00]; exact hT))
  have CM := Lib.hid (fun (W : World) (A : Option Addr) (c j : Nat) (hj : j ≤ l.length) (hW : WRow W A l) => misfit_pt l A c j W (Nat.le_of_lt hl) hj hsm hW)
  have HJ := Lib.hid (fun vs j (e : r = .ok vs j) => (show j < l.length from hT.shy hz trivial hp vs j e))
  have i5 : (l.length : Int) ≤ 9223372036854775807 := by unfold maxLen at hl; omega
  clear hA hb0 hl hsm hok hz hp hT h00
  go_enter Tryz.func9, Tryz.ntmps9
  go_wp2_with fail
  refine CA.out.mono ?_
  rintro e w2 ⟨A, c, rfl, hW, hb⟩
  have HX2 := Lib.hid (heap_below hb (heap_lt HX.out) HX.out)
  have HB2 := Lib.hid (HB0.out.trans (hb.mono HB0.out.size))
  have HW2 := Lib.hid hW
  have hs2 : w.heap.size < w2.heap.size := heap_lt HX2.out
  clear hW hb HX HB0 CA hG
  go_wp2_with fail
  refine (CW.out w2 A c HB2.out HW2.out).mono ?_
  intro e w3 hw
  rcases wpost_cases (l := l) hw with ⟨h, t, j, p, rfl, h0, rfl, hF, hb⟩ | ⟨E, a, x, hfit, g, rfl, hF, hg, hb⟩
  · have hj := HJ.out _ j rfl
    obtain ⟨x, hx⟩ : ∃ x, l[j]? = some x := ⟨l[j]'hj, List.getElem?_eq_getElem _⟩
    have hj2 : (0 : Int) ≤ j ∧ (j : Int) < l.length := by omega
    obtain ⟨g, o, rfl, k0, k1, k2, k3⟩ := (HW2.out.below (hb.alloc hb.size (.cells #[.int .i8 h.kind, .string h.name, .string h.arg, .int .i64 h.num, .int .i8 h.tk, .slice p.TA p.tn p.tc, .int .i8 h.uk, .slice p.UA p.un p.uc, .int .i64 h.label, .int .i64 h.pos, .slice p.A p.n p.c] 30))) j x hx
    have HX3 := Lib.hid (heap_below hb hs2 HX2.out)
    have HF3 := Lib.hid hF
    have HB3 := Lib.hid (HB2.out.trans (hb.mono HB2.out.size))
    have HW3 := Lib.hid (HW2.out.below hb)
    have hs3 : w.heap.size < w3.heap.size := Nat.lt_of_lt_of_le hs2 hb.size
    have H0 := Lib.hid h0
    have HH := Lib.hid hx
    clear hF hb HX2 HB2 HW2 CW HJ h0 hx k1 k2 k3
    obtain ⟨p0, p1, p2, p3, p4, p5, p6, p7, p8, p9, p10, pl⟩ := own11 HX3.out
    have y0 := frozen_at HX3.out 0
    have y1 := frozen_at HX3.out 1
    have y2 := frozen_at HX3.out 2
    have y3 := frozen_at HX3.out 3
    have y4 := frozen_at HX3.out 4
    have y5 := frozen_at HX3.out 5
    have y6 := frozen_at HX3.out 6
    have y7 := frozen_at HX3.out 7
    have y8 := frozen_at HX3.out 8
    have y9 := frozen_at HX3.out 9
    have y10 := frozen_at HX3.out 10
    by_cases hk : x.kind = 0
    · rw [hk] at k0
      have HK := Lib.hid hk
      clear hk CM
      go_wp2_with fail
      have z1 := set_eleven HX3.out (.int .i8 h.kind) (.string h.name) (.string h.arg) (.int .i64 h.num) (.int .i8 h.tk) (.slice p.TA p.tn p.tc) (.int .i8 h.uk) (.slice p.UA p.un p.uc) (.int .i64 h.label) (.int .i64 h.pos) (.slice p.A p.n p.c)
      have HE := Lib.hid (show FarT w2.heap.size (((((((((((w3.setCell ⟨w.heap.size, 0, none⟩ (.int .i8 h.kind)).setCell ⟨w.heap.size, 1, none⟩ (.string h.name)).setCell ⟨w.heap.size, 2, none⟩ (.string h.arg)).setCell ⟨w.heap.size, 3, none⟩ (.int .i64 h.num)).setCell ⟨w.heap.size, 4, none⟩ (.int .i8 h.tk)).setCell ⟨w.heap.size, 5, none⟩ (.slice p.TA p.tn p.tc)).setCell ⟨w.heap.size, 6, none⟩ (.int .i8 h.uk)).setCell ⟨w.heap.size, 7, none⟩ (.slice p.UA p.un p.uc)).setCell ⟨w.heap.size, 8, none⟩ (.int .i64 h.label)).setCell ⟨w.heap.size, 9, none⟩ (.int .i64 h.pos)).setCell ⟨w.heap.size, 10, none⟩ (.slice p.A p.n p.c)) h t p ∧ Below w.heap.size w (((((((((((w3.setCell ⟨w.heap.size, 0, none⟩ (.int .i8 h.kind)).setCell ⟨w.heap.size, 1, none⟩ (.string h.name)).setCell ⟨w.heap.size, 2, none⟩ (.string h.arg)).setCell ⟨w.heap.size, 3, none⟩ (.int .i64 h.num)).setCell ⟨w.heap.size, 4, none⟩ (.int .i8 h.tk)).setCell ⟨w.heap.size, 5, none⟩ (.slice p.TA p.tn p.tc)).setCell ⟨w.heap.size, 6, none⟩ (.int .i8 h.uk)).setCell ⟨w.heap.size, 7, none⟩ (.slice p.UA p.un p.uc)).setCell ⟨w.heap.size, 8, none⟩ (.int .i64 h.label)).setCell ⟨w.heap.size, 9, none⟩ (.int .i64 h.pos)).setCell ⟨w.heap.size, 10, none⟩ (.slice p.A p.n p.c)) from ⟨HF3.out.keep (set_eleven_keep hs2 (.int .i8 h.kind) (.string h.name) (.string h.arg) (.int .i64 h.num) (.int .i8 h.tk) (.slice p.TA p.tn p.tc) (.int .i8 h.uk) (.slice p.UA p.un p.uc) (.int .i64 h.label) (.int .i64 h.pos) (.slice p.A p.n p.c)), set_eleven_below HB3.out (Nat.le_refl _) (.int .i8 h.kind) (.string h.name) (.string h.arg) (.int .i64 h.num) (.int .i8 h.tk) (.slice p.TA p.tn p.tc) (.int .i8 h.uk) (.slice p.UA p.un p.uc) (.int .i64 h.label) (.int .i64 h.pos) (.slice p.A p.n p.c)⟩)
      clear p0 p1 p2 p3 p4 p5 p6 p7 p8 p9 p10 pl y0 y1 y2 y3 y4 y5 y6 y7 y8 y9 y10 HX3 HF3 HB3 HW3 k0
      generalize (((((((((((w3.setCell ⟨w.heap.size, 0, none⟩ (.int .i8 h.kind)).setCell ⟨w.heap.size, 1, none⟩ (.string h.name)).setCell ⟨w.heap.size, 2, none⟩ (.string h.arg)).setCell ⟨w.heap.size, 3, none⟩ (.int .i64 h.num)).setCell ⟨w.heap.size, 4, none⟩ (.int .i8 h.tk)).setCell ⟨w.heap.size, 5, none⟩ (.slice p.TA p.tn p.tc)).setCell ⟨w.heap.size, 6, none⟩ (.int .i8 h.uk)).setCell ⟨w.heap.size, 7, none⟩ (.slice p.UA p.un p.uc)).setCell ⟨w.heap.size, 8, none⟩ (.int .i64 h.label)).setCell ⟨w.heap.size, 9, none⟩ (.int .i64 h.pos)).setCell ⟨w.heap.size, 10, none⟩ (.slice p.A p.n p.c)) = w5 at *
      obtain ⟨p0, p1, p2, p3, p4, p5, p6, p7, p8, p9, p10, -⟩ := own11 (heap_old z1 (.cells #[.int .i8 h.kind, .string h.name, .string h.arg, .int .i64 h.num, .int .i8 h.tk, .slice p.TA p.tn p.tc, .int .i8 h.uk, .slice p.UA p.un p.uc, .int .i64 h.label, .int .i64 h.pos, .slice p.A p.n p.c] 30))
      refine bodyPost_ret (v := .tuple #[.agg #[.int .i8 h.kind, .string h.name, .string h.arg, .int .i64 h.num, .int .i8 h.tk, .slice p.TA p.tn p.tc, .int .i8 h.uk, .slice p.UA p.un p.uc, .int .i64 h.label, .int .i64 h.pos, .slice p.A p.n p.c], .nilIface]) (by simp [results, Tryz.results9, go_sem, *]) rfl ⟨.ok h t, .good H0.out HH.out HK.out, p, rfl, (HE.out.1.keep (keep_alloc _)).low (Nat.le_of_lt hs2), HE.out.2.alloc HE.out.2.size _⟩
    · have hkc : (x.kind != 0) = true := by simpa using hk
      have HK := Lib.hid hk
      have CF := Lib.hid (CM.out _ (some ⟨g, o, none⟩) c j (Nat.le_of_lt hj) (HW3.out.below ((Below.refl _ _).alloc (Nat.le_refl _) (.cells #[.int .i8 h.kind, .string h.name, .string h.arg, .int .i64 h.num, .int .i8 h.tk, .slice p.TA p.tn p.tc, .int .i8 h.uk, .slice p.UA p.un p.uc, .int .i64 h.label, .int .i64 h.pos, .slice p.A p.n p.c] 30))))
      clear hk CM
      go_wp2_with fail
      refine CF.out.mono ?_
      rintro e w5 ⟨gf, rfl, hF, hg, hb⟩
      have HX5 := Lib.hid (heap_below hb (by simp; omega) (heap_old HX3.out (.cells #[.int .i8 h.kind, .string h.name, .string h.arg, .int .i64 h.num, .int .i8 h.tk, .slice p.TA p.tn p.tc, .int .i8 h.uk, .slice p.UA p.un p.uc, .int .i64 h.label, .int .i64 h.pos, .slice p.A p.n p.c] 30)))
      have HB5 := Lib.hid ((HB3.out.alloc HB3.out.size (.cells #[.int .i8 h.kind, .string h.name, .string h.arg, .int .i64 h.num, .int .i8 h.tk, .slice p.TA p.tn p.tc, .int .i8 h.uk, .slice p.UA p.un p.uc, .int .i64 h.label, .int .i64 h.pos, .slice p.A p.n p.c] 30)).trans (hb.mono (by simp; omega)))
      have HF5 := Lib.hid hF
      have hg5 : w.heap.size < gf := by simp at hg; omega
      clear p0 p1 p2 p3 p4 p5 p6 p7 p8 p9 p10 pl y0 y1 y2 y3 y4 y5 y6 y7 y8 y9 y10 hF hg hb HX3 HF3 HB3 HW3 CF k0
      obtain ⟨p0, p1, p2, p3, p4, p5, p6, p7, p8, p9, p10, pl⟩ := own11 HX5.out
      have y0 := frozen_at HX5.out 0
      have y1 := frozen_at HX5.out 1
      have y2 := frozen_at HX5.out 2
      have y3 := frozen_at HX5.out 3
      have y4 := frozen_at HX5.out 4
      have y5 := frozen_at HX5.out 5
      have y6 := frozen_at HX5.out 6
      have y7 := frozen_at HX5.out 7
      have y8 := frozen_at HX5.out 8
      have y9 := frozen_at HX5.out 9
      have y10 := frozen_at HX5.out 10
      go_wp2_with fail
      have z1 := set_eleven HX5.out (.int .i8 0) (.string ⟨#[]⟩) (.string ⟨#[]⟩) (.int .i64 0) (.int .i8 0) (.slice none 0 0) (.int .i8 0) (.slice none 0 0) (.int .i64 0) (.int .i64 0) (.slice none 0 0)
      have HE := Lib.hid (show FaultAt (((((((((((w5.setCell ⟨w.heap.size, 0, none⟩ (.int .i8 0)).setCell ⟨w.heap.size, 1, none⟩ (.string ⟨#[]⟩)).setCell ⟨w.heap.size, 2, none⟩ (.string ⟨#[]⟩)).setCell ⟨w.heap.size, 3, none⟩ (.int .i64 0)).setCell ⟨w.heap.size, 4, none⟩ (.int .i8 0)).setCell ⟨w.heap.size, 5, none⟩ (.slice none 0 0)).setCell ⟨w.heap.size, 6, none⟩ (.int .i8 0)).setCell ⟨w.heap.size, 7, none⟩ (.slice none 0 0)).setCell ⟨w.heap.size, 8, none⟩ (.int .i64 0)).setCell ⟨w.heap.size, 9, none⟩ (.int .i64 0)).setCell ⟨w.heap.size, 10, none⟩ (.slice none 0 0)) gf 40 (fAt l j) (fWord l j) ∧ Below w.heap.size w (((((((((((w5.setCell ⟨w.heap.size, 0, none⟩ (.int .i8 0)).setCell ⟨w.heap.size, 1, none⟩ (.string ⟨#[]⟩)).setCell ⟨w.heap.size, 2, none⟩ (.string ⟨#[]⟩)).setCell ⟨w.heap.size, 3, none⟩ (.int .i64 0)).setCell ⟨w.heap.size, 4, none⟩ (.int .i8 0)).setCell ⟨w.heap.size, 5, none⟩ (.slice none 0 0)).setCell ⟨w.heap.size, 6, none⟩ (.int .i8 0)).setCell ⟨w.heap.size, 7, none⟩ (.slice none 0 0)).setCell ⟨w.heap.size, 8, none⟩ (.int .i64 0)).setCell ⟨w.heap.size, 9, none⟩ (.int .i64 0)).setCell ⟨w.heap.size, 10, none⟩ (.slice none 0 0)) from ⟨by unfold FaultAt; rw [set_eleven_ne (X := w.heap.size) (B := gf) (by omega)]; exact HF5.out, set_eleven_below HB5.out (Nat.le_refl _) (.int .i8 0) (.string ⟨#[]⟩) (.string ⟨#[]⟩) (.int .i64 0) (.int .i8 0) (.slice none 0 0) (.int .i8 0) (.slice none 0 0) (.int .i64 0) (.int .i64 0) (.slice none 0 0)⟩)
      clear p0 p1 p2 p3 p4 p5 p6 p7 p8 p9 p10 pl y0 y1 y2 y3 y4 y5 y6 y7 y8 y9 y10 HX5 HF5 HB5
      generalize (((((((((((w5.setCell ⟨w.heap.size, 0, none⟩ (.int .i8 0)).setCell ⟨w.heap.size, 1, none⟩ (.string ⟨#[]⟩)).setCell ⟨w.heap.size, 2, none⟩ (.string ⟨#[]⟩)).setCell ⟨w.heap.size, 3, none⟩ (.int .i64 0)).setCell ⟨w.heap.size, 4, none⟩ (.int .i8 0)).setCell ⟨w.heap.size, 5, none⟩ (.slice none 0 0)).setCell ⟨w.heap.size, 6, none⟩ (.int .i8 0)).setCell ⟨w.heap.size, 7, none⟩ (.slice none 0 0)).setCell ⟨w.heap.size, 8, none⟩ (.int .i64 0)).setCell ⟨w.heap.size, 9, none⟩ (.int .i64 0)).setCell ⟨w.heap.size, 10, none⟩ (.slice none 0 0)) = w6 at *
      obtain ⟨p0, p1, p2, p3, p4, p5, p6, p7, p8, p9, p10, -⟩ := own11 z1
      refine bodyPost_ret (v := .tuple #[.agg #[.int .i8 0, .string ⟨#[]⟩, .string ⟨#[]⟩, .int .i64 0, .int .i8 0, .slice none 0 0, .int .i8 0, .slice none 0 0, .int .i64 0, .int .i64 0, .slice none 0 0], .iface 65 (.pointer (some ⟨gf, 0, none⟩))]) (by simp [results, Tryz.results9, go_sem, *]) rfl ⟨.bad 40 (fAt l j) (fWord l j), .more H0.out HH.out HK.out, gf, rfl, HE.out.1, Nat.le_of_lt hg5, HE.out.2⟩
  · have HX4 := Lib.hid (heap_below hb hs2 HX2.out)
    have HF4 := Lib.hid hF
    have HB4 := Lib.hid (HB2.out.trans (hb.mono HB2.out.size))
    have hg4 : w.heap.size < g := by omega
    have HFIT := Lib.hid hfit
    clear hF hb hg HX2 HB2 HW2 CW CM HJ hfit
    obtain ⟨p0, p1, p2, p3, p4, p5, p6, p7, p8, p9, p10, pl⟩ := own11 HX4.out
    have y0 := frozen_at HX4.out 0
    have y1 := frozen_at HX4.out 1
    have y2 := frozen_at HX4.out 2
    have y3 := frozen_at HX4.out 3
    have y4 := frozen_at HX4.out 4
    have y5 := frozen_at HX4.out 5
    have y6 := frozen_at HX4.out 6
    have y7 := frozen_at HX4.out 7
    have y8 := frozen_at HX4.out 8
    have y9 := frozen_at HX4.out 9
    have y10 := frozen_at HX4.out 10
    go_wp2_with fail
    have z1 := set_eleven HX4.out (.int .i8 0) (.string ⟨#[]⟩) (.string ⟨#[]⟩) (.int .i64 0) (.int .i8 0) (.slice none 0 0) (.int .i8 0) (.slice none 0 0) (.int .i64 0) (.int .i64 0) (.slice none 0 0)
    have HE := Lib.hid (show FaultAt (((((((((((w3.setCell ⟨w.heap.size, 0, none⟩ (.int .i8 0)).setCell ⟨w.heap.size, 1, none⟩ (.string ⟨#[]⟩)).setCell ⟨w.heap.size, 2, none⟩ (.string ⟨#[]⟩)).setCell ⟨w.heap.size, 3, none⟩ (.int .i64 0)).setCell ⟨w.heap.size, 4, none⟩ (.int .i8 0)).setCell ⟨w.heap.size, 5, none⟩ (.slice none 0 0)).setCell ⟨w.heap.size, 6, none⟩ (.int .i8 0)).setCell ⟨w.heap.size, 7, none⟩ (.slice none 0 0)).setCell ⟨w.heap.size, 8, none⟩ (.int .i64 0)).setCell ⟨w.heap.size, 9, none⟩ (.int .i64 0)).setCell ⟨w.heap.size, 10, none⟩ (.slice none 0 0)) g E a x ∧ Below w.heap.size w (((((((((((w3.setCell ⟨w.heap.size, 0, none⟩ (.int .i8 0)).setCell ⟨w.heap.size, 1, none⟩ (.string ⟨#[]⟩)).setCell ⟨w.heap.size, 2, none⟩ (.string ⟨#[]⟩)).setCell ⟨w.heap.size, 3, none⟩ (.int .i64 0)).setCell ⟨w.heap.size, 4, none⟩ (.int .i8 0)).setCell ⟨w.heap.size, 5, none⟩ (.slice none 0 0)).setCell ⟨w.heap.size, 6, none⟩ (.int .i8 0)).setCell ⟨w.heap.size, 7, none⟩ (.slice none 0 0)).setCell ⟨w.heap.size, 8, none⟩ (.int .i64 0)).setCell ⟨w.heap.size, 9, none⟩ (.int .i64 0)).setCell ⟨w.heap.size, 10, none⟩ (.slice none 0 0)) from ⟨by unfold FaultAt; rw [set_eleven_ne (X := w.heap.size) (B := g) (by omega)]; exact HF4.out, set_eleven_below HB4.out (Nat.le_refl _) (.int .i8 0) (.string ⟨#[]⟩) (.string ⟨#[]⟩) (.int .i64 0) (.int .i8 0) (.slice none 0 0) (.int .i8 0) (.slice none 0 0) (.int .i64 0) (.int .i64 0) (.slice none 0 0)⟩)
    clear p0 p1 p2 p3 p4 p5 p6 p7 p8 p9 p10 pl y0 y1 y2 y3 y4 y5 y6 y7 y8 y9 y10 HX4 HF4 HB4
    generalize (((((((((((w3.setCell ⟨w.heap.size, 0, none⟩ (.int .i8 0)).setCell ⟨w.heap.size, 1, none⟩ (.string ⟨#[]⟩)).setCell ⟨w.heap.size, 2, none⟩ (.string ⟨#[]⟩)).setCell ⟨w.heap.size, 3, none⟩ (.int .i64 0)).setCell ⟨w.heap.size, 4, none⟩ (.int .i8 0)).setCell ⟨w.heap.size, 5, none⟩ (.slice none 0 0)).setCell ⟨w.heap.size, 6, none⟩ (.int .i8 0)).setCell ⟨w.heap.size, 7, none⟩ (.slice none 0 0)).setCell ⟨w.heap.size, 8, none⟩ (.int .i64 0)).setCell ⟨w.heap.size, 9, none⟩ (.int .i64 0)).setCell ⟨w.heap.size, 10, none⟩ (.slice none 0 0)) = w6 at *
    obtain ⟨p0, p1, p2, p3, p4, p5, p6, p7, p8, p9, p10, -⟩ := own11 (heap_old z1 (.cells #[.int .i8 0, .string ⟨#[]⟩, .string ⟨#[]⟩, .int .i64 0, .int .i8 0, .slice none 0 0, .int .i8 0, .slice none 0 0, .int .i64 0, .int .i64 0, .slice none 0 0] 30))
    refine bodyPost_ret (v := .tuple #[.agg #[.int .i8 0, .string ⟨#[]⟩, .string ⟨#[]⟩, .int .i64 0, .int .i8 0, .slice none 0 0, .int .i8 0, .slice none 0 0, .int .i64 0, .int .i64 0, .slice none 0 0], .iface 65 (.pointer (some ⟨g, 0, none⟩))]) (by simp [results, Tryz.results9, go_sem, *]) rfl ⟨.bad E a x, HFIT.out, g, rfl, heap_old HE.out.1 _, Nat.le_of_lt hg4, HE.out.2.alloc HE.out.2.size _⟩
/-- what parse.Term leaves: of any text -/
theorem pterm_any (s : ByteArray) (w : World) (hG : TGlob w) : Calls Tryz.prog 9 #[.string s] w (fun e w' => ∃ q, TxOut s q ∧ TxPost w q e w') := by
  obtain ⟨tp, pv, hv⟩ := hG.err
  by_cases hs : s.size ≤ 65536
  · cases hk : (Sc.tk s 0).2 with
    | some f =>
      refine (text_scan s w f.1 f.2.1 f.2.2 fun W hb => (all_loop s hs W tp pv (var_at hb hv)).mono fun e w' h => ?_).mono fun e w' h => ⟨_, .scan hs hk, h⟩
      rcases h with ⟨v, h1, -⟩ | ⟨f2, N, h1, h2, h3, h4, h5⟩
      · rw [hk] at h1; cases h1
      · rw [hk] at h1; injection h1 with h1; subst h1
        exact ⟨N, h2, h3, h4, h5⟩
    | none =>
      obtain ⟨r, hT⟩ := T.total (wl s) 0 (Nat.zero_le _)
      have hlen : (Sc.tk s 0).1.length ≤ s.size := chain_len (Sc.chain_of s (s.size + 1) 0 (by omega) hk)
      refine (text_words s (wl s) w hG (by rw [wl_len]; unfold maxLen; omega) (fun x hx => by have := (wl_ok hk x hx).2; omega) (fun x hx => (wl_ok hk x hx).1) (wl_shy s) (by rw [wl_len]; omega) (fun W hb => (all_words s hs hk W tp pv (var_at hb hv)).mono fun e w' h => ?_) r hT).mono fun e w' ⟨q, h1, h2⟩ => ⟨q, .read hs hk hT h1, h2⟩
      obtain ⟨g, cap, h1, h2, h3, h4, h5⟩ := h
      refine ⟨some ⟨g, 0, none⟩, cap, by rw [wl_len]; exact h1, wrow_of h2 (by simp), h5⟩
  · exact (text_scan s w 3 0 ⟨#[]⟩ fun W hb => (all_long s (by omega) W).mono fun e w' h => h).mono fun e w' h => ⟨_, .long (by omega), h⟩
theorem Fits.det {l : List W4} {r : Tt.Rs} {q q' : TRes} (h : Fits l r q) (h' : Fits l r q') : q' = q := by
  cases h with
  | bad => cases h'; rfl
  | poor h0 => cases h' with
    | poor _ => rfl
    | more h1 _ _ => exact absurd h1 h0
    | good h1 _ _ => exact absurd h1 h0
  | more h0 hx hk => cases h' with
    | poor h1 => exact absurd h0 h1
    | more _ _ _ => rfl
    | good _ hx2 hk2 => rw [hx] at hx2; injection hx2 with e; subst e; exact absurd hk2 hk
  | good h0 hx hk => cases h' with
    | poor h1 => exact absurd h0 h1
    | more _ hx2 hk2 => rw [hx] at hx2; injection hx2 with e; subst e; exact absurd hk hk2
    | good _ _ _ => rfl
theorem TxOut.det {s : ByteArray} {q q' : TRes} (h : TxOut s q) (h' : TxOut s q') : q' = q := by
  cases h with
  | long h => cases h' with
    | long _ => rfl
    | scan h2 _ => omega
    | read h2 _ _ _ => omega
  | scan h e => cases h' with
    | long h2 => omega
    | scan _ e2 => rw [e] at e2; injection e2 with e2; subst e2; rfl
    | read _ e2 _ _ => rw [e] at e2; cases e2
  | read h e hT hf => cases h' with
    | long h2 => omega
    | scan _ e2 => rw [e] at e2; cases e2
    | read _ _ hT2 hf2 => rw [hT2.det hT] at hf2; exact hf.det hf2
end Go.Proofs.YtocehfklacjgbaaGreatDoor
