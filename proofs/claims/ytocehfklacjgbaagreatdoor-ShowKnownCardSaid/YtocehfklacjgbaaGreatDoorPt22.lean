/-
  parse.Words: the term whose words begin at a place, and the place behind it; or a fault. gen_words.py wrote this.
-/
import Derived.Test.YtocehfklacjgbaaGreatDoorM18
import Derived.Test.YtocehfklacjgbaaGreatDoorM13
import Derived.Test.YtocehfklacjgbaaGreatDoorM9
namespace Go.Proofs.YtocehfklacjgbaaGreatDoor
open Go.RowKit Rd Tt

/-- a fault at g -/
def FaultAt (w : World) (g : Nat) (E a : Int) (s : ByteArray) : Prop := w.heap[g]? = some (.cells #[.int .i64 E, .int .i64 a, .string s] 84 (0, 0))
/-- what a call that gives a fault leaves -/
def WBad (w : World) (E a : Int) (s : ByteArray) (e : Ending) (w' : World) : Prop :=
  ∃ g, e = .returned (.tuple #[.agg #[.int .i8 0, .string ⟨#[]⟩, .string ⟨#[]⟩, .int .i64 0, .int .i8 0, .slice none 0 0, .int .i8 0, .slice none 0 0, .int .i64 0, .int .i64 0, .slice none 0 0], .int .i64 0, .iface 65 (.pointer (some ⟨g, 0, none⟩))]) ∧ FaultAt w' g E a s ∧ w.heap.size ≤ g ∧ Below w.heap.size w w'
/-- what parse.Words leaves, by what is read -/
def WPost (w : World) (r : Tt.Rs) (e : Ending) (w' : World) : Prop := match r with
  | .ok [.tm h t] j => if Tm.chk h t = 0 then ∃ p, e = .returned (.tuple #[.agg #[.int .i8 h.kind, .string h.name, .string h.arg, .int .i64 h.num, .int .i8 h.tk, .slice p.TA p.tn p.tc, .int .i8 h.uk, .slice p.UA p.un p.uc, .int .i64 h.label, .int .i64 h.pos, .slice p.A p.n p.c], .int .i64 j, .nilIface]) ∧ FarT w.heap.size w' h t p ∧ Below w.heap.size w w' else WBad w (Tm.chk h t) 0 ⟨#[]⟩ e w'
  | .ok _ _ => False
  | .bad E a s => WBad w E a s e w'
theorem WPost.good {w w' : World} {h : Hd} {t : Tm} {j : Nat} {e : Ending} (h0 : Tm.chk h t = 0) (h1 : ∃ p, e = .returned (.tuple #[.agg #[.int .i8 h.kind, .string h.name, .string h.arg, .int .i64 h.num, .int .i8 h.tk, .slice p.TA p.tn p.tc, .int .i8 h.uk, .slice p.UA p.un p.uc, .int .i64 h.label, .int .i64 h.pos, .slice p.A p.n p.c], .int .i64 j, .nilIface]) ∧ FarT w.heap.size w' h t p ∧ Below w.heap.size w w') : WPost w (.ok [.tm h t] j) e w' := by
  show if Tm.chk h t = 0 then _ else _
  rw [if_pos h0]; exact h1
theorem WPost.poor {w w' : World} {h : Hd} {t : Tm} {j : Nat} {e : Ending} (h0 : Tm.chk h t ≠ 0) (h1 : WBad w (Tm.chk h t) 0 ⟨#[]⟩ e w') : WPost w (.ok [.tm h t] j) e w' := by
  show if Tm.chk h t = 0 then _ else _
  rw [if_neg h0]; exact h1
/-- a place, brought into the words -/
def plc (n : Nat) (at_ : Int) : Nat := (min (max at_ 0) (n : Int)).toNat
theorem plc_le (n : Nat) (a : Int) : plc n a ≤ n := by unfold plc; omega
theorem plc_eq (n : Nat) (a : Int) : ((plc n a : Nat) : Int) = min (max a 0) (n : Int) := by unfold plc; omega

theorem tpost_cases {l : List W4} {A : Option Addr} {c rb : Nat} {mv : Value} {w w' : World} {r : Tt.Rs} {e : Ending} (h : TPost l A c rb mv w r e w') :
    (∃ hd t j X, r = .ok [.tm hd t] j ∧ e = .returned (.pointer (some ⟨X, 0, none⟩)) ∧ TAt w.heap.size w' X hd t ∧ PGo l A c rb mv w j w') ∨ (∃ E a s, r = .bad E a s ∧ PBad rb w E a s e w') := by
  unfold TPost at h
  split at h
  · obtain ⟨X, h1, h2, h3⟩ := h
    exact .inl ⟨_, _, _, X, rfl, h1, h2, h3⟩
  · exact h.elim
  · exact .inr ⟨_, _, _, rfl, h⟩
theorem set_one' {w : World} {Q : Nat} {y v : Value} {t : TypeId} (h : w.heap[Q]? = some (.cells #[y] t (0, 0))) : (w.setCell ⟨Q, 0, none⟩ v).heap[Q]? = some (.cells #[v] t (0, 0)) := by
  simp [World.setCell, Array.getElem?_modify, h]
theorem glob_lt {P : Program} {W : World} {n : String} {cs : Array Value} (hv : W.var? P n = some cs) : ∀ g, P.globalNamed n = some g → g < W.heap.size := by
  intro g hg
  rcases Nat.lt_or_ge g W.heap.size with h1 | h1
  · exact h1
  · exfalso
    unfold World.var? at hv
    rw [hg] at hv
    simp [Array.getElem?_eq_none h1] at hv
theorem set_eleven {w : World} {X : Nat} {x0 x1 x2 x3 x4 x5 x6 x7 x8 x9 x10 : Value} {t : TypeId} (h : w.heap[X]? = some (.cells #[x0, x1, x2, x3, x4, x5, x6, x7, x8, x9, x10] t (0, 0))) (v0 v1 v2 v3 v4 v5 v6 v7 v8 v9 v10 : Value) :
    (((((((((((w.setCell ⟨X, 0, none⟩ (v0)).setCell ⟨X, 1, none⟩ (v1)).setCell ⟨X, 2, none⟩ (v2)).setCell ⟨X, 3, none⟩ (v3)).setCell ⟨X, 4, none⟩ (v4)).setCell ⟨X, 5, none⟩ (v5)).setCell ⟨X, 6, none⟩ (v6)).setCell ⟨X, 7, none⟩ (v7)).setCell ⟨X, 8, none⟩ (v8)).setCell ⟨X, 9, none⟩ (v9)).setCell ⟨X, 10, none⟩ (v10)).heap[X]? = some (.cells #[v0, v1, v2, v3, v4, v5, v6, v7, v8, v9, v10] t (0, 0)) := by
  simp [World.setCell, Array.getElem?_modify, h]
theorem set_eleven_ne {w : World} {X B : Nat} (hne : B ≠ X) (v0 v1 v2 v3 v4 v5 v6 v7 v8 v9 v10 : Value) :
    (((((((((((w.setCell ⟨X, 0, none⟩ (v0)).setCell ⟨X, 1, none⟩ (v1)).setCell ⟨X, 2, none⟩ (v2)).setCell ⟨X, 3, none⟩ (v3)).setCell ⟨X, 4, none⟩ (v4)).setCell ⟨X, 5, none⟩ (v5)).setCell ⟨X, 6, none⟩ (v6)).setCell ⟨X, 7, none⟩ (v7)).setCell ⟨X, 8, none⟩ (v8)).setCell ⟨X, 9, none⟩ (v9)).setCell ⟨X, 10, none⟩ (v10)).heap[B]? = w.heap[B]? := by
  rw [Below.heap_setCell _ _ _ _ hne, Below.heap_setCell _ _ _ _ hne, Below.heap_setCell _ _ _ _ hne, Below.heap_setCell _ _ _ _ hne, Below.heap_setCell _ _ _ _ hne, Below.heap_setCell _ _ _ _ hne, Below.heap_setCell _ _ _ _ hne, Below.heap_setCell _ _ _ _ hne, Below.heap_setCell _ _ _ _ hne, Below.heap_setCell _ _ _ _ hne, Below.heap_setCell _ _ _ _ hne]
theorem set_eleven_below {a w : World} {X : Nat} (hb : Below a.heap.size a w) (hX : a.heap.size ≤ X) (v0 v1 v2 v3 v4 v5 v6 v7 v8 v9 v10 : Value) :
    Below a.heap.size a (((((((((((w.setCell ⟨X, 0, none⟩ (v0)).setCell ⟨X, 1, none⟩ (v1)).setCell ⟨X, 2, none⟩ (v2)).setCell ⟨X, 3, none⟩ (v3)).setCell ⟨X, 4, none⟩ (v4)).setCell ⟨X, 5, none⟩ (v5)).setCell ⟨X, 6, none⟩ (v6)).setCell ⟨X, 7, none⟩ (v7)).setCell ⟨X, 8, none⟩ (v8)).setCell ⟨X, 9, none⟩ (v9)).setCell ⟨X, 10, none⟩ (v10)) :=
  (((((((((((hb.setCell (p := ⟨X, 0, none⟩) hX (v0)).setCell (p := ⟨X, 1, none⟩) hX (v1)).setCell (p := ⟨X, 2, none⟩) hX (v2)).setCell (p := ⟨X, 3, none⟩) hX (v3)).setCell (p := ⟨X, 4, none⟩) hX (v4)).setCell (p := ⟨X, 5, none⟩) hX (v5)).setCell (p := ⟨X, 6, none⟩) hX (v6)).setCell (p := ⟨X, 7, none⟩) hX (v7)).setCell (p := ⟨X, 8, none⟩) hX (v8)).setCell (p := ⟨X, 9, none⟩) hX (v9)).setCell (p := ⟨X, 10, none⟩) hX (v10))
theorem set_eleven_keep {w : World} {X n0 : Nat} (hX : X < n0) (v0 v1 v2 v3 v4 v5 v6 v7 v8 v9 v10 : Value) :
    KeepFrom n0 w (((((((((((w.setCell ⟨X, 0, none⟩ (v0)).setCell ⟨X, 1, none⟩ (v1)).setCell ⟨X, 2, none⟩ (v2)).setCell ⟨X, 3, none⟩ (v3)).setCell ⟨X, 4, none⟩ (v4)).setCell ⟨X, 5, none⟩ (v5)).setCell ⟨X, 6, none⟩ (v6)).setCell ⟨X, 7, none⟩ (v7)).setCell ⟨X, 8, none⟩ (v8)).setCell ⟨X, 9, none⟩ (v9)).setCell ⟨X, 10, none⟩ (v10)) := ((((((((((keep_set hX).trans (keep_set hX)).trans (keep_set hX)).trans (keep_set hX)).trans (keep_set hX)).trans (keep_set hX)).trans (keep_set hX)).trans (keep_set hX)).trans (keep_set hX)).trans (keep_set hX)).trans (keep_set hX)

set_option maxHeartbeats 8000000 in
set_option maxRecDepth 100000 in
theorem words_any (l : List W4) (A : Option Addr) (c : Nat) (at_ : Int) (w : World) (hW : WRow w A l) (hG : TGlob w) (hl : l.length < maxLen) (hsm : ∀ x ∈ l, x.text.size ≤ 281474976710656) (hok : ∀ x ∈ l, OkWord x) (r : Tt.Rs) (hT : T l (.term (plc l.length at_)) r) :
    Calls Tryz.prog 22 #[.slice A l.length c, .int .i64 at_] w (WPost w r) := by
  have hmf : ∀ (fn : Fn) (first cap : Array Value) (w : World), (Instr.makeFunc fn first cap).run Tryz.prog w = .ok (.func fn first cap) w := fun _ _ _ _ => rfl
  obtain ⟨i, hi⟩ : ∃ i, i = plc l.length at_ := ⟨_, rfl⟩
  have hie := plc_eq l.length at_
  have hil := plc_le l.length at_
  rw [← hi] at hie hil hT
  clear hi
  obtain ⟨w2, hw2⟩ : ∃ w2, w2 = ((w.alloc (.cells #[.int .i8 0, .string ⟨#[]⟩, .string ⟨#[]⟩, .int .i64 0, .int .i8 0, .slice none 0 0, .int .i8 0, .slice none 0 0, .int .i64 0, .int .i64 0, .slice none 0 0] 30)).alloc (.cells #[.nilIface] 32)) := ⟨_, rfl⟩
  have hb2 : Below w.heap.size w w2 := by rw [hw2]; exact ((Below.refl w.heap.size w).alloc (Nat.le_refl _) _).alloc (by simp) _
  have hP : w2.heap[w.heap.size]? = some (.cells #[.int .i8 0, .string ⟨#[]⟩, .string ⟨#[]⟩, .int .i64 0, .int .i8 0, .slice none 0 0, .int .i8 0, .slice none 0 0, .int .i64 0, .int .i64 0, .slice none 0 0] 30 (0, 0)) := by rw [hw2]; exact heap_old (heap_new w _) _
  have hQ : w2.heap[w.heap.size + 1]? = some (.cells #[.nilIface] 32 (0, 0)) := by rw [hw2]; exact heap_new2 w _ _
  have hs2 : w2.heap.size = w.heap.size + 2 := by rw [hw2]; simp
  have hgl : ∀ g, Tryz.prog.globalNamed "strconv.ErrRange" = some g → g < w.heap.size := by
    obtain ⟨tp, p, hv⟩ := hG.err
    exact glob_lt hv
  have hal : ∀ g o, A = some ⟨g, o, none⟩ → l ≠ [] → g < w.heap.size := fun g o e hn => hW.lt g o e hn
  have HS := Lib.hid (fun (u : World) (rb : Nat) (mv : Value) (hb : Below w.heap.size w u) (hr : w.heap.size ≤ rb) (hO : OpM u mv) (hR : PRd u rb A l.length c i mv) => (show PdS l A c rb mv u i from ⟨hR, hW.below hb, fun g o e hn => by have := hal g o e hn; omega, hil, hG.types.below hb, (hG.below hb).err, fun g hg => by have := hgl g hg; omega, hl, hsm, hok, hO⟩))
  have HO := Lib.hid (ops_any w2)
  have HIE := Lib.hid hie
  have HW2 := Lib.hid hw2
  have HB2 := Lib.hid hb2
  have HG := Lib.hid hG
  have HP := Lib.hid hP
  have HQ := Lib.hid hQ
  have HT := Lib.hid hT
  have HI := Lib.hid hil
  have i5 : (l.length : Int) ≤ 9223372036854775807 := by unfold maxLen at hl; omega
  clear hl hsm hok hW hG hw2 hb2 hP hQ hie hil hT hgl hal
  go_enter_defers Tryz.func22, Tryz.ntmps22
  go_wp2_with fail
  rw [← HIE.out, ← HW2.out]
  refine HO.out.mono ?_
  rintro e u3 ⟨M, rfl, hO, hM, hb3⟩
  have HB4 := Lib.hid ((HB2.out.trans (hb3.mono HB2.out.size)).alloc (Nat.le_trans HB2.out.size hb3.size) (.cells #[.slice A l.length c, .int .i64 i, .map (some M)] 100))
  have HP4 := Lib.hid (heap_old (heap_below hb3 (heap_lt HP.out) HP.out) (.cells #[.slice A l.length c, .int .i64 i, .map (some M)] 100))
  have HQ4 := Lib.hid (heap_old (heap_below hb3 (heap_lt HQ.out) HQ.out) (.cells #[.slice A l.length c, .int .i64 i, .map (some M)] 100))
  have hrs : w.heap.size + 2 ≤ u3.heap.size := by have := hb3.size; omega
  have HR4 := Lib.hid (HS.out _ u3.heap.size (.map (some M)) HB4.out (by omega) (hO.below ((Below.refl u3.heap.size u3).alloc (Nat.le_refl _) _)) (heap_new u3 _))
  clear hO hM hb3 HO HP HQ HB2 HW2 HIE i5 HS
  go_wp2_with fail
  have hz4 : (u3.alloc (.cells #[.slice A l.length c, .int .i64 i, .map (some M)] 100)).heap.size = u3.heap.size + 1 := by simp
  generalize u3.alloc (.cells #[.slice A l.length c, .int .i64 i, .map (some M)] 100) = w4 at *
  generalize u3.heap.size = rb at *
  refine (reads_term l A c rb i (.map (some M)) w4 HR4.out r HT.out).mono ?_
  intro e w5 hp
  rcases tpost_cases hp with ⟨h, t, j, X, rfl, rfl, hX, hP⟩ | ⟨E, a, s, rfl, hP⟩
  · clear hp HR4 HT HI
    obtain ⟨hXl, p, hx, hF⟩ := hX
    have hP5 := heap_grown hP.2 (show w.heap.size ≠ rb by omega) HP4.out
    have hQ5 := heap_grown hP.2 (show w.heap.size + 1 ≠ rb by omega) HQ4.out
    have hR5 := hP.1
    have hb5 := HB4.out.grown hP.2 (by omega) (fun k hk => by injection hk with hk; omega)
    have HX5 := Lib.hid (show w5.heap[X]? = some (.cells #[.int .i8 h.kind, .string h.name, .string h.arg, .int .i64 h.num, .int .i8 h.tk, .slice p.TA p.tn p.tc, .int .i8 h.uk, .slice p.UA p.un p.uc, .int .i64 h.label, .int .i64 h.pos, .slice p.A p.n p.c] 30 (0, 0)) from hx)
    have HP6 := Lib.hid (set_eleven hP5 (.int .i8 h.kind) (.string h.name) (.string h.arg) (.int .i64 h.num) (.int .i8 h.tk) (.slice p.TA p.tn p.tc) (.int .i8 h.uk) (.slice p.UA p.un p.uc) (.int .i64 h.label) (.int .i64 h.pos) (.slice p.A p.n p.c))
    have HQ6 := Lib.hid ((set_eleven_ne (w := w5) (X := w.heap.size) (B := w.heap.size + 1) (by omega) (.int .i8 h.kind) (.string h.name) (.string h.arg) (.int .i64 h.num) (.int .i8 h.tk) (.slice p.TA p.tn p.tc) (.int .i8 h.uk) (.slice p.UA p.un p.uc) (.int .i64 h.label) (.int .i64 h.pos) (.slice p.A p.n p.c)).trans hQ5)
    have HR6 := Lib.hid ((set_eleven_ne (w := w5) (X := w.heap.size) (B := rb) (by omega) (.int .i8 h.kind) (.string h.name) (.string h.arg) (.int .i64 h.num) (.int .i8 h.tk) (.slice p.TA p.tn p.tc) (.int .i8 h.uk) (.slice p.UA p.un p.uc) (.int .i64 h.label) (.int .i64 h.pos) (.slice p.A p.n p.c)).trans hR5)
    have HB6 := Lib.hid (set_eleven_below hb5 (X := w.heap.size) (Nat.le_refl _) (.int .i8 h.kind) (.string h.name) (.string h.arg) (.int .i64 h.num) (.int .i8 h.tk) (.slice p.TA p.tn p.tc) (.int .i8 h.uk) (.slice p.UA p.un p.uc) (.int .i64 h.label) (.int .i64 h.pos) (.slice p.A p.n p.c))
    have HF6 := Lib.hid (hF.keep (set_eleven_keep (w := w5) (X := w.heap.size) (n0 := w4.heap.size) (by omega) (.int .i8 h.kind) (.string h.name) (.string h.arg) (.int .i64 h.num) (.int .i8 h.tk) (.slice p.TA p.tn p.tc) (.int .i8 h.uk) (.slice p.UA p.un p.uc) (.int .i64 h.label) (.int .i64 h.pos) (.slice p.A p.n p.c)))
    obtain ⟨x0, x1, x2, x3, x4, x5, x6, x7, x8, x9, x10, xl⟩ := own11 HX5.out
    obtain ⟨p0, p1, p2, p3, p4, p5, p6, p7, p8, p9, p10, pl⟩ := own11 hP5
    have z0 := frozen_at hP5 0
    have z1 := frozen_at hP5 1
    have z2 := frozen_at hP5 2
    have z3 := frozen_at hP5 3
    have z4 := frozen_at hP5 4
    have z5 := frozen_at hP5 5
    have z6 := frozen_at hP5 6
    have z7 := frozen_at hP5 7
    have z8 := frozen_at hP5 8
    have z9 := frozen_at hP5 9
    have z10 := frozen_at hP5 10
    clear hP hx hF hQ5 hR5 hb5 hP5 HX5 HP4 HQ4 HB4
    go_wp2_with fail
    clear x0 x1 x2 x3 x4 x5 x6 x7 x8 x9 x10 xl p0 p1 p2 p3 p4 p5 p6 p7 p8 p9 p10 pl z0 z1 z2 z3 z4 z5 z6 z7 z8 z9 z10
    generalize (((((((((((w5.setCell ⟨w.heap.size, 0, none⟩ (.int .i8 h.kind)).setCell ⟨w.heap.size, 1, none⟩ (.string h.name)).setCell ⟨w.heap.size, 2, none⟩ (.string h.arg)).setCell ⟨w.heap.size, 3, none⟩ (.int .i64 h.num)).setCell ⟨w.heap.size, 4, none⟩ (.int .i8 h.tk)).setCell ⟨w.heap.size, 5, none⟩ (.slice p.TA p.tn p.tc)).setCell ⟨w.heap.size, 6, none⟩ (.int .i8 h.uk)).setCell ⟨w.heap.size, 7, none⟩ (.slice p.UA p.un p.uc)).setCell ⟨w.heap.size, 8, none⟩ (.int .i64 h.label)).setCell ⟨w.heap.size, 9, none⟩ (.int .i64 h.pos)).setCell ⟨w.heap.size, 10, none⟩ (.slice p.A p.n p.c)) = w6 at *
    refine (tcheck_any h t p w6 HF6.out.is (HG.out.below HB6.out)).mono ?_
    rintro e w7 ⟨rfl, hb⟩
    have HB7 := Lib.hid (HB6.out.trans (hb.mono HB6.out.size))
    have HP7 := Lib.hid (heap_below hb (heap_lt HP6.out) HP6.out)
    have HQ7 := Lib.hid (heap_below hb (heap_lt HQ6.out) HQ6.out)
    have HR7 := Lib.hid (heap_below hb (heap_lt HR6.out) HR6.out)
    have HF7 := Lib.hid (HF6.out.keep (KeepFrom.below hb))
    clear hb HP6 HQ6 HR6 HF6 HB6 HG
    obtain ⟨p0, p1, p2, p3, p4, p5, p6, p7, p8, p9, p10, pl⟩ := own11 HP7.out
    have y0 := frozen_at HP7.out 0
    have y1 := frozen_at HP7.out 1
    have y2 := frozen_at HP7.out 2
    have y3 := frozen_at HP7.out 3
    have y4 := frozen_at HP7.out 4
    have y5 := frozen_at HP7.out 5
    have y6 := frozen_at HP7.out 6
    have y7 := frozen_at HP7.out 7
    have y8 := frozen_at HP7.out 8
    have y9 := frozen_at HP7.out 9
    have y10 := frozen_at HP7.out 10
    obtain ⟨q0, qf0, ql⟩ := own1 HQ7.out
    obtain ⟨r0, r1, r2, -, -, -, rl⟩ := own3' HR7.out
    by_cases h0 : Tm.chk h t = 0
    · rw [h0]
      have H0 := Lib.hid h0
      clear h0
      go_wp2_with fail
      go_region
      go_wp2_with fail
      have z1 : ((((((((((((w7.setCell ⟨w.heap.size, 0, none⟩ (.int .i8 h.kind)).setCell ⟨w.heap.size, 1, none⟩ (.string h.name)).setCell ⟨w.heap.size, 2, none⟩ (.string h.arg)).setCell ⟨w.heap.size, 3, none⟩ (.int .i64 h.num)).setCell ⟨w.heap.size, 4, none⟩ (.int .i8 h.tk)).setCell ⟨w.heap.size, 5, none⟩ (.slice p.TA p.tn p.tc)).setCell ⟨w.heap.size, 6, none⟩ (.int .i8 h.uk)).setCell ⟨w.heap.size, 7, none⟩ (.slice p.UA p.un p.uc)).setCell ⟨w.heap.size, 8, none⟩ (.int .i64 h.label)).setCell ⟨w.heap.size, 9, none⟩ (.int .i64 h.pos)).setCell ⟨w.heap.size, 10, none⟩ (.slice p.A p.n p.c)).setCell ⟨w.heap.size + 1, 0, none⟩ .nilIface).heap[w.heap.size]? = some (.cells #[.int .i8 h.kind, .string h.name, .string h.arg, .int .i64 h.num, .int .i8 h.tk, .slice p.TA p.tn p.tc, .int .i8 h.uk, .slice p.UA p.un p.uc, .int .i64 h.label, .int .i64 h.pos, .slice p.A p.n p.c] 30 (0, 0)) := by rw [Below.heap_setCell _ _ _ _ (show w.heap.size ≠ w.heap.size + 1 by omega)]; exact set_eleven HP7.out (.int .i8 h.kind) (.string h.name) (.string h.arg) (.int .i64 h.num) (.int .i8 h.tk) (.slice p.TA p.tn p.tc) (.int .i8 h.uk) (.slice p.UA p.un p.uc) (.int .i64 h.label) (.int .i64 h.pos) (.slice p.A p.n p.c)
      have z2 : ((((((((((((w7.setCell ⟨w.heap.size, 0, none⟩ (.int .i8 h.kind)).setCell ⟨w.heap.size, 1, none⟩ (.string h.name)).setCell ⟨w.heap.size, 2, none⟩ (.string h.arg)).setCell ⟨w.heap.size, 3, none⟩ (.int .i64 h.num)).setCell ⟨w.heap.size, 4, none⟩ (.int .i8 h.tk)).setCell ⟨w.heap.size, 5, none⟩ (.slice p.TA p.tn p.tc)).setCell ⟨w.heap.size, 6, none⟩ (.int .i8 h.uk)).setCell ⟨w.heap.size, 7, none⟩ (.slice p.UA p.un p.uc)).setCell ⟨w.heap.size, 8, none⟩ (.int .i64 h.label)).setCell ⟨w.heap.size, 9, none⟩ (.int .i64 h.pos)).setCell ⟨w.heap.size, 10, none⟩ (.slice p.A p.n p.c)).setCell ⟨w.heap.size + 1, 0, none⟩ .nilIface).heap[w.heap.size + 1]? = some (.cells #[.nilIface] 32 (0, 0)) := set_one' ((set_eleven_ne (w := w7) (X := w.heap.size) (B := w.heap.size + 1) (by omega) (.int .i8 h.kind) (.string h.name) (.string h.arg) (.int .i64 h.num) (.int .i8 h.tk) (.slice p.TA p.tn p.tc) (.int .i8 h.uk) (.slice p.UA p.un p.uc) (.int .i64 h.label) (.int .i64 h.pos) (.slice p.A p.n p.c)).trans HQ7.out)
      have HB8 := Lib.hid ((set_eleven_below HB7.out (X := w.heap.size) (Nat.le_refl _) (.int .i8 h.kind) (.string h.name) (.string h.arg) (.int .i64 h.num) (.int .i8 h.tk) (.slice p.TA p.tn p.tc) (.int .i8 h.uk) (.slice p.UA p.un p.uc) (.int .i64 h.label) (.int .i64 h.pos) (.slice p.A p.n p.c)).setCell (p := ⟨w.heap.size + 1, 0, none⟩) (Nat.le_succ _) .nilIface)
      have HF8 := Lib.hid ((HF7.out.keep (set_eleven_keep (w := w7) (X := w.heap.size) (n0 := w4.heap.size) (by omega) (.int .i8 h.kind) (.string h.name) (.string h.arg) (.int .i64 h.num) (.int .i8 h.tk) (.slice p.TA p.tn p.tc) (.int .i8 h.uk) (.slice p.UA p.un p.uc) (.int .i64 h.label) (.int .i64 h.pos) (.slice p.A p.n p.c))).keep (keep_set (N := w.heap.size + 1) (o := 0) (v := .nilIface) (by omega)))
      clear p0 p1 p2 p3 p4 p5 p6 p7 p8 p9 p10 pl y0 y1 y2 y3 y4 y5 y6 y7 y8 y9 y10 q0 qf0 ql r0 r1 r2 rl HP7 HQ7 HR7 HF7 HB7
      generalize (((((((((((w7.setCell ⟨w.heap.size, 0, none⟩ (.int .i8 h.kind)).setCell ⟨w.heap.size, 1, none⟩ (.string h.name)).setCell ⟨w.heap.size, 2, none⟩ (.string h.arg)).setCell ⟨w.heap.size, 3, none⟩ (.int .i64 h.num)).setCell ⟨w.heap.size, 4, none⟩ (.int .i8 h.tk)).setCell ⟨w.heap.size, 5, none⟩ (.slice p.TA p.tn p.tc)).setCell ⟨w.heap.size, 6, none⟩ (.int .i8 h.uk)).setCell ⟨w.heap.size, 7, none⟩ (.slice p.UA p.un p.uc)).setCell ⟨w.heap.size, 8, none⟩ (.int .i64 h.label)).setCell ⟨w.heap.size, 9, none⟩ (.int .i64 h.pos)).setCell ⟨w.heap.size, 10, none⟩ (.slice p.A p.n p.c)).setCell ⟨w.heap.size + 1, 0, none⟩ .nilIface = w8 at *
      obtain ⟨p0, p1, p2, p3, p4, p5, p6, p7, p8, p9, p10, -⟩ := own11 (heap_old (show w8.drew.heap[w.heap.size]? = _ from z1) (.cells #[.nilIface] 95))
      obtain ⟨q0, -, -⟩ := own1 (heap_old (show w8.drew.heap[w.heap.size + 1]? = _ from z2) (.cells #[.nilIface] 95))
      have HB9 := Lib.hid ((HB8.out.drew).alloc (show w.heap.size ≤ w8.drew.heap.size from HB8.out.size) (.cells #[.nilIface] 95))
      have HF9 := Lib.hid (show FarT w.heap.size (w8.drew.alloc (.cells #[.nilIface] 95)) h t p from ((HF8.out.keep (w' := w8.drew) fun _ _ _ _ h => h).keep (keep_alloc _)).low (by omega))
      clear z1 z2 HB8 HF8
      generalize w8.drew = w9 at *
      refine leaves_cons (f := 42) (args := #[.pointer (some ⟨w.heap.size + 1, 0, none⟩)]) (by simp) (by simp [go_sem]) ?_
      refine (pcatch_none _ _).mono ?_
      rintro e u' w10 ⟨rfl, rfl, rfl⟩
      refine ⟨.tuple #[.agg #[.int .i8 h.kind, .string h.name, .string h.arg, .int .i64 h.num, .int .i8 h.tk, .slice p.TA p.tn p.tc, .int .i8 h.uk, .slice p.UA p.un p.uc, .int .i64 h.label, .int .i64 h.pos, .slice p.A p.n p.c], .int .i64 j, .nilIface], by simp [results, Tryz.results22, go_sem, p0, p1, p2, p3, p4, p5, p6, p7, p8, p9, p10, q0], ?_⟩
      exact WPost.good H0.out ⟨p, rfl, HF9.out, HB9.out⟩
    · have hc : (((Tm.chk h t : Nat) : Int) != 0) = true := by simp; omega
      have H0 := Lib.hid h0
      obtain ⟨C, hC⟩ : ∃ C, C = Tm.chk h t := ⟨_, rfl⟩
      rw [← hC] at hc ⊢
      have HC := Lib.hid hC
      clear hC h0
      go_wp2_with fail
      have z1 : ((((((((((((w7.setCell ⟨w.heap.size, 0, none⟩ (.int .i8 0)).setCell ⟨w.heap.size, 1, none⟩ (.string ⟨#[]⟩)).setCell ⟨w.heap.size, 2, none⟩ (.string ⟨#[]⟩)).setCell ⟨w.heap.size, 3, none⟩ (.int .i64 0)).setCell ⟨w.heap.size, 4, none⟩ (.int .i8 0)).setCell ⟨w.heap.size, 5, none⟩ (.slice none 0 0)).setCell ⟨w.heap.size, 6, none⟩ (.int .i8 0)).setCell ⟨w.heap.size, 7, none⟩ (.slice none 0 0)).setCell ⟨w.heap.size, 8, none⟩ (.int .i64 0)).setCell ⟨w.heap.size, 9, none⟩ (.int .i64 0)).setCell ⟨w.heap.size, 10, none⟩ (.slice none 0 0)).setCell ⟨w.heap.size + 1, 0, none⟩ (.iface 65 (.pointer (some ⟨w7.heap.size, 0, none⟩)))).heap[w.heap.size]? = some (.cells #[.int .i8 0, .string ⟨#[]⟩, .string ⟨#[]⟩, .int .i64 0, .int .i8 0, .slice none 0 0, .int .i8 0, .slice none 0 0, .int .i64 0, .int .i64 0, .slice none 0 0] 30 (0, 0)) := by rw [Below.heap_setCell _ _ _ _ (show w.heap.size ≠ w.heap.size + 1 by omega)]; exact set_eleven HP7.out (.int .i8 0) (.string ⟨#[]⟩) (.string ⟨#[]⟩) (.int .i64 0) (.int .i8 0) (.slice none 0 0) (.int .i8 0) (.slice none 0 0) (.int .i64 0) (.int .i64 0) (.slice none 0 0)
      have z2 : ((((((((((((w7.setCell ⟨w.heap.size, 0, none⟩ (.int .i8 0)).setCell ⟨w.heap.size, 1, none⟩ (.string ⟨#[]⟩)).setCell ⟨w.heap.size, 2, none⟩ (.string ⟨#[]⟩)).setCell ⟨w.heap.size, 3, none⟩ (.int .i64 0)).setCell ⟨w.heap.size, 4, none⟩ (.int .i8 0)).setCell ⟨w.heap.size, 5, none⟩ (.slice none 0 0)).setCell ⟨w.heap.size, 6, none⟩ (.int .i8 0)).setCell ⟨w.heap.size, 7, none⟩ (.slice none 0 0)).setCell ⟨w.heap.size, 8, none⟩ (.int .i64 0)).setCell ⟨w.heap.size, 9, none⟩ (.int .i64 0)).setCell ⟨w.heap.size, 10, none⟩ (.slice none 0 0)).setCell ⟨w.heap.size + 1, 0, none⟩ (.iface 65 (.pointer (some ⟨w7.heap.size, 0, none⟩)))).heap[w.heap.size + 1]? = some (.cells #[.iface 65 (.pointer (some ⟨w7.heap.size, 0, none⟩))] 32 (0, 0)) := set_one' ((set_eleven_ne (w := w7) (X := w.heap.size) (B := w.heap.size + 1) (by omega) (.int .i8 0) (.string ⟨#[]⟩) (.string ⟨#[]⟩) (.int .i64 0) (.int .i8 0) (.slice none 0 0) (.int .i8 0) (.slice none 0 0) (.int .i64 0) (.int .i64 0) (.slice none 0 0)).trans HQ7.out)
      have HB8 := Lib.hid ((set_eleven_below HB7.out (X := w.heap.size) (Nat.le_refl _) (.int .i8 0) (.string ⟨#[]⟩) (.string ⟨#[]⟩) (.int .i64 0) (.int .i8 0) (.slice none 0 0) (.int .i8 0) (.slice none 0 0) (.int .i64 0) (.int .i64 0) (.slice none 0 0)).setCell (p := ⟨w.heap.size + 1, 0, none⟩) (Nat.le_succ _) (.iface 65 (.pointer (some ⟨w7.heap.size, 0, none⟩))))
      have hz8 : ((((((((((((w7.setCell ⟨w.heap.size, 0, none⟩ (.int .i8 0)).setCell ⟨w.heap.size, 1, none⟩ (.string ⟨#[]⟩)).setCell ⟨w.heap.size, 2, none⟩ (.string ⟨#[]⟩)).setCell ⟨w.heap.size, 3, none⟩ (.int .i64 0)).setCell ⟨w.heap.size, 4, none⟩ (.int .i8 0)).setCell ⟨w.heap.size, 5, none⟩ (.slice none 0 0)).setCell ⟨w.heap.size, 6, none⟩ (.int .i8 0)).setCell ⟨w.heap.size, 7, none⟩ (.slice none 0 0)).setCell ⟨w.heap.size, 8, none⟩ (.int .i64 0)).setCell ⟨w.heap.size, 9, none⟩ (.int .i64 0)).setCell ⟨w.heap.size, 10, none⟩ (.slice none 0 0)).setCell ⟨w.heap.size + 1, 0, none⟩ (.iface 65 (.pointer (some ⟨w7.heap.size, 0, none⟩)))).heap.size = w7.heap.size := by simp
      have h7 := HB7.out.size
      clear p0 p1 p2 p3 p4 p5 p6 p7 p8 p9 p10 pl y0 y1 y2 y3 y4 y5 y6 y7 y8 y9 y10 q0 qf0 ql r0 r1 r2 rl HP7 HQ7 HR7 HF7 HB7
      generalize (((((((((((w7.setCell ⟨w.heap.size, 0, none⟩ (.int .i8 0)).setCell ⟨w.heap.size, 1, none⟩ (.string ⟨#[]⟩)).setCell ⟨w.heap.size, 2, none⟩ (.string ⟨#[]⟩)).setCell ⟨w.heap.size, 3, none⟩ (.int .i64 0)).setCell ⟨w.heap.size, 4, none⟩ (.int .i8 0)).setCell ⟨w.heap.size, 5, none⟩ (.slice none 0 0)).setCell ⟨w.heap.size, 6, none⟩ (.int .i8 0)).setCell ⟨w.heap.size, 7, none⟩ (.slice none 0 0)).setCell ⟨w.heap.size, 8, none⟩ (.int .i64 0)).setCell ⟨w.heap.size, 9, none⟩ (.int .i64 0)).setCell ⟨w.heap.size, 10, none⟩ (.slice none 0 0)).setCell ⟨w.heap.size + 1, 0, none⟩ (.iface 65 (.pointer (some ⟨w7.heap.size, 0, none⟩))) = w8 at *
      generalize w7.heap.size = SZ at *
      subst hz8
      have y0 := heap_old (heap_new w8 (.cells #[.int .i64 C, .int .i64 0, .string ⟨#[]⟩] 84)) (.cells #[.nilIface] 95)
      obtain ⟨p0, p1, p2, p3, p4, p5, p6, p7, p8, p9, p10, -⟩ := own11 (heap_old (heap_old z1 (.cells #[.int .i64 C, .int .i64 0, .string ⟨#[]⟩] 84)) (.cells #[.nilIface] 95))
      obtain ⟨q0, -, -⟩ := own1 (heap_old (heap_old z2 (.cells #[.int .i64 C, .int .i64 0, .string ⟨#[]⟩] 84)) (.cells #[.nilIface] 95))
      have HB9 := Lib.hid ((HB8.out.alloc h7 (.cells #[.int .i64 C, .int .i64 0, .string ⟨#[]⟩] 84)).alloc (by have := h7; simp; omega) (.cells #[.nilIface] 95))
      refine leaves_cons (f := 42) (args := #[.pointer (some ⟨w.heap.size + 1, 0, none⟩)]) (by simp) (by simp [go_sem]) ?_
      refine (pcatch_none _ _).mono ?_
      rintro e u' w10 ⟨rfl, rfl, rfl⟩
      refine ⟨.tuple #[.agg #[.int .i8 0, .string ⟨#[]⟩, .string ⟨#[]⟩, .int .i64 0, .int .i8 0, .slice none 0 0, .int .i8 0, .slice none 0 0, .int .i64 0, .int .i64 0, .slice none 0 0], .int .i64 0, .iface 65 (.pointer (some ⟨w8.heap.size, 0, none⟩))], by simp [results, Tryz.results22, go_sem, p0, p1, p2, p3, p4, p5, p6, p7, p8, p9, p10, q0], WPost.poor H0.out ⟨_, rfl, ?_, h7, HB9.out⟩⟩
      unfold FaultAt
      rw [← HC.out]
      exact y0
  · clear hp HR4 HT HI HG
    obtain ⟨g, rfl, hX, hgl, hg⟩ := hP
    have hP5 := heap_grown hg (show w.heap.size ≠ rb by omega) HP4.out
    have hQ5 := heap_grown hg (show w.heap.size + 1 ≠ rb by omega) HQ4.out
    have hb5 := HB4.out.grown hg (by omega) (fun k hk => by injection hk with hk; omega)
    obtain ⟨q0, qf0, ql⟩ := own1 hQ5
    refine leaves_cons (f := 42) (args := #[.pointer (some ⟨w.heap.size + 1, 0, none⟩)]) (by simp) (by simp [go_sem]) ?_
    refine (pcatch_fault _ _ _ _ q0 qf0).mono ?_
    rintro e u' w6 ⟨rfl, rfl, rfl⟩
    have hX6 : ((w5.setCell ⟨w.heap.size + 1, 0, none⟩ (.iface 65 (.pointer (some ⟨g, 0, none⟩)))).alloc (.cells #[.iface 65 (.pointer (some ⟨g, 0, none⟩))] 95)).heap[g]? = some (.cells #[.int .i64 E, .int .i64 a, .string s] 84 (0, 0)) := heap_old (by rw [Below.heap_setCell _ _ _ _ (show g ≠ w.heap.size + 1 by omega)]; exact hX) _
    have z1 := heap_old (show (w5.setCell ⟨w.heap.size + 1, 0, none⟩ (.iface 65 (.pointer (some ⟨g, 0, none⟩)))).heap[w.heap.size]? = _ by rw [Below.heap_setCell _ _ _ _ (show w.heap.size ≠ w.heap.size + 1 by omega)]; exact hP5) (.cells #[.iface 65 (.pointer (some ⟨g, 0, none⟩))] 95)
    have z2 := heap_old (set_one' (v := .iface 65 (.pointer (some ⟨g, 0, none⟩))) hQ5) (.cells #[.iface 65 (.pointer (some ⟨g, 0, none⟩))] 95)
    have hb6 := (hb5.setCell (p := ⟨w.heap.size + 1, 0, none⟩) (Nat.le_succ _) (.iface 65 (.pointer (some ⟨g, 0, none⟩))))
    have hb7 := hb6.alloc hb6.size (.cells #[.iface 65 (.pointer (some ⟨g, 0, none⟩))] 95)
    generalize (w5.setCell ⟨w.heap.size + 1, 0, none⟩ (.iface 65 (.pointer (some ⟨g, 0, none⟩)))).alloc (.cells #[.iface 65 (.pointer (some ⟨g, 0, none⟩))] 95) = w6 at *
    obtain ⟨p0, p1, p2, p3, p4, p5, p6, p7, p8, p9, p10, -⟩ := own11 z1
    obtain ⟨k0, -, -⟩ := own1 z2
    exact ⟨.tuple #[.agg #[.int .i8 0, .string ⟨#[]⟩, .string ⟨#[]⟩, .int .i64 0, .int .i8 0, .slice none 0 0, .int .i8 0, .slice none 0 0, .int .i64 0, .int .i64 0, .slice none 0 0], .int .i64 0, .iface 65 (.pointer (some ⟨g, 0, none⟩))], by simp [results, Tryz.results22, go_sem, p0, p1, p2, p3, p4, p5, p6, p7, p8, p9, p10, k0], g, rfl, hX6, by omega, hb7⟩
end Go.Proofs.YtocehfklacjgbaaGreatDoor
