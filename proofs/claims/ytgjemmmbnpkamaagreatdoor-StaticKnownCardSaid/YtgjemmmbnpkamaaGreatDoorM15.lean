import Derived.Test.YtgjemmmbnpkamaaGreatDoorM14
import Derived.Test.YtgjemmmbnpkamaaGreatDoorM9
namespace Go.Proofs.YtgjemmmbnpkamaaGreatDoor
open Go.RowKit Rd
def IsFault (w : World) (g : Nat) (E a : Int) (s : ByteArray) : Prop := w.heap[g]? = some (.cells #[.int .i64 E, .int .i64 a, .string s] 61 (0, 0))
def ReadPost (l : List W4) (i : Nat) (w : World) (e : Ending) (w' : World) : Prop :=
  (∃ k kids j, R l (.wh 1 i) (.ok k kids j) ∧ Ty.chk k kids = 0 ∧ ∃ G m c, e = .returned (.tuple #[.agg #[.int .i8 k, .slice G m c], .int .i64 j, .nilIface]) ∧ Far w.heap.size w' k kids G m c ∧ Below w.heap.size w w') ∨
  (∃ k kids j, R l (.wh 1 i) (.ok k kids j) ∧ Ty.chk k kids ≠ 0 ∧ ∃ g, e = .returned (.tuple #[.agg #[.int .i8 0, .slice none 0 0], .int .i64 0, .iface 49 (.pointer (some ⟨g, 0, none⟩))]) ∧ IsFault w' g (Ty.chk k kids) (fAt l i) ⟨#[]⟩ ∧ w.heap.size ≤ g ∧ Below w.heap.size w w') ∨
  (∃ q, R l (.wh 1 i) (.bad q) ∧ ∃ g, e = .returned (.tuple #[.agg #[.int .i8 0, .slice none 0 0], .int .i64 0, .iface 49 (.pointer (some ⟨g, 0, none⟩))]) ∧ IsFault w' g 40 (fAt l q) (fWord l q) ∧ w.heap.size ≤ g ∧ Below w.heap.size w w')
def placed (n : Nat) (at_ : Int) : Nat := (min (max at_ 0) (n : Int)).toNat
theorem zCO (n : Nat) (a : Int) : placed n a ≤ n := by unfold placed; omega
theorem zCP (n : Nat) (a : Int) : ((placed n a : Nat) : Int) = min (max a 0) (n : Int) := by unfold placed; omega
theorem yV {w : World} {Q : Nat} {y v : Value} {t : TypeId} (h : w.heap[Q]? = some (.cells #[y] t (0, 0))) : (w.setCell ⟨Q, 0, none⟩ v).heap[Q]? = some (.cells #[v] t (0, 0)) := by
  simp [World.setCell, Array.getElem?_modify, h]
theorem jd {w : World} {P Q R : Nat} {x0 x1 y z : Value} {t t' t'' : TypeId} (hP : w.heap[P]? = some (.cells #[x0, x1] t (0, 0))) (hQ : w.heap[Q]? = some (.cells #[y] t' (0, 0))) (hR : w.heap[R]? = some (.cells #[z] t'' (0, 0))) (hPQ : P ≠ Q) (hPR : P ≠ R) (hQR : Q ≠ R) (u0 u1 v s : Value) :
    ((((w.setCell ⟨P, 0, none⟩ u0).setCell ⟨P, 1, none⟩ u1).setCell ⟨Q, 0, none⟩ v).setCell ⟨R, 0, none⟩ s).heap[P]? = some (.cells #[u0, u1] t (0, 0)) ∧
    ((((w.setCell ⟨P, 0, none⟩ u0).setCell ⟨P, 1, none⟩ u1).setCell ⟨Q, 0, none⟩ v).setCell ⟨R, 0, none⟩ s).heap[Q]? = some (.cells #[v] t' (0, 0)) ∧
    ((((w.setCell ⟨P, 0, none⟩ u0).setCell ⟨P, 1, none⟩ u1).setCell ⟨Q, 0, none⟩ v).setCell ⟨R, 0, none⟩ s).heap[R]? = some (.cells #[s] t'' (0, 0)) := by
  refine ⟨?_, ?_, ?_⟩
  · rw [Below.heap_setCell _ _ _ _ hPR, Below.heap_setCell _ _ _ _ hPQ]; exact vM hP
  · rw [Below.heap_setCell _ _ _ _ hQR]
    have h : ((w.setCell ⟨P, 0, none⟩ u0).setCell ⟨P, 1, none⟩ u1).heap[Q]? = some (.cells #[y] t' (0, 0)) := by
      rw [Below.heap_setCell _ _ _ _ (Ne.symm hPQ), Below.heap_setCell _ _ _ _ (Ne.symm hPQ)]; exact hQ
    exact yV h
  · have h : (((w.setCell ⟨P, 0, none⟩ u0).setCell ⟨P, 1, none⟩ u1).setCell ⟨Q, 0, none⟩ v).heap[R]? = some (.cells #[z] t'' (0, 0)) := by
      rw [Below.heap_setCell _ _ _ _ (Ne.symm hQR), Below.heap_setCell _ _ _ _ (Ne.symm hPR), Below.heap_setCell _ _ _ _ (Ne.symm hPR)]; exact hR
    exact yV h
theorem vO {a w : World} {P Q R : Nat} (h : Below a.heap.size a w) (hP : a.heap.size ≤ P) (hQ : a.heap.size ≤ Q) (hR : a.heap.size ≤ R) (u0 u1 v s : Value) :
    Below a.heap.size a ((((w.setCell ⟨P, 0, none⟩ u0).setCell ⟨P, 1, none⟩ u1).setCell ⟨Q, 0, none⟩ v).setCell ⟨R, 0, none⟩ s) :=
  (((h.setCell (p := ⟨P, 0, none⟩) hP _).setCell (p := ⟨P, 1, none⟩) hP _).setCell (p := ⟨Q, 0, none⟩) hQ _).setCell (p := ⟨R, 0, none⟩) hR _
theorem zE6 {n0 : Nat} {w : World} {P Q R : Nat} {k : Int} {kids : Fo} {G : Option Addr} {m c : Nat} (h : Far n0 w k kids G m c) (hP : P < n0) (hQ : Q < n0) (hR : R < n0) {u0 u1 v s : Value} :
    Far n0 ((((w.setCell ⟨P, 0, none⟩ u0).setCell ⟨P, 1, none⟩ u1).setCell ⟨Q, 0, none⟩ v).setCell ⟨R, 0, none⟩ s) k kids G m c :=
  h.keep fun b o v hb hc => by
    rw [World.cell?_setCell_other _ _ _ _ (fun e => by injection e with e1 e2; omega), World.cell?_setCell_other _ _ _ _ (fun e => by injection e with e1 e2; omega), World.cell?_setCell_other _ _ _ _ (fun e => by injection e with e1 e2; omega), World.cell?_setCell_other _ _ _ _ (fun e => by injection e with e1 e2; omega)]; exact hc
set_option maxHeartbeats 8000000 in
set_option maxRecDepth 100000 in
theorem uz (l : List W4) (A : Option Addr) (c : Nat) (at_ : Int) (w : World) (hW : WRow w A l) (hS : Shapes w) (hl : l.length < maxLen) (hsm : ∀ x ∈ l, x.text.size ≤ 281474976710656) :
    Calls Tryz.prog 139 #[.slice A l.length c, .int .i64 at_] w (ReadPost l (placed l.length at_) w) := by
  have hmf : ∀ (fn : Fn) (first cap : Array Value) (w : World), (Instr.makeFunc fn first cap).run Tryz.prog w = .ok (.func fn first cap) w := fun _ _ _ _ => rfl
  obtain ⟨i, hi⟩ : ∃ i, i = placed l.length at_ := ⟨_, rfl⟩
  have hie := zCP l.length at_
  have hil := zCO l.length at_
  rw [← hi] at hie hil ⊢
  clear hi
  have hw4 : ∃ w4, w4 = ((((w.alloc (.cells #[.int .i8 0, .slice none 0 0] 25)).alloc (.cells #[.int .i64 0] 3)).alloc (.cells #[.nilIface] 30)).alloc (.cells #[.slice A l.length c, .int .i64 i] 216)) := ⟨_, rfl⟩
  obtain ⟨w4, hw4⟩ := hw4
  have hb4 : Below w.heap.size w w4 := by
    rw [hw4]; exact ((((Below.refl w.heap.size w).alloc (Nat.le_refl _) _).alloc (by simp) _).alloc (by simp <;> omega) _).alloc (by simp <;> omega) _
  have hP : w4.heap[w.heap.size]? = some (.cells #[.int .i8 0, .slice none 0 0] 25) := by
    rw [hw4]; exact zG (zG (zG (zF w _) _) _) _
  have hQ : w4.heap[w.heap.size + 1]? = some (.cells #[.int .i64 0] 3) := by
    rw [hw4]; exact zG (zG (qP w _ _) _) _
  have hR : w4.heap[w.heap.size + 1 + 1]? = some (.cells #[.nilIface] 30) := by
    rw [hw4]; exact zG (by have := qP (w.alloc (.cells #[.int .i8 0, .slice none 0 0] 25)) (.cells #[.int .i64 0] 3) (.cells #[.nilIface] 30); simpa using this) _
  have hrb : Rdr w4 (w.heap.size + 1 + 1 + 1) A l.length c i := by
    rw [hw4]; unfold Rdr; have := zF (((w.alloc (.cells #[.int .i8 0, .slice none 0 0] 25)).alloc (.cells #[.int .i64 0] 3)).alloc (.cells #[.nilIface] 30)) (.cells #[.slice A l.length c, .int .i64 i] 216); simpa using this
  have hs4 : w4.heap.size = w.heap.size + 1 + 1 + 1 + 1 := by rw [hw4]; simp
  have HS4 := k0_ (show RdS l A c (w.heap.size + 1 + 1 + 1) w4 i from ⟨hrb, hW.below hb4, fun g o e hn => by have := hW.lt g o e hn; omega, hil, hS.below hb4, hl, hsm⟩)
  have HIE := k0_ hie
  have HW4 := k0_ hw4
  have HB4 := k0_ hb4
  have HW0 := k0_ hW
  have HS0 := k0_ hS
  have HP := k0_ hP
  have HQ := k0_ hQ
  have HR := k0_ hR
  have i5 : (l.length : Int) ≤ 9223372036854775807 := by unfold maxLen at hl; omega
  clear hl hsm hW hS hw4 hb4 hP hQ hR hrb hil hie
  go_enter_defers Tryz.func139, Tryz.ntmps139
  go_wp2_with fail
  rw [← HIE.out, ← HW4.out]
  refine (zC1 l A c _ 1 i _ (by omega) HS4.out).mono ?_
  rintro e w5 (⟨k, kids, j, hRk, G, m, cg, rfl, hF, hRd, hg⟩ | ⟨q, hRq, g, rfl, hX, hgl, hg⟩)
  · have hP5 := zQ hg (show w.heap.size ≠ w.heap.size + 1 + 1 + 1 by omega) HP.out
    have hQ5 := zQ hg (show w.heap.size + 1 ≠ w.heap.size + 1 + 1 + 1 by omega) HQ.out
    have hR5 := zQ hg (show w.heap.size + 1 + 1 ≠ w.heap.size + 1 + 1 + 1 by omega) HR.out
    have hS5 := HS4.out.step hg hRd (hRk.goes (show i ≤ l.length from HS4.out.le)).2
    have hb5 := HB4.out.grown hg (by omega) (fun k hk => by injection hk with hk; omega)
    obtain ⟨p0, p1, pf0, pf1, pl⟩ := zM hP5
    have e5 := hg.size
    have HIS := k0_ (show Far (w.heap.size + 1 + 1 + 1 + 1) ((w5.setCell ⟨w.heap.size, 0, none⟩ (.int .i8 k)).setCell ⟨w.heap.size, 1, none⟩ (.slice G m cg)) k kids G m cg from
      (hF.keep fun b o v hb hc => by
        rw [World.cell?_setCell_other _ _ _ _ (fun e => by injection e with e1 e2; omega), World.cell?_setCell_other _ _ _ _ (fun e => by injection e with e1 e2; omega)]; exact hc).low (by omega))
    have HP6 := k0_ (vM hP5 (u := .int .i8 k) (v := .slice G m cg))
    have HB6 := k0_ ((hb5.setCell (p := ⟨w.heap.size, 0, none⟩) (Nat.le_refl _) (.int .i8 k)).setCell (p := ⟨w.heap.size, 1, none⟩) (Nat.le_refl _) (.slice G m cg))
    have HQ6 : Hid (((w5.setCell ⟨w.heap.size, 0, none⟩ (.int .i8 k)).setCell ⟨w.heap.size, 1, none⟩ (.slice G m cg)).heap[w.heap.size + 1]? = some (.cells #[.int .i64 0] 3)) := k0_ (by rw [Below.heap_setCell _ _ _ _ (by simp), Below.heap_setCell _ _ _ _ (by simp)]; exact hQ5)
    have HR6 : Hid (((w5.setCell ⟨w.heap.size, 0, none⟩ (.int .i8 k)).setCell ⟨w.heap.size, 1, none⟩ (.slice G m cg)).heap[w.heap.size + 1 + 1]? = some (.cells #[.nilIface] 30)) := k0_ (by rw [Below.heap_setCell _ _ _ _ (by simp <;> omega), Below.heap_setCell _ _ _ _ (by simp <;> omega)]; exact hR5)
    have HD6 := k0_ (jw (jw hRd (X := w.heap.size) (by omega) 0 (.int .i8 k)) (X := w.heap.size) (by omega) 1 (.slice G m cg))
    have HJ := k0_ (show i + 1 ≤ j ∧ j ≤ l.length from hRk.goes (show i ≤ l.length from HS4.out.le))
    have HRK := k0_ hRk
    clear hP5 hQ5 hR5 hS5 hb5 hF hRd hg hRk HP HQ HR HB4 HS4 HW4
    go_wp2_with fail
    clear p0 p1 pf0 pf1 pl
    generalize (w5.setCell ⟨w.heap.size, 0, none⟩ (.int .i8 k)).setCell ⟨w.heap.size, 1, none⟩ (.slice G m cg) = w6 at *
    refine (qm k kids G m cg _ HIS.out.is (HS0.out.below HB6.out)).mono ?_
    rintro e w7 ⟨rfl, hb⟩
    have HB7 := kt_ HB6 hb
    have HP7 := kp_ hb HP6
    have HQ7 := kp_ hb HQ6
    have HR7 := kp_ hb HR6
    have HD7 := kp_ hb HD6
    have HF7 := k0_ (HIS.out.below hb)
    clear hb HP6 HQ6 HR6 HD6 HIS
    obtain ⟨p0, p1, pf0, pf1, pl⟩ := zM HP7.out
    obtain ⟨q0, qf0, ql⟩ := qR HQ7.out
    obtain ⟨r0, rf0, rl⟩ := qR HR7.out
    obtain ⟨d0, d1, df0, df1, dl⟩ := zM HD7.out
    by_cases h0 : Ty.chk k kids = 0
    · have hc : (((Ty.chk k kids : Nat) : Int) != 0) = false := by rw [h0]; rfl
      rw [h0]
      have H0 := k0_ h0
      clear hc h0
      go_wp2_with fail
      go_region
      go_wp2_with fail
      obtain ⟨z1, z2, z3⟩ := jd HP7.out HQ7.out HR7.out (by omega) (by omega) (by omega) (.int .i8 k) (.slice G m cg) (.int .i64 j) .nilIface
      have HB8 := k0_ (vO HB7.out (P := w.heap.size) (Q := w.heap.size + 1) (R := w.heap.size + 1 + 1) (by omega) (by omega) (by omega) (.int .i8 k) (.slice G m cg) (.int .i64 j) .nilIface)
      have HF8 := k0_ (show Far (w.heap.size + 1 + 1 + 1 + 1) ((((w7.setCell ⟨w.heap.size, 0, none⟩ (.int .i8 k)).setCell ⟨w.heap.size, 1, none⟩ (.slice G m cg)).setCell ⟨w.heap.size + 1, 0, none⟩ (.int .i64 j)).setCell ⟨w.heap.size + 1 + 1, 0, none⟩ .nilIface) k kids G m cg from zE6 (HF7.out) (by omega) (by omega) (by omega))
      clear p0 p1 pf0 pf1 pl q0 qf0 ql r0 rf0 rl d0 d1 df0 df1 dl HP7 HQ7 HR7 HD7 HF7 HB7
      generalize (((w7.setCell ⟨w.heap.size, 0, none⟩ (.int .i8 k)).setCell ⟨w.heap.size, 1, none⟩ (.slice G m cg)).setCell ⟨w.heap.size + 1, 0, none⟩ (.int .i64 j)).setCell ⟨w.heap.size + 1 + 1, 0, none⟩ .nilIface = w8 at *
      obtain ⟨p0, p1, -, -, -⟩ := zM (show w8.drew.heap[w.heap.size]? = _ from z1)
      obtain ⟨q0, -, -⟩ := qR (show w8.drew.heap[w.heap.size + 1]? = _ from z2)
      obtain ⟨r0, -, -⟩ := qR (show w8.drew.heap[w.heap.size + 1 + 1]? = _ from z3)
      have HB9 := k0_ (HB8.out.drew)
      have HF9 := k0_ (show Far w.heap.size w8.drew k kids G m cg from (HF8.out.keep (w' := w8.drew) fun _ _ _ _ h => h).low (by omega))
      clear z1 z2 z3 HB8 HF8
      generalize w8.drew = w9 at *
      refine leaves_cons (f := 147) (args := #[.pointer (some ⟨w.heap.size, 0, none⟩), .pointer (some ⟨w.heap.size + 1, 0, none⟩), .pointer (some ⟨w.heap.size + 1 + 1, 0, none⟩)]) (by simp) (by simp [go_sem]) ?_
      refine (xL _ _ _ _).mono ?_
      rintro e u' w10 ⟨rfl, rfl, rfl⟩
      exact ⟨.tuple #[.agg #[.int .i8 k, .slice G m cg], .int .i64 j, .nilIface], by simp [results, Tryz.results139, go_sem, p0, p1, q0, r0], .inl ⟨k, kids, j, HRK.out, H0.out, G, m, cg, rfl, HF9.out, HB9.out⟩⟩
    · have hc : (((Ty.chk k kids : Nat) : Int) != 0) = true := by simp; omega
      have H0 := k0_ h0
      obtain ⟨C, hC⟩ : ∃ C, C = Ty.chk k kids := ⟨_, rfl⟩
      rw [← hC] at hc ⊢
      have HC := k0_ hC
      have hij := HJ.out
      obtain ⟨x, hx⟩ : ∃ x, l[i]? = some x := ⟨l[i]'(by omega), List.getElem?_eq_getElem _⟩
      obtain ⟨b, o, hA, h0, h1, h2, h3⟩ := (HW0.out.below HB7.out) i x hx
      have j2 : (0 : Int) ≤ i ∧ (i : Int) < l.length := by omega
      have hfa : fAt l i = x.pos := by unfold fAt; rw [hx]
      have HX := k0_ hfa
      clear hC hij hx hfa
      obtain rfl := hA
      go_wp2_with fail
      go_region
      go_wp2_with fail
      obtain ⟨z1, z2, z3⟩ := jd HP7.out HQ7.out HR7.out (by omega) (by omega) (by omega) (.int .i8 0) (.slice none 0 0) (.int .i64 0) (.iface 49 (.pointer (some ⟨w7.heap.size, 0, none⟩)))
      have HB8 := k0_ (vO HB7.out (P := w.heap.size) (Q := w.heap.size + 1) (R := w.heap.size + 1 + 1) (by omega) (by omega) (by omega) (.int .i8 0) (.slice none 0 0) (.int .i64 0) (.iface 49 (.pointer (some ⟨w7.heap.size, 0, none⟩))))
      have hz8 : ((((w7.setCell ⟨w.heap.size, 0, none⟩ (.int .i8 0)).setCell ⟨w.heap.size, 1, none⟩ (.slice none 0 0)).setCell ⟨w.heap.size + 1, 0, none⟩ (.int .i64 0)).setCell ⟨w.heap.size + 1 + 1, 0, none⟩ (.iface 49 (.pointer (some ⟨w7.heap.size, 0, none⟩)))).heap.size = w7.heap.size := by simp
      have h7 := HB7.out.size
      clear p0 p1 pf0 pf1 pl q0 qf0 ql r0 rf0 rl d0 d1 df0 df1 dl HP7 HQ7 HR7 HD7 HF7 HB7 h0 h1 h2 h3
      generalize (((w7.setCell ⟨w.heap.size, 0, none⟩ (.int .i8 0)).setCell ⟨w.heap.size, 1, none⟩ (.slice none 0 0)).setCell ⟨w.heap.size + 1, 0, none⟩ (.int .i64 0)).setCell ⟨w.heap.size + 1 + 1, 0, none⟩ (.iface 49 (.pointer (some ⟨w7.heap.size, 0, none⟩))) = w8 at *
      generalize w7.heap.size = S at *
      subst hz8
      have y0 := zF w8 (.cells #[.int .i64 C, .int .i64 x.pos, .string ⟨#[]⟩] 61)
      obtain ⟨p0, p1, -, -, -⟩ := zM (show (w8.alloc (.cells #[.int .i64 C, .int .i64 x.pos, .string ⟨#[]⟩] 61)).drew.heap[w.heap.size]? = _ from zG z1 _)
      obtain ⟨q0, -, -⟩ := qR (show (w8.alloc (.cells #[.int .i64 C, .int .i64 x.pos, .string ⟨#[]⟩] 61)).drew.heap[w.heap.size + 1]? = _ from zG z2 _)
      obtain ⟨r0, -, -⟩ := qR (show (w8.alloc (.cells #[.int .i64 C, .int .i64 x.pos, .string ⟨#[]⟩] 61)).drew.heap[w.heap.size + 1 + 1]? = _ from zG z3 _)
      have HB9 := k0_ ((HB8.out.alloc h7 (.cells #[.int .i64 C, .int .i64 x.pos, .string ⟨#[]⟩] 61)).drew)
      have HY9 : Hid ((w8.alloc (.cells #[.int .i64 C, .int .i64 x.pos, .string ⟨#[]⟩] 61)).drew.heap[w8.heap.size]? = _) := k0_ y0
      clear z1 z2 z3 HB8 y0
      generalize (w8.alloc (.cells #[.int .i64 C, .int .i64 x.pos, .string ⟨#[]⟩] 61)).drew = w9 at *
      refine leaves_cons (f := 147) (args := #[.pointer (some ⟨w.heap.size, 0, none⟩), .pointer (some ⟨w.heap.size + 1, 0, none⟩), .pointer (some ⟨w.heap.size + 1 + 1, 0, none⟩)]) (by simp) (by simp [go_sem]) ?_
      refine (xL _ _ _ _).mono ?_
      rintro e u' w10 ⟨rfl, rfl, rfl⟩
      refine ⟨.tuple #[.agg #[.int .i8 0, .slice none 0 0], .int .i64 0, .iface 49 (.pointer (some ⟨w8.heap.size, 0, none⟩))], by simp [results, Tryz.results139, go_sem, p0, p1, q0, r0], .inr (.inl ⟨k, kids, j, HRK.out, H0.out, _, rfl, ?_, h7, HB9.out⟩)⟩
      have := HY9.out
      rw [HC.out, ← HX.out] at this
      exact this
  · have hP5 := zQ hg (show w.heap.size ≠ w.heap.size + 1 + 1 + 1 by omega) HP.out
    have hQ5 := zQ hg (show w.heap.size + 1 ≠ w.heap.size + 1 + 1 + 1 by omega) HQ.out
    have hR5 := zQ hg (show w.heap.size + 1 + 1 ≠ w.heap.size + 1 + 1 + 1 by omega) HR.out
    have hb5 := HB4.out.grown hg (by omega) (fun k hk => by injection hk with hk; omega)
    have e5 := hg.size
    obtain ⟨p0, p1, pf0, pf1, pl⟩ := zM hP5
    obtain ⟨q0, qf0, ql⟩ := qR hQ5
    obtain ⟨r0, rf0, rl⟩ := qR hR5
    refine leaves_cons (f := 147) (args := #[.pointer (some ⟨w.heap.size, 0, none⟩), .pointer (some ⟨w.heap.size + 1, 0, none⟩), .pointer (some ⟨w.heap.size + 1 + 1, 0, none⟩)]) (by simp) (by simp [go_sem]) ?_
    refine (zAO _ _ _ _ _ _ _ _ _ p0 p1 q0 r0 (by omega) (by omega) (by omega) pf0 pf1 qf0 rf0).mono ?_
    rintro e u' w6 ⟨rfl, rfl, rfl⟩
    obtain ⟨z1, z2, z3⟩ := jd hP5 hQ5 hR5 (by omega) (by omega) (by omega) (.int .i8 0) (.slice none 0 0) (.int .i64 0) (.iface 49 (.pointer (some ⟨g, 0, none⟩)))
    have hb6 := vO hb5 (P := w.heap.size) (Q := w.heap.size + 1) (R := w.heap.size + 1 + 1) (by omega) (by omega) (by omega) (.int .i8 0) (.slice none 0 0) (.int .i64 0) (.iface 49 (.pointer (some ⟨g, 0, none⟩)))
    have hX6 : ((((w5.setCell ⟨w.heap.size, 0, none⟩ (.int .i8 0)).setCell ⟨w.heap.size, 1, none⟩ (.slice none 0 0)).setCell ⟨w.heap.size + 1, 0, none⟩ (.int .i64 0)).setCell ⟨w.heap.size + 1 + 1, 0, none⟩ (.iface 49 (.pointer (some ⟨g, 0, none⟩)))).heap[g]? = some (.cells #[.int .i64 40, .int .i64 (fAt l q), .string (fWord l q)] 61 (0, 0)) := by
      rw [Below.heap_setCell _ _ _ _ (show g ≠ w.heap.size + 1 + 1 by omega), Below.heap_setCell _ _ _ _ (show g ≠ w.heap.size + 1 by omega), Below.heap_setCell _ _ _ _ (show g ≠ w.heap.size by omega), Below.heap_setCell _ _ _ _ (show g ≠ w.heap.size by omega)]; exact hX
    generalize (((w5.setCell ⟨w.heap.size, 0, none⟩ (.int .i8 0)).setCell ⟨w.heap.size, 1, none⟩ (.slice none 0 0)).setCell ⟨w.heap.size + 1, 0, none⟩ (.int .i64 0)).setCell ⟨w.heap.size + 1 + 1, 0, none⟩ (.iface 49 (.pointer (some ⟨g, 0, none⟩))) = w6 at *
    obtain ⟨k0, k1, -, -, -⟩ := zM z1
    obtain ⟨k2, -, -⟩ := qR z2
    obtain ⟨k3, -, -⟩ := qR z3
    exact ⟨.tuple #[.agg #[.int .i8 0, .slice none 0 0], .int .i64 0, .iface 49 (.pointer (some ⟨g, 0, none⟩))], by simp [results, Tryz.results139, go_sem, k0, k1, k2, k3], .inr (.inr ⟨q, hRq, g, rfl, hX6, by omega, hb6⟩)⟩
def Tells (w : World) (err : Value) (E a : Int) (t : ByteArray) : Prop :=
  (err = .nilIface ∧ E = 0 ∧ a = 0 ∧ t = ⟨#[]⟩) ∨ (∃ g, err = .iface 49 (.pointer (some ⟨g, 0, none⟩)) ∧ IsFault w g E a t ∧ (E != 0) = true)
theorem Tells.below {w w' : World} {err : Value} {E a : Int} {t : ByteArray} (h : Tells w err E a t) (hb : Below w.heap.size w w') : Tells w' err E a t := by
  rcases h with h | ⟨g, h1, h2, h3⟩
  · exact .inl h
  · exact .inr ⟨g, h1, zC hb (zD h2) h2, h3⟩
theorem zDY (l : List W4) (A : Option Addr) (c : Nat) (at_ : Int) (w : World) (hW : WRow w A l) (hS : Shapes w) (hl : l.length < maxLen) (hsm : ∀ x ∈ l, x.text.size ≤ 281474976710656) :
    Calls Tryz.prog 139 #[.slice A l.length c, .int .i64 at_] w fun e w' => ∃ k kids N E a t G m cg err, Out l (placed l.length at_) k kids N E a t ∧ e = .returned (.tuple #[.agg #[.int .i8 k, .slice G m cg], .int .i64 N, err]) ∧ Far w.heap.size w' k kids G m cg ∧ Tells w' err E a t ∧ Below w.heap.size w w' := by
  refine (uz l A c at_ w hW hS hl hsm).mono ?_
  rintro e w' (⟨k, kids, j, hR, hc, G, m, cg, he, hF, hb⟩ | ⟨k, kids, j, hR, hc, g, he, hI, hg, hb⟩ | ⟨q, hR, g, he, hI, hg, hb⟩)
  · exact ⟨k, kids, j, 0, 0, ⟨#[]⟩, G, m, cg, .nilIface, .inl ⟨hR, hc, rfl, rfl, rfl⟩, he, hF, .inl ⟨rfl, rfl, rfl, rfl⟩, hb⟩
  · exact ⟨0, .nil, 0, Ty.chk k kids, _, ⟨#[]⟩, none, 0, 0, _, .inr (.inl ⟨k, kids, j, hR, hc, rfl, rfl, rfl, rfl, rfl, rfl⟩), he, uG _ _ 0 (by decide) (by decide), .inr ⟨g, rfl, hI, by simp; omega⟩, hb⟩
  · exact ⟨0, .nil, 0, 40, _, _, none, 0, 0, _, .inr (.inr ⟨q, hR, rfl, rfl, rfl, rfl, rfl, rfl⟩), he, uG _ _ 0 (by decide) (by decide), .inr ⟨g, rfl, hI, by decide⟩, hb⟩
end Go.Proofs.YtgjemmmbnpkamaaGreatDoor
