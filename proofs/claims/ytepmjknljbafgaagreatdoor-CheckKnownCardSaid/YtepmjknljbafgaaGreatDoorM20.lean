import Derived.Test.YtepmjknljbafgaaGreatDoorM19
import Derived.Test.YtepmjknljbafgaaGreatDoorM24
import Derived.Test.YtepmjknljbafgaaGreatDoorM25
namespace Go.Proofs.YtepmjknljbafgaaGreatDoor
open Go.RowKit Rd Tt
def FaultAt (w : World) (g : Nat) (E a : Int) (s : ByteArray) : Prop := w.heap[g]? = some (.cells #[.int .i64 E, .int .i64 a, .string s] 95 (0, 0))
def WBad (w : World) (E a : Int) (s : ByteArray) (e : Ending) (w' : World) : Prop :=
  ∃ g, e = .returned (.tuple #[.agg #[.int .i8 0, .string ⟨#[]⟩, .string ⟨#[]⟩, .int .i64 0, .int .i8 0, .slice none 0 0, .int .i8 0, .slice none 0 0, .int .i64 0, .int .i64 0, .slice none 0 0], .int .i64 0, .iface 44 (.pointer (some ⟨g, 0, none⟩))]) /\ FaultAt w' g E a s /\ w.heap.size <= g /\ Below w.heap.size w w'
def WPost (w : World) (r : Tt.Rs) (e : Ending) (w' : World) : Prop := match r with
  | .ok [.tm h t] j => if Tm.chk h t = 0 then ∃ p, e = .returned (.tuple #[.agg (tC_ h p), .int .i64 j, .nilIface]) /\ FarT w.heap.size w' h t p /\ Below w.heap.size w w' else WBad w (Tm.chk h t) 0 ⟨#[]⟩ e w'
  | .ok _ _ => False
  | .bad E a s => WBad w E a s e w'
theorem WPost.good {w w' : World} {h : Hd} {t : Tm} {j : Nat} {e : Ending} (h0 : Tm.chk h t = 0) (h1 : ∃ p, e = .returned (.tuple #[.agg (tC_ h p), .int .i64 j, .nilIface]) /\ FarT w.heap.size w' h t p /\ Below w.heap.size w w') : WPost w (.ok [.tm h t] j) e w' := by
  try unfold tC_
  show if Tm.chk h t = 0 then _ else _
  rw [if_pos h0]; exact h1
theorem WPost.zBU {w w' : World} {h : Hd} {t : Tm} {j : Nat} {e : Ending} (h0 : Tm.chk h t ≠ 0) (h1 : WBad w (Tm.chk h t) 0 ⟨#[]⟩ e w') : WPost w (.ok [.tm h t] j) e w' := by
  show if Tm.chk h t = 0 then _ else _
  rw [if_neg h0]; exact h1
def plc (n : Nat) (at_ : Int) : Nat := (min (max at_ 0) (n : Int)).toNat
theorem zGn (n : Nat) (a : Int) : plc n a <= n := by unfold plc; omega
theorem zGo (n : Nat) (a : Int) : ((plc n a : Nat) : Int) = min (max a 0) (n : Int) := by unfold plc; omega
theorem zAB {l : List W4} {A : Option Addr} {c rb : Nat} {mv : Value} {w w' : World} {r : Tt.Rs} {e : Ending} (h : TPost l A c rb mv w r e w') :
    (∃ hd t j X, r = .ok [.tm hd t] j /\ e = .returned (.pointer (some ⟨X, 0, none⟩)) /\ TAt w.heap.size w' X hd t /\ PGo l A c rb mv w j w') \/ (∃ E a s, r = .bad E a s /\ PBad rb w E a s e w') := by
  unfold TPost at h
  split at h
  · obtain ⟨X, h1, h2, h3⟩ := h
    exact .inl ⟨_, _, _, X, rfl, h1, h2, h3⟩
  · exact h.elim
  · exact .inr ⟨_, _, _, rfl, h⟩
theorem yc {w : World} {Q : Nat} {y v : Value} {t : TypeId} (h : w.heap[Q]? = some (.cells #[y] t (0, 0))) : (w.setCell ⟨Q, 0, none⟩ v).heap[Q]? = some (.cells #[v] t (0, 0)) := by
  simp [World.setCell, Array.getElem?_modify, h]
theorem zFp {P : Program} {W : World} {n : String} {cs : Array Value} (hv : W.var? P n = some cs) : ∀ g, P.globalNamed n = some g -> g < W.heap.size := by
  intro g hg;exact zGf
theorem qZ {w : World} {X : Nat} {x0 x1 x2 x3 x4 x5 x6 x7 x8 x9 x10 : Value} {t : TypeId} (h : w.heap[X]? = some (.cells #[x0, x1, x2, x3, x4, x5, x6, x7, x8, x9, x10] t (0, 0))) (v0 v1 v2 v3 v4 v5 v6 v7 v8 v9 v10 : Value) :
    (((((((((((w.setCell ⟨X, 0, none⟩ (v0)).setCell ⟨X, 1, none⟩ (v1)).setCell ⟨X, 2, none⟩ (v2)).setCell ⟨X, 3, none⟩ (v3)).setCell ⟨X, 4, none⟩ (v4)).setCell ⟨X, 5, none⟩ (v5)).setCell ⟨X, 6, none⟩ (v6)).setCell ⟨X, 7, none⟩ (v7)).setCell ⟨X, 8, none⟩ (v8)).setCell ⟨X, 9, none⟩ (v9)).setCell ⟨X, 10, none⟩ (v10)).heap[X]? = some (.cells #[v0, v1, v2, v3, v4, v5, v6, v7, v8, v9, v10] t (0, 0)) := by
  simp [World.setCell, Array.getElem?_modify, h]
theorem qC {w : World} {X B : Nat} (hne : B ≠ X) (v0 v1 v2 v3 v4 v5 v6 v7 v8 v9 v10 : Value) :
    (((((((((((w.setCell ⟨X, 0, none⟩ (v0)).setCell ⟨X, 1, none⟩ (v1)).setCell ⟨X, 2, none⟩ (v2)).setCell ⟨X, 3, none⟩ (v3)).setCell ⟨X, 4, none⟩ (v4)).setCell ⟨X, 5, none⟩ (v5)).setCell ⟨X, 6, none⟩ (v6)).setCell ⟨X, 7, none⟩ (v7)).setCell ⟨X, 8, none⟩ (v8)).setCell ⟨X, 9, none⟩ (v9)).setCell ⟨X, 10, none⟩ (v10)).heap[B]? = w.heap[B]? := by
  rw [Below.heap_setCell _ _ _ _ hne, Below.heap_setCell _ _ _ _ hne, Below.heap_setCell _ _ _ _ hne, Below.heap_setCell _ _ _ _ hne, Below.heap_setCell _ _ _ _ hne, Below.heap_setCell _ _ _ _ hne, Below.heap_setCell _ _ _ _ hne, Below.heap_setCell _ _ _ _ hne, Below.heap_setCell _ _ _ _ hne, Below.heap_setCell _ _ _ _ hne, Below.heap_setCell _ _ _ _ hne]
theorem zq {a w : World} {X : Nat} (hb : Below a.heap.size a w) (hX : a.heap.size <= X) (v0 v1 v2 v3 v4 v5 v6 v7 v8 v9 v10 : Value) :
    Below a.heap.size a (((((((((((w.setCell ⟨X, 0, none⟩ (v0)).setCell ⟨X, 1, none⟩ (v1)).setCell ⟨X, 2, none⟩ (v2)).setCell ⟨X, 3, none⟩ (v3)).setCell ⟨X, 4, none⟩ (v4)).setCell ⟨X, 5, none⟩ (v5)).setCell ⟨X, 6, none⟩ (v6)).setCell ⟨X, 7, none⟩ (v7)).setCell ⟨X, 8, none⟩ (v8)).setCell ⟨X, 9, none⟩ (v9)).setCell ⟨X, 10, none⟩ (v10)) :=
  (((((((((((hb.setCell (p := ⟨X, 0, none⟩) hX (v0)).setCell (p := ⟨X, 1, none⟩) hX (v1)).setCell (p := ⟨X, 2, none⟩) hX (v2)).setCell (p := ⟨X, 3, none⟩) hX (v3)).setCell (p := ⟨X, 4, none⟩) hX (v4)).setCell (p := ⟨X, 5, none⟩) hX (v5)).setCell (p := ⟨X, 6, none⟩) hX (v6)).setCell (p := ⟨X, 7, none⟩) hX (v7)).setCell (p := ⟨X, 8, none⟩) hX (v8)).setCell (p := ⟨X, 9, none⟩) hX (v9)).setCell (p := ⟨X, 10, none⟩) hX (v10))
theorem jB {w : World} {X n0 : Nat} (hX : X < n0) (v0 v1 v2 v3 v4 v5 v6 v7 v8 v9 v10 : Value) :
    KeepFrom n0 w (((((((((((w.setCell ⟨X, 0, none⟩ (v0)).setCell ⟨X, 1, none⟩ (v1)).setCell ⟨X, 2, none⟩ (v2)).setCell ⟨X, 3, none⟩ (v3)).setCell ⟨X, 4, none⟩ (v4)).setCell ⟨X, 5, none⟩ (v5)).setCell ⟨X, 6, none⟩ (v6)).setCell ⟨X, 7, none⟩ (v7)).setCell ⟨X, 8, none⟩ (v8)).setCell ⟨X, 9, none⟩ (v9)).setCell ⟨X, 10, none⟩ (v10)) := ((((((((((zX hX).trans (zX hX)).trans (zX hX)).trans (zX hX)).trans (zX hX)).trans (zX hX)).trans (zX hX)).trans (zX hX)).trans (zX hX)).trans (zX hX)).trans (zX hX)
set_option maxHeartbeats 8000000 in
set_option maxRecDepth 100000 in
theorem zCd (l : List W4) (A : Option Addr) (c : Nat) (at_ : Int) (w : World) (hW : WRow w A l) (hG : TGlob w) (hl : l.length < maxLen) (hsm : ∀ x ∈ l, x.text.size <= 281474976710656) (hok : ∀ x ∈ l, OkWord x) (r : Tt.Rs) (hT : T l (.term (plc l.length at_)) r) :
    Calls Tryz.prog 15 #[.slice A l.length c, .int .i64 at_] w (WPost w r) := by
  have hmf : ∀ (fn : Fn) (first cap : Array Value) (w : World), (Instr.makeFunc fn first cap).run Tryz.prog w = .ok (.func fn first cap) w := fun _ _ _ _ => rfl
  obtain ⟨i, hi⟩ : ∃ i, i = plc l.length at_ := ⟨_, rfl⟩
  have hie := zGo l.length at_;have hil := zGn l.length at_;rw [← hi] at hie hil hT;clear hi;obtain ⟨w2, hw2⟩ : ∃ w2, w2 = ((w.alloc (.cells #[.int .i8 0, .string ⟨#[]⟩, .string ⟨#[]⟩, .int .i64 0, .int .i8 0, .slice none 0 0, .int .i8 0, .slice none 0 0, .int .i64 0, .int .i64 0, .slice none 0 0] 41)).alloc (.cells #[.nilIface] 32)) := ⟨_, rfl⟩
  have hb2 : Below w.heap.size w w2 := by rw [hw2]; exact ((Below.refl w.heap.size w).alloc (Nat.le_refl _) _).alloc (by simp) _
  have hP : w2.heap[w.heap.size]? = some (.cells #[.int .i8 0, .string ⟨#[]⟩, .string ⟨#[]⟩, .int .i64 0, .int .i8 0, .slice none 0 0, .int .i8 0, .slice none 0 0, .int .i64 0, .int .i64 0, .slice none 0 0] 41 (0, 0)) := by rw [hw2]; exact zG (zF w _) _
  have hQ : w2.heap[w.heap.size + 1]? = some (.cells #[.nilIface] 32 (0, 0)) := by rw [hw2]; exact qV w _ _
  have hs2 : w2.heap.size = w.heap.size + 2 := by rw [hw2]; simp
  have hgl : ∀ g, Tryz.prog.globalNamed "strconv.ErrRange" = some g -> g < w.heap.size := by
    obtain ⟨tp, p, hv⟩ := hG.err;exact zFp hv
  have hal : ∀ g o, A = some ⟨g, o, none⟩ -> l ≠ [] -> g < w.heap.size := fun g o e hn => hW.lt g o e hn
  have HS := k0_ (fun (u : World) (rb : Nat) (mv : Value) (hb : Below w.heap.size w u) (hr : w.heap.size <= rb) (hO : OpM u mv) (hR : PRd u rb A l.length c i mv) => (show PdS l A c rb mv u i from ⟨hR, hW.below hb, fun g o e hn => by have := hal g o e hn; omega, hil, hG.types.below hb, (hG.below hb).err, fun g hg => by have := hgl g hg; omega, hl, hsm, hok, hO⟩));have HO := k0_ (zFS w2);have HIE := k0_ hie;have HW2 := k0_ hw2;have HB2 := k0_ hb2;have HG := k0_ hG;have HP := k0_ hP;have HQ := k0_ hQ;have HT := k0_ hT;have HI := k0_ hil;have i5 : (l.length : Int) <= 9223372036854775807 := by unfold maxLen at hl; omega
  clear hl hsm hok hW hG hw2 hb2 hP hQ hie hil hT hgl hal
  go_enter_defers Tryz.func15, Tryz.ntmps15
  go_wp2_with fail
  rw [← HIE.out, ← HW2.out];refine HO.out.mono ?_;rintro e u3 ⟨M, rfl, hO, hM, hb3⟩;have HB4 := k0_ ((HB2.out.trans (hb3.mono HB2.out.size)).alloc (Nat.le_trans HB2.out.size hb3.size) (.cells #[.slice A l.length c, .int .i64 i, .map (some M)] 107));have HP4 := k0_ (zG (zB hb3 (zD HP.out) HP.out) (.cells #[.slice A l.length c, .int .i64 i, .map (some M)] 107));have HQ4 := k0_ (zG (zB hb3 (zD HQ.out) HQ.out) (.cells #[.slice A l.length c, .int .i64 i, .map (some M)] 107));have hrs : w.heap.size + 2 <= u3.heap.size := by have := hb3.size; omega
  have HR4 := k0_ (HS.out _ u3.heap.size (.map (some M)) HB4.out (by omega) (hO.below ((Below.refl u3.heap.size u3).alloc (Nat.le_refl _) _)) (zF u3 _));clear hO hM hb3 HO HP HQ HB2 HW2 HIE i5 HS
  go_wp2_with fail
  have hz4 : (u3.alloc (.cells #[.slice A l.length c, .int .i64 i, .map (some M)] 107)).heap.size = u3.heap.size + 1 := by simp
  generalize u3.alloc (.cells #[.slice A l.length c, .int .i64 i, .map (some M)] 107) = w4 at *;generalize u3.heap.size = rb at *;refine (zBT l A c rb i (.map (some M)) w4 HR4.out r HT.out).mono ?_;intro e w5 hp;rcases zAB hp with ⟨h, t, j, X, rfl, rfl, hX, hP⟩ | ⟨E, a, s, rfl, hP⟩
  · clear hp HR4 HT HI
    obtain ⟨hXl, p, hx, hF⟩ := hX;have hP5 := zR hP.2 (show w.heap.size ≠ rb by omega) HP4.out;have hQ5 := zR hP.2 (show w.heap.size + 1 ≠ rb by omega) HQ4.out;have hR5 := hP.1;have hb5 := HB4.out.grown hP.2 (by omega) (fun k hk => by injection hk with hk; omega);have HX5 := k0_ (show w5.heap[X]? = some (.cells (tC_ h p) 41 (0, 0)) from hx);have HP6 := k0_ (qZ hP5 (.int .i8 h.kind) (.string h.name) (.string h.arg) (.int .i64 h.num) (.int .i8 h.tk) (.slice p.TA p.tn p.tc) (.int .i8 h.uk) (.slice p.UA p.un p.uc) (.int .i64 h.label) (.int .i64 h.pos) (.slice p.A p.n p.c));have HQ6 := k0_ ((qC (w := w5) (X := w.heap.size) (B := w.heap.size + 1) (by omega) (.int .i8 h.kind) (.string h.name) (.string h.arg) (.int .i64 h.num) (.int .i8 h.tk) (.slice p.TA p.tn p.tc) (.int .i8 h.uk) (.slice p.UA p.un p.uc) (.int .i64 h.label) (.int .i64 h.pos) (.slice p.A p.n p.c)).trans hQ5);have HR6 := k0_ ((qC (w := w5) (X := w.heap.size) (B := rb) (by omega) (.int .i8 h.kind) (.string h.name) (.string h.arg) (.int .i64 h.num) (.int .i8 h.tk) (.slice p.TA p.tn p.tc) (.int .i8 h.uk) (.slice p.UA p.un p.uc) (.int .i64 h.label) (.int .i64 h.pos) (.slice p.A p.n p.c)).trans hR5);have HB6 := k0_ (zq hb5 (X := w.heap.size) (Nat.le_refl _) (.int .i8 h.kind) (.string h.name) (.string h.arg) (.int .i64 h.num) (.int .i8 h.tk) (.slice p.TA p.tn p.tc) (.int .i8 h.uk) (.slice p.UA p.un p.uc) (.int .i64 h.label) (.int .i64 h.pos) (.slice p.A p.n p.c));have HF6 := k0_ (hF.keep (jB (w := w5) (X := w.heap.size) (n0 := w4.heap.size) (by omega) (.int .i8 h.kind) (.string h.name) (.string h.arg) (.int .i64 h.num) (.int .i8 h.tk) (.slice p.TA p.tn p.tc) (.int .i8 h.uk) (.slice p.UA p.un p.uc) (.int .i64 h.label) (.int .i64 h.pos) (.slice p.A p.n p.c)));obtain ⟨x0, x1, x2, x3, x4, x5, x6, x7, x8, x9, x10, xl⟩ := zS HX5.out;obtain ⟨p0, p1, p2, p3, p4, p5, p6, p7, p8, p9, p10, pl⟩ := zS hP5;have z0 := zH hP5 0;have z1 := zH hP5 1;have z2 := zH hP5 2;have z3 := zH hP5 3;have z4 := zH hP5 4;have z5 := zH hP5 5;have z6 := zH hP5 6;have z7 := zH hP5 7;have z8 := zH hP5 8;have z9 := zH hP5 9;have z10 := zH hP5 10;clear hP hx hF hQ5 hR5 hb5 hP5 HX5 HP4 HQ4 HB4
    go_wp2_with fail
    clear x0 x1 x2 x3 x4 x5 x6 x7 x8 x9 x10 xl p0 p1 p2 p3 p4 p5 p6 p7 p8 p9 p10 pl z0 z1 z2 z3 z4 z5 z6 z7 z8 z9 z10;generalize (((((((((((w5.setCell ⟨w.heap.size, 0, none⟩ (.int .i8 h.kind)).setCell ⟨w.heap.size, 1, none⟩ (.string h.name)).setCell ⟨w.heap.size, 2, none⟩ (.string h.arg)).setCell ⟨w.heap.size, 3, none⟩ (.int .i64 h.num)).setCell ⟨w.heap.size, 4, none⟩ (.int .i8 h.tk)).setCell ⟨w.heap.size, 5, none⟩ (.slice p.TA p.tn p.tc)).setCell ⟨w.heap.size, 6, none⟩ (.int .i8 h.uk)).setCell ⟨w.heap.size, 7, none⟩ (.slice p.UA p.un p.uc)).setCell ⟨w.heap.size, 8, none⟩ (.int .i64 h.label)).setCell ⟨w.heap.size, 9, none⟩ (.int .i64 h.pos)).setCell ⟨w.heap.size, 10, none⟩ (.slice p.A p.n p.c)) = w6 at *;refine (yX h t p w6 HF6.out.is (HG.out.below HB6.out)).mono ?_;rintro e w7 ⟨rfl, hb⟩;have HB7 := kt_ HB6 hb;have HP7 := kp_ hb HP6;have HQ7 := kp_ hb HQ6;have HR7 := kp_ hb HR6;have HF7 := k0_ (HF6.out.keep (KeepFrom.below hb));clear hb HP6 HQ6 HR6 HF6 HB6 HG;obtain ⟨p0, p1, p2, p3, p4, p5, p6, p7, p8, p9, p10, pl⟩ := zS HP7.out;have y0 := zH HP7.out 0;have y1 := zH HP7.out 1;have y2 := zH HP7.out 2;have y3 := zH HP7.out 3;have y4 := zH HP7.out 4;have y5 := zH HP7.out 5;have y6 := zH HP7.out 6;have y7 := zH HP7.out 7;have y8 := zH HP7.out 8;have y9 := zH HP7.out 9;have y10 := zH HP7.out 10;obtain ⟨q0, qf0, ql⟩ := qX HQ7.out;obtain ⟨r0, r1, r2, -, -, -, rl⟩ := qE HR7.out
    by_cases h0 : Tm.chk h t = 0
    · rw [h0]
      have H0 := k0_ h0;clear h0
      go_wp2_with fail
      go_region
      go_wp2_with fail
      have z1 : ((((((((((((w7.setCell ⟨w.heap.size, 0, none⟩ (.int .i8 h.kind)).setCell ⟨w.heap.size, 1, none⟩ (.string h.name)).setCell ⟨w.heap.size, 2, none⟩ (.string h.arg)).setCell ⟨w.heap.size, 3, none⟩ (.int .i64 h.num)).setCell ⟨w.heap.size, 4, none⟩ (.int .i8 h.tk)).setCell ⟨w.heap.size, 5, none⟩ (.slice p.TA p.tn p.tc)).setCell ⟨w.heap.size, 6, none⟩ (.int .i8 h.uk)).setCell ⟨w.heap.size, 7, none⟩ (.slice p.UA p.un p.uc)).setCell ⟨w.heap.size, 8, none⟩ (.int .i64 h.label)).setCell ⟨w.heap.size, 9, none⟩ (.int .i64 h.pos)).setCell ⟨w.heap.size, 10, none⟩ (.slice p.A p.n p.c)).setCell ⟨w.heap.size + 1, 0, none⟩ .nilIface).heap[w.heap.size]? = some (.cells (tC_ h p) 41 (0, 0)) := by rw [Below.heap_setCell _ _ _ _ (show w.heap.size ≠ w.heap.size + 1 by omega)]; exact qZ HP7.out (.int .i8 h.kind) (.string h.name) (.string h.arg) (.int .i64 h.num) (.int .i8 h.tk) (.slice p.TA p.tn p.tc) (.int .i8 h.uk) (.slice p.UA p.un p.uc) (.int .i64 h.label) (.int .i64 h.pos) (.slice p.A p.n p.c)
      have z2 : ((((((((((((w7.setCell ⟨w.heap.size, 0, none⟩ (.int .i8 h.kind)).setCell ⟨w.heap.size, 1, none⟩ (.string h.name)).setCell ⟨w.heap.size, 2, none⟩ (.string h.arg)).setCell ⟨w.heap.size, 3, none⟩ (.int .i64 h.num)).setCell ⟨w.heap.size, 4, none⟩ (.int .i8 h.tk)).setCell ⟨w.heap.size, 5, none⟩ (.slice p.TA p.tn p.tc)).setCell ⟨w.heap.size, 6, none⟩ (.int .i8 h.uk)).setCell ⟨w.heap.size, 7, none⟩ (.slice p.UA p.un p.uc)).setCell ⟨w.heap.size, 8, none⟩ (.int .i64 h.label)).setCell ⟨w.heap.size, 9, none⟩ (.int .i64 h.pos)).setCell ⟨w.heap.size, 10, none⟩ (.slice p.A p.n p.c)).setCell ⟨w.heap.size + 1, 0, none⟩ .nilIface).heap[w.heap.size + 1]? = some (.cells #[.nilIface] 32 (0, 0)) := yc ((qC (w := w7) (X := w.heap.size) (B := w.heap.size + 1) (by omega) (.int .i8 h.kind) (.string h.name) (.string h.arg) (.int .i64 h.num) (.int .i8 h.tk) (.slice p.TA p.tn p.tc) (.int .i8 h.uk) (.slice p.UA p.un p.uc) (.int .i64 h.label) (.int .i64 h.pos) (.slice p.A p.n p.c)).trans HQ7.out);have HB8 := k0_ ((zq HB7.out (X := w.heap.size) (Nat.le_refl _) (.int .i8 h.kind) (.string h.name) (.string h.arg) (.int .i64 h.num) (.int .i8 h.tk) (.slice p.TA p.tn p.tc) (.int .i8 h.uk) (.slice p.UA p.un p.uc) (.int .i64 h.label) (.int .i64 h.pos) (.slice p.A p.n p.c)).setCell (p := ⟨w.heap.size + 1, 0, none⟩) (Nat.le_succ _) .nilIface);have HF8 := k0_ ((HF7.out.keep (jB (w := w7) (X := w.heap.size) (n0 := w4.heap.size) (by omega) (.int .i8 h.kind) (.string h.name) (.string h.arg) (.int .i64 h.num) (.int .i8 h.tk) (.slice p.TA p.tn p.tc) (.int .i8 h.uk) (.slice p.UA p.un p.uc) (.int .i64 h.label) (.int .i64 h.pos) (.slice p.A p.n p.c))).keep (zX (N := w.heap.size + 1) (o := 0) (v := .nilIface) (by omega)));clear p0 p1 p2 p3 p4 p5 p6 p7 p8 p9 p10 pl y0 y1 y2 y3 y4 y5 y6 y7 y8 y9 y10 q0 qf0 ql r0 r1 r2 rl HP7 HQ7 HR7 HF7 HB7;generalize (((((((((((w7.setCell ⟨w.heap.size, 0, none⟩ (.int .i8 h.kind)).setCell ⟨w.heap.size, 1, none⟩ (.string h.name)).setCell ⟨w.heap.size, 2, none⟩ (.string h.arg)).setCell ⟨w.heap.size, 3, none⟩ (.int .i64 h.num)).setCell ⟨w.heap.size, 4, none⟩ (.int .i8 h.tk)).setCell ⟨w.heap.size, 5, none⟩ (.slice p.TA p.tn p.tc)).setCell ⟨w.heap.size, 6, none⟩ (.int .i8 h.uk)).setCell ⟨w.heap.size, 7, none⟩ (.slice p.UA p.un p.uc)).setCell ⟨w.heap.size, 8, none⟩ (.int .i64 h.label)).setCell ⟨w.heap.size, 9, none⟩ (.int .i64 h.pos)).setCell ⟨w.heap.size, 10, none⟩ (.slice p.A p.n p.c)).setCell ⟨w.heap.size + 1, 0, none⟩ .nilIface = w8 at *;obtain ⟨p0, p1, p2, p3, p4, p5, p6, p7, p8, p9, p10, -⟩ := zS (zG (show w8.drew.heap[w.heap.size]? = _ from z1) (.cells #[.nilIface] 102));obtain ⟨q0, -, -⟩ := qX (zG (show w8.drew.heap[w.heap.size + 1]? = _ from z2) (.cells #[.nilIface] 102));have HB9 := k0_ ((HB8.out.drew).alloc (show w.heap.size <= w8.drew.heap.size from HB8.out.size) (.cells #[.nilIface] 102));have HF9 := k0_ (show FarT w.heap.size (w8.drew.alloc (.cells #[.nilIface] 102)) h t p from ((HF8.out.keep (w' := w8.drew) fun _ _ _ _ h => h).keep (zk _)).low (by omega));clear z1 z2 HB8 HF8;generalize w8.drew = w9 at *;refine leaves_cons (f := 31) (args := #[.pointer (some ⟨w.heap.size + 1, 0, none⟩)]) (by simp) (by simp [go_sem]) ?_;refine (yE _ _).mono ?_;rintro e u' w10 ⟨rfl, rfl, rfl⟩;refine ⟨.tuple #[.agg (tC_ h p), .int .i64 j, .nilIface], by simp [results, Tryz.results15, go_sem, p0, p1, p2, p3, p4, p5, p6, p7, p8, p9, p10, q0], ?_⟩;exact WPost.good H0.out ⟨p, rfl, HF9.out, HB9.out⟩
    · have hc : (((Tm.chk h t : Nat) : Int) != 0) = true := by simp; omega
      have H0 := k0_ h0;obtain ⟨C, hC⟩ : ∃ C, C = Tm.chk h t := ⟨_, rfl⟩
      rw [← hC] at hc ⊢;have HC := k0_ hC;clear hC h0
      go_wp2_with fail
      have z1 : ((((((((((((w7.setCell ⟨w.heap.size, 0, none⟩ (.int .i8 0)).setCell ⟨w.heap.size, 1, none⟩ (.string ⟨#[]⟩)).setCell ⟨w.heap.size, 2, none⟩ (.string ⟨#[]⟩)).setCell ⟨w.heap.size, 3, none⟩ (.int .i64 0)).setCell ⟨w.heap.size, 4, none⟩ (.int .i8 0)).setCell ⟨w.heap.size, 5, none⟩ (.slice none 0 0)).setCell ⟨w.heap.size, 6, none⟩ (.int .i8 0)).setCell ⟨w.heap.size, 7, none⟩ (.slice none 0 0)).setCell ⟨w.heap.size, 8, none⟩ (.int .i64 0)).setCell ⟨w.heap.size, 9, none⟩ (.int .i64 0)).setCell ⟨w.heap.size, 10, none⟩ (.slice none 0 0)).setCell ⟨w.heap.size + 1, 0, none⟩ (.iface 44 (.pointer (some ⟨w7.heap.size, 0, none⟩)))).heap[w.heap.size]? = some (.cells #[.int .i8 0, .string ⟨#[]⟩, .string ⟨#[]⟩, .int .i64 0, .int .i8 0, .slice none 0 0, .int .i8 0, .slice none 0 0, .int .i64 0, .int .i64 0, .slice none 0 0] 41 (0, 0)) := by rw [Below.heap_setCell _ _ _ _ (show w.heap.size ≠ w.heap.size + 1 by omega)]; exact qZ HP7.out (.int .i8 0) (.string ⟨#[]⟩) (.string ⟨#[]⟩) (.int .i64 0) (.int .i8 0) (.slice none 0 0) (.int .i8 0) (.slice none 0 0) (.int .i64 0) (.int .i64 0) (.slice none 0 0)
      have z2 : ((((((((((((w7.setCell ⟨w.heap.size, 0, none⟩ (.int .i8 0)).setCell ⟨w.heap.size, 1, none⟩ (.string ⟨#[]⟩)).setCell ⟨w.heap.size, 2, none⟩ (.string ⟨#[]⟩)).setCell ⟨w.heap.size, 3, none⟩ (.int .i64 0)).setCell ⟨w.heap.size, 4, none⟩ (.int .i8 0)).setCell ⟨w.heap.size, 5, none⟩ (.slice none 0 0)).setCell ⟨w.heap.size, 6, none⟩ (.int .i8 0)).setCell ⟨w.heap.size, 7, none⟩ (.slice none 0 0)).setCell ⟨w.heap.size, 8, none⟩ (.int .i64 0)).setCell ⟨w.heap.size, 9, none⟩ (.int .i64 0)).setCell ⟨w.heap.size, 10, none⟩ (.slice none 0 0)).setCell ⟨w.heap.size + 1, 0, none⟩ (.iface 44 (.pointer (some ⟨w7.heap.size, 0, none⟩)))).heap[w.heap.size + 1]? = some (.cells #[.iface 44 (.pointer (some ⟨w7.heap.size, 0, none⟩))] 32 (0, 0)) := yc ((qC (w := w7) (X := w.heap.size) (B := w.heap.size + 1) (by omega) (.int .i8 0) (.string ⟨#[]⟩) (.string ⟨#[]⟩) (.int .i64 0) (.int .i8 0) (.slice none 0 0) (.int .i8 0) (.slice none 0 0) (.int .i64 0) (.int .i64 0) (.slice none 0 0)).trans HQ7.out);have HB8 := k0_ ((zq HB7.out (X := w.heap.size) (Nat.le_refl _) (.int .i8 0) (.string ⟨#[]⟩) (.string ⟨#[]⟩) (.int .i64 0) (.int .i8 0) (.slice none 0 0) (.int .i8 0) (.slice none 0 0) (.int .i64 0) (.int .i64 0) (.slice none 0 0)).setCell (p := ⟨w.heap.size + 1, 0, none⟩) (Nat.le_succ _) (.iface 44 (.pointer (some ⟨w7.heap.size, 0, none⟩))));have hz8 : ((((((((((((w7.setCell ⟨w.heap.size, 0, none⟩ (.int .i8 0)).setCell ⟨w.heap.size, 1, none⟩ (.string ⟨#[]⟩)).setCell ⟨w.heap.size, 2, none⟩ (.string ⟨#[]⟩)).setCell ⟨w.heap.size, 3, none⟩ (.int .i64 0)).setCell ⟨w.heap.size, 4, none⟩ (.int .i8 0)).setCell ⟨w.heap.size, 5, none⟩ (.slice none 0 0)).setCell ⟨w.heap.size, 6, none⟩ (.int .i8 0)).setCell ⟨w.heap.size, 7, none⟩ (.slice none 0 0)).setCell ⟨w.heap.size, 8, none⟩ (.int .i64 0)).setCell ⟨w.heap.size, 9, none⟩ (.int .i64 0)).setCell ⟨w.heap.size, 10, none⟩ (.slice none 0 0)).setCell ⟨w.heap.size + 1, 0, none⟩ (.iface 44 (.pointer (some ⟨w7.heap.size, 0, none⟩)))).heap.size = w7.heap.size := by simp
      have h7 := HB7.out.size;clear p0 p1 p2 p3 p4 p5 p6 p7 p8 p9 p10 pl y0 y1 y2 y3 y4 y5 y6 y7 y8 y9 y10 q0 qf0 ql r0 r1 r2 rl HP7 HQ7 HR7 HF7 HB7;generalize (((((((((((w7.setCell ⟨w.heap.size, 0, none⟩ (.int .i8 0)).setCell ⟨w.heap.size, 1, none⟩ (.string ⟨#[]⟩)).setCell ⟨w.heap.size, 2, none⟩ (.string ⟨#[]⟩)).setCell ⟨w.heap.size, 3, none⟩ (.int .i64 0)).setCell ⟨w.heap.size, 4, none⟩ (.int .i8 0)).setCell ⟨w.heap.size, 5, none⟩ (.slice none 0 0)).setCell ⟨w.heap.size, 6, none⟩ (.int .i8 0)).setCell ⟨w.heap.size, 7, none⟩ (.slice none 0 0)).setCell ⟨w.heap.size, 8, none⟩ (.int .i64 0)).setCell ⟨w.heap.size, 9, none⟩ (.int .i64 0)).setCell ⟨w.heap.size, 10, none⟩ (.slice none 0 0)).setCell ⟨w.heap.size + 1, 0, none⟩ (.iface 44 (.pointer (some ⟨w7.heap.size, 0, none⟩))) = w8 at *;generalize w7.heap.size = SZ at *;subst hz8;have y0 := zG (zF w8 (.cells #[.int .i64 C, .int .i64 0, .string ⟨#[]⟩] 95)) (.cells #[.nilIface] 102);obtain ⟨p0, p1, p2, p3, p4, p5, p6, p7, p8, p9, p10, -⟩ := zS (zG (zG z1 (.cells #[.int .i64 C, .int .i64 0, .string ⟨#[]⟩] 95)) (.cells #[.nilIface] 102));obtain ⟨q0, -, -⟩ := qX (zG (zG z2 (.cells #[.int .i64 C, .int .i64 0, .string ⟨#[]⟩] 95)) (.cells #[.nilIface] 102));have HB9 := k0_ ((HB8.out.alloc h7 (.cells #[.int .i64 C, .int .i64 0, .string ⟨#[]⟩] 95)).alloc (by have := h7; simp; omega) (.cells #[.nilIface] 102));refine leaves_cons (f := 31) (args := #[.pointer (some ⟨w.heap.size + 1, 0, none⟩)]) (by simp) (by simp [go_sem]) ?_;refine (yE _ _).mono ?_;rintro e u' w10 ⟨rfl, rfl, rfl⟩;refine ⟨.tuple #[.agg #[.int .i8 0, .string ⟨#[]⟩, .string ⟨#[]⟩, .int .i64 0, .int .i8 0, .slice none 0 0, .int .i8 0, .slice none 0 0, .int .i64 0, .int .i64 0, .slice none 0 0], .int .i64 0, .iface 44 (.pointer (some ⟨w8.heap.size, 0, none⟩))], by simp [results, Tryz.results15, go_sem, p0, p1, p2, p3, p4, p5, p6, p7, p8, p9, p10, q0], WPost.zBU H0.out ⟨_, rfl, ?_, h7, HB9.out⟩⟩;unfold FaultAt;rw [← HC.out];exact y0
  · clear hp HR4 HT HI HG
    obtain ⟨g, rfl, hX, hgl, hg⟩ := hP;have hP5 := zR hg (show w.heap.size ≠ rb by omega) HP4.out;have hQ5 := zR hg (show w.heap.size + 1 ≠ rb by omega) HQ4.out;have hb5 := HB4.out.grown hg (by omega) (fun k hk => by injection hk with hk; omega);obtain ⟨q0, qf0, ql⟩ := qX hQ5;refine leaves_cons (f := 31) (args := #[.pointer (some ⟨w.heap.size + 1, 0, none⟩)]) (by simp) (by simp [go_sem]) ?_;refine (uQ _ _ _ _ q0 qf0).mono ?_;rintro e u' w6 ⟨rfl, rfl, rfl⟩;have hX6 : ((w5.setCell ⟨w.heap.size + 1, 0, none⟩ (.iface 44 (.pointer (some ⟨g, 0, none⟩)))).alloc (.cells #[.iface 44 (.pointer (some ⟨g, 0, none⟩))] 102)).heap[g]? = some (.cells #[.int .i64 E, .int .i64 a, .string s] 95 (0, 0)) := zG (by rw [Below.heap_setCell _ _ _ _ (show g ≠ w.heap.size + 1 by omega)]; exact hX) _;have z1 := zG (show (w5.setCell ⟨w.heap.size + 1, 0, none⟩ (.iface 44 (.pointer (some ⟨g, 0, none⟩)))).heap[w.heap.size]? = _ by rw [Below.heap_setCell _ _ _ _ (show w.heap.size ≠ w.heap.size + 1 by omega)]; exact hP5) (.cells #[.iface 44 (.pointer (some ⟨g, 0, none⟩))] 102);have z2 := zG (yc (v := .iface 44 (.pointer (some ⟨g, 0, none⟩))) hQ5) (.cells #[.iface 44 (.pointer (some ⟨g, 0, none⟩))] 102);have hb6 := (hb5.setCell (p := ⟨w.heap.size + 1, 0, none⟩) (Nat.le_succ _) (.iface 44 (.pointer (some ⟨g, 0, none⟩))));have hb7 := hb6.alloc hb6.size (.cells #[.iface 44 (.pointer (some ⟨g, 0, none⟩))] 102);generalize (w5.setCell ⟨w.heap.size + 1, 0, none⟩ (.iface 44 (.pointer (some ⟨g, 0, none⟩)))).alloc (.cells #[.iface 44 (.pointer (some ⟨g, 0, none⟩))] 102) = w6 at *;obtain ⟨p0, p1, p2, p3, p4, p5, p6, p7, p8, p9, p10, -⟩ := zS z1;obtain ⟨k0, -, -⟩ := qX z2;exact ⟨.tuple #[.agg #[.int .i8 0, .string ⟨#[]⟩, .string ⟨#[]⟩, .int .i64 0, .int .i8 0, .slice none 0 0, .int .i8 0, .slice none 0 0, .int .i64 0, .int .i64 0, .slice none 0 0], .int .i64 0, .iface 44 (.pointer (some ⟨g, 0, none⟩))], by simp [results, Tryz.results15, go_sem, p0, p1, p2, p3, p4, p5, p6, p7, p8, p9, p10, k0], g, rfl, hX6, by omega, hb7⟩
end Go.Proofs.YtepmjknljbafgaaGreatDoor
namespace Go.Proofs.YtepmjknljbafgaaGreatDoor
set_option maxHeartbeats 4000000
set_option maxRecDepth 100000
open Go.RowKit Rd Tt
inductive TRes where
  | ok (h : Hd) (t : Tm)
  | bad (E a : Int) (x : ByteArray)
inductive Fits (l : List W4) : Tt.Rs -> TRes -> Prop where
  | bad {E a : Int} {x : ByteArray} : Fits l (.bad E a x) (.bad E a x)
  | zBU {h : Hd} {t : Tm} {j : Nat} (h0 : Tm.chk h t ≠ 0) : Fits l (.ok [.tm h t] j) (.bad (Tm.chk h t) 0 ⟨#[]⟩)
  | more {h : Hd} {t : Tm} {j : Nat} {x : W4} (h0 : Tm.chk h t = 0) (hx : l[j]? = some x) (hk : x.kind ≠ 0) : Fits l (.ok [.tm h t] j) (.bad 40 (fAt l j) (fWord l j))
  | good {h : Hd} {t : Tm} {j : Nat} {x : W4} (h0 : Tm.chk h t = 0) (hx : l[j]? = some x) (hk : x.kind = 0) : Fits l (.ok [.tm h t] j) (.ok h t)
inductive TxOut (s : ByteArray) : TRes -> Prop where
  | long (h : 65536 < s.size) : TxOut s (.bad 3 0 ⟨#[]⟩)
  | scan {f : Sc.Flt} (h : s.size <= 65536) (e : (Sc.tk s 0).2 = some f) : TxOut s (.bad f.1 f.2.1 f.2.2)
  | read {r : Tt.Rs} {q : TRes} (h : s.size <= 65536) (e : (Sc.tk s 0).2 = none) (hT : T (wl s) (.term 0) r) (hf : Fits (wl s) r q) : TxOut s q
theorem zA4 {w w' : World} {r : Tt.Rs} {e : Ending} {l : List W4} (hw : WPost w r e w') :
    (∃ h t j p, r = .ok [.tm h t] j /\ Tm.chk h t = 0 /\ e = .returned (.tuple #[.agg (tC_ h p), .int .i64 (j : Nat), .nilIface]) /\ FarT w.heap.size w' h t p /\ Below w.heap.size w w') \/ (∃ E a x, Fits l r (.bad E a x) /\ WBad w E a x e w') := by
  try unfold tC_
  unfold WPost at hw
  split at hw
  · split at hw
    · rename_i h0
      obtain ⟨p, h1, h2, h3⟩ := hw;exact .inl ⟨_, _, _, p, rfl, h0, h1, h2, h3⟩
    · rename_i h0
      exact .inr ⟨_, _, _, .zBU h0, hw⟩
  · exact hw.elim
  · exact .inr ⟨_, _, _, .bad, hw⟩
def TxPost (w : World) (q : TRes) (e : Ending) (w' : World) : Prop := match q with
  | .ok h t => ∃ p, e = .returned (.tuple #[.agg (tC_ h p), .nilIface]) /\ FarT w.heap.size w' h t p /\ Below w.heap.size w w'
  | .bad E a x => ∃ g, e = .returned (.tuple #[.agg #[.int .i8 0, .string ⟨#[]⟩, .string ⟨#[]⟩, .int .i64 0, .int .i8 0, .slice none 0 0, .int .i8 0, .slice none 0 0, .int .i64 0, .int .i64 0, .slice none 0 0], .iface 44 (.pointer (some ⟨g, 0, none⟩))]) /\ FaultAt w' g E a x /\ w.heap.size <= g /\ Below w.heap.size w w'
theorem wI (s : ByteArray) (w : World) (E a : Int) (x : ByteArray) (hA : ∀ W : World, Below w.heap.size w W -> Calls Tryz.prog 14 #[.string s] W fun e w' => ∃ N, e = .returned (.tuple #[.slice none 0 0, .iface 44 (.pointer (some ⟨N, 0, none⟩))]) /\ W.heap.size <= N /\ FaultAt w' N E a x /\ Below W.heap.size W w') :
    Calls Tryz.prog 7 #[.string s] w (TxPost w (.bad E a x)) := by
  have hb0 : Below w.heap.size w (w.alloc (.cells #[.int .i8 0, .string ⟨#[]⟩, .string ⟨#[]⟩, .int .i64 0, .int .i8 0, .slice none 0 0, .int .i8 0, .slice none 0 0, .int .i64 0, .int .i64 0, .slice none 0 0] 41)) := (Below.refl _ _).alloc (Nat.le_refl _) _;have CA := k0_ (hA _ hb0);have HB0 := k0_ hb0;have HX := k0_ (zF w (.cells #[.int .i8 0, .string ⟨#[]⟩, .string ⟨#[]⟩, .int .i64 0, .int .i8 0, .slice none 0 0, .int .i8 0, .slice none 0 0, .int .i64 0, .int .i64 0, .slice none 0 0] 41));clear hA hb0
  go_enter Tryz.func7, Tryz.ntmps7
  go_wp2_with fail
  refine CA.out.mono ?_;rintro e w2 ⟨N, rfl, hN, hF, hb⟩;have HX2 := kp_ hb HX;have HB2 := kt_ HB0 hb;have HF2 := k0_ hF;have hz2 : (w.alloc (.cells #[.int .i8 0, .string ⟨#[]⟩, .string ⟨#[]⟩, .int .i64 0, .int .i8 0, .slice none 0 0, .int .i8 0, .slice none 0 0, .int .i64 0, .int .i64 0, .slice none 0 0] 41)).heap.size = w.heap.size + 1 := by simp
  have hN2 : w.heap.size < N := by omega
  clear hF hb hN hz2 HX HB0 CA;obtain ⟨p0, p1, p2, p3, p4, p5, p6, p7, p8, p9, p10, pl⟩ := zS HX2.out;have y0 := zH HX2.out 0;have y1 := zH HX2.out 1;have y2 := zH HX2.out 2;have y3 := zH HX2.out 3;have y4 := zH HX2.out 4;have y5 := zH HX2.out 5;have y6 := zH HX2.out 6;have y7 := zH HX2.out 7;have y8 := zH HX2.out 8;have y9 := zH HX2.out 9;have y10 := zH HX2.out 10
  go_wp2_with fail
  have z1 := qZ HX2.out (.int .i8 0) (.string ⟨#[]⟩) (.string ⟨#[]⟩) (.int .i64 0) (.int .i8 0) (.slice none 0 0) (.int .i8 0) (.slice none 0 0) (.int .i64 0) (.int .i64 0) (.slice none 0 0);have HE := k0_ (show FaultAt (((((((((((w2.setCell ⟨w.heap.size, 0, none⟩ (.int .i8 0)).setCell ⟨w.heap.size, 1, none⟩ (.string ⟨#[]⟩)).setCell ⟨w.heap.size, 2, none⟩ (.string ⟨#[]⟩)).setCell ⟨w.heap.size, 3, none⟩ (.int .i64 0)).setCell ⟨w.heap.size, 4, none⟩ (.int .i8 0)).setCell ⟨w.heap.size, 5, none⟩ (.slice none 0 0)).setCell ⟨w.heap.size, 6, none⟩ (.int .i8 0)).setCell ⟨w.heap.size, 7, none⟩ (.slice none 0 0)).setCell ⟨w.heap.size, 8, none⟩ (.int .i64 0)).setCell ⟨w.heap.size, 9, none⟩ (.int .i64 0)).setCell ⟨w.heap.size, 10, none⟩ (.slice none 0 0)) N E a x /\ Below w.heap.size w (((((((((((w2.setCell ⟨w.heap.size, 0, none⟩ (.int .i8 0)).setCell ⟨w.heap.size, 1, none⟩ (.string ⟨#[]⟩)).setCell ⟨w.heap.size, 2, none⟩ (.string ⟨#[]⟩)).setCell ⟨w.heap.size, 3, none⟩ (.int .i64 0)).setCell ⟨w.heap.size, 4, none⟩ (.int .i8 0)).setCell ⟨w.heap.size, 5, none⟩ (.slice none 0 0)).setCell ⟨w.heap.size, 6, none⟩ (.int .i8 0)).setCell ⟨w.heap.size, 7, none⟩ (.slice none 0 0)).setCell ⟨w.heap.size, 8, none⟩ (.int .i64 0)).setCell ⟨w.heap.size, 9, none⟩ (.int .i64 0)).setCell ⟨w.heap.size, 10, none⟩ (.slice none 0 0)) from ⟨by unfold FaultAt; rw [qC (X := w.heap.size) (B := N) (by omega)]; exact HF2.out, zq HB2.out (Nat.le_refl _) (.int .i8 0) (.string ⟨#[]⟩) (.string ⟨#[]⟩) (.int .i64 0) (.int .i8 0) (.slice none 0 0) (.int .i8 0) (.slice none 0 0) (.int .i64 0) (.int .i64 0) (.slice none 0 0)⟩);clear p0 p1 p2 p3 p4 p5 p6 p7 p8 p9 p10 pl y0 y1 y2 y3 y4 y5 y6 y7 y8 y9 y10 HX2 HF2 HB2;generalize (((((((((((w2.setCell ⟨w.heap.size, 0, none⟩ (.int .i8 0)).setCell ⟨w.heap.size, 1, none⟩ (.string ⟨#[]⟩)).setCell ⟨w.heap.size, 2, none⟩ (.string ⟨#[]⟩)).setCell ⟨w.heap.size, 3, none⟩ (.int .i64 0)).setCell ⟨w.heap.size, 4, none⟩ (.int .i8 0)).setCell ⟨w.heap.size, 5, none⟩ (.slice none 0 0)).setCell ⟨w.heap.size, 6, none⟩ (.int .i8 0)).setCell ⟨w.heap.size, 7, none⟩ (.slice none 0 0)).setCell ⟨w.heap.size, 8, none⟩ (.int .i64 0)).setCell ⟨w.heap.size, 9, none⟩ (.int .i64 0)).setCell ⟨w.heap.size, 10, none⟩ (.slice none 0 0)) = w3 at *;obtain ⟨p0, p1, p2, p3, p4, p5, p6, p7, p8, p9, p10, -⟩ := zS z1;refine bodyPost_ret (v := .tuple #[.agg #[.int .i8 0, .string ⟨#[]⟩, .string ⟨#[]⟩, .int .i64 0, .int .i8 0, .slice none 0 0, .int .i8 0, .slice none 0 0, .int .i64 0, .int .i64 0, .slice none 0 0], .iface 44 (.pointer (some ⟨N, 0, none⟩))]) (by simp [results, Tryz.results7, go_sem, *]) rfl ⟨N, rfl, HE.out.1, Nat.le_of_lt hN2, HE.out.2⟩
theorem zBE (s : ByteArray) (l : List W4) (w : World) (hG : TGlob w) (hl : l.length < maxLen) (hsm : ∀ x ∈ l, x.text.size <= 281474976710656) (hok : ∀ x ∈ l, OkWord x) (hz : ∀ i x, l[i]? = some x -> x.kind ≠ 0 -> i + 1 < l.length) (hp : 0 < l.length)
    (hA : ∀ W : World, Below w.heap.size w W -> Calls Tryz.prog 14 #[.string s] W fun e w' => ∃ A c, e = .returned (.tuple #[.slice A l.length c, .nilIface]) /\ WRow w' A l /\ Below W.heap.size W w') (r : Tt.Rs) (hT : T l (.term 0) r) :
    Calls Tryz.prog 7 #[.string s] w (fun e w' => ∃ q, Fits l r q /\ TxPost w q e w') := by
  have hb0 : Below w.heap.size w (w.alloc (.cells #[.int .i8 0, .string ⟨#[]⟩, .string ⟨#[]⟩, .int .i64 0, .int .i8 0, .slice none 0 0, .int .i8 0, .slice none 0 0, .int .i64 0, .int .i64 0, .slice none 0 0] 41)) := (Below.refl _ _).alloc (Nat.le_refl _) _;have CA := k0_ (hA _ hb0);have HB0 := k0_ hb0;have HX := k0_ (zF w (.cells #[.int .i8 0, .string ⟨#[]⟩, .string ⟨#[]⟩, .int .i64 0, .int .i8 0, .slice none 0 0, .int .i8 0, .slice none 0 0, .int .i64 0, .int .i64 0, .slice none 0 0] 41));have h00 : plc l.length 0 = 0 := by unfold plc; omega
  have CW := k0_ (fun (W : World) (A : Option Addr) (c : Nat) (hb : Below w.heap.size w W) (hW : WRow W A l) => zCd l A c 0 W hW (hG.below hb) hl hsm hok r (by rw [h00]; exact hT));have CM := k0_ (fun (W : World) (A : Option Addr) (c j : Nat) (hj : j <= l.length) (hW : WRow W A l) => wS l A c j W (Nat.le_of_lt hl) hj hsm hW);have HJ := k0_ (fun vs j (e : r = .ok vs j) => (show j < l.length from hT.shy hz trivial hp vs j e));have i5 : (l.length : Int) <= 9223372036854775807 := by unfold maxLen at hl; omega
  clear hA hb0 hl hsm hok hz hp hT h00
  go_enter Tryz.func7, Tryz.ntmps7
  go_wp2_with fail
  refine CA.out.mono ?_;rintro e w2 ⟨A, c, rfl, hW, hb⟩;have HX2 := kp_ hb HX;have HB2 := kt_ HB0 hb;have HW2 := k0_ hW;have hs2 : w.heap.size < w2.heap.size := zD HX2.out;clear hW hb HX HB0 CA hG
  go_wp2_with fail
  refine (CW.out w2 A c HB2.out HW2.out).mono ?_;intro e w3 hw;rcases zA4 (l := l) hw with ⟨h, t, j, p, rfl, h0, rfl, hF, hb⟩ | ⟨E, a, x, hfit, g, rfl, hF, hg, hb⟩
  · have hj := HJ.out _ j rfl
    obtain ⟨x, hx⟩ : ∃ x, l[j]? = some x := ⟨l[j]'hj, List.getElem?_eq_getElem _⟩
    have hj2 : (0 : Int) <= j /\ (j : Int) < l.length := by omega
    obtain ⟨g, o, rfl, k0, k1, k2, k3⟩ := (HW2.out.below (hb.alloc hb.size (.cells (tC_ h p) 41))) j x hx;have HX3 := k0_ (zB hb hs2 HX2.out);have HF3 := k0_ hF;have HB3 := kt_ HB2 hb;have HW3 := k0_ (HW2.out.below hb);have hs3 : w.heap.size < w3.heap.size := Nat.lt_of_lt_of_le hs2 hb.size;have H0 := k0_ h0;have HH := k0_ hx;clear hF hb HX2 HB2 HW2 CW HJ h0 hx k1 k2 k3;obtain ⟨p0, p1, p2, p3, p4, p5, p6, p7, p8, p9, p10, pl⟩ := zS HX3.out;have y0 := zH HX3.out 0;have y1 := zH HX3.out 1;have y2 := zH HX3.out 2;have y3 := zH HX3.out 3;have y4 := zH HX3.out 4;have y5 := zH HX3.out 5;have y6 := zH HX3.out 6;have y7 := zH HX3.out 7;have y8 := zH HX3.out 8;have y9 := zH HX3.out 9;have y10 := zH HX3.out 10
    by_cases hk : x.kind = 0
    · rw [hk] at k0
      have HK := k0_ hk;clear hk CM
      go_wp2_with fail
      have z1 := qZ HX3.out (.int .i8 h.kind) (.string h.name) (.string h.arg) (.int .i64 h.num) (.int .i8 h.tk) (.slice p.TA p.tn p.tc) (.int .i8 h.uk) (.slice p.UA p.un p.uc) (.int .i64 h.label) (.int .i64 h.pos) (.slice p.A p.n p.c);have HE := k0_ (show FarT w2.heap.size (((((((((((w3.setCell ⟨w.heap.size, 0, none⟩ (.int .i8 h.kind)).setCell ⟨w.heap.size, 1, none⟩ (.string h.name)).setCell ⟨w.heap.size, 2, none⟩ (.string h.arg)).setCell ⟨w.heap.size, 3, none⟩ (.int .i64 h.num)).setCell ⟨w.heap.size, 4, none⟩ (.int .i8 h.tk)).setCell ⟨w.heap.size, 5, none⟩ (.slice p.TA p.tn p.tc)).setCell ⟨w.heap.size, 6, none⟩ (.int .i8 h.uk)).setCell ⟨w.heap.size, 7, none⟩ (.slice p.UA p.un p.uc)).setCell ⟨w.heap.size, 8, none⟩ (.int .i64 h.label)).setCell ⟨w.heap.size, 9, none⟩ (.int .i64 h.pos)).setCell ⟨w.heap.size, 10, none⟩ (.slice p.A p.n p.c)) h t p /\ Below w.heap.size w (((((((((((w3.setCell ⟨w.heap.size, 0, none⟩ (.int .i8 h.kind)).setCell ⟨w.heap.size, 1, none⟩ (.string h.name)).setCell ⟨w.heap.size, 2, none⟩ (.string h.arg)).setCell ⟨w.heap.size, 3, none⟩ (.int .i64 h.num)).setCell ⟨w.heap.size, 4, none⟩ (.int .i8 h.tk)).setCell ⟨w.heap.size, 5, none⟩ (.slice p.TA p.tn p.tc)).setCell ⟨w.heap.size, 6, none⟩ (.int .i8 h.uk)).setCell ⟨w.heap.size, 7, none⟩ (.slice p.UA p.un p.uc)).setCell ⟨w.heap.size, 8, none⟩ (.int .i64 h.label)).setCell ⟨w.heap.size, 9, none⟩ (.int .i64 h.pos)).setCell ⟨w.heap.size, 10, none⟩ (.slice p.A p.n p.c)) from ⟨HF3.out.keep (jB hs2 (.int .i8 h.kind) (.string h.name) (.string h.arg) (.int .i64 h.num) (.int .i8 h.tk) (.slice p.TA p.tn p.tc) (.int .i8 h.uk) (.slice p.UA p.un p.uc) (.int .i64 h.label) (.int .i64 h.pos) (.slice p.A p.n p.c)), zq HB3.out (Nat.le_refl _) (.int .i8 h.kind) (.string h.name) (.string h.arg) (.int .i64 h.num) (.int .i8 h.tk) (.slice p.TA p.tn p.tc) (.int .i8 h.uk) (.slice p.UA p.un p.uc) (.int .i64 h.label) (.int .i64 h.pos) (.slice p.A p.n p.c)⟩);clear p0 p1 p2 p3 p4 p5 p6 p7 p8 p9 p10 pl y0 y1 y2 y3 y4 y5 y6 y7 y8 y9 y10 HX3 HF3 HB3 HW3 k0;generalize (((((((((((w3.setCell ⟨w.heap.size, 0, none⟩ (.int .i8 h.kind)).setCell ⟨w.heap.size, 1, none⟩ (.string h.name)).setCell ⟨w.heap.size, 2, none⟩ (.string h.arg)).setCell ⟨w.heap.size, 3, none⟩ (.int .i64 h.num)).setCell ⟨w.heap.size, 4, none⟩ (.int .i8 h.tk)).setCell ⟨w.heap.size, 5, none⟩ (.slice p.TA p.tn p.tc)).setCell ⟨w.heap.size, 6, none⟩ (.int .i8 h.uk)).setCell ⟨w.heap.size, 7, none⟩ (.slice p.UA p.un p.uc)).setCell ⟨w.heap.size, 8, none⟩ (.int .i64 h.label)).setCell ⟨w.heap.size, 9, none⟩ (.int .i64 h.pos)).setCell ⟨w.heap.size, 10, none⟩ (.slice p.A p.n p.c)) = w5 at *;obtain ⟨p0, p1, p2, p3, p4, p5, p6, p7, p8, p9, p10, -⟩ := zS (zG z1 (.cells (tC_ h p) 41));refine bodyPost_ret (v := .tuple #[.agg (tC_ h p), .nilIface]) (by simp [results, Tryz.results7, go_sem, *]) rfl ⟨.ok h t, .good H0.out HH.out HK.out, p, rfl, (HE.out.1.keep (zk _)).low (Nat.le_of_lt hs2), HE.out.2.alloc HE.out.2.size _⟩
    · have hkc : (x.kind != 0) = true := by simpa using hk
      have HK := k0_ hk;have CF := k0_ (CM.out _ (some ⟨g, o, none⟩) c j (Nat.le_of_lt hj) (HW3.out.below ((Below.refl _ _).alloc (Nat.le_refl _) (.cells (tC_ h p) 41))));clear hk CM
      go_wp2_with fail
      refine CF.out.mono ?_;rintro e w5 ⟨gf, rfl, hF, hg, hb⟩;have HX5 := k0_ (zB hb (by simp; omega) (zG HX3.out (.cells (tC_ h p) 41)));have HB5 := k0_ ((HB3.out.alloc HB3.out.size (.cells (tC_ h p) 41)).trans (hb.mono (by simp; omega)));have HF5 := k0_ hF;have hg5 : w.heap.size < gf := by simp at hg; omega
      clear p0 p1 p2 p3 p4 p5 p6 p7 p8 p9 p10 pl y0 y1 y2 y3 y4 y5 y6 y7 y8 y9 y10 hF hg hb HX3 HF3 HB3 HW3 CF k0;obtain ⟨p0, p1, p2, p3, p4, p5, p6, p7, p8, p9, p10, pl⟩ := zS HX5.out;have y0 := zH HX5.out 0;have y1 := zH HX5.out 1;have y2 := zH HX5.out 2;have y3 := zH HX5.out 3;have y4 := zH HX5.out 4;have y5 := zH HX5.out 5;have y6 := zH HX5.out 6;have y7 := zH HX5.out 7;have y8 := zH HX5.out 8;have y9 := zH HX5.out 9;have y10 := zH HX5.out 10
      go_wp2_with fail
      have z1 := qZ HX5.out (.int .i8 0) (.string ⟨#[]⟩) (.string ⟨#[]⟩) (.int .i64 0) (.int .i8 0) (.slice none 0 0) (.int .i8 0) (.slice none 0 0) (.int .i64 0) (.int .i64 0) (.slice none 0 0);have HE := k0_ (show FaultAt (((((((((((w5.setCell ⟨w.heap.size, 0, none⟩ (.int .i8 0)).setCell ⟨w.heap.size, 1, none⟩ (.string ⟨#[]⟩)).setCell ⟨w.heap.size, 2, none⟩ (.string ⟨#[]⟩)).setCell ⟨w.heap.size, 3, none⟩ (.int .i64 0)).setCell ⟨w.heap.size, 4, none⟩ (.int .i8 0)).setCell ⟨w.heap.size, 5, none⟩ (.slice none 0 0)).setCell ⟨w.heap.size, 6, none⟩ (.int .i8 0)).setCell ⟨w.heap.size, 7, none⟩ (.slice none 0 0)).setCell ⟨w.heap.size, 8, none⟩ (.int .i64 0)).setCell ⟨w.heap.size, 9, none⟩ (.int .i64 0)).setCell ⟨w.heap.size, 10, none⟩ (.slice none 0 0)) gf 40 (fAt l j) (fWord l j) /\ Below w.heap.size w (((((((((((w5.setCell ⟨w.heap.size, 0, none⟩ (.int .i8 0)).setCell ⟨w.heap.size, 1, none⟩ (.string ⟨#[]⟩)).setCell ⟨w.heap.size, 2, none⟩ (.string ⟨#[]⟩)).setCell ⟨w.heap.size, 3, none⟩ (.int .i64 0)).setCell ⟨w.heap.size, 4, none⟩ (.int .i8 0)).setCell ⟨w.heap.size, 5, none⟩ (.slice none 0 0)).setCell ⟨w.heap.size, 6, none⟩ (.int .i8 0)).setCell ⟨w.heap.size, 7, none⟩ (.slice none 0 0)).setCell ⟨w.heap.size, 8, none⟩ (.int .i64 0)).setCell ⟨w.heap.size, 9, none⟩ (.int .i64 0)).setCell ⟨w.heap.size, 10, none⟩ (.slice none 0 0)) from ⟨by unfold FaultAt; rw [qC (X := w.heap.size) (B := gf) (by omega)]; exact HF5.out, zq HB5.out (Nat.le_refl _) (.int .i8 0) (.string ⟨#[]⟩) (.string ⟨#[]⟩) (.int .i64 0) (.int .i8 0) (.slice none 0 0) (.int .i8 0) (.slice none 0 0) (.int .i64 0) (.int .i64 0) (.slice none 0 0)⟩);clear p0 p1 p2 p3 p4 p5 p6 p7 p8 p9 p10 pl y0 y1 y2 y3 y4 y5 y6 y7 y8 y9 y10 HX5 HF5 HB5;generalize (((((((((((w5.setCell ⟨w.heap.size, 0, none⟩ (.int .i8 0)).setCell ⟨w.heap.size, 1, none⟩ (.string ⟨#[]⟩)).setCell ⟨w.heap.size, 2, none⟩ (.string ⟨#[]⟩)).setCell ⟨w.heap.size, 3, none⟩ (.int .i64 0)).setCell ⟨w.heap.size, 4, none⟩ (.int .i8 0)).setCell ⟨w.heap.size, 5, none⟩ (.slice none 0 0)).setCell ⟨w.heap.size, 6, none⟩ (.int .i8 0)).setCell ⟨w.heap.size, 7, none⟩ (.slice none 0 0)).setCell ⟨w.heap.size, 8, none⟩ (.int .i64 0)).setCell ⟨w.heap.size, 9, none⟩ (.int .i64 0)).setCell ⟨w.heap.size, 10, none⟩ (.slice none 0 0)) = w6 at *;obtain ⟨p0, p1, p2, p3, p4, p5, p6, p7, p8, p9, p10, -⟩ := zS z1;refine bodyPost_ret (v := .tuple #[.agg #[.int .i8 0, .string ⟨#[]⟩, .string ⟨#[]⟩, .int .i64 0, .int .i8 0, .slice none 0 0, .int .i8 0, .slice none 0 0, .int .i64 0, .int .i64 0, .slice none 0 0], .iface 44 (.pointer (some ⟨gf, 0, none⟩))]) (by simp [results, Tryz.results7, go_sem, *]) rfl ⟨.bad 40 (fAt l j) (fWord l j), .more H0.out HH.out HK.out, gf, rfl, HE.out.1, Nat.le_of_lt hg5, HE.out.2⟩
  · have HX4 := k0_ (zB hb hs2 HX2.out)
    have HF4 := k0_ hF;have HB4 := kt_ HB2 hb;have hg4 : w.heap.size < g := by omega
    have HFIT := k0_ hfit;clear hF hb hg HX2 HB2 HW2 CW CM HJ hfit;obtain ⟨p0, p1, p2, p3, p4, p5, p6, p7, p8, p9, p10, pl⟩ := zS HX4.out;have y0 := zH HX4.out 0;have y1 := zH HX4.out 1;have y2 := zH HX4.out 2;have y3 := zH HX4.out 3;have y4 := zH HX4.out 4;have y5 := zH HX4.out 5;have y6 := zH HX4.out 6;have y7 := zH HX4.out 7;have y8 := zH HX4.out 8;have y9 := zH HX4.out 9;have y10 := zH HX4.out 10
    go_wp2_with fail
    have z1 := qZ HX4.out (.int .i8 0) (.string ⟨#[]⟩) (.string ⟨#[]⟩) (.int .i64 0) (.int .i8 0) (.slice none 0 0) (.int .i8 0) (.slice none 0 0) (.int .i64 0) (.int .i64 0) (.slice none 0 0);have HE := k0_ (show FaultAt (((((((((((w3.setCell ⟨w.heap.size, 0, none⟩ (.int .i8 0)).setCell ⟨w.heap.size, 1, none⟩ (.string ⟨#[]⟩)).setCell ⟨w.heap.size, 2, none⟩ (.string ⟨#[]⟩)).setCell ⟨w.heap.size, 3, none⟩ (.int .i64 0)).setCell ⟨w.heap.size, 4, none⟩ (.int .i8 0)).setCell ⟨w.heap.size, 5, none⟩ (.slice none 0 0)).setCell ⟨w.heap.size, 6, none⟩ (.int .i8 0)).setCell ⟨w.heap.size, 7, none⟩ (.slice none 0 0)).setCell ⟨w.heap.size, 8, none⟩ (.int .i64 0)).setCell ⟨w.heap.size, 9, none⟩ (.int .i64 0)).setCell ⟨w.heap.size, 10, none⟩ (.slice none 0 0)) g E a x /\ Below w.heap.size w (((((((((((w3.setCell ⟨w.heap.size, 0, none⟩ (.int .i8 0)).setCell ⟨w.heap.size, 1, none⟩ (.string ⟨#[]⟩)).setCell ⟨w.heap.size, 2, none⟩ (.string ⟨#[]⟩)).setCell ⟨w.heap.size, 3, none⟩ (.int .i64 0)).setCell ⟨w.heap.size, 4, none⟩ (.int .i8 0)).setCell ⟨w.heap.size, 5, none⟩ (.slice none 0 0)).setCell ⟨w.heap.size, 6, none⟩ (.int .i8 0)).setCell ⟨w.heap.size, 7, none⟩ (.slice none 0 0)).setCell ⟨w.heap.size, 8, none⟩ (.int .i64 0)).setCell ⟨w.heap.size, 9, none⟩ (.int .i64 0)).setCell ⟨w.heap.size, 10, none⟩ (.slice none 0 0)) from ⟨by unfold FaultAt; rw [qC (X := w.heap.size) (B := g) (by omega)]; exact HF4.out, zq HB4.out (Nat.le_refl _) (.int .i8 0) (.string ⟨#[]⟩) (.string ⟨#[]⟩) (.int .i64 0) (.int .i8 0) (.slice none 0 0) (.int .i8 0) (.slice none 0 0) (.int .i64 0) (.int .i64 0) (.slice none 0 0)⟩);clear p0 p1 p2 p3 p4 p5 p6 p7 p8 p9 p10 pl y0 y1 y2 y3 y4 y5 y6 y7 y8 y9 y10 HX4 HF4 HB4;generalize (((((((((((w3.setCell ⟨w.heap.size, 0, none⟩ (.int .i8 0)).setCell ⟨w.heap.size, 1, none⟩ (.string ⟨#[]⟩)).setCell ⟨w.heap.size, 2, none⟩ (.string ⟨#[]⟩)).setCell ⟨w.heap.size, 3, none⟩ (.int .i64 0)).setCell ⟨w.heap.size, 4, none⟩ (.int .i8 0)).setCell ⟨w.heap.size, 5, none⟩ (.slice none 0 0)).setCell ⟨w.heap.size, 6, none⟩ (.int .i8 0)).setCell ⟨w.heap.size, 7, none⟩ (.slice none 0 0)).setCell ⟨w.heap.size, 8, none⟩ (.int .i64 0)).setCell ⟨w.heap.size, 9, none⟩ (.int .i64 0)).setCell ⟨w.heap.size, 10, none⟩ (.slice none 0 0)) = w6 at *;obtain ⟨p0, p1, p2, p3, p4, p5, p6, p7, p8, p9, p10, -⟩ := zS (zG z1 (.cells #[.int .i8 0, .string ⟨#[]⟩, .string ⟨#[]⟩, .int .i64 0, .int .i8 0, .slice none 0 0, .int .i8 0, .slice none 0 0, .int .i64 0, .int .i64 0, .slice none 0 0] 41));refine bodyPost_ret (v := .tuple #[.agg #[.int .i8 0, .string ⟨#[]⟩, .string ⟨#[]⟩, .int .i64 0, .int .i8 0, .slice none 0 0, .int .i8 0, .slice none 0 0, .int .i64 0, .int .i64 0, .slice none 0 0], .iface 44 (.pointer (some ⟨g, 0, none⟩))]) (by simp [results, Tryz.results7, go_sem, *]) rfl ⟨.bad E a x, HFIT.out, g, rfl, zG HE.out.1 _, Nat.le_of_lt hg4, HE.out.2.alloc HE.out.2.size _⟩
theorem zCy (s : ByteArray) (w : World) (hG : TGlob w) : Calls Tryz.prog 7 #[.string s] w (fun e w' => ∃ q, TxOut s q /\ TxPost w q e w') := by
  obtain ⟨tp, pv, hv⟩ := hG.err
  by_cases hs : s.size <= 65536
  · cases hk : (Sc.tk s 0).2 with
    | some f =>
      refine (wI s w f.1 f.2.1 f.2.2 fun W hb => (zB1 s hs W tp pv (jY hb hv)).mono fun e w' h => ?_).mono fun e w' h => ⟨_, .scan hs hk, h⟩
      rcases h with ⟨v, h1, -⟩ | ⟨f2, N, h1, h2, h3, h4, h5⟩
      · rw [hk] at h1; cases h1
      · rw [hk] at h1; injection h1 with h1; subst h1
        exact ⟨N, h2, h3, h4, h5⟩
    | none =>
      obtain ⟨r, hT⟩ := T.total (wl s) 0 (Nat.zero_le _);have hlen : (Sc.tk s 0).1.length <= s.size := zDk (Sc.zAs s (s.size + 1) 0 (by omega) hk);refine (zBE s (wl s) w hG (by rw [uD]; unfold maxLen; omega) (fun x hx => by have := (zGJ hk x hx).2; omega) (fun x hx => (zGJ hk x hx).1) (zGj s) (by rw [uD]; omega) (fun W hb => (zDr s hs hk W tp pv (jY hb hv)).mono fun e w' h => ?_) r hT).mono fun e w' ⟨q, h1, h2⟩ => ⟨q, .read hs hk hT h1, h2⟩
      obtain ⟨g, cap, h1, h2, h3, h4, h5⟩ := h;refine ⟨some ⟨g, 0, none⟩, cap, by rw [uD]; exact h1, zFF h2 (by simp), h5⟩
  · exact (wI s w 3 0 ⟨#[]⟩ fun W hb => (zFC s (by omega) W).mono fun e w' h => h).mono fun e w' h => ⟨_, .long (by omega), h⟩
theorem Fits.det {l : List W4} {r : Tt.Rs} {q q' : TRes} (h : Fits l r q) (h' : Fits l r q') : q' = q := by
  cases h with
  | bad => cases h'; rfl
  | zBU h0 => cases h' with
    | zBU _ => rfl
    | more h1 _ _ => exact absurd h1 h0
    | good h1 _ _ => exact absurd h1 h0
  | more h0 hx hk => cases h' with
    | zBU h1 => exact absurd h0 h1
    | more _ _ _ => rfl
    | good _ hx2 hk2 => rw [hx] at hx2; injection hx2 with e; subst e; exact absurd hk2 hk
  | good h0 hx hk => cases h' with
    | zBU h1 => exact absurd h0 h1
    | more _ hx2 hk2 => rw [hx] at hx2; injection hx2 with e; subst e; exact absurd hk hk2
    | good _ _ _ => rfl
theorem TxOut.det {s : ByteArray} {q q' : TRes} (h : TxOut s q) (h' : TxOut s q') : q' = q := by
  cases h with
  | long h => cases h' with
    | long _ => rfl
    | scan h2 _ => omega
    | read h2 _ _ _ => omega
  | scan h e => cases h' with
    | long h2 => omega
    | scan _ e2 => rw [e] at e2; injection e2 with e2; subst e2; rfl
    | read _ e2 _ _ => rw [e] at e2; cases e2
  | read h e hT hf => cases h' with
    | long h2 => omega
    | scan _ e2 => rw [e] at e2; cases e2
    | read _ _ hT2 hf2 => rw [hT2.det hT] at hf2; exact hf.det hf2
end Go.Proofs.YtepmjknljbafgaaGreatDoor
namespace Go.Proofs.YtepmjknljbafgaaGreatDoor
open Rd
namespace Tt
def rF (l : List W4) : Nat -> Rd.Tg -> Option (Int × Fo × Nat)
  | 0, _ => none
  | n + 1, .one i => if sees l i 4 [40] then (match rF l n (.wh 1 (i + 1)) with
      | some (k, f, j) => if sees l j 4 [41] then some (k, f, j + 1) else none
      | none => none) else (match atK l i with
      | some k => some (k, .nil, i + 1)
      | none => none)
  | n + 1, .wh least i => match rF l n (.one i) with
      | some (k, f, j) => rF l n (.lp least k f j)
      | none => none
  | n + 1, .lp least k f j => if opK l j = 0 \/ Rd.binds (opK l j) < least then some (k, f, j) else (match rF l n (.wh (rgt (opK l j)) (j + 1)) with
      | some (k2, f2, j2) => rF l n (.lp least (opK l j) (Rd.two k f k2 f2) j2)
      | none => none)
theorem wK {l : List W4} : ∀ (n : Nat) (t : Rd.Tg) (k : Int) (f : Fo) (j : Nat), rF l n t = some (k, f, j) -> Rd.R l t (.ok k f j)
  | 0, _, _, _, _, e => by simp [rF] at e
  | n + 1, .one i, k, f, j, e => by
    simp only [rF] at e
    split at e
    · rename_i hb
      split at e
      · rename_i k1 f1 j1 e1
        split at e
        · rename_i hc
          injection e with e; injection e with e2 e; injection e with e3 e4
          subst e2 e3 e4;exact .br hb (wK n _ _ _ _ e1) hc
        · cases e
      · cases e
    · rename_i hb
      split at e
      · rename_i k1 e1
        injection e with e; injection e with e2 e; injection e with e3 e4
        subst e2 e3 e4;exact .word e1 (by simpa using hb)
      · cases e
  | n + 1, .wh least i, k, f, j, e => by
    simp only [rF] at e
    split at e
    · rename_i k1 f1 j1 e1
      exact .whGo (wK n _ _ _ _ e1) (wK n _ _ _ _ e)
    · cases e
  | n + 1, .lp least k0 f0 j0, k, f, j, e => by
    simp only [rF] at e
    split at e
    · rename_i hs
      injection e with e; injection e with e2 e; injection e with e3 e4
      subst e2 e3 e4;exact .stop hs
    · rename_i hs
      split at e
      · rename_i k2 f2 j2 e1
        exact .op (fun h => hs (.inl h)) (by rcases Nat.lt_or_ge (Rd.binds (opK l j0)) least with h | h; · exact absurd (.inr h) hs
                                             · exact h) (wK n _ _ _ _ e1) (wK n _ _ _ _ e)
      · cases e
def pF (l : List W4) : Nat -> Tg -> Option Rs
  | 0, _ => none
  | _ + 1, .seq [] i => some (.ok [] i)
  | n + 1, .seq (.w k t :: its) i => if sees l i k t then pF l n (.seq its (i + 1)) else none
  | n + 1, .seq (.nm :: its) i => match l[i]? with
      | some x => if x.kind = 1 then (match pF l n (.seq its (i + 1)) with
        | some r => some (r.cons (.nm x.text))
        | none => none) else none
      | none => none
  | n + 1, .seq (.nu :: its) i => match l[i]? with
      | some x => if x.kind = 2 then (match pF l n (.seq its (i + 1)) with
        | some r => some (r.cons (.nu x.num))
        | none => none) else none
      | none => none
  | n + 1, .seq (.ty :: its) i => match rF l n (.wh 1 i) with
      | some (k, f, j) => if Ty.chk k f = 0 then (match pF l n (.seq its j) with
        | some r => some (r.cons (.ty k f))
        | none => none) else none
      | none => none
  | n + 1, .seq (.tm :: its) i => match pF l n (.term i) with
      | some (.ok [.tm h t] j) => (match pF l n (.seq its j) with
        | some r => some (r.cons (.tm h t))
        | none => none)
      | _ => none
  | n + 1, .seq (.pt q :: its) i => match pF l n (.part q i) with
      | some (.ok [.tm h t] j) => (match pF l n (.seq its j) with
        | some r => some (r.cons (.tm h t))
        | none => none)
      | _ => none
  | n + 1, .term i => match formT l i with
      | some (k, its) => (match pF l n (.seq its (i + 1)) with
        | some r => some (r.make k (posAt l i))
        | none => none)
      | none => pF l n (.part 0 i)
  | n + 1, .opnd i => match pF l n (.seq (formO l i).2.1 (formO l i).2.2.1) with
      | some r => some (r.make (formO l i).1 (posAt l i))
      | none => none
  | n + 1, .part q i => match pF l n (.opnd i) with
      | some (.ok [.tm h t] j) => pF l n (.lp q h t (formO l i).2.2.2 j)
      | _ => none
  | n + 1, .lp q h t st j => match opr l j with
      | none => some (.ok [.tm h t] j)
      | some (k, s, lf, its) => if s < q \/ st < lf then some (.ok [.tm h t] j) else (match pF l n (.seq its (j + 1)) with
        | some (.ok vs j2) => pF l n (.lp q (mkO k (posAt l j) (textAt l j) h t vs).1 (mkO k (posAt l j) (textAt l j) h t vs).2 s j2)
        | _ => none)
theorem jC {l : List W4} : ∀ (n : Nat) (t : Tg) (r : Rs), pF l n t = some r -> T l t r
  | 0, _, _, e => by simp [pF] at e
  | _ + 1, .seq [] i, r, e => by
    simp only [pF] at e;injection e with e; subst e; exact .nil
  | n + 1, .seq (.w k t :: its) i, r, e => by
    simp only [pF] at e
    split at e
    · rename_i h; exact .word h (jC n _ _ e)
    · cases e
  | n + 1, .seq (.nm :: its) i, r, e => by
    simp only [pF] at e
    split at e
    · rename_i x hx
      split at e
      · rename_i hk
        split at e
        · rename_i r1 e1; injection e with e; subst e; exact .nm hx hk (jC n _ _ e1)
        · cases e
      · cases e
    · cases e
  | n + 1, .seq (.nu :: its) i, r, e => by
    simp only [pF] at e
    split at e
    · rename_i x hx
      split at e
      · rename_i hk
        split at e
        · rename_i r1 e1; injection e with e; subst e; exact .nu hx hk (jC n _ _ e1)
        · cases e
      · cases e
    · cases e
  | n + 1, .seq (.ty :: its) i, r, e => by
    simp only [pF] at e
    split at e
    · rename_i k f j e0
      split at e
      · rename_i hc
        split at e
        · rename_i r1 e1; injection e with e; subst e
          exact .ty (a := 0) (t := ⟨#[]⟩) (.inl ⟨wK n _ _ _ _ e0, hc, rfl, rfl, rfl⟩) (jC n _ _ e1)
        · cases e
      · cases e
    · cases e
  | n + 1, .seq (.tm :: its) i, r, e => by
    simp only [pF] at e
    split at e
    · rename_i h t j e0
      split at e
      · rename_i r1 e1; injection e with e; subst e; exact .tm (jC n _ _ e0) (jC n _ _ e1)
      · cases e
    · cases e
  | n + 1, .seq (.pt q :: its) i, r, e => by
    simp only [pF] at e
    split at e
    · rename_i h t j e0
      split at e
      · rename_i r1 e1; injection e with e; subst e; exact .pt (jC n _ _ e0) (jC n _ _ e1)
      · cases e
    · cases e
  | n + 1, .term i, r, e => by
    simp only [pF] at e
    split at e
    · rename_i k its hf
      split at e
      · rename_i r1 e1; injection e with e; subst e; exact .opn hf (jC n _ _ e1)
      · cases e
    · rename_i hf; exact .term hf (jC n _ _ e)
  | n + 1, .opnd i, r, e => by
    simp only [pF] at e
    split at e
    · rename_i r1 e1; injection e with e; subst e; exact .opnd (jC n _ _ e1)
    · cases e
  | n + 1, .part q i, r, e => by
    simp only [pF] at e
    split at e
    · rename_i h t j e0; exact .part (jC n _ _ e0) (jC n _ _ e)
    · cases e
  | n + 1, .lp q h t st j, r, e => by
    simp only [pF] at e
    split at e
    · rename_i ho
      injection e with e; subst e
      exact .stop fun k s lf its hq => by rw [ho] at hq; cases hq
    · rename_i k s lf its ho
      split at e
      · rename_i hs
        injection e with e; subst e
        exact .stop fun k' s' lf' its' hq => by rw [ho] at hq; injection hq with hq; injection hq with _ hq; injection hq with q1 hq; injection hq with q2 _; subst q1 q2; exact hs
      · rename_i hs
        split at e
        · rename_i vs j2 e1
          exact .go ho (by omega) (by omega) (jC n _ _ e1) (jC n _ _ e)
        · cases e
def rdF (s : ByteArray) : Option (Hd × Tm) :=
  if 65536 < s.size then none else match (Sc.tk s 0).2 with
    | some _ => none
    | none => match pF (wl s) 200 (.term 0) with
      | some (.ok [.tm g u] j) => if Tm.chk g u = 0 /\ sees (wl s) j 0 [] = true then some (g, u) else none
      | _ => none
theorem zGl {s : ByteArray} {g : Hd} {u : Tm} (e : rdF s = some (g, u)) : TxOut s (.ok g u) := by
  unfold rdF at e
  split at e
  · cases e
  · rename_i h1
    split at e
    · cases e
    · rename_i h2
      split at e
      · rename_i g1 u1 j e1
        split at e
        · rename_i h3
          injection e with e; injection e with e2 e3; subst e2 e3
          have hs := h3.2;unfold sees at hs
          split at hs
          · rename_i x hx
            simp only [Bool.and_eq_true, beq_iff_eq] at hs;exact .read (by omega) h2 (jC _ _ _ e1) (.good h3.1 hx hs.1)
          · cases hs
        · cases e
      · cases e
end Tt
end Go.Proofs.YtepmjknljbafgaaGreatDoor
namespace Go.Proofs.YtepmjknljbafgaaGreatDoor
namespace Cx
def tx : Nat -> ByteArray
  | 0 => ⟨#[92, 120, 58, 63, 46, 120, 43, 49]⟩
  | 1 => ⟨#[40, 92, 120, 58, 105, 110, 116, 46, 120, 41, 40, 116, 114, 117, 101, 41]⟩
  | 2 => ⟨#[40, 92, 120, 58, 105, 110, 116, 46, 120, 41, 40, 116, 114, 117, 101, 58, 63, 41]⟩
  | 3 => ⟨#[105, 102, 32, 116, 114, 117, 101, 32, 116, 104, 101, 110, 32, 49, 32, 101, 108, 115, 101, 32, 40, 50, 58, 63, 41]⟩
  | 4 => ⟨#[120]⟩
  | 5 => ⟨#[102, 115, 116, 32, 49]⟩
  | 6 => ⟨#[105, 110, 108, 123, 105, 110, 116, 125, 50]⟩
  | 7 => ⟨#[105, 110, 108, 123, 63, 125, 50]⟩
  | 8 => ⟨#[99, 97, 115, 101, 32, 40, 49, 58, 63, 41, 32, 111, 102, 32, 120, 46, 120, 32, 124, 32, 121, 46, 50]⟩
  | 9 => ⟨#[108, 101, 116, 32, 102, 58, 105, 110, 116, 45, 62, 105, 110, 116, 61, 92, 120, 58, 63, 46, 120, 32, 105, 110, 32, 102, 40, 50, 41]⟩
  | _ => ⟨#[]⟩
def kd : Nat -> ByteArray
  | 0 => ⟨#[63, 32, 45, 62, 32, 105, 110, 116]⟩
  | 1 => ⟨#[]⟩
  | 2 => ⟨#[105, 110, 116]⟩
  | 3 => ⟨#[105, 110, 116]⟩
  | 4 => ⟨#[]⟩
  | 5 => ⟨#[]⟩
  | 6 => ⟨#[]⟩
  | 7 => ⟨#[63, 32, 43, 32, 63]⟩
  | 8 => ⟨#[105, 110, 116]⟩
  | 9 => ⟨#[105, 110, 116]⟩
  | _ => ⟨#[]⟩
def fE : Nat -> Int
  | 0 => 0
  | 1 => 91
  | 2 => 0
  | 3 => 0
  | 4 => 41
  | 5 => 90
  | 6 => 90
  | 7 => 0
  | 8 => 0
  | 9 => 0
  | _ => 0
def fA : Nat -> Int
  | 0 => 0
  | 1 => 10
  | 2 => 0
  | 3 => 0
  | 4 => 0
  | 5 => 0
  | 6 => 0
  | 7 => 0
  | 8 => 0
  | 9 => 0
  | _ => 0
def fW : Nat -> ByteArray
  | 0 => ⟨#[]⟩
  | 1 => ⟨#[]⟩
  | 2 => ⟨#[]⟩
  | 3 => ⟨#[]⟩
  | 4 => ⟨#[120]⟩
  | 5 => ⟨#[]⟩
  | 6 => ⟨#[]⟩
  | 7 => ⟨#[]⟩
  | 8 => ⟨#[]⟩
  | 9 => ⟨#[]⟩
  | _ => ⟨#[]⟩
def okOne (s k : ByteArray) (E a : Int) (x : ByteArray) : Bool := match Tt.rdF s with
  | none => false
  | some (g, u) => match Ck.tell g u with
    | .ok b => (E == 0) && ((a == 0) && ((x.toList == (⟨#[]⟩ : ByteArray).toList) && ((Ty.textT b.1 b.2).toList == k.toList)))
    | .bad E' p x' => (E' == E) && ((p == a) && ((x'.toList == x.toList) && (E' != 0)))
theorem zHK : ∀ i, i < 10 -> okOne (tx i) (kd i) (fE i) (fA i) (fW i) = true := by decide +kernel
theorem ba_eq {x y : ByteArray} (h : x.toList = y.toList) : x = y := by
  rw [Lib.toList_data, Lib.toList_data] at h
  apply ByteArray.ext
  apply Array.ext'
  exact h
theorem known (i : Nat) (hi : i < 10) : ∃ g u, TxOut (tx i) (.ok g u) /\ ((∃ b, Ck.tell g u = .ok b /\ fE i = 0 /\ fA i = 0 /\ fW i = ⟨#[]⟩ /\ Ty.textT b.1 b.2 = kd i) \/ (Ck.tell g u = .bad (fE i) (fA i) (fW i) /\ (fE i == 0) = false)) := by
  have h := zHK i hi;unfold okOne at h
  split at h
  · cases h
  · rename_i g u e
    refine ⟨g, u, Tt.zGl e, ?_⟩
    split at h
    · rename_i b e2
      simp only [Bool.and_eq_true, beq_iff_eq] at h;exact .inl ⟨b, e2, h.1, h.2.1, ba_eq h.2.2.1, ba_eq h.2.2.2⟩
    · rename_i E' p x' e2
      simp only [Bool.and_eq_true, beq_iff_eq, bne_iff_ne, ne_eq] at h;refine .inr ⟨?_, ?_⟩
      · rw [e2, h.1, h.2.1, ba_eq h.2.2.1]
      · rw [← h.1]; simpa using h.2.2.2
end Cx
end Go.Proofs.YtepmjknljbafgaaGreatDoor
