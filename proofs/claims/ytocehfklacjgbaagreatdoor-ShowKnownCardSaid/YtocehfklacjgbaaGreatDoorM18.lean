/-
  The reader of words as a term: Inl, Inr. The reader of words as a term: Lam. gen_lam.py wrote this. The reader of words as a term: Let. gen_let.py wrote this. The reader of words as a term: the state of a head word's block; Rec. gen_rec.py wrote this. The reader of words as a term: Case. gen_rec.py wrote this. The reader of words as a term: an atom. gen_atom.py wrote this. The reader of words as a term: what stands between two operators. gen_oper.py wrote this. The reader of words as a term: behind an operator. gen_joined.py wrote this. The reader of words as a term: a term that is at least so strong. The reader of words as a term: any term. gen_oper.py wrote this. The reader of words as a term: all readings, by how many words are left. A term that was read is well formed. Every term that is read knows its place: each takes its head word, and no word is the head of two. Every term that is read knows its place: the reading.
-/
import Derived.Test.YtocehfklacjgbaaGreatDoorM17
import Derived.Deep.RegionLaw
import Derived.Deep.RegionWith
import Derived.Deep.DeepCutAuto
import Derived.Deep.LoopGhost
import Derived.Test.YtocehfklacjgbaaGreatDoorM13
namespace Go.Proofs.YtocehfklacjgbaaGreatDoor
open Go.RowKit Rd Tt

theorem fitT {w : World} {k p a : Int} {f : Fo} {G A : Option Addr} {m cg n : Nat} (h1 : -128 ≤ k) (h2 : k ≤ 127) (hn : n ≤ 3) (hT : Ty.Is w a f G m cg) : Tm.Fit w { hd0 k p with tk := a, tkids := f } ⟨G, m, cg, none, 0, 0, A, n, n⟩ n :=
  ⟨hT, ⟨trivial, rfl, Nat.le_refl _, Nat.zero_le _, by show (-128 : Int) ≤ 0; omega, by show (0 : Int) ≤ 127; omega⟩, rfl, Nat.le_refl _, by show n ≤ maxLen; unfold maxLen; omega, h1, h2, by show (-9223372036854775808 : Int) ≤ 0; omega, by show (0 : Int) ≤ 9223372036854775807; omega, Nat.zero_le _, Nat.zero_le _⟩
/-- a head word's block with a type, given one kid -/
theorem nodeT1 {n N : Nat} {w : World} {k p a : Int} {f : Fo} {G : Option Addr} {m cg : Nat} {h : Hd} {t : Tm} {o : Obj} (hk1 : -128 ≤ k) (hk2 : k ≤ 127) (hn : n ≤ N) (hN : w.heap[N]? = some (.cells #[.int .i8 k, .string ⟨#[]⟩, .string ⟨#[]⟩, .int .i64 0, .int .i8 a, .slice G m cg, .int .i8 0, .slice none 0 0, .int .i64 0, .int .i64 p, .slice none 0 0] 30 (0, 0)))
    {q : Pl} (hF : FarT (N + 1) w h t q) (hT : Far (N + 1) w a f G m cg) :
    TAt n (((w.alloc o).alloc (.cells (h.cells q).toArray 30)).setCell ⟨N, 10, none⟩ (.slice (some ⟨w.heap.size + 1, 0, none⟩) 1 1)) N { hd0 k p with tk := a, tkids := f } (.node h t .nil) := by
  rw [show w.heap.size + 1 = (w.alloc o).heap.size by simp]
  have hNl := heap_lt hN
  have hN2 := heap_old (heap_old hN o) (.cells (h.cells q).toArray 30)
  have hZ := heap_new (w.alloc o) (.cells (h.cells q).toArray 30)
  have hs : (w.alloc o).heap.size = w.heap.size + 1 := by simp
  have hk := ((keep_alloc (n0 := N + 1) (w := w) o).trans (keep_alloc (.cells (h.cells q).toArray 30))).trans (keep_set (o := 10) (v := .slice (some ⟨(w.alloc o).heap.size, 0, none⟩) 1 1) (Nat.lt_succ_self N))
  refine ⟨hn, ⟨G, m, cg, none, 0, 0, some ⟨(w.alloc o).heap.size, 0, none⟩, 1, 1⟩, ?_, fun u hu => ⟨fitT hk1 hk2 (by omega) (hT u (hk.trans (hu.low (by omega)))), ?_⟩⟩
  · simp only [World.setCell, Array.getElem?_modify, if_true, hN2]
    rfl
  · have hZ2 : (((w.alloc o).alloc (.cells (h.cells q).toArray 30)).setCell ⟨N, 10, none⟩ (.slice (some ⟨(w.alloc o).heap.size, 0, none⟩) 1 1)).heap[(w.alloc o).heap.size]? = some (.cells (h.cells q).toArray 30 (0, 0)) := by
      rw [Below.heap_setCell _ _ _ _ (by show (w.alloc o).heap.size ≠ N; omega)]; exact hZ
    exact row1 (n0 := N + 1) hZ2 (by omega) (hF.keep hk) u (hu.low (by omega))

set_option maxHeartbeats 4000000 in
set_option maxRecDepth 100000 in
theorem side_any (l : List W4) (A : Option Addr) (c rb i : Nat) (mv : Value) (k : Int) (hk1 : -128 ≤ k) (hk2 : k < 100) (w : World) (hS : PdS l A c rb mv w i) (hi : i < l.length) (s1 : Says ⟨#[123]⟩ 4 [123]) (s2 : Says ⟨#[125]⟩ 4 [125]) (hN : Needs l A c rb mv i) (r : Tt.Rs) (hT : T l (.seq [sg 123, .ty, sg 125, .pt 4] (i + 1)) r) :
    Calls Tryz.prog 164 #[.pointer (some ⟨rb, 0, none⟩), .int .i8 k] w (TPost l A c rb mv w (r.make k (posAt l i))) := by
  have CH := Lib.hid (head_pt l A c rb i mv k w hS hi)
  have hrl := heap_lt hS.rdr
  rw [pos_at hi] at CH
  have CT := Lib.hid (fun (j : Nat) (hij : i < j) (hj : j ≤ l.length) => hN.part 4 j hij hj)
  have HS := Lib.hid hS
  clear hS hN
  go_enter Tryz.func164, Tryz.ntmps164
  go_wp2_with fail
  refine CH.out.mono ?_
  rintro e w2 ⟨N, rfl, hN1, hN2, hX, hR, hg⟩
  have HG2 := Lib.hid hg
  have HS2 := Lib.hid (HS.out.step hg hR hi)
  have HN2 := Lib.hid hX
  clear hR hg hX CH
  cases hT with
  | wordNo hw =>
    have CB := Lib.hid (want_none l A c rb (i + 1) mv _ w2 HS2.out s1 hw)
    clear CT
    go_wp2_with fail
    refine CB.out.mono ?_
    intro e w4 hP
    have HP := Lib.hid (TPost.from hP HG2.out)
    obtain ⟨g, rfl, -⟩ := hP
    exact ⟨rfl, HP.out⟩
  | word hw g1 =>
    have hi1 := sees_lt hw
    have CB := Lib.hid (want_some l A c rb (i + 1) mv _ w2 HS2.out s1 hw)
    go_wp2_with fail
    refine CB.out.mono ?_
    rintro e w3 ⟨rfl, hr, hg⟩
    have HN3 := Lib.hid ((hg.block _ hN2 (fun e => by injection e with e; omega)).trans HN2.out)
    have HG3 := Lib.hid (only_trans HG2.out hg)
    have hN3 := heap_lt HN3.out
    have HS3 := Lib.hid (HS.out.step HG3.out hr hi1)
    clear hr hg CB HN2 HS2
    cases g1 with
    | @tyNo _ j k2 f2 E a s _ hO hE =>
      have CB := Lib.hid (typed_no l A c rb (i + 1 + 1) mv w3 HS3.out hO hE)
      clear CT
      go_wp2_with fail
      refine CB.out.mono ?_
      intro e w4 hP
      have HP := Lib.hid (hP.from HG3.out)
      obtain ⟨g, rfl, -⟩ := hP
      exact ⟨rfl, HP.out⟩
    | @ty _ j a f _ _ _ r1 hO g2 =>
      have CB := Lib.hid (typed_yes l A c rb (i + 1 + 1) mv w3 HS3.out hO)
      go_wp2_with fail
      refine CB.out.mono ?_
      rintro e w4 ⟨G, m, cg, rfl, hF, hr, hg⟩
      have HN4 := Lib.hid ((hg.block _ hN3 (fun e => by injection e with e; omega)).trans HN3.out)
      have HG4 := Lib.hid (only_trans HG3.out hg)
      have HF4 := Lib.hid (hF.low (n0 := N + 1) hN3)
      have HR4 := Lib.hid hr
      clear hr hg hF CB HN3
      have c4 := cell_of_heap HN4.out 4 rfl
      have c5 := cell_of_heap HN4.out 5 rfl
      have z4 := frozen_at HN4.out 4
      have z5 := frozen_at HN4.out 5
      have hjl : j ≤ l.length := (T.goes (T.ty hO (T.nil (l := l) (i := j))) hi1).2
      have hij : i + 1 + 1 ≤ j := Nat.le_trans (Nat.le_add_right _ _) (T.goes (T.ty hO (T.nil (l := l) (i := j))) hi1).1
      have hr3 : rb ≠ N := by omega
      have hN4 := heap_lt HN4.out
      have HN5 : ((w4.setCell ⟨N, 4, none⟩ (.int .i8 a)).setCell ⟨N, 5, none⟩ (.slice G m cg)).heap[N]? = some (.cells #[.int .i8 k, .string ⟨#[]⟩, .string ⟨#[]⟩, .int .i64 0, .int .i8 a, .slice G m cg, .int .i8 0, .slice none 0 0, .int .i64 0, .int .i64 (posAt l i), .slice none 0 0] 30 (0, 0)) := by
        simp [World.setCell, Array.getElem?_modify, HN4.out]
      have HN5 := Lib.hid HN5
      have HR5 := Lib.hid (show PRd ((w4.setCell ⟨N, 4, none⟩ (.int .i8 a)).setCell ⟨N, 5, none⟩ (.slice G m cg)) rb A l.length c j mv from by unfold PRd; rw [Below.heap_setCell _ _ _ rb hr3, Below.heap_setCell _ _ _ rb hr3]; exact HR4.out)
      have HG5 := Lib.hid (only_setCell (only_setCell HG4.out (p := ⟨N, 4, none⟩) (.inr hN1) (.int .i8 a)) (p := ⟨N, 5, none⟩) (.inr hN1) (.slice G m cg))
      have HF5 := Lib.hid (show Far (N + 1) ((w4.setCell ⟨N, 4, none⟩ (.int .i8 a)).setCell ⟨N, 5, none⟩ (.slice G m cg)) a f G m cg from HF4.out.keep ((keep_set (Nat.lt_succ_self N)).trans (keep_set (Nat.lt_succ_self N))))
      generalize hw5 : ((w4.setCell ⟨N, 4, none⟩ (.int .i8 a)).setCell ⟨N, 5, none⟩ (.slice G m cg)) = w5 at HN5 HR5 HG5 HF5
      have HS5 := Lib.hid (HS.out.step HG5.out HR5.out hjl)
      clear HN4 HR4 HG4 HF4 HS3
      go_wp2_with fail
      clear hw5 c4 c5 z4 z5
      have hN5 := heap_lt HN5.out
      cases g2 with
      | wordNo hw2 =>
        have CB := Lib.hid (want_none l A c rb j mv _ w5 HS5.out s2 hw2)
        clear CT
        refine CB.out.mono ?_
        intro e w6 hP
        have HP := Lib.hid (TPost.from hP HG5.out)
        obtain ⟨g, rfl, -⟩ := hP
        exact ⟨rfl, HP.out⟩
      | word hw2 g3 =>
        have hj1 := sees_lt hw2
        have CB := Lib.hid (want_some l A c rb j mv _ w5 HS5.out s2 hw2)
        refine CB.out.mono ?_
        rintro e w6 ⟨rfl, hr, hg⟩
        have HN6 := Lib.hid ((hg.block _ hN5 (fun e => by injection e with e; omega)).trans HN5.out)
        have HG6 := Lib.hid (only_trans HG5.out hg)
        have HF6 := Lib.hid (show Far (N + 1) w6 a f G m cg from HF5.out.keep (KeepFrom.grown hg (by omega)))
        have hN6 := heap_lt HN6.out
        have HS6 := Lib.hid (HS.out.step HG6.out hr hj1)
        clear hr hg CB HN5 HS5 HR5 HF5
        cases g3 with
        | @ptNo _ _ E a s _ f =>
          have CP := Lib.hid (CT.out (j + 1) (by omega) hj1 w6 _ HS6.out f)
          clear CT f
          go_wp2_with fail
          refine CP.out.mono ?_
          intro e w7 hP
          have HP := Lib.hid (TPost.from hP HG6.out)
          obtain ⟨g, rfl, -⟩ := hP
          exact ⟨rfl, HP.out⟩
        | @pt _ _ j2 h t _ r' fd g =>
          cases g
          have CP := Lib.hid (CT.out (j + 1) (by omega) hj1 w6 _ HS6.out fd)
          clear CT fd
          go_wp2_with fail
          refine CP.out.mono ?_
          rintro e w7 ⟨X, rfl, hX, hr, hg⟩
          have HN7 := Lib.hid ((hg.block _ hN6 (fun e => by injection e with e; omega)).trans HN6.out)
          have HG7 := Lib.hid (only_trans HG6.out hg)
          have HF7 := Lib.hid (show Far (N + 1) w7 a f G m cg from HF6.out.keep (KeepFrom.grown hg (by omega)))
          have HX7 := Lib.hid (hX.low (n0 := N + 1) hN6)
          have HR7 := Lib.hid hr
          clear hr hg hX CP HN6 HF6 HS6
          obtain ⟨hXn, p, hX, hF⟩ := HX7.out
          have CK := Lib.hid (kids1 (w7.alloc (.cells #[.pointer (some ⟨X, 0, none⟩)] 101)) w7.heap.size X h p (heap_new _ _) (heap_old hX _))
          have HF := Lib.hid hF
          clear hX hF HX7
          go_wp2_with fail
          refine CK.out.mono ?_
          rintro e w8 ⟨rfl, hw5⟩
          have hw8 : (w7.alloc (.cells #[.pointer (some ⟨X, 0, none⟩)] 101)).alloc (.cells (h.cells p).toArray 30) = w8 := hw5
          clear hw5
          have HX8 := heap_old (heap_old HN7.out (.cells #[.pointer (some ⟨X, 0, none⟩)] 101)) (.cells (h.cells p).toArray 30)
          have HT0 := nodeT1 (o := .cells #[.pointer (some ⟨X, 0, none⟩)] 101) hk1 (by omega) hN1 HN7.out HF.out HF7.out
          have HR8 : PRd w8 rb A l.length c j2 mv := by rw [← hw8]; exact heap_old (heap_old HR7.out _) _
          have HB8 : Below w7.heap.size w7 w8 := by rw [← hw8]; exact (((Below.refl _ _).alloc (Nat.le_refl _) _).alloc (by simp) _)
          rw [hw8] at HX8 HT0
          clear hw8
          have c10 := cell_of_heap HX8 10 rfl
          have z10 := frozen_at HX8 10
          have HTA := Lib.hid HT0
          have HR9 := Lib.hid (show PRd (w8.setCell ⟨N, 10, none⟩ (.slice (some ⟨w7.heap.size + 1, 0, none⟩) 1 1)) rb A l.length c j2 mv from by
            unfold PRd; rw [Below.heap_setCell _ _ _ rb hr3]; exact HR8)
          have HG9 := Lib.hid (only_setCell (only_trans HG7.out (only_below (rb := rb) HB8)) (p := ⟨N, 10, none⟩) (.inr hN1) (.slice (some ⟨w7.heap.size + 1, 0, none⟩) 1 1))
          clear HT0 HR8 HB8 CK HF HF7 HG7 HR7 HN7 HX8
          go_wp2_with fail
          go_ret
          exact ⟨N, rfl, HTA.out, HR9.out, HG9.out⟩
end Go.Proofs.YtocehfklacjgbaaGreatDoor
namespace Go.Proofs.YtocehfklacjgbaaGreatDoor
open Go.RowKit Rd Tt

theorem wAt_kind {l : List W4} {i : Nat} (h : ∀ x, l[i]? = some x → x.kind ≠ 1) : (wAt l i).kind ≠ 1 := by
  unfold wAt
  cases hx : l[i]? with
  | none => decide
  | some x => exact h x hx
theorem fitNT {w : World} {x : ByteArray} (hx : x.size ≤ 281474976710656) {k p a : Int} {f : Fo} {G A : Option Addr} {m cg n : Nat} (h1 : -128 ≤ k) (h2 : k ≤ 127) (hn : n ≤ 3) (hT : Ty.Is w a f G m cg) : Tm.Fit w { hd0 k p with name := x, tk := a, tkids := f } ⟨G, m, cg, none, 0, 0, A, n, n⟩ n :=
  ⟨hT, ⟨trivial, rfl, Nat.le_refl _, Nat.zero_le _, by show (-128 : Int) ≤ 0; omega, by show (0 : Int) ≤ 127; omega⟩, rfl, Nat.le_refl _, by show n ≤ maxLen; unfold maxLen; omega, h1, h2, by show (-9223372036854775808 : Int) ≤ 0; omega, by show (0 : Int) ≤ 9223372036854775807; omega, hx, Nat.zero_le _⟩
/-- a head word's block with a name and a type, given one kid -/
theorem nodeNT1 {n N : Nat} {w : World} {x : ByteArray} (hx : x.size ≤ 281474976710656) {k p a : Int} {f : Fo} {G : Option Addr} {m cg : Nat} {h : Hd} {t : Tm} {o : Obj} (hk1 : -128 ≤ k) (hk2 : k ≤ 127) (hn : n ≤ N) (hN : w.heap[N]? = some (.cells #[.int .i8 k, .string x, .string ⟨#[]⟩, .int .i64 0, .int .i8 a, .slice G m cg, .int .i8 0, .slice none 0 0, .int .i64 0, .int .i64 p, .slice none 0 0] 30 (0, 0)))
    {q : Pl} (hF : FarT (N + 1) w h t q) (hT : Far (N + 1) w a f G m cg) :
    TAt n (((w.alloc o).alloc (.cells (h.cells q).toArray 30)).setCell ⟨N, 10, none⟩ (.slice (some ⟨w.heap.size + 1, 0, none⟩) 1 1)) N { hd0 k p with name := x, tk := a, tkids := f } (.node h t .nil) := by
  rw [show w.heap.size + 1 = (w.alloc o).heap.size by simp]
  have hNl := heap_lt hN
  have hN2 := heap_old (heap_old hN o) (.cells (h.cells q).toArray 30)
  have hZ := heap_new (w.alloc o) (.cells (h.cells q).toArray 30)
  have hs : (w.alloc o).heap.size = w.heap.size + 1 := by simp
  have hk := ((keep_alloc (n0 := N + 1) (w := w) o).trans (keep_alloc (.cells (h.cells q).toArray 30))).trans (keep_set (o := 10) (v := .slice (some ⟨(w.alloc o).heap.size, 0, none⟩) 1 1) (Nat.lt_succ_self N))
  refine ⟨hn, ⟨G, m, cg, none, 0, 0, some ⟨(w.alloc o).heap.size, 0, none⟩, 1, 1⟩, ?_, fun u hu => ⟨fitNT hx hk1 hk2 (by omega) (hT u (hk.trans (hu.low (by omega)))), ?_⟩⟩
  · simp only [World.setCell, Array.getElem?_modify, if_true, hN2]
    rfl
  · have hZ2 : (((w.alloc o).alloc (.cells (h.cells q).toArray 30)).setCell ⟨N, 10, none⟩ (.slice (some ⟨(w.alloc o).heap.size, 0, none⟩) 1 1)).heap[(w.alloc o).heap.size]? = some (.cells (h.cells q).toArray 30 (0, 0)) := by
      rw [Below.heap_setCell _ _ _ _ (by show (w.alloc o).heap.size ≠ N; omega)]; exact hZ
    exact row1 (n0 := N + 1) hZ2 (by omega) (hF.keep hk) u (hu.low (by omega))


set_option maxHeartbeats 4000000 in
set_option maxRecDepth 100000 in
theorem lam_any (l : List W4) (A : Option Addr) (c rb i : Nat) (mv : Value) (w : World) (hS : PdS l A c rb mv w i) (hi : i < l.length) (s1 : Says ⟨#[58]⟩ 4 [58]) (s2 : Says ⟨#[46]⟩ 4 [46]) (hN : Needs l A c rb mv i) (r : Tt.Rs) (hT : T l (.seq [.nm, sg 58, .ty, sg 46, .tm] (i + 1)) r) :
    Calls Tryz.prog 87 #[.pointer (some ⟨rb, 0, none⟩)] w (TPost l A c rb mv w (r.make 4 (posAt l i))) := by
  have CH := Lib.hid (head_pt l A c rb i mv 4 w hS hi)
  have hrl := heap_lt hS.rdr
  rw [pos_at hi] at CH
  have CT := Lib.hid (fun (j : Nat) (hij : i < j) (hj : j ≤ l.length) => hN.term j hij hj)
  have HS := Lib.hid hS
  have hsm := hS.small
  have hok := hS.okw
  clear hS hN
  go_enter Tryz.func87, Tryz.ntmps87
  go_wp2_with fail
  refine CH.out.mono ?_
  rintro e w2 ⟨N, rfl, hN1, hN2, hX, hR, hg⟩
  have HG2 := Lib.hid hg
  have HS2 := Lib.hid (HS.out.step hg hR hi)
  have HN2 := Lib.hid hX
  clear hR hg hX CH
  cases hT with
  | nmNo hno =>
    have CB := Lib.hid (name_no l A c rb (i + 1) mv w2 HS2.out (wAt_kind hno))
    clear CT
    go_wp2_with fail
    refine CB.out.mono ?_
    intro e w4 hP
    have HP := Lib.hid (hP.from HG2.out)
    obtain ⟨g, rfl, -⟩ := hP
    exact ⟨rfl, HP.out⟩
  | @nm _ x _ r0 hx hk g1 =>
    have hi1 := (List.getElem?_eq_some_iff.1 hx).1
    have hxs := hsm x (List.mem_of_getElem? hx)
    have CB := Lib.hid (name_pt l A c rb (i + 1) mv w2 HS2.out hx hk)
    clear hx hk hsm
    go_wp2_with fail
    refine CB.out.mono ?_
    rintro e w3 ⟨rfl, hr, hg⟩
    have HN3 := Lib.hid ((hg.block _ hN2 (fun e => by injection e with e; omega)).trans HN2.out)
    have HG3 := Lib.hid (only_trans HG2.out hg)
    have hN3 := heap_lt HN3.out
    have HS3 := Lib.hid (HS.out.step HG3.out hr hi1)
    clear hr hg CB HN2 HS2
    cases g1 with
    | wordNo hw =>
      have CB := Lib.hid (annot_miss l A c rb (i + 1 + 1) mv w3 HS3.out ((says_eq s1 hok).trans hw))
      clear CT
      go_wp2_with fail
      refine CB.out.mono ?_
      intro e w4 hP
      have HP := Lib.hid (hP.from HG3.out)
      obtain ⟨g, rfl, -⟩ := hP
      exact ⟨rfl, HP.out⟩
    | word hw g1 =>
    have hi2 := sees_lt hw
    have hw2 := (says_eq s1 hok).trans hw
    clear hw hok
    cases g1 with
    | @tyNo _ j k2 f2 E a s _ hO hE =>
      have CB := Lib.hid (annot_no l A c rb (i + 1 + 1) mv w3 HS3.out hi2 hw2 hO hE)
      clear CT
      go_wp2_with fail
      refine CB.out.mono ?_
      intro e w4 hP
      have HP := Lib.hid (hP.from HG3.out)
      obtain ⟨g, rfl, -⟩ := hP
      exact ⟨rfl, HP.out⟩
    | @ty _ j a f _ _ _ r1 hO g2 =>
      have CB := Lib.hid (annot_yes l A c rb (i + 1 + 1) mv w3 HS3.out hi2 hw2 hO)
      clear hw2
      go_wp2_with fail
      refine CB.out.mono ?_
      rintro e w4 ⟨G, m, cg, rfl, hF, hr, hg⟩
      have HN4 := Lib.hid ((hg.block _ hN3 (fun e => by injection e with e; omega)).trans HN3.out)
      have HG4 := Lib.hid (only_trans HG3.out hg)
      have HF4 := Lib.hid (hF.low (n0 := N + 1) hN3)
      have HR4 := Lib.hid hr
      clear hr hg hF CB HN3
      have c1 := cell_of_heap HN4.out 1 rfl
      have c4 := cell_of_heap HN4.out 4 rfl
      have c5 := cell_of_heap HN4.out 5 rfl
      have z1 := frozen_at HN4.out 1
      have z4 := frozen_at HN4.out 4
      have z5 := frozen_at HN4.out 5
      have hjl : j ≤ l.length := (T.goes (T.ty hO (T.nil (l := l) (i := j))) hi2).2
      have hij : i + 1 + 1 + 1 ≤ j := Nat.le_trans (Nat.le_add_right _ _) (T.goes (T.ty hO (T.nil (l := l) (i := j))) hi2).1
      have hr3 : rb ≠ N := by omega
      have hN4 := heap_lt HN4.out
      have HN5 : (((w4.setCell ⟨N, 1, none⟩ (.string x.text)).setCell ⟨N, 4, none⟩ (.int .i8 a)).setCell ⟨N, 5, none⟩ (.slice G m cg)).heap[N]? = some (.cells #[.int .i8 4, .string x.text, .string ⟨#[]⟩, .int .i64 0, .int .i8 a, .slice G m cg, .int .i8 0, .slice none 0 0, .int .i64 0, .int .i64 (posAt l i), .slice none 0 0] 30 (0, 0)) := by
        simp [World.setCell, Array.getElem?_modify, HN4.out]
      have HN5 := Lib.hid HN5
      have HR5 := Lib.hid (show PRd (((w4.setCell ⟨N, 1, none⟩ (.string x.text)).setCell ⟨N, 4, none⟩ (.int .i8 a)).setCell ⟨N, 5, none⟩ (.slice G m cg)) rb A l.length c j mv from by unfold PRd; rw [Below.heap_setCell _ _ _ rb hr3, Below.heap_setCell _ _ _ rb hr3, Below.heap_setCell _ _ _ rb hr3]; exact HR4.out)
      have HG5 := Lib.hid (only_setCell (only_setCell (only_setCell HG4.out (p := ⟨N, 1, none⟩) (.inr hN1) (.string x.text)) (p := ⟨N, 4, none⟩) (.inr hN1) (.int .i8 a)) (p := ⟨N, 5, none⟩) (.inr hN1) (.slice G m cg))
      have HF5 := Lib.hid (show Far (N + 1) (((w4.setCell ⟨N, 1, none⟩ (.string x.text)).setCell ⟨N, 4, none⟩ (.int .i8 a)).setCell ⟨N, 5, none⟩ (.slice G m cg)) a f G m cg from HF4.out.keep (((keep_set (Nat.lt_succ_self N)).trans (keep_set (Nat.lt_succ_self N))).trans (keep_set (Nat.lt_succ_self N))))
      generalize hw5 : (((w4.setCell ⟨N, 1, none⟩ (.string x.text)).setCell ⟨N, 4, none⟩ (.int .i8 a)).setCell ⟨N, 5, none⟩ (.slice G m cg)) = w5 at HN5 HR5 HG5 HF5
      have HS5 := Lib.hid (HS.out.step HG5.out HR5.out hjl)
      have hN5 := heap_lt HN5.out
      clear HN4 HR4 HG4 HF4 HS3
      cases g2 with
      | wordNo hw2 =>
        have CB := Lib.hid (behind_none l A c rb j mv _ w5 HS5.out s2 hw2)
        clear CT
        go_wp2_with fail
        refine CB.out.mono ?_
        intro e w6 hP
        have HP := Lib.hid (TPost.from hP HG5.out)
        obtain ⟨g, rfl, -⟩ := hP
        exact ⟨rfl, HP.out⟩
      | word hw2 g3 =>
        have hj1 := sees_lt hw2
        cases g3 with
        | @tmNo _ E a s _ fd =>
          have CB := Lib.hid (behind_some l A c rb j mv _ w5 HS5.out s2 hw2 (CT.out (j + 1) (by omega) hj1) _ fd)
          clear CT fd
          go_wp2_with fail
          refine CB.out.mono ?_
          intro e w7 hP
          have HP := Lib.hid (TPost.from hP HG5.out)
          obtain ⟨g, rfl, -⟩ := hP
          exact ⟨rfl, HP.out⟩
        | @tm _ j2 h t _ r' fd g =>
          cases g
          have CB := Lib.hid (behind_some l A c rb j mv _ w5 HS5.out s2 hw2 (CT.out (j + 1) (by omega) hj1) _ fd)
          clear CT fd
          go_wp2_with fail
          clear hw5 c1 c4 c5 z1 z4 z5
          refine CB.out.mono ?_
          rintro e w7 ⟨X, rfl, hX, hr, hg⟩
          have HN7 := Lib.hid ((hg.block _ hN5 (fun e => by injection e with e; omega)).trans HN5.out)
          have HG7 := Lib.hid (only_trans HG5.out hg)
          have HF7 := Lib.hid (show Far (N + 1) w7 a f G m cg from HF5.out.keep (KeepFrom.grown hg (by omega)))
          have HX7 := Lib.hid (hX.low (n0 := N + 1) hN5)
          have HR7 := Lib.hid hr
          clear hr hg hX CB HN5 HF5 HS5 HR5
          obtain ⟨hXn, p, hX, hF⟩ := HX7.out
          have CK := Lib.hid (kids1 (w7.alloc (.cells #[.pointer (some ⟨X, 0, none⟩)] 101)) w7.heap.size X h p (heap_new _ _) (heap_old hX _))
          have HF := Lib.hid hF
          clear hX hF HX7
          go_wp2_with fail
          refine CK.out.mono ?_
          rintro e w8 ⟨rfl, hw5⟩
          have hw8 : (w7.alloc (.cells #[.pointer (some ⟨X, 0, none⟩)] 101)).alloc (.cells (h.cells p).toArray 30) = w8 := hw5
          clear hw5
          have HX8 := heap_old (heap_old HN7.out (.cells #[.pointer (some ⟨X, 0, none⟩)] 101)) (.cells (h.cells p).toArray 30)
          have HT0 := nodeNT1 (o := .cells #[.pointer (some ⟨X, 0, none⟩)] 101) (x := x.text) hxs (by decide) (by decide) hN1 HN7.out HF.out HF7.out
          have HR8 : PRd w8 rb A l.length c j2 mv := by rw [← hw8]; exact heap_old (heap_old HR7.out _) _
          have HB8 : Below w7.heap.size w7 w8 := by rw [← hw8]; exact (((Below.refl _ _).alloc (Nat.le_refl _) _).alloc (by simp) _)
          rw [hw8] at HX8 HT0
          clear hw8
          have c10 := cell_of_heap HX8 10 rfl
          have z10 := frozen_at HX8 10
          have HTA := Lib.hid HT0
          have HR9 := Lib.hid (show PRd (w8.setCell ⟨N, 10, none⟩ (.slice (some ⟨w7.heap.size + 1, 0, none⟩) 1 1)) rb A l.length c j2 mv from by
            unfold PRd; rw [Below.heap_setCell _ _ _ rb hr3]; exact HR8)
          have HG9 := Lib.hid (only_setCell (only_trans HG7.out (only_below (rb := rb) HB8)) (p := ⟨N, 10, none⟩) (.inr hN1) (.slice (some ⟨w7.heap.size + 1, 0, none⟩) 1 1))
          clear HT0 HR8 HB8 CK HF HF7 HG7 HR7 HN7 HX8
          go_wp2_with fail
          go_ret
          exact ⟨N, rfl, HTA.out, HR9.out, HG9.out⟩
end Go.Proofs.YtocehfklacjgbaaGreatDoor
namespace Go.Proofs.YtocehfklacjgbaaGreatDoor
open Go.RowKit Rd Tt

/-- a head word's block with a name and a type, given two kids -/
theorem nodeNT2 {n N : Nat} {w : World} {x : ByteArray} (hx : x.size ≤ 281474976710656) {k p a : Int} {f : Fo} {G : Option Addr} {m cg : Nat} {h h' : Hd} {t t' : Tm} {o : Obj} (hk1 : -128 ≤ k) (hk2 : k ≤ 127) (hn : n ≤ N) (hN : w.heap[N]? = some (.cells #[.int .i8 k, .string x, .string ⟨#[]⟩, .int .i64 0, .int .i8 a, .slice G m cg, .int .i8 0, .slice none 0 0, .int .i64 0, .int .i64 p, .slice none 0 0] 30 (0, 0)))
    {q q' : Pl} (hF : FarT (N + 1) w h t q) (hF' : FarT (N + 1) w h' t' q') (hT : Far (N + 1) w a f G m cg) :
    TAt n (((w.alloc o).alloc (.cells (h.cells q ++ h'.cells q').toArray 30)).setCell ⟨N, 10, none⟩ (.slice (some ⟨w.heap.size + 1, 0, none⟩) 2 2)) N { hd0 k p with name := x, tk := a, tkids := f } (.node h t (.node h' t' .nil)) := by
  rw [show w.heap.size + 1 = (w.alloc o).heap.size by simp]
  have hNl := heap_lt hN
  have hN2 := heap_old (heap_old hN o) (.cells (h.cells q ++ h'.cells q').toArray 30)
  have hZ := heap_new (w.alloc o) (.cells (h.cells q ++ h'.cells q').toArray 30)
  have hs : (w.alloc o).heap.size = w.heap.size + 1 := by simp
  have hk := ((keep_alloc (n0 := N + 1) (w := w) o).trans (keep_alloc (.cells (h.cells q ++ h'.cells q').toArray 30))).trans (keep_set (o := 10) (v := .slice (some ⟨(w.alloc o).heap.size, 0, none⟩) 2 2) (Nat.lt_succ_self N))
  refine ⟨hn, ⟨G, m, cg, none, 0, 0, some ⟨(w.alloc o).heap.size, 0, none⟩, 2, 2⟩, ?_, fun u hu => ⟨fitNT hx hk1 hk2 (by omega) (hT u (hk.trans (hu.low (by omega)))), ?_⟩⟩
  · simp only [World.setCell, Array.getElem?_modify, if_true, hN2]
    rfl
  · have hZ2 : (((w.alloc o).alloc (.cells (h.cells q ++ h'.cells q').toArray 30)).setCell ⟨N, 10, none⟩ (.slice (some ⟨(w.alloc o).heap.size, 0, none⟩) 2 2)).heap[(w.alloc o).heap.size]? = some (.cells (h.cells q ++ h'.cells q').toArray 30 (0, 0)) := by
      rw [Below.heap_setCell _ _ _ _ (by show (w.alloc o).heap.size ≠ N; omega)]; exact hZ
    exact row2 (n0 := N + 1) hZ2 (by omega) (hF.keep hk) (hF'.keep hk) u (hu.low (by omega))


set_option maxHeartbeats 4000000 in
set_option maxRecDepth 100000 in
theorem let_any (l : List W4) (A : Option Addr) (c rb i : Nat) (mv : Value) (w : World) (hS : PdS l A c rb mv w i) (hi : i < l.length) (s1 : Says ⟨#[58]⟩ 4 [58]) (s2 : Says ⟨#[61]⟩ 4 [61]) (s3 : Says ⟨#[105, 110]⟩ 3 kIn) (hN : Needs l A c rb mv i) (r : Tt.Rs) (hT : T l (.seq [.nm, sg 58, .ty, sg 61, .tm, .w 3 kIn, .tm] (i + 1)) r) :
    Calls Tryz.prog 88 #[.pointer (some ⟨rb, 0, none⟩)] w (TPost l A c rb mv w (r.make 7 (posAt l i))) := by
  have CH := Lib.hid (head_pt l A c rb i mv 7 w hS hi)
  have hrl := heap_lt hS.rdr
  rw [pos_at hi] at CH
  have CT := Lib.hid (fun (j : Nat) (hij : i < j) (hj : j ≤ l.length) => hN.term j hij hj)
  have HS := Lib.hid hS
  have hsm := hS.small
  have hok := hS.okw
  clear hS hN
  go_enter Tryz.func88, Tryz.ntmps88
  go_wp2_with fail
  refine CH.out.mono ?_
  rintro e w2 ⟨N, rfl, hN1, hN2, hX, hR, hg⟩
  have HG2 := Lib.hid hg
  have HS2 := Lib.hid (HS.out.step hg hR hi)
  have HN2 := Lib.hid hX
  clear hR hg hX CH
  cases hT with
  | nmNo hno =>
    have CB := Lib.hid (name_no l A c rb (i + 1) mv w2 HS2.out (wAt_kind hno))
    clear CT
    go_wp2_with fail
    refine CB.out.mono ?_
    intro e w4 hP
    have HP := Lib.hid (hP.from HG2.out)
    obtain ⟨g, rfl, -⟩ := hP
    exact ⟨rfl, HP.out⟩
  | @nm _ x _ r0 hx hk g1 =>
    have hi1 := (List.getElem?_eq_some_iff.1 hx).1
    have hxs := hsm x (List.mem_of_getElem? hx)
    have CB := Lib.hid (name_pt l A c rb (i + 1) mv w2 HS2.out hx hk)
    clear hx hk hsm
    go_wp2_with fail
    refine CB.out.mono ?_
    rintro e w3 ⟨rfl, hr, hg⟩
    have HN3 := Lib.hid ((hg.block _ hN2 (fun e => by injection e with e; omega)).trans HN2.out)
    have HG3 := Lib.hid (only_trans HG2.out hg)
    have hN3 := heap_lt HN3.out
    have HS3 := Lib.hid (HS.out.step HG3.out hr hi1)
    clear hr hg CB HN2 HS2
    cases g1 with
    | wordNo hw =>
      have CB := Lib.hid (annot_miss l A c rb (i + 1 + 1) mv w3 HS3.out ((says_eq s1 hok).trans hw))
      clear CT
      go_wp2_with fail
      refine CB.out.mono ?_
      intro e w4 hP
      have HP := Lib.hid (hP.from HG3.out)
      obtain ⟨g, rfl, -⟩ := hP
      exact ⟨rfl, HP.out⟩
    | word hw g1 =>
    have hi2 := sees_lt hw
    have hw2 := (says_eq s1 hok).trans hw
    clear hw hok
    cases g1 with
    | @tyNo _ j k2 f2 E a s _ hO hE =>
      have CB := Lib.hid (annot_no l A c rb (i + 1 + 1) mv w3 HS3.out hi2 hw2 hO hE)
      clear CT
      go_wp2_with fail
      refine CB.out.mono ?_
      intro e w4 hP
      have HP := Lib.hid (hP.from HG3.out)
      obtain ⟨g, rfl, -⟩ := hP
      exact ⟨rfl, HP.out⟩
    | @ty _ j a f _ _ _ r1 hO g2 =>
      have CB := Lib.hid (annot_yes l A c rb (i + 1 + 1) mv w3 HS3.out hi2 hw2 hO)
      clear hw2
      go_wp2_with fail
      refine CB.out.mono ?_
      rintro e w4 ⟨G, m, cg, rfl, hF, hr, hg⟩
      have HN4 := Lib.hid ((hg.block _ hN3 (fun e => by injection e with e; omega)).trans HN3.out)
      have HG4 := Lib.hid (only_trans HG3.out hg)
      have HF4 := Lib.hid (hF.low (n0 := N + 1) hN3)
      have HR4 := Lib.hid hr
      clear hr hg hF CB HN3
      have c1 := cell_of_heap HN4.out 1 rfl
      have c4 := cell_of_heap HN4.out 4 rfl
      have c5 := cell_of_heap HN4.out 5 rfl
      have z1 := frozen_at HN4.out 1
      have z4 := frozen_at HN4.out 4
      have z5 := frozen_at HN4.out 5
      have hjl : j ≤ l.length := (T.goes (T.ty hO (T.nil (l := l) (i := j))) hi2).2
      have hij : i + 1 + 1 + 1 ≤ j := Nat.le_trans (Nat.le_add_right _ _) (T.goes (T.ty hO (T.nil (l := l) (i := j))) hi2).1
      have hr3 : rb ≠ N := by omega
      have hN4 := heap_lt HN4.out
      have HN5 : (((w4.setCell ⟨N, 1, none⟩ (.string x.text)).setCell ⟨N, 4, none⟩ (.int .i8 a)).setCell ⟨N, 5, none⟩ (.slice G m cg)).heap[N]? = some (.cells #[.int .i8 7, .string x.text, .string ⟨#[]⟩, .int .i64 0, .int .i8 a, .slice G m cg, .int .i8 0, .slice none 0 0, .int .i64 0, .int .i64 (posAt l i), .slice none 0 0] 30 (0, 0)) := by
        simp [World.setCell, Array.getElem?_modify, HN4.out]
      have HN5 := Lib.hid HN5
      have HR5 := Lib.hid (show PRd (((w4.setCell ⟨N, 1, none⟩ (.string x.text)).setCell ⟨N, 4, none⟩ (.int .i8 a)).setCell ⟨N, 5, none⟩ (.slice G m cg)) rb A l.length c j mv from by unfold PRd; rw [Below.heap_setCell _ _ _ rb hr3, Below.heap_setCell _ _ _ rb hr3, Below.heap_setCell _ _ _ rb hr3]; exact HR4.out)
      have HG5 := Lib.hid (only_setCell (only_setCell (only_setCell HG4.out (p := ⟨N, 1, none⟩) (.inr hN1) (.string x.text)) (p := ⟨N, 4, none⟩) (.inr hN1) (.int .i8 a)) (p := ⟨N, 5, none⟩) (.inr hN1) (.slice G m cg))
      have HF5 := Lib.hid (show Far (N + 1) (((w4.setCell ⟨N, 1, none⟩ (.string x.text)).setCell ⟨N, 4, none⟩ (.int .i8 a)).setCell ⟨N, 5, none⟩ (.slice G m cg)) a f G m cg from HF4.out.keep (((keep_set (Nat.lt_succ_self N)).trans (keep_set (Nat.lt_succ_self N))).trans (keep_set (Nat.lt_succ_self N))))
      generalize hw5 : (((w4.setCell ⟨N, 1, none⟩ (.string x.text)).setCell ⟨N, 4, none⟩ (.int .i8 a)).setCell ⟨N, 5, none⟩ (.slice G m cg)) = w5 at HN5 HR5 HG5 HF5
      have HS5 := Lib.hid (HS.out.step HG5.out HR5.out hjl)
      have hN5 := heap_lt HN5.out
      clear HN4 HR4 HG4 HF4 HS3
      cases g2 with
      | wordNo hw2 =>
        have CB := Lib.hid (behind_none l A c rb j mv _ w5 HS5.out s2 hw2)
        clear CT
        go_wp2_with fail
        refine CB.out.mono ?_
        intro e w6 hP
        have HP := Lib.hid (TPost.from hP HG5.out)
        obtain ⟨g, rfl, -⟩ := hP
        exact ⟨rfl, HP.out⟩
      | word hw2 g3 =>
        have hj1 := sees_lt hw2
        cases g3 with
        | @tmNo _ E a s _ fd =>
          have CB := Lib.hid (behind_some l A c rb j mv _ w5 HS5.out s2 hw2 (CT.out (j + 1) (by omega) hj1) _ fd)
          clear CT fd
          go_wp2_with fail
          refine CB.out.mono ?_
          intro e w7 hP
          have HP := Lib.hid (TPost.from hP HG5.out)
          obtain ⟨g, rfl, -⟩ := hP
          exact ⟨rfl, HP.out⟩
        | @tm _ j2 h t _ r' fd g4 =>
          have CB := Lib.hid (behind_some l A c rb j mv _ w5 HS5.out s2 hw2 (CT.out (j + 1) (by omega) hj1) _ fd)
          have hj2 := (T.goes fd hj1).2
          have HJ2 : j + 1 ≤ j2 := Nat.le_trans (Nat.le_add_right _ _) (T.goes fd hj1).1
          clear fd
          go_wp2_with fail
          clear hw5 c1 c4 c5 z1 z4 z5
          refine CB.out.mono ?_
          rintro e w7 ⟨X, rfl, hX, hr, hg⟩
          have HN7 := Lib.hid ((hg.block _ hN5 (fun e => by injection e with e; omega)).trans HN5.out)
          have HG7 := Lib.hid (only_trans HG5.out hg)
          have HF7 := Lib.hid (show Far (N + 1) w7 a f G m cg from HF5.out.keep (KeepFrom.grown hg (by omega)))
          have HX7 := Lib.hid (hX.low (n0 := N + 1) hN5)
          have hN7 := heap_lt HN7.out
          have HS7 := Lib.hid (HS.out.step HG7.out hr hj2)
          clear hr hg hX CB HN5 HF5 HS5 HR5
          cases g4 with
          | wordNo hw3 =>
            have CB := Lib.hid (behind_none l A c rb j2 mv _ w7 HS7.out s3 hw3)
            clear CT
            go_wp2_with fail
            refine CB.out.mono ?_
            intro e w8 hP
            have HP := Lib.hid (TPost.from hP HG7.out)
            obtain ⟨g, rfl, -⟩ := hP
            exact ⟨rfl, HP.out⟩
          | word hw3 g5 =>
            have hj3 := sees_lt hw3
            cases g5 with
            | @tmNo _ E a s _ fd =>
              have CB := Lib.hid (behind_some l A c rb j2 mv _ w7 HS7.out s3 hw3 (CT.out (j2 + 1) (by omega) hj3) _ fd)
              clear CT fd
              go_wp2_with fail
              refine CB.out.mono ?_
              intro e w8 hP
              have HP := Lib.hid (TPost.from hP HG7.out)
              obtain ⟨g, rfl, -⟩ := hP
              exact ⟨rfl, HP.out⟩
            | @tm _ j3 h' t' _ r3 fd g6 =>
              cases g6
              have CB := Lib.hid (behind_some l A c rb j2 mv _ w7 HS7.out s3 hw3 (CT.out (j2 + 1) (by omega) hj3) _ fd)
              clear CT fd
              go_wp2_with fail
              refine CB.out.mono ?_
              rintro e w9 ⟨Y, rfl, hY, hr, hg⟩
              have HN9 := Lib.hid ((hg.block _ hN7 (fun e => by injection e with e; omega)).trans HN7.out)
              have HG9 := Lib.hid (only_trans HG7.out hg)
              have HF9 := Lib.hid (show Far (N + 1) w9 a f G m cg from HF7.out.keep (KeepFrom.grown hg (by omega)))
              have HX9 := Lib.hid (HX7.out.grown hg (by omega))
              have HY9 := Lib.hid (hY.low (n0 := N + 1) hN7)
              have HR9 := Lib.hid hr
              clear hr hg hY CB HN7 HF7 HS7 HX7
              obtain ⟨hXn, p, hX, hF⟩ := HX9.out
              obtain ⟨hYn, p', hY, hF'⟩ := HY9.out
              have CK := Lib.hid (kids2 (w9.alloc (.cells #[.pointer (some ⟨X, 0, none⟩), .pointer (some ⟨Y, 0, none⟩)] 101)) w9.heap.size X Y h h' p p' (heap_new _ _) (heap_old hX _) (heap_old hY _))
              have HF := Lib.hid hF
              have HF' := Lib.hid hF'
              clear hX hY hF hF' HX9 HY9
              go_wp2_with fail
              refine CK.out.mono ?_
              rintro e v8 ⟨rfl, hw5⟩
              have hw8 : (w9.alloc (.cells #[.pointer (some ⟨X, 0, none⟩), .pointer (some ⟨Y, 0, none⟩)] 101)).alloc (.cells (h.cells p ++ h'.cells p').toArray 30) = v8 := hw5
              clear hw5
              have HX8 := heap_old (heap_old HN9.out (.cells #[.pointer (some ⟨X, 0, none⟩), .pointer (some ⟨Y, 0, none⟩)] 101)) (.cells (h.cells p ++ h'.cells p').toArray 30)
              have HT0 := nodeNT2 (o := .cells #[.pointer (some ⟨X, 0, none⟩), .pointer (some ⟨Y, 0, none⟩)] 101) (x := x.text) hxs (by decide) (by decide) hN1 HN9.out HF.out HF'.out HF9.out
              have HR8 : PRd v8 rb A l.length c j3 mv := by rw [← hw8]; exact heap_old (heap_old HR9.out _) _
              have HB8 : Below w9.heap.size w9 v8 := by rw [← hw8]; exact (((Below.refl _ _).alloc (Nat.le_refl _) _).alloc (by simp) _)
              rw [hw8] at HX8 HT0
              clear hw8
              have c10 := cell_of_heap HX8 10 rfl
              have z10 := frozen_at HX8 10
              have HTA := Lib.hid HT0
              have HRA := Lib.hid (show PRd (v8.setCell ⟨N, 10, none⟩ (.slice (some ⟨w9.heap.size + 1, 0, none⟩) 2 2)) rb A l.length c j3 mv from by
                unfold PRd; rw [Below.heap_setCell _ _ _ rb hr3]; exact HR8)
              have HGA := Lib.hid (only_setCell (only_trans HG9.out (only_below (rb := rb) HB8)) (p := ⟨N, 10, none⟩) (.inr hN1) (.slice (some ⟨w9.heap.size + 1, 0, none⟩) 2 2))
              clear HT0 HR8 HB8 CK HF HF' HF9 HG9 HR9 HN9 HX8
              go_wp2_with fail
              go_ret
              exact ⟨N, rfl, HTA.out, HRA.out, HGA.out⟩
end Go.Proofs.YtocehfklacjgbaaGreatDoor
namespace Go.Proofs.YtocehfklacjgbaaGreatDoor
open Go.RowKit Rd Tt

/-- a head word's block under way: the reader stands at the i-th word -/
structure HdS (l : List W4) (A : Option Addr) (c rb : Nat) (mv : Value) (w u : World) (N i0 i : Nat) (cs : Array Value) : Prop where
  base : PdS l A c rb mv w i0
  lo : w.heap.size ≤ N
  blk : u.heap[N]? = some (.cells cs 30 (0, 0))
  rd : PRd u rb A l.length c i mv
  le : i ≤ l.length
  gr : w.grownBy u (some rb)
theorem HdS.st {l : List W4} {A : Option Addr} {c rb : Nat} {mv : Value} {w u : World} {N i0 i : Nat} {cs : Array Value} (h : HdS l A c rb mv w u N i0 i cs) : PdS l A c rb mv u i := h.base.step h.gr h.rd h.le
theorem HdS.rlt {l : List W4} {A : Option Addr} {c rb : Nat} {mv : Value} {w u : World} {N i0 i : Nat} {cs : Array Value} (h : HdS l A c rb mv w u N i0 i cs) : rb < w.heap.size := heap_lt h.base.rdr
theorem HdS.ne {l : List W4} {A : Option Addr} {c rb : Nat} {mv : Value} {w u : World} {N i0 i : Nat} {cs : Array Value} (h : HdS l A c rb mv w u N i0 i cs) : rb ≠ N := by have := h.rlt; have := h.lo; omega
theorem HdS.go {l : List W4} {A : Option Addr} {c rb : Nat} {mv : Value} {w u u' : World} {N i0 i j : Nat} {cs : Array Value} (h : HdS l A c rb mv w u N i0 i cs) (hP : PGo l A c rb mv u j u') (hj : j ≤ l.length) : HdS l A c rb mv w u' N i0 j cs :=
  ⟨h.base, h.lo, (hP.2.block _ (heap_lt h.blk) (fun e => by injection e with e; have := h.ne; omega)).trans h.blk, hP.1, hj, only_trans h.gr hP.2⟩
theorem heap_put {w : World} {N o : Nat} {v : Value} {cs : Array Value} {t : TypeId} (h : w.heap[N]? = some (.cells cs t (0, 0))) : (w.setCell ⟨N, o, none⟩ v).heap[N]? = some (.cells (cs.setIfInBounds o v) t (0, 0)) := by simp [World.setCell, Array.getElem?_modify, h]
theorem HdS.put {l : List W4} {A : Option Addr} {c rb : Nat} {mv : Value} {w u : World} {N i0 i o : Nat} {v : Value} {cs cs' : Array Value} (h : HdS l A c rb mv w u N i0 i cs) (hc : (u.setCell ⟨N, o, none⟩ v).heap[N]? = some (.cells cs' 30 (0, 0))) : HdS l A c rb mv w (u.setCell ⟨N, o, none⟩ v) N i0 i cs' :=
  ⟨h.base, h.lo, hc, by unfold PRd; rw [Below.heap_setCell _ _ _ rb h.ne]; exact h.rd, h.le, only_setCell h.gr (.inr h.lo) _⟩
theorem far_go {l : List W4} {A : Option Addr} {c rb : Nat} {mv : Value} {u u' : World} {j n0 : Nat} {a : Int} {f : Fo} {G : Option Addr} {m cg : Nat} (hF : Far n0 u a f G m cg) (hP : PGo l A c rb mv u j u') (hr : rb < n0) : Far n0 u' a f G m cg := hF.keep (KeepFrom.grown hP.2 hr)
theorem far_set {u : World} {n0 N o : Nat} {v : Value} {a : Int} {f : Fo} {G : Option Addr} {m cg : Nat} (hF : Far n0 u a f G m cg) (h : N < n0) : Far n0 (u.setCell ⟨N, o, none⟩ v) a f G m cg := hF.keep (keep_set h)
theorem TAt.set {n0 X N o : Nat} {w : World} {v : Value} {h : Hd} {kids : Tm} (f : TAt n0 w X h kids) (hN : N < n0) : TAt n0 (w.setCell ⟨N, o, none⟩ v) X h kids := by
  obtain ⟨h1, p, h2, h3⟩ := f
  exact ⟨h1, p, by rw [Below.heap_setCell _ _ _ X (by show X ≠ N; omega)]; exact h2, h3.keep (keep_set hN)⟩
theorem FlatF.keep {n0 : Nat} {w w' : World} (hk : KeepFrom n0 w w') : ∀ (f : Tm) (xs : List Value), FlatF n0 w f xs → FlatF n0 w' f xs
  | .nil, _, e => e
  | .node _ _ r, _, e => by
    obtain ⟨p, ys, rfl, h1, h2⟩ := e
    exact ⟨p, ys, rfl, h1.keep hk, FlatF.keep hk r ys h2⟩
/-- what is asked of a head word's fields -/
theorem fitG {w : World} {H : Hd} {G U A : Option Addr} {m cg m' cg' n : Nat} (h1 : -128 ≤ H.kind) (h2 : H.kind ≤ 127) (hl : H.label = 0) (hn : n ≤ 3) (hx : H.name.size ≤ 281474976710656) (hy : H.arg.size ≤ 281474976710656) (hT : Ty.Is w H.tk H.tkids G m cg) (hU : Ty.Is w H.uk H.ukids U m' cg') : Tm.Fit w H ⟨G, m, cg, U, m', cg', A, n, n⟩ n :=
  ⟨hT, hU, rfl, Nat.le_refl _, by show n ≤ maxLen; unfold maxLen; omega, h1, h2, by rw [hl]; omega, by rw [hl]; omega, hx, hy⟩
theorem ty_zero (w : World) : Ty.Is w 0 .nil none 0 0 := ⟨trivial, rfl, Nat.le_refl _, Nat.zero_le _, by omega, by omega⟩
/-- a head word's block, given its kids -/
theorem nodeG {n N : Nat} {w : World} {H : Hd} {TA UA : Option Addr} {tn tc un uc : Nat} {o : Obj} {kt : Tm} {C : List Value} {k : Nat} (hn : n ≤ N) (hN : w.heap[N]? = some (.cells (H.cells ⟨TA, tn, tc, UA, un, uc, none, 0, 0⟩).toArray 30 (0, 0)))
    (hfit : ∀ u, KeepFrom (N + 1) w u → Tm.Fit u H ⟨TA, tn, tc, UA, un, uc, some ⟨w.heap.size + 1, 0, none⟩, k, k⟩ k) (hC : FlatF (N + 1) w kt C) (hk : Tm.len kt = k) :
    TAt n (((w.alloc o).alloc (.cells C.toArray 30)).setCell ⟨N, 10, none⟩ (.slice (some ⟨w.heap.size + 1, 0, none⟩) k k)) N H kt := by
  rw [show w.heap.size + 1 = (w.alloc o).heap.size by simp] at hfit ⊢
  have hNl := heap_lt hN
  have hN2 := heap_old (heap_old hN o) (.cells C.toArray 30)
  have hZ := heap_new (w.alloc o) (.cells C.toArray 30)
  have hs : (w.alloc o).heap.size = w.heap.size + 1 := by simp
  have hkp := ((keep_alloc (n0 := N + 1) (w := w) o).trans (keep_alloc (.cells C.toArray 30))).trans (keep_set (o := 10) (v := .slice (some ⟨(w.alloc o).heap.size, 0, none⟩) k k) (Nat.lt_succ_self N))
  refine ⟨hn, ⟨TA, tn, tc, UA, un, uc, some ⟨(w.alloc o).heap.size, 0, none⟩, k, k⟩, ?_, fun u hu => ⟨by rw [hk]; exact hfit u (hkp.trans (hu.low (by omega))), ?_⟩⟩
  · simp only [World.setCell, Array.getElem?_modify, if_true, hN2]
    rfl
  · have hZ2 : (((w.alloc o).alloc (.cells C.toArray 30)).setCell ⟨N, 10, none⟩ (.slice (some ⟨(w.alloc o).heap.size, 0, none⟩) k k)).heap[(w.alloc o).heap.size]? = some (.cells C.toArray 30 (0, 0)) := by
      rw [Below.heap_setCell _ _ _ _ (by show (w.alloc o).heap.size ≠ N; omega)]; exact hZ
    exact far_row hZ2 (by omega) kt C 0 (FlatF.keep hkp kt C hC) (fun j v hv => by rw [Nat.zero_mul, Nat.zero_add]; exact hv) u (hu.low (by omega))

set_option maxHeartbeats 8000000 in
set_option maxRecDepth 100000 in
theorem rec_any (l : List W4) (A : Option Addr) (c rb i : Nat) (mv : Value) (w : World) (hS : PdS l A c rb mv w i) (hi : i < l.length) (s1 : Says ⟨#[40]⟩ 4 [40]) (s2 : Says ⟨#[58]⟩ 4 [58]) (s3 : Says ⟨#[41]⟩ 4 [41]) (s4 : Says ⟨#[46]⟩ 4 [46]) (hN : Needs l A c rb mv i) (r : Tt.Rs) (hT : T l (.seq [.nm, sg 40, .nm, sg 58, .ty, sg 41, sg 58, .ty, sg 46, .tm] (i + 1)) r) :
    Calls Tryz.prog 90 #[.pointer (some ⟨rb, 0, none⟩)] w (TPost l A c rb mv w (r.make 5 (posAt l i))) := by
  have CH := Lib.hid (head_pt l A c rb i mv 5 w hS hi)
  rw [pos_at hi] at CH
  have CT := Lib.hid (fun (j : Nat) (hij : i < j) (hj : j ≤ l.length) => hN.term j hij hj)
  have HS := Lib.hid hS
  have hsm := hS.small
  have hok := hS.okw
  clear hS hN
  go_enter Tryz.func90, Tryz.ntmps90
  go_wp2_with fail
  refine CH.out.mono ?_
  rintro e w2 ⟨N, rfl, hN1, hN2, hX, hP⟩
  have H2 := Lib.hid (show HdS l A c rb mv w w2 N i (i + 1) _ from ⟨HS.out, hN1, hX, hP.1, hi, hP.2⟩)
  clear hX hP CH hN1 hN2 HS
  cases hT with
  | nmNo hno =>
    have CB := Lib.hid (name_no l A c rb (i + 1) mv w2 H2.out.st (wAt_kind hno))
    clear CT
    go_wp2_with fail
    refine CB.out.mono ?_
    intro e w99 hP
    have HP := Lib.hid (hP.from H2.out.gr)
    obtain ⟨g, rfl, -⟩ := hP
    exact ⟨rfl, HP.out⟩
  | @nm _ x _ r1 hx hk g1 =>
    have hxi := (List.getElem?_eq_some_iff.1 hx).1
    have hxs := hsm x (List.mem_of_getElem? hx)
    have CB := Lib.hid (name_pt l A c rb (i + 1) mv w2 H2.out.st hx hk)
    clear hx hk
    go_wp2_with fail
    refine CB.out.mono ?_
    rintro e w3 ⟨rfl, hP⟩
    have H3 := Lib.hid (H2.out.go hP hxi)
    clear hP CB 
    have c1 := cell_of_heap H3.out.blk 1 rfl
    have z1 := frozen_at H3.out.blk 1
    have P3_1 := Lib.hid (H3.out.put (o := 1) (v := .string x.text) (cs' := #[.int .i8 5, .string x.text, .string ⟨#[]⟩, .int .i64 0, .int .i8 0, .slice none 0 0, .int .i8 0, .slice none 0 0, .int .i64 0, .int .i64 (posAt l i), .slice none 0 0]) (heap_put H3.out.blk))
    generalize hw4 : (w3.setCell ⟨N, 1, none⟩ (.string x.text)) = w4 at P3_1
    clear H3
    cases g1 with
    | wordNo hw =>
      have CB := Lib.hid (want_none l A c rb ((i + 1) + 1) mv _ w4 P3_1.out.st s1 hw)
      clear CT
      go_wp2_with fail
      refine CB.out.mono ?_
      intro e w99 hP
      have HP := Lib.hid (TPost.from hP P3_1.out.gr)
      obtain ⟨g, rfl, -⟩ := hP
      exact ⟨rfl, HP.out⟩
    | word hv2 g2 =>
      have hv2i := sees_lt hv2
      have CB := Lib.hid (want_some l A c rb ((i + 1) + 1) mv _ w4 P3_1.out.st s1 hv2)
      clear hv2
      go_wp2_with fail
      clear hw4 c1 z1
      refine CB.out.mono ?_
      rintro e w5 ⟨rfl, hP⟩
      have H5 := Lib.hid (P3_1.out.go hP hv2i)
      clear hP CB 
      clear P3_1
      cases g2 with
      | nmNo hno =>
        have CB := Lib.hid (name_no l A c rb (((i + 1) + 1) + 1) mv w5 H5.out.st (wAt_kind hno))
        clear CT
        go_wp2_with fail
        refine CB.out.mono ?_
        intro e w99 hP
        have HP := Lib.hid (hP.from H5.out.gr)
        obtain ⟨g, rfl, -⟩ := hP
        exact ⟨rfl, HP.out⟩
      | @nm _ y _ r3 hy hk g3 =>
        have hyi := (List.getElem?_eq_some_iff.1 hy).1
        have hys := hsm y (List.mem_of_getElem? hy)
        have CB := Lib.hid (name_pt l A c rb (((i + 1) + 1) + 1) mv w5 H5.out.st hy hk)
        clear hy hk
        go_wp2_with fail
        refine CB.out.mono ?_
        rintro e w6 ⟨rfl, hP⟩
        have H6 := Lib.hid (H5.out.go hP hyi)
        clear hP CB 
        clear H5
        cases g3 with
        | wordNo hw =>
          have CB := Lib.hid (annot_miss l A c rb ((((i + 1) + 1) + 1) + 1) mv w6 H6.out.st ((says_eq s2 hok).trans hw))
          clear CT
          go_wp2_with fail
          refine CB.out.mono ?_
          intro e w99 hP
          have HP := Lib.hid (hP.from H6.out.gr)
          obtain ⟨g, rfl, -⟩ := hP
          exact ⟨rfl, HP.out⟩
        | word hv4 g4 =>
          have hv4i := sees_lt hv4
          have hv4e := (says_eq s2 hok).trans hv4
          clear hv4
          cases g4 with
          | @tyNo _ jj kk ff E a s _ hO hE =>
            have CB := Lib.hid (annot_no l A c rb ((((i + 1) + 1) + 1) + 1) mv w6 H6.out.st hv4i hv4e hO hE)
            clear CT
            go_wp2_with fail
            refine CB.out.mono ?_
            intro e w99 hP
            have HP := Lib.hid (hP.from H6.out.gr)
            obtain ⟨g, rfl, -⟩ := hP
            exact ⟨rfl, HP.out⟩
          | @ty _ j a f _ _ _ r5 hO g5 =>
            have CB := Lib.hid (annot_yes l A c rb ((((i + 1) + 1) + 1) + 1) mv w6 H6.out.st hv4i hv4e hO)
            have hjl : j ≤ l.length := (T.goes (T.ty hO (T.nil (l := l) (i := j))) hv4i).2
            have hji : ((((i + 1) + 1) + 1) + 1) + 1 ≤ j := Nat.le_trans (Nat.le_add_right _ _) (T.goes (T.ty hO (T.nil (l := l) (i := j))) hv4i).1
            clear hO hv4e
            go_wp2_with fail
            refine CB.out.mono ?_
            rintro e w7 ⟨Ga, mGa, cGa, rfl, hF, hP⟩
            have H7 := Lib.hid (H6.out.go hP hjl)
            have FGa := Lib.hid (hF.low (n0 := N + 1) (heap_lt H6.out.blk))
            clear hF
            clear hP CB 
            clear H6
            have c2 := cell_of_heap H7.out.blk 2 rfl
            have z2 := frozen_at H7.out.blk 2
            have c4 := cell_of_heap H7.out.blk 4 rfl
            have z4 := frozen_at H7.out.blk 4
            have c5 := cell_of_heap H7.out.blk 5 rfl
            have z5 := frozen_at H7.out.blk 5
            have P7_1 := Lib.hid (H7.out.put (o := 2) (v := .string y.text) (cs' := #[.int .i8 5, .string x.text, .string y.text, .int .i64 0, .int .i8 0, .slice none 0 0, .int .i8 0, .slice none 0 0, .int .i64 0, .int .i64 (posAt l i), .slice none 0 0]) (heap_put H7.out.blk))
            have FGa_1 := Lib.hid (far_set (o := 2) (v := .string y.text) FGa.out (Nat.lt_succ_self N))
            clear FGa
            have P7_2 := Lib.hid (P7_1.out.put (o := 4) (v := .int .i8 a) (cs' := #[.int .i8 5, .string x.text, .string y.text, .int .i64 0, .int .i8 a, .slice none 0 0, .int .i8 0, .slice none 0 0, .int .i64 0, .int .i64 (posAt l i), .slice none 0 0]) (heap_put P7_1.out.blk))
            have FGa_1_2 := Lib.hid (far_set (o := 4) (v := .int .i8 a) FGa_1.out (Nat.lt_succ_self N))
            clear FGa_1
            have P7_3 := Lib.hid (P7_2.out.put (o := 5) (v := .slice Ga mGa cGa) (cs' := #[.int .i8 5, .string x.text, .string y.text, .int .i64 0, .int .i8 a, .slice Ga mGa cGa, .int .i8 0, .slice none 0 0, .int .i64 0, .int .i64 (posAt l i), .slice none 0 0]) (heap_put P7_2.out.blk))
            have FGa_1_2_3 := Lib.hid (far_set (o := 5) (v := .slice Ga mGa cGa) FGa_1_2.out (Nat.lt_succ_self N))
            clear FGa_1_2
            generalize hw8 : (((w7.setCell ⟨N, 2, none⟩ (.string y.text)).setCell ⟨N, 4, none⟩ (.int .i8 a)).setCell ⟨N, 5, none⟩ (.slice Ga mGa cGa)) = w8 at P7_3 FGa_1_2_3
            clear H7 P7_1 P7_2
            cases g5 with
            | wordNo hw =>
              have CB := Lib.hid (want_none l A c rb j mv _ w8 P7_3.out.st s3 hw)
              clear CT
              go_wp2_with fail
              refine CB.out.mono ?_
              intro e w99 hP
              have HP := Lib.hid (TPost.from hP P7_3.out.gr)
              obtain ⟨g, rfl, -⟩ := hP
              exact ⟨rfl, HP.out⟩
            | word hv6 g6 =>
              have hv6i := sees_lt hv6
              have CB := Lib.hid (want_some l A c rb j mv _ w8 P7_3.out.st s3 hv6)
              clear hv6
              go_wp2_with fail
              clear hw8 c2 z2 c4 z4 c5 z5
              refine CB.out.mono ?_
              rintro e w9 ⟨rfl, hP⟩
              have H9 := Lib.hid (P7_3.out.go hP hv6i)
              have FGa_1_2_3_9 := Lib.hid (far_go FGa_1_2_3.out hP (Nat.lt_succ_of_lt (Nat.lt_of_lt_of_le P7_3.out.rlt P7_3.out.lo)))
              clear hP CB FGa_1_2_3
              clear P7_3
              cases g6 with
              | wordNo hw =>
                have CB := Lib.hid (annot_miss l A c rb (j + 1) mv w9 H9.out.st ((says_eq s2 hok).trans hw))
                clear CT
                go_wp2_with fail
                refine CB.out.mono ?_
                intro e w99 hP
                have HP := Lib.hid (hP.from H9.out.gr)
                obtain ⟨g, rfl, -⟩ := hP
                exact ⟨rfl, HP.out⟩
              | word hv7 g7 =>
                have hv7i := sees_lt hv7
                have hv7e := (says_eq s2 hok).trans hv7
                clear hv7
                cases g7 with
                | @tyNo _ jj kk ff E a s _ hO hE =>
                  have CB := Lib.hid (annot_no l A c rb (j + 1) mv w9 H9.out.st hv7i hv7e hO hE)
                  clear CT
                  go_wp2_with fail
                  refine CB.out.mono ?_
                  intro e w99 hP
                  have HP := Lib.hid (hP.from H9.out.gr)
                  obtain ⟨g, rfl, -⟩ := hP
                  exact ⟨rfl, HP.out⟩
                | @ty _ j2 b f2 _ _ _ r8 hO g8 =>
                  have CB := Lib.hid (annot_yes l A c rb (j + 1) mv w9 H9.out.st hv7i hv7e hO)
                  have hj2l : j2 ≤ l.length := (T.goes (T.ty hO (T.nil (l := l) (i := j2))) hv7i).2
                  have hj2i : (j + 1) + 1 ≤ j2 := Nat.le_trans (Nat.le_add_right _ _) (T.goes (T.ty hO (T.nil (l := l) (i := j2))) hv7i).1
                  clear hO hv7e
                  go_wp2_with fail
                  refine CB.out.mono ?_
                  rintro e w10 ⟨Gb, mGb, cGb, rfl, hF, hP⟩
                  have H10 := Lib.hid (H9.out.go hP hj2l)
                  have FGa_1_2_3_9_10 := Lib.hid (far_go FGa_1_2_3_9.out hP (Nat.lt_succ_of_lt (Nat.lt_of_lt_of_le H9.out.rlt H9.out.lo)))
                  have FGb := Lib.hid (hF.low (n0 := N + 1) (heap_lt H9.out.blk))
                  clear hF
                  clear hP CB FGa_1_2_3_9
                  clear H9
                  have c6 := cell_of_heap H10.out.blk 6 rfl
                  have z6 := frozen_at H10.out.blk 6
                  have c7 := cell_of_heap H10.out.blk 7 rfl
                  have z7 := frozen_at H10.out.blk 7
                  have P10_1 := Lib.hid (H10.out.put (o := 6) (v := .int .i8 b) (cs' := #[.int .i8 5, .string x.text, .string y.text, .int .i64 0, .int .i8 a, .slice Ga mGa cGa, .int .i8 b, .slice none 0 0, .int .i64 0, .int .i64 (posAt l i), .slice none 0 0]) (heap_put H10.out.blk))
                  have FGa_1_2_3_9_10_1 := Lib.hid (far_set (o := 6) (v := .int .i8 b) FGa_1_2_3_9_10.out (Nat.lt_succ_self N))
                  have FGb_1 := Lib.hid (far_set (o := 6) (v := .int .i8 b) FGb.out (Nat.lt_succ_self N))
                  clear FGa_1_2_3_9_10 FGb
                  have P10_2 := Lib.hid (P10_1.out.put (o := 7) (v := .slice Gb mGb cGb) (cs' := #[.int .i8 5, .string x.text, .string y.text, .int .i64 0, .int .i8 a, .slice Ga mGa cGa, .int .i8 b, .slice Gb mGb cGb, .int .i64 0, .int .i64 (posAt l i), .slice none 0 0]) (heap_put P10_1.out.blk))
                  have FGa_1_2_3_9_10_1_2 := Lib.hid (far_set (o := 7) (v := .slice Gb mGb cGb) FGa_1_2_3_9_10_1.out (Nat.lt_succ_self N))
                  have FGb_1_2 := Lib.hid (far_set (o := 7) (v := .slice Gb mGb cGb) FGb_1.out (Nat.lt_succ_self N))
                  clear FGa_1_2_3_9_10_1 FGb_1
                  generalize hw11 : ((w10.setCell ⟨N, 6, none⟩ (.int .i8 b)).setCell ⟨N, 7, none⟩ (.slice Gb mGb cGb)) = w11 at P10_2 FGa_1_2_3_9_10_1_2 FGb_1_2
                  clear H10 P10_1
                  cases g8 with
                  | wordNo hw =>
                    have CB := Lib.hid (behind_none l A c rb j2 mv _ w11 P10_2.out.st s4 hw)
                    clear CT
                    go_wp2_with fail
                    refine CB.out.mono ?_
                    intro e w99 hP
                    have HP := Lib.hid (TPost.from hP P10_2.out.gr)
                    obtain ⟨g, rfl, -⟩ := hP
                    exact ⟨rfl, HP.out⟩
                  | word hv9 g9 =>
                    have hv9i := sees_lt hv9
                    cases g9 with
                    | @tmNo _ E a s _ fd =>
                      have CB := Lib.hid (behind_some l A c rb j2 mv _ w11 P10_2.out.st s4 hv9 (CT.out (j2 + 1) (by omega) hv9i) _ fd)
                      clear CT fd
                      go_wp2_with fail
                      refine CB.out.mono ?_
                      intro e w99 hP
                      have HP := Lib.hid (TPost.from hP P10_2.out.gr)
                      obtain ⟨g, rfl, -⟩ := hP
                      exact ⟨rfl, HP.out⟩
                    | @tm _ j3 h t _ r10 fd g10 =>
                      have CB := Lib.hid (behind_some l A c rb j2 mv _ w11 P10_2.out.st s4 hv9 (CT.out (j2 + 1) (by omega) hv9i) _ fd)
                      have hj3l := (T.goes fd hv9i).2
                      have hj3i : j2 + 1 ≤ j3 := Nat.le_trans (Nat.le_add_right _ _) (T.goes fd hv9i).1
                      clear fd
                      go_wp2_with fail
                      clear hw11 c6 z6 c7 z7
                      refine CB.out.mono ?_
                      rintro e w12 ⟨X, rfl, hX, hP⟩
                      have H12 := Lib.hid (P10_2.out.go hP hj3l)
                      have FGa_1_2_3_9_10_1_2_12 := Lib.hid (far_go FGa_1_2_3_9_10_1_2.out hP (Nat.lt_succ_of_lt (Nat.lt_of_lt_of_le P10_2.out.rlt P10_2.out.lo)))
                      have FGb_1_2_12 := Lib.hid (far_go FGb_1_2.out hP (Nat.lt_succ_of_lt (Nat.lt_of_lt_of_le P10_2.out.rlt P10_2.out.lo)))
                      have TX := Lib.hid (hX.low (n0 := N + 1) (heap_lt P10_2.out.blk))
                      clear hX
                      clear hP CB FGa_1_2_3_9_10_1_2 FGb_1_2
                      clear P10_2
                      cases g10
                      clear CT
                      obtain ⟨hXn, pX, hX, hFX⟩ := TX.out
                      have CK := Lib.hid (kids1 (w12.alloc (.cells #[.pointer (some ⟨X, 0, none⟩)] 101)) w12.heap.size X h pX (heap_new _ _) (heap_old hX _))
                      have HFX := Lib.hid hFX
                      clear hX hFX TX
                      go_wp2_with fail
                      refine CK.out.mono ?_
                      rintro e v8 ⟨rfl, hw5⟩
                      have hw8 : (w12.alloc (.cells #[.pointer (some ⟨X, 0, none⟩)] 101)).alloc (.cells (h.cells pX).toArray 30) = v8 := hw5
                      clear hw5
                      have HX8 := heap_old (heap_old H12.out.blk (.cells #[.pointer (some ⟨X, 0, none⟩)] 101)) (.cells (h.cells pX).toArray 30)
                      have HT0 := nodeG (o := .cells #[.pointer (some ⟨X, 0, none⟩)] 101) (H := { hd0 5 (posAt l i) with name := x.text, arg := y.text, tk := a, tkids := f, uk := b, ukids := f2 }) (C := h.cells pX) (kt := (.node h t .nil)) (k := 1) H12.out.lo H12.out.blk (fun u hu => fitG (by show (-128 : Int) ≤ 5; decide) (by show (5 : Int) ≤ 127; decide) rfl (by decide) hxs hys (FGa_1_2_3_9_10_1_2_12.out u hu) (FGb_1_2_12.out u hu)) ⟨pX, _, (List.append_nil _).symm, HFX.out, rfl⟩ rfl
                      have HR8 : PRd v8 rb A l.length c j3 mv := by rw [← hw8]; exact heap_old (heap_old H12.out.rd _) _
                      have HB8 : Below w12.heap.size w12 v8 := by rw [← hw8]; exact (((Below.refl _ _).alloc (Nat.le_refl _) _).alloc (by simp) _)
                      rw [hw8] at HX8 HT0
                      clear hw8
                      have c10 := cell_of_heap HX8 10 rfl
                      have z10 := frozen_at HX8 10
                      have HTA := Lib.hid HT0
                      have hr3 := H12.out.ne
                      have HR9 := Lib.hid (show PRd (v8.setCell ⟨N, 10, none⟩ (.slice (some ⟨w12.heap.size + 1, 0, none⟩) 1 1)) rb A l.length c j3 mv from by
                        unfold PRd; rw [Below.heap_setCell _ _ _ rb hr3]; exact HR8)
                      have HG9 := Lib.hid (only_setCell (only_trans H12.out.gr (only_below (rb := rb) HB8)) (p := ⟨N, 10, none⟩) (.inr H12.out.lo) (.slice (some ⟨w12.heap.size + 1, 0, none⟩) 1 1))
                      clear HT0 HR8 HB8 CK H12 HX8 hr3 HFX FGa_1_2_3_9_10_1_2_12 FGb_1_2_12
                      go_wp2_with fail
                      go_ret
                      exact ⟨N, rfl, HTA.out, HR9.out, HG9.out⟩
end Go.Proofs.YtocehfklacjgbaaGreatDoor
namespace Go.Proofs.YtocehfklacjgbaaGreatDoor
open Go.RowKit Rd Tt

set_option maxHeartbeats 8000000 in
set_option maxRecDepth 100000 in
theorem branches_any (l : List W4) (A : Option Addr) (c rb i : Nat) (mv : Value) (w : World) (hS : PdS l A c rb mv w i) (hi : i < l.length) (s1 : Says ⟨#[111, 102]⟩ 3 kOf) (s2 : Says ⟨#[46]⟩ 4 [46]) (s3 : Says ⟨#[124]⟩ 4 [124]) (hN : Needs l A c rb mv i) (r : Tt.Rs) (hT : T l (.seq [.tm, .w 3 kOf, .nm, sg 46, .tm, sg 124, .nm, sg 46, .tm] (i + 1)) r) :
    Calls Tryz.prog 91 #[.pointer (some ⟨rb, 0, none⟩)] w (TPost l A c rb mv w (r.make 14 (posAt l i))) := by
  have CH := Lib.hid (head_pt l A c rb i mv 14 w hS hi)
  rw [pos_at hi] at CH
  have CT := Lib.hid (fun (j : Nat) (hij : i < j) (hj : j ≤ l.length) => hN.term j hij hj)
  have HS := Lib.hid hS
  have hsm := hS.small
  have hok := hS.okw
  clear hS hN
  go_enter Tryz.func91, Tryz.ntmps91
  go_wp2_with fail
  refine CH.out.mono ?_
  rintro e w2 ⟨N, rfl, hN1, hN2, hX, hP⟩
  have H2 := Lib.hid (show HdS l A c rb mv w w2 N i (i + 1) _ from ⟨HS.out, hN1, hX, hP.1, hi, hP.2⟩)
  clear hX hP CH hN1 hN2 HS
  cases hT with
  | @tmNo _ E a s _ fd =>
    have CB := Lib.hid (CT.out (i + 1) (by omega) hi w2 _ H2.out.st fd)
    clear CT fd
    go_wp2_with fail
    refine CB.out.mono ?_
    intro e w99 hP
    have HP := Lib.hid (TPost.from hP H2.out.gr)
    obtain ⟨g, rfl, -⟩ := hP
    exact ⟨rfl, HP.out⟩
  | @tm _ j h t _ r1 fd g1 =>
    have CB := Lib.hid (CT.out (i + 1) (by omega) hi w2 _ H2.out.st fd)
    have hjl := (T.goes fd hi).2
    have hji : (i + 1) ≤ j := Nat.le_trans (Nat.le_add_right _ _) (T.goes fd hi).1
    clear fd
    go_wp2_with fail
    refine CB.out.mono ?_
    rintro e w3 ⟨X, rfl, hX, hP⟩
    have H3 := Lib.hid (H2.out.go hP hjl)
    have TX := Lib.hid (hX.low (n0 := N + 1) (heap_lt H2.out.blk))
    clear hX
    clear hP CB 
    clear H2
    cases g1 with
    | wordNo hw =>
      have CB := Lib.hid (want_none l A c rb j mv _ w3 H3.out.st s1 hw)
      clear CT
      go_wp2_with fail
      refine CB.out.mono ?_
      intro e w99 hP
      have HP := Lib.hid (TPost.from hP H3.out.gr)
      obtain ⟨g, rfl, -⟩ := hP
      exact ⟨rfl, HP.out⟩
    | word hv2 g2 =>
      have hv2i := sees_lt hv2
      have CB := Lib.hid (want_some l A c rb j mv _ w3 H3.out.st s1 hv2)
      clear hv2
      go_wp2_with fail
      refine CB.out.mono ?_
      rintro e w4 ⟨rfl, hP⟩
      have H4 := Lib.hid (H3.out.go hP hv2i)
      have TX_4 := Lib.hid (TX.out.grown hP.2 (Nat.lt_succ_of_lt (Nat.lt_of_lt_of_le H3.out.rlt H3.out.lo)))
      clear hP CB TX
      clear H3
      cases g2 with
      | nmNo hno =>
        have CB := Lib.hid (name_no l A c rb (j + 1) mv w4 H4.out.st (wAt_kind hno))
        clear CT
        go_wp2_with fail
        refine CB.out.mono ?_
        intro e w99 hP
        have HP := Lib.hid (hP.from H4.out.gr)
        obtain ⟨g, rfl, -⟩ := hP
        exact ⟨rfl, HP.out⟩
      | @nm _ x _ r3 hx hk g3 =>
        have hxi := (List.getElem?_eq_some_iff.1 hx).1
        have hxs := hsm x (List.mem_of_getElem? hx)
        have CB := Lib.hid (name_pt l A c rb (j + 1) mv w4 H4.out.st hx hk)
        clear hx hk
        go_wp2_with fail
        refine CB.out.mono ?_
        rintro e w5 ⟨rfl, hP⟩
        have H5 := Lib.hid (H4.out.go hP hxi)
        have TX_4_5 := Lib.hid (TX_4.out.grown hP.2 (Nat.lt_succ_of_lt (Nat.lt_of_lt_of_le H4.out.rlt H4.out.lo)))
        clear hP CB TX_4
        have c1 := cell_of_heap H5.out.blk 1 rfl
        have z1 := frozen_at H5.out.blk 1
        have P5_1 := Lib.hid (H5.out.put (o := 1) (v := .string x.text) (cs' := #[.int .i8 14, .string x.text, .string ⟨#[]⟩, .int .i64 0, .int .i8 0, .slice none 0 0, .int .i8 0, .slice none 0 0, .int .i64 0, .int .i64 (posAt l i), .slice none 0 0]) (heap_put H5.out.blk))
        have TX_4_5_1 := Lib.hid (TX_4_5.out.set (o := 1) (v := .string x.text) (Nat.lt_succ_self N))
        clear TX_4_5
        generalize hw6 : (w5.setCell ⟨N, 1, none⟩ (.string x.text)) = w6 at P5_1 TX_4_5_1
        clear H5
        cases g3 with
        | wordNo hw =>
          have CB := Lib.hid (behind_none l A c rb ((j + 1) + 1) mv _ w6 P5_1.out.st s2 hw)
          clear CT
          go_wp2_with fail
          refine CB.out.mono ?_
          intro e w99 hP
          have HP := Lib.hid (TPost.from hP P5_1.out.gr)
          obtain ⟨g, rfl, -⟩ := hP
          exact ⟨rfl, HP.out⟩
        | word hv4 g4 =>
          have hv4i := sees_lt hv4
          cases g4 with
          | @tmNo _ E a s _ fd =>
            have CB := Lib.hid (behind_some l A c rb ((j + 1) + 1) mv _ w6 P5_1.out.st s2 hv4 (CT.out (((j + 1) + 1) + 1) (by omega) hv4i) _ fd)
            clear CT fd
            go_wp2_with fail
            refine CB.out.mono ?_
            intro e w99 hP
            have HP := Lib.hid (TPost.from hP P5_1.out.gr)
            obtain ⟨g, rfl, -⟩ := hP
            exact ⟨rfl, HP.out⟩
          | @tm _ j2 h' t' _ r5 fd g5 =>
            have CB := Lib.hid (behind_some l A c rb ((j + 1) + 1) mv _ w6 P5_1.out.st s2 hv4 (CT.out (((j + 1) + 1) + 1) (by omega) hv4i) _ fd)
            have hj2l := (T.goes fd hv4i).2
            have hj2i : ((j + 1) + 1) + 1 ≤ j2 := Nat.le_trans (Nat.le_add_right _ _) (T.goes fd hv4i).1
            clear fd
            go_wp2_with fail
            clear hw6 c1 z1
            refine CB.out.mono ?_
            rintro e w7 ⟨Y, rfl, hX, hP⟩
            have H7 := Lib.hid (P5_1.out.go hP hj2l)
            have TX_4_5_1_7 := Lib.hid (TX_4_5_1.out.grown hP.2 (Nat.lt_succ_of_lt (Nat.lt_of_lt_of_le P5_1.out.rlt P5_1.out.lo)))
            have TY := Lib.hid (hX.low (n0 := N + 1) (heap_lt P5_1.out.blk))
            clear hX
            clear hP CB TX_4_5_1
            clear P5_1
            cases g5 with
            | wordNo hw =>
              have CB := Lib.hid (want_none l A c rb j2 mv _ w7 H7.out.st s3 hw)
              clear CT
              go_wp2_with fail
              refine CB.out.mono ?_
              intro e w99 hP
              have HP := Lib.hid (TPost.from hP H7.out.gr)
              obtain ⟨g, rfl, -⟩ := hP
              exact ⟨rfl, HP.out⟩
            | word hv6 g6 =>
              have hv6i := sees_lt hv6
              have CB := Lib.hid (want_some l A c rb j2 mv _ w7 H7.out.st s3 hv6)
              clear hv6
              go_wp2_with fail
              refine CB.out.mono ?_
              rintro e w8 ⟨rfl, hP⟩
              have H8 := Lib.hid (H7.out.go hP hv6i)
              have TX_4_5_1_7_8 := Lib.hid (TX_4_5_1_7.out.grown hP.2 (Nat.lt_succ_of_lt (Nat.lt_of_lt_of_le H7.out.rlt H7.out.lo)))
              have TY_8 := Lib.hid (TY.out.grown hP.2 (Nat.lt_succ_of_lt (Nat.lt_of_lt_of_le H7.out.rlt H7.out.lo)))
              clear hP CB TX_4_5_1_7 TY
              clear H7
              cases g6 with
              | nmNo hno =>
                have CB := Lib.hid (name_no l A c rb (j2 + 1) mv w8 H8.out.st (wAt_kind hno))
                clear CT
                go_wp2_with fail
                refine CB.out.mono ?_
                intro e w99 hP
                have HP := Lib.hid (hP.from H8.out.gr)
                obtain ⟨g, rfl, -⟩ := hP
                exact ⟨rfl, HP.out⟩
              | @nm _ y _ r7 hy hk g7 =>
                have hyi := (List.getElem?_eq_some_iff.1 hy).1
                have hys := hsm y (List.mem_of_getElem? hy)
                have CB := Lib.hid (name_pt l A c rb (j2 + 1) mv w8 H8.out.st hy hk)
                clear hy hk
                go_wp2_with fail
                refine CB.out.mono ?_
                rintro e w9 ⟨rfl, hP⟩
                have H9 := Lib.hid (H8.out.go hP hyi)
                have TX_4_5_1_7_8_9 := Lib.hid (TX_4_5_1_7_8.out.grown hP.2 (Nat.lt_succ_of_lt (Nat.lt_of_lt_of_le H8.out.rlt H8.out.lo)))
                have TY_8_9 := Lib.hid (TY_8.out.grown hP.2 (Nat.lt_succ_of_lt (Nat.lt_of_lt_of_le H8.out.rlt H8.out.lo)))
                clear hP CB TX_4_5_1_7_8 TY_8
                have c2 := cell_of_heap H9.out.blk 2 rfl
                have z2 := frozen_at H9.out.blk 2
                have P9_1 := Lib.hid (H9.out.put (o := 2) (v := .string y.text) (cs' := #[.int .i8 14, .string x.text, .string y.text, .int .i64 0, .int .i8 0, .slice none 0 0, .int .i8 0, .slice none 0 0, .int .i64 0, .int .i64 (posAt l i), .slice none 0 0]) (heap_put H9.out.blk))
                have TX_4_5_1_7_8_9_1 := Lib.hid (TX_4_5_1_7_8_9.out.set (o := 2) (v := .string y.text) (Nat.lt_succ_self N))
                have TY_8_9_1 := Lib.hid (TY_8_9.out.set (o := 2) (v := .string y.text) (Nat.lt_succ_self N))
                clear TX_4_5_1_7_8_9 TY_8_9
                generalize hw10 : (w9.setCell ⟨N, 2, none⟩ (.string y.text)) = w10 at P9_1 TX_4_5_1_7_8_9_1 TY_8_9_1
                clear H9
                cases g7 with
                | wordNo hw =>
                  have CB := Lib.hid (behind_none l A c rb ((j2 + 1) + 1) mv _ w10 P9_1.out.st s2 hw)
                  clear CT
                  go_wp2_with fail
                  refine CB.out.mono ?_
                  intro e w99 hP
                  have HP := Lib.hid (TPost.from hP P9_1.out.gr)
                  obtain ⟨g, rfl, -⟩ := hP
                  exact ⟨rfl, HP.out⟩
                | word hv8 g8 =>
                  have hv8i := sees_lt hv8
                  cases g8 with
                  | @tmNo _ E a s _ fd =>
                    have CB := Lib.hid (behind_some l A c rb ((j2 + 1) + 1) mv _ w10 P9_1.out.st s2 hv8 (CT.out (((j2 + 1) + 1) + 1) (by omega) hv8i) _ fd)
                    clear CT fd
                    go_wp2_with fail
                    refine CB.out.mono ?_
                    intro e w99 hP
                    have HP := Lib.hid (TPost.from hP P9_1.out.gr)
                    obtain ⟨g, rfl, -⟩ := hP
                    exact ⟨rfl, HP.out⟩
                  | @tm _ j3 h'' t'' _ r9 fd g9 =>
                    have CB := Lib.hid (behind_some l A c rb ((j2 + 1) + 1) mv _ w10 P9_1.out.st s2 hv8 (CT.out (((j2 + 1) + 1) + 1) (by omega) hv8i) _ fd)
                    have hj3l := (T.goes fd hv8i).2
                    have hj3i : ((j2 + 1) + 1) + 1 ≤ j3 := Nat.le_trans (Nat.le_add_right _ _) (T.goes fd hv8i).1
                    clear fd
                    go_wp2_with fail
                    clear hw10 c2 z2
                    refine CB.out.mono ?_
                    rintro e w11 ⟨V, rfl, hX, hP⟩
                    have H11 := Lib.hid (P9_1.out.go hP hj3l)
                    have TX_4_5_1_7_8_9_1_11 := Lib.hid (TX_4_5_1_7_8_9_1.out.grown hP.2 (Nat.lt_succ_of_lt (Nat.lt_of_lt_of_le P9_1.out.rlt P9_1.out.lo)))
                    have TY_8_9_1_11 := Lib.hid (TY_8_9_1.out.grown hP.2 (Nat.lt_succ_of_lt (Nat.lt_of_lt_of_le P9_1.out.rlt P9_1.out.lo)))
                    have TV := Lib.hid (hX.low (n0 := N + 1) (heap_lt P9_1.out.blk))
                    clear hX
                    clear hP CB TX_4_5_1_7_8_9_1 TY_8_9_1
                    clear P9_1
                    cases g9
                    clear CT
                    obtain ⟨hXn, pX, hX, hFX⟩ := TX_4_5_1_7_8_9_1_11.out
                    obtain ⟨hYn, pY, hY, hFY⟩ := TY_8_9_1_11.out
                    obtain ⟨hVn, pV, hV, hFV⟩ := TV.out
                    have CK := Lib.hid (kids3 (w11.alloc (.cells #[.pointer (some ⟨X, 0, none⟩), .pointer (some ⟨Y, 0, none⟩), .pointer (some ⟨V, 0, none⟩)] 101)) w11.heap.size X Y V h h' h'' pX pY pV (heap_new _ _) (heap_old hX _) (heap_old hY _) (heap_old hV _))
                    have HFX := Lib.hid hFX
                    have HFY := Lib.hid hFY
                    have HFV := Lib.hid hFV
                    clear hX hFX TX_4_5_1_7_8_9_1_11 hY hFY TY_8_9_1_11 hV hFV TV
                    go_wp2_with fail
                    refine CK.out.mono ?_
                    rintro e v8 ⟨rfl, hw5⟩
                    have hw8 : (w11.alloc (.cells #[.pointer (some ⟨X, 0, none⟩), .pointer (some ⟨Y, 0, none⟩), .pointer (some ⟨V, 0, none⟩)] 101)).alloc (.cells (h.cells pX ++ (h'.cells pY ++ h''.cells pV)).toArray 30) = v8 := hw5
                    clear hw5
                    have HX8 := heap_old (heap_old H11.out.blk (.cells #[.pointer (some ⟨X, 0, none⟩), .pointer (some ⟨Y, 0, none⟩), .pointer (some ⟨V, 0, none⟩)] 101)) (.cells (h.cells pX ++ (h'.cells pY ++ h''.cells pV)).toArray 30)
                    have HT0 := nodeG (o := .cells #[.pointer (some ⟨X, 0, none⟩), .pointer (some ⟨Y, 0, none⟩), .pointer (some ⟨V, 0, none⟩)] 101) (H := { hd0 14 (posAt l i) with name := x.text, arg := y.text }) (C := h.cells pX ++ (h'.cells pY ++ h''.cells pV)) (kt := (.node h t (.node h' t' (.node h'' t'' .nil)))) (k := 3) H11.out.lo H11.out.blk (fun u hu => fitG (by show (-128 : Int) ≤ 14; decide) (by show (14 : Int) ≤ 127; decide) rfl (by decide) hxs hys (ty_zero u) (ty_zero u)) ⟨pX, _, rfl, HFX.out, ⟨pY, _, rfl, HFY.out, ⟨pV, _, (List.append_nil _).symm, HFV.out, rfl⟩⟩⟩ rfl
                    have HR8 : PRd v8 rb A l.length c j3 mv := by rw [← hw8]; exact heap_old (heap_old H11.out.rd _) _
                    have HB8 : Below w11.heap.size w11 v8 := by rw [← hw8]; exact (((Below.refl _ _).alloc (Nat.le_refl _) _).alloc (by simp) _)
                    rw [hw8] at HX8 HT0
                    clear hw8
                    have c10 := cell_of_heap HX8 10 rfl
                    have z10 := frozen_at HX8 10
                    have HTA := Lib.hid HT0
                    have hr3 := H11.out.ne
                    have HR9 := Lib.hid (show PRd (v8.setCell ⟨N, 10, none⟩ (.slice (some ⟨w11.heap.size + 1, 0, none⟩) 3 3)) rb A l.length c j3 mv from by
                      unfold PRd; rw [Below.heap_setCell _ _ _ rb hr3]; exact HR8)
                    have HG9 := Lib.hid (only_setCell (only_trans H11.out.gr (only_below (rb := rb) HB8)) (p := ⟨N, 10, none⟩) (.inr H11.out.lo) (.slice (some ⟨w11.heap.size + 1, 0, none⟩) 3 3))
                    clear HT0 HR8 HB8 CK H11 HX8 hr3 HFX HFY HFV 
                    go_wp2_with fail
                    go_ret
                    exact ⟨N, rfl, HTA.out, HR9.out, HG9.out⟩
end Go.Proofs.YtocehfklacjgbaaGreatDoor
namespace Go.Proofs.YtocehfklacjgbaaGreatDoor
open Go.RowKit Rd Tt

/-- a head word's block without kids -/
theorem node0 {n N : Nat} {w : World} {H : Hd} (hk1 : -128 ≤ H.kind) (hk2 : H.kind ≤ 127) (hl : H.label = 0) (hx : H.name.size ≤ 281474976710656) (hy : H.arg.size ≤ 281474976710656) (ht : H.tk = 0 ∧ H.tkids = .nil) (hu : H.uk = 0 ∧ H.ukids = .nil) (hn : n ≤ N)
    (hN : w.heap[N]? = some (.cells (H.cells ⟨none, 0, 0, none, 0, 0, none, 0, 0⟩).toArray 30 (0, 0))) : TAt n w N H .nil :=
  ⟨hn, _, hN, fun u _ => ⟨fitG hk1 hk2 hl (Nat.zero_le _) hx hy (by rw [ht.1, ht.2]; exact ty_zero u) (by rw [hu.1, hu.2]; exact ty_zero u), trivial⟩⟩
theorem says_lit {l : List W4} {i : Nat} {s : ByteArray} {k : Int} {t : List UInt8} (h : Says s k t) (hok : ∀ x ∈ l, OkWord x) : ((fx (wAt l i)).toList == t) = sees l i k t := by
  have q := says_eq (i := i) h hok
  rw [h.1] at q
  exact q
/-- an atom's form, by its head word -/
def formA (l : List W4) (i : Nat) : Int × List It × Nat :=
  if sees l i 3 kTrue then (2, [], i + 1)
  else if sees l i 3 kFalse then (3, [], i + 1)
  else if sees l i 4 [40] then (100, [.tm, sg 41], i + 1)
  else if sees l i 4 [91] then (9, [.tm, sg 44, .tm, sg 93], i + 1)
  else if (l[i]?.map (·.kind)) = some 1 then (0, [.nm], i)
  else (1, [.nu], i)
theorem pgo_box {l : List W4} {A : Option Addr} {c rb j : Nat} {mv : Value} {w u : World} (h : PGo l A c rb mv w j u) (o : Obj) : PGo l A c rb mv w j (u.alloc o) :=
  ⟨heap_old h.1 o, only_trans h.2 (only_below ((Below.refl _ _).alloc (Nat.le_refl _) _))⟩

set_option maxHeartbeats 4000000 in
set_option maxRecDepth 100000 in
theorem patom_any (l : List W4) (A : Option Addr) (c rb i : Nat) (mv : Value) (w : World) (hS : PdS l A c rb mv w i) (sT : Says ⟨#[116, 114, 117, 101]⟩ 3 kTrue) (sF : Says ⟨#[102, 97, 108, 115, 101]⟩ 3 kFalse) (s1 : Says ⟨#[40]⟩ 4 [40]) (s2 : Says ⟨#[91]⟩ 4 [91]) (s3 : Says ⟨#[41]⟩ 4 [41]) (s4 : Says ⟨#[44]⟩ 4 [44]) (s5 : Says ⟨#[93]⟩ 4 [93]) (hN : Needs l A c rb mv i) (r : Tt.Rs) (hT : T l (.seq (formA l i).2.1 (formA l i).2.2) r) :
    Calls Tryz.prog 166 #[.pointer (some ⟨rb, 0, none⟩)] w (TPost l A c rb mv w (r.make (formA l i).1 (posAt l i))) := by
  have CW := Lib.hid (word_pt l A c rb i mv w hS)
  have hwk := wAt_ok hS.okw (i := i)
  have CF := Lib.hid (fun (W : World) => fixed_pt (wAt l i) W hwk.1 hwk.2)
  have esT : ((fx (wAt l i)).toList == [116, 114, 117, 101]) = sees l i 3 kTrue := says_lit sT hS.okw
  have esF : ((fx (wAt l i)).toList == [102, 97, 108, 115, 101]) = sees l i 3 kFalse := says_lit sF hS.okw
  have es1 : ((fx (wAt l i)).toList == [40]) = sees l i 4 [40] := says_lit s1 hS.okw
  have es2 : ((fx (wAt l i)).toList == [91]) = sees l i 4 [91] := says_lit s2 hS.okw
  have HS := Lib.hid hS
  have HN := Lib.hid hN
  clear hwk hS hN
  cases hsT : sees l i 3 kTrue
  case true =>
    have hf : formA l i = (2, [], i + 1) := by unfold formA; simp [hsT]
    rw [hf] at hT ⊢
    clear hf
    have hi := sees_lt hsT
    rw [hsT] at esT
    clear esF es1 es2
    cases hT
    have CH := Lib.hid (fun (W : World) (hb : Below w.heap.size w W) => head_pt l A c rb i mv 2 W (HS.out.below hb) hi)
    rw [pos_at hi] at CH
    clear HN HS hsT
    clear sT sF s1 s2 s3 s4 s5
    generalize fx (wAt l i) = s at *
    generalize hxw : wAt l i = x at *
    obtain ⟨yk, yt, yn, yp⟩ := x
    unfold wV at CW CF
    simp only at CW CF
    clear hxw
    go_enter Tryz.func166, Tryz.ntmps166
    go_wp2_with fail
    refine CW.out.mono ?_
    rintro e w2 ⟨rfl, hb⟩
    have hbx : Below w2.heap.size w2 (w2.alloc (.cells #[.int .i8 yk, .string yt, .int .i64 yn, .int .i64 yp] 50)) := (Below.refl _ _).alloc (Nat.le_refl _) _
    have HX2 := Lib.hid (heap_new w2 (.cells #[.int .i8 yk, .string yt, .int .i64 yn, .int .i64 yp] 50))
    have HB2 := Lib.hid (hb.trans (hbx.mono hb.size))
    have hwl := hb.size
    clear hb hbx
    obtain ⟨x0, x1, x2, x3, -, -, -, -, hxl⟩ := own4 HX2.out
    go_wp2_with fail
    refine (CF.out _).mono ?_
    rintro e w3 ⟨rfl, hb⟩
    have HX3 := Lib.hid (heap_below hb (heap_lt HX2.out) HX2.out)
    have HB3 := Lib.hid (HB2.out.trans (hb.mono HB2.out.size))
    clear hb x0 x1 x2 x3 hxl HX2 HB2
    go_wp2_with fail
    refine (CH.out _ HB3.out).mono ?_
    rintro e w4 ⟨N, rfl, hN1, hN2, hX, hP⟩
    have HTA := Lib.hid (node0 (H := hd0 2 (posAt l i)) (by show (-128 : Int) ≤ 2; decide) (by show (2 : Int) ≤ 127; decide) rfl (Nat.zero_le _) (Nat.zero_le _) ⟨rfl, rfl⟩ ⟨rfl, rfl⟩ (Nat.le_trans HB3.out.size hN1) hX)
    have HPG := Lib.hid (hP.from (only_below (rb := rb) HB3.out))
    clear hX hP hN1 hN2
    go_wp2_with fail
    go_ret
    exact ⟨N, rfl, HTA.out, HPG.out⟩
  cases hsF : sees l i 3 kFalse
  case true =>
    have hf : formA l i = (3, [], i + 1) := by unfold formA; simp [hsT, hsF]
    rw [hf] at hT ⊢
    clear hf
    have hi := sees_lt hsF
    rw [hsT] at esT
    rw [hsF] at esF
    clear es1 es2
    cases hT
    have CH := Lib.hid (fun (W : World) (hb : Below w.heap.size w W) => head_pt l A c rb i mv 3 W (HS.out.below hb) hi)
    rw [pos_at hi] at CH
    clear HN HS hsT hsF
    clear sT sF s1 s2 s3 s4 s5
    generalize fx (wAt l i) = s at *
    generalize hxw : wAt l i = x at *
    obtain ⟨yk, yt, yn, yp⟩ := x
    unfold wV at CW CF
    simp only at CW CF
    clear hxw
    go_enter Tryz.func166, Tryz.ntmps166
    go_wp2_with fail
    refine CW.out.mono ?_
    rintro e w2 ⟨rfl, hb⟩
    have hbx : Below w2.heap.size w2 (w2.alloc (.cells #[.int .i8 yk, .string yt, .int .i64 yn, .int .i64 yp] 50)) := (Below.refl _ _).alloc (Nat.le_refl _) _
    have HX2 := Lib.hid (heap_new w2 (.cells #[.int .i8 yk, .string yt, .int .i64 yn, .int .i64 yp] 50))
    have HB2 := Lib.hid (hb.trans (hbx.mono hb.size))
    have hwl := hb.size
    clear hb hbx
    obtain ⟨x0, x1, x2, x3, -, -, -, -, hxl⟩ := own4 HX2.out
    go_wp2_with fail
    refine (CF.out _).mono ?_
    rintro e w3 ⟨rfl, hb⟩
    have HX3 := Lib.hid (heap_below hb (heap_lt HX2.out) HX2.out)
    have HB3 := Lib.hid (HB2.out.trans (hb.mono HB2.out.size))
    clear hb x0 x1 x2 x3 hxl HX2 HB2
    go_wp2_with fail
    refine (CH.out _ HB3.out).mono ?_
    rintro e w4 ⟨N, rfl, hN1, hN2, hX, hP⟩
    have HTA := Lib.hid (node0 (H := hd0 3 (posAt l i)) (by show (-128 : Int) ≤ 3; decide) (by show (3 : Int) ≤ 127; decide) rfl (Nat.zero_le _) (Nat.zero_le _) ⟨rfl, rfl⟩ ⟨rfl, rfl⟩ (Nat.le_trans HB3.out.size hN1) hX)
    have HPG := Lib.hid (hP.from (only_below (rb := rb) HB3.out))
    clear hX hP hN1 hN2
    go_wp2_with fail
    go_ret
    exact ⟨N, rfl, HTA.out, HPG.out⟩
  cases hs1 : sees l i 4 [40]
  case true =>
    have hf : formA l i = (100, [.tm, sg 41], i + 1) := by unfold formA; simp [hsT, hsF, hs1]
    rw [hf] at hT ⊢
    clear hf
    have hi := sees_lt hs1
    rw [hsT] at esT
    rw [hsF] at esF
    rw [hs1] at es1
    clear es2
    have CB := Lib.hid (fun (W : World) (hb : Below w.heap.size w W) => bracketed_any l A c rb i mv W (HS.out.below hb) s1 s3 hs1 HN.out r hT)
    clear hT HN HS hsT hsF hs1
    clear sT sF s1 s2 s3 s4 s5
    generalize fx (wAt l i) = s at *
    generalize hxw : wAt l i = x at *
    obtain ⟨yk, yt, yn, yp⟩ := x
    unfold wV at CW CF
    simp only at CW CF
    clear hxw
    go_enter Tryz.func166, Tryz.ntmps166
    go_wp2_with fail
    refine CW.out.mono ?_
    rintro e w2 ⟨rfl, hb⟩
    have hbx : Below w2.heap.size w2 (w2.alloc (.cells #[.int .i8 yk, .string yt, .int .i64 yn, .int .i64 yp] 50)) := (Below.refl _ _).alloc (Nat.le_refl _) _
    have HX2 := Lib.hid (heap_new w2 (.cells #[.int .i8 yk, .string yt, .int .i64 yn, .int .i64 yp] 50))
    have HB2 := Lib.hid (hb.trans (hbx.mono hb.size))
    have hwl := hb.size
    clear hb hbx
    obtain ⟨x0, x1, x2, x3, -, -, -, -, hxl⟩ := own4 HX2.out
    go_wp2_with fail
    refine (CF.out _).mono ?_
    rintro e w3 ⟨rfl, hb⟩
    have HX3 := Lib.hid (heap_below hb (heap_lt HX2.out) HX2.out)
    have HB3 := Lib.hid (HB2.out.trans (hb.mono HB2.out.size))
    clear hb x0 x1 x2 x3 hxl HX2 HB2
    go_wp2_with fail
    refine (CB.out _ HB3.out).mono ?_
    intro e w4 hP
    have HP := Lib.hid (TPost.from hP (only_below HB3.out))
    cases r with
    | bad E a s' =>
      obtain ⟨g, rfl, -⟩ := hP
      exact ⟨rfl, HP.out⟩
    | ok vs j =>
      obtain ⟨X, rfl, -⟩ := hP
      go_wp2_with fail
      go_ret
      exact HP.out
  cases hs2 : sees l i 4 [91]
  case true =>
    have hf : formA l i = (9, [.tm, sg 44, .tm, sg 93], i + 1) := by unfold formA; simp [hsT, hsF, hs1, hs2]
    rw [hf] at hT ⊢
    clear hf
    have hi := sees_lt hs2
    rw [hsT] at esT
    rw [hsF] at esF
    rw [hs1] at es1
    rw [hs2] at es2
    have CB := Lib.hid (fun (W : World) (hb : Below w.heap.size w W) => two_any l A c rb i mv W (HS.out.below hb) hi s4 s5 HN.out r hT)
    clear hT HN HS hsT hsF hs1 hs2
    clear sT sF s1 s2 s3 s4 s5
    generalize fx (wAt l i) = s at *
    generalize hxw : wAt l i = x at *
    obtain ⟨yk, yt, yn, yp⟩ := x
    unfold wV at CW CF
    simp only at CW CF
    clear hxw
    go_enter Tryz.func166, Tryz.ntmps166
    go_wp2_with fail
    refine CW.out.mono ?_
    rintro e w2 ⟨rfl, hb⟩
    have hbx : Below w2.heap.size w2 (w2.alloc (.cells #[.int .i8 yk, .string yt, .int .i64 yn, .int .i64 yp] 50)) := (Below.refl _ _).alloc (Nat.le_refl _) _
    have HX2 := Lib.hid (heap_new w2 (.cells #[.int .i8 yk, .string yt, .int .i64 yn, .int .i64 yp] 50))
    have HB2 := Lib.hid (hb.trans (hbx.mono hb.size))
    have hwl := hb.size
    clear hb hbx
    obtain ⟨x0, x1, x2, x3, -, -, -, -, hxl⟩ := own4 HX2.out
    go_wp2_with fail
    refine (CF.out _).mono ?_
    rintro e w3 ⟨rfl, hb⟩
    have HX3 := Lib.hid (heap_below hb (heap_lt HX2.out) HX2.out)
    have HB3 := Lib.hid (HB2.out.trans (hb.mono HB2.out.size))
    clear hb x0 x1 x2 x3 hxl HX2 HB2
    go_wp2_with fail
    refine (CB.out _ HB3.out).mono ?_
    intro e w4 hP
    have HP := Lib.hid (TPost.from hP (only_below HB3.out))
    cases r with
    | bad E a s' =>
      obtain ⟨g, rfl, -⟩ := hP
      exact ⟨rfl, HP.out⟩
    | ok vs j =>
      obtain ⟨X, rfl, -⟩ := hP
      go_wp2_with fail
      go_ret
      exact HP.out
  by_cases hk : (l[i]?.map (·.kind)) = some 1
  · have hf : formA l i = (0, [.nm], i) := by unfold formA; simp [hsT, hsF, hs1, hs2, hk]
    rw [hf] at hT ⊢
    clear hf
    rw [hsT] at esT
    rw [hsF] at esF
    rw [hs1] at es1
    rw [hs2] at es2
    obtain ⟨x, hx⟩ : ∃ x, l[i]? = some x := by
      cases hq : l[i]? with
      | none => rw [hq] at hk; cases hk
      | some x => exact ⟨x, rfl⟩
    have hk1 : x.kind = 1 := by rw [hx] at hk; injection hk
    have hwx : wAt l i = x := by unfold wAt; rw [hx]
    have hpx : posAt l i = x.pos := by unfold posAt; rw [hx]
    have hxs := HS.out.small x (List.mem_of_getElem? hx)
    have CN := Lib.hid (fun (W : World) (hb : Below w.heap.size w W) => name_pt l A c rb i mv W (HS.out.below hb) hx hk1)
    have hrl := heap_lt HS.out.rdr
    cases hT with
    | nmNo hno => exact absurd hk1 (hno x hx)
    | @nm _ x' _ _ hx' _ g =>
      rw [hx] at hx'
      injection hx' with hx'
      subst hx'
      cases g
      rw [hpx]
      rw [hwx] at CW CF esT esF es1 es2
      clear sT sF s1 s2 s3 s4 s5 hsT hsF hs1 hs2 HN HS hx hwx hpx hk
      generalize fx x = s at *
      obtain ⟨yk, yt, yn, yp⟩ := x
      unfold wV at CW CF
      simp only at CW CF CN hk1 hxs ⊢
      subst hk1
      go_enter Tryz.func166, Tryz.ntmps166
      go_wp2_with fail
      refine CW.out.mono ?_
      rintro e w2 ⟨rfl, hb⟩
      have hbx : Below w2.heap.size w2 (w2.alloc (.cells #[.int .i8 1, .string yt, .int .i64 yn, .int .i64 yp] 50)) := (Below.refl _ _).alloc (Nat.le_refl _) _
      have HX2 := Lib.hid (heap_new w2 (.cells #[.int .i8 1, .string yt, .int .i64 yn, .int .i64 yp] 50))
      have HB2 := Lib.hid (hb.trans (hbx.mono hb.size))
      have hwl := hb.size
      clear hb hbx
      obtain ⟨x0, x1, x2, x3, -, -, -, -, hxl⟩ := own4 HX2.out
      go_wp2_with fail
      refine (CF.out _).mono ?_
      rintro e w3 ⟨rfl, hb⟩
      have HX3 := Lib.hid (heap_below hb (heap_lt HX2.out) HX2.out)
      have HB3 := Lib.hid (HB2.out.trans (hb.mono HB2.out.size))
      clear hb x0 x1 x2 x3 hxl HX2 HB2
      obtain ⟨x0, x1, x2, x3, -, -, -, -, hxl⟩ := own4 HX3.out
      go_wp2_with fail
      have D0 := HB3.out.drew
      have hw2 := HB3.out.size
      go_region_law (first
        | (go_simp; go_at_call 131; (with_reducible refine (CN.out _ D0).mono ?_); rintro e u ⟨rfl, hP⟩; have HPU := Lib.hid (hP.from (only_below (rb := rb) D0)); obtain ⟨u0, u1, u2, u3, -, -, -, -, hul⟩ := own4 ((hP.2.block w2.heap.size hxl (fun e => by injection e with e; omega)).trans HX3.out); clear hP; go_wp2_with fail))
      all_goals
        go_wp2_with fail
        go_ret
        exact ⟨u.heap.size, rfl, node0 (H := { hd0 0 yp with name := yt }) (by show (-128 : Int) ≤ 0; decide) (by show (0 : Int) ≤ 127; decide) rfl hxs (Nat.zero_le _) ⟨rfl, rfl⟩ ⟨rfl, rfl⟩ HPU.out.2.size (heap_new u _), pgo_box HPU.out _⟩
  · have hf : formA l i = (1, [.nu], i) := by unfold formA; simp [hsT, hsF, hs1, hs2, hk]
    rw [hf] at hT ⊢
    clear hf
    rw [hsT] at esT
    rw [hsF] at esF
    rw [hs1] at es1
    rw [hs2] at es2
    cases hT with
    | nuNo hno =>
      have hkn : (wAt l i).kind ≠ 2 := by
        unfold wAt
        cases hx : l[i]? with
        | none => decide
        | some x => exact hno x hx
      have hk0 : ((wAt l i).kind == 1) = false := by
        unfold wAt
        cases hx : l[i]? with
        | none => rfl
        | some x =>
          rw [hx] at hk
          simpa using hk
      have CB := Lib.hid (fun (W : World) (hb : Below w.heap.size w W) => number_no l A c rb i mv W (HS.out.below hb) hkn)
      clear sT sF s1 s2 s3 s4 s5 hsT hsF hs1 hs2 HN HS hk hno hkn
      generalize fx (wAt l i) = s at *
      generalize hxw : wAt l i = x at *
      obtain ⟨yk, yt, yn, yp⟩ := x
      unfold wV at CW CF
      simp only at CW CF
      clear hxw
      simp only at hk0
      go_enter Tryz.func166, Tryz.ntmps166
      go_wp2_with fail
      refine CW.out.mono ?_
      rintro e w2 ⟨rfl, hb⟩
      have hbx : Below w2.heap.size w2 (w2.alloc (.cells #[.int .i8 yk, .string yt, .int .i64 yn, .int .i64 yp] 50)) := (Below.refl _ _).alloc (Nat.le_refl _) _
      have HX2 := Lib.hid (heap_new w2 (.cells #[.int .i8 yk, .string yt, .int .i64 yn, .int .i64 yp] 50))
      have HB2 := Lib.hid (hb.trans (hbx.mono hb.size))
      have hwl := hb.size
      clear hb hbx
      obtain ⟨x0, x1, x2, x3, -, -, -, -, hxl⟩ := own4 HX2.out
      go_wp2_with fail
      refine (CF.out _).mono ?_
      rintro e w3 ⟨rfl, hb⟩
      have HX3 := Lib.hid (heap_below hb (heap_lt HX2.out) HX2.out)
      have HB3 := Lib.hid (HB2.out.trans (hb.mono HB2.out.size))
      clear hb x0 x1 x2 x3 hxl HX2 HB2
      obtain ⟨x0, x1, x2, x3, -, -, -, -, hxl⟩ := own4 HX3.out
      go_wp2_with fail
      have D0 := HB3.out.drew
      go_region_with (first
        | (go_at_call 165; (with_reducible refine (CB.out _ D0).mono ?_); rintro e u hB; have HP := Lib.hid (hB.from (only_below (rb := rb) D0)); obtain ⟨g, rfl, -⟩ := hB; refine panic_end2 (P := Tryz.prog) (w := u) ?_))
      all_goals exact ⟨rfl, HP.out⟩
    | @nu _ x _ _ hx hk2 g =>
      cases g
      have hwx : wAt l i = x := by unfold wAt; rw [hx]
      have hpx : posAt l i = x.pos := by unfold posAt; rw [hx]
      have CN := Lib.hid (fun (W : World) (hb : Below w.heap.size w W) => number_pt l A c rb i mv W (HS.out.below hb) hx hk2)
      have hrl := heap_lt HS.out.rdr
      rw [hpx]
      rw [hwx] at CW CF esT esF es1 es2
      clear sT sF s1 s2 s3 s4 s5 hsT hsF hs1 hs2 HN HS hx hwx hpx hk
      generalize fx x = s at *
      obtain ⟨yk, yt, yn, yp⟩ := x
      unfold wV at CW CF
      simp only at CW CF CN hk2 ⊢
      subst hk2
      go_enter Tryz.func166, Tryz.ntmps166
      go_wp2_with fail
      refine CW.out.mono ?_
      rintro e w2 ⟨rfl, hb⟩
      have hbx : Below w2.heap.size w2 (w2.alloc (.cells #[.int .i8 2, .string yt, .int .i64 yn, .int .i64 yp] 50)) := (Below.refl _ _).alloc (Nat.le_refl _) _
      have HX2 := Lib.hid (heap_new w2 (.cells #[.int .i8 2, .string yt, .int .i64 yn, .int .i64 yp] 50))
      have HB2 := Lib.hid (hb.trans (hbx.mono hb.size))
      have hwl := hb.size
      clear hb hbx
      obtain ⟨x0, x1, x2, x3, -, -, -, -, hxl⟩ := own4 HX2.out
      go_wp2_with fail
      refine (CF.out _).mono ?_
      rintro e w3 ⟨rfl, hb⟩
      have HX3 := Lib.hid (heap_below hb (heap_lt HX2.out) HX2.out)
      have HB3 := Lib.hid (HB2.out.trans (hb.mono HB2.out.size))
      clear hb x0 x1 x2 x3 hxl HX2 HB2
      obtain ⟨x0, x1, x2, x3, -, -, -, -, hxl⟩ := own4 HX3.out
      go_wp2_with fail
      have D0 := HB3.out.drew
      have hw2 := HB3.out.size
      go_region_law (first
        | (go_simp; go_at_call 165; (with_reducible refine (CN.out _ D0).mono ?_); rintro e u ⟨rfl, hP⟩; have HPU := Lib.hid (hP.from (only_below (rb := rb) D0)); obtain ⟨u0, u1, u2, u3, -, -, -, -, hul⟩ := own4 ((hP.2.block w2.heap.size hxl (fun e => by injection e with e; omega)).trans HX3.out); clear hP; go_wp2_with fail))
      all_goals
        go_wp2_with fail
        go_ret
        exact ⟨u.heap.size, rfl, node0 (H := { hd0 1 yp with num := yn }) (by show (-128 : Int) ≤ 1; decide) (by show (1 : Int) ≤ 127; decide) rfl (Nat.zero_le _) (Nat.zero_le _) ⟨rfl, rfl⟩ ⟨rfl, rfl⟩ HPU.out.2.size (heap_new u _), pgo_box HPU.out _⟩
end Go.Proofs.YtocehfklacjgbaaGreatDoor
namespace Go.Proofs.YtocehfklacjgbaaGreatDoor
open Go.RowKit Rd Tt

/-- what the reading of an operand leaves: the term, and how strong it is -/
def OPost (l : List W4) (A : Option Addr) (c rb : Nat) (mv : Value) (w : World) (st : Nat) (r : Tt.Rs) (e : Ending) (w' : World) : Prop := match r with
  | .ok [.tm h t] j => ∃ X, e = .returned (.tuple #[.pointer (some ⟨X, 0, none⟩), .int .i64 st]) ∧ TAt w.heap.size w' X h t ∧ PGo l A c rb mv w j w'
  | .ok _ _ => False
  | .bad E a s => PBad rb w E a s e w'
theorem formO_atom {l : List W4} {i : Nat} (h1 : sees l i 3 kFst = false) (h2 : sees l i 3 kSnd = false) (h3 : sees l i 3 kInl = false) (h4 : sees l i 3 kInr = false) (h5 : sees l i 4 [45] = false) :
    formO l i = ((formA l i).1, (formA l i).2.1, (formA l i).2.2, 5) := by
  unfold formO formA
  rw [h1, h2, h3, h4, h5]
  cases sees l i 3 kTrue <;> cases sees l i 3 kFalse <;> cases sees l i 4 [40] <;> cases sees l i 4 [91] <;> by_cases hk : (l[i]?.map (·.kind)) = some 1 <;> simp [hk]

set_option maxHeartbeats 4000000 in
set_option maxRecDepth 100000 in
theorem operand_any (l : List W4) (A : Option Addr) (c rb i : Nat) (mv : Value) (w : World) (hS : PdS l A c rb mv w i) (hN : Needs l A c rb mv i) (r : Tt.Rs) (hT : T l (.opnd i) r) :
    Calls Tryz.prog 136 #[.pointer (some ⟨rb, 0, none⟩)] w (OPost l A c rb mv w (formO l i).2.2.2 r) := by
  have CW := Lib.hid (word_pt l A c rb i mv w hS)
  have hwk := wAt_ok hS.okw (i := i)
  have CF := Lib.hid (fun (W : World) => fixed_pt (wAt l i) W hwk.1 hwk.2)
  have ek1 : ((fx (wAt l i)).toList == [102, 115, 116]) = sees l i 3 kFst := says_lit yFst hS.okw
  have ek2 : ((fx (wAt l i)).toList == [115, 110, 100]) = sees l i 3 kSnd := says_lit ySnd hS.okw
  have ek3 : ((fx (wAt l i)).toList == [105, 110, 108]) = sees l i 3 kInl := says_lit yInl hS.okw
  have ek4 : ((fx (wAt l i)).toList == [105, 110, 114]) = sees l i 3 kInr := says_lit yInr hS.okw
  have ek5 : ((fx (wAt l i)).toList == [45]) = sees l i 4 [45] := says_lit y45 hS.okw
  have HS := Lib.hid hS
  have HN := Lib.hid hN
  clear hwk hS hN
  cases hT with
  | @opnd _ r hT =>
    cases hk1 : sees l i 3 kFst
    case true =>
      have hf : formO l i = (10, [.pt 4], i + 1, 4) := by unfold formO; simp [hk1]
      rw [hf] at hT ⊢
      clear hf
      have hi := sees_lt hk1
      rw [hk1] at ek1
      clear ek2 ek3 ek4 ek5
      have CB := Lib.hid (fun (W : World) (hb : Below w.heap.size w W) => prefix_any l A c rb i mv 10 (by decide) (by decide) W (HS.out.below hb) hi HN.out r hT)
      clear hT HN HS hk1
      generalize fx (wAt l i) = s at *
      generalize hxw : wAt l i = x at *
      obtain ⟨yk, yt, yn, yp⟩ := x
      unfold wV at CW CF
      simp only at CW CF
      clear hxw
      go_enter Tryz.func136, Tryz.ntmps136
      go_wp2_with fail
      refine CW.out.mono ?_
      rintro e w2 ⟨rfl, hb⟩
      have HB2 := Lib.hid hb
      clear hb
      go_wp2_with fail
      refine (CF.out _).mono ?_
      rintro e w3 ⟨rfl, hb⟩
      have HB3 := Lib.hid (HB2.out.trans (hb.mono HB2.out.size))
      clear hb HB2
      go_wp2_with fail
      refine (CB.out _ HB3.out).mono ?_
      intro e w4 hP
      cases r with
      | bad E a s' =>
        have HP := Lib.hid (TPost.from hP (only_below HB3.out))
        obtain ⟨g, rfl, -⟩ := hP
        exact ⟨rfl, HP.out⟩
      | ok vs j =>
        obtain ⟨X, rfl, hX, hG⟩ := hP
        have HX := Lib.hid (hX.low (n0 := w.heap.size) HB3.out.size)
        have HG := Lib.hid (hG.from (only_below HB3.out))
        clear hX hG
        go_wp2_with fail
        go_ret2
        exact ⟨X, rfl, HX.out, HG.out⟩
    cases hk2 : sees l i 3 kSnd
    case true =>
      have hf : formO l i = (11, [.pt 4], i + 1, 4) := by unfold formO; simp [hk1, hk2]
      rw [hf] at hT ⊢
      clear hf
      have hi := sees_lt hk2
      rw [hk1] at ek1
      rw [hk2] at ek2
      clear ek3 ek4 ek5
      have CB := Lib.hid (fun (W : World) (hb : Below w.heap.size w W) => prefix_any l A c rb i mv 11 (by decide) (by decide) W (HS.out.below hb) hi HN.out r hT)
      clear hT HN HS hk1 hk2
      generalize fx (wAt l i) = s at *
      generalize hxw : wAt l i = x at *
      obtain ⟨yk, yt, yn, yp⟩ := x
      unfold wV at CW CF
      simp only at CW CF
      clear hxw
      go_enter Tryz.func136, Tryz.ntmps136
      go_wp2_with fail
      refine CW.out.mono ?_
      rintro e w2 ⟨rfl, hb⟩
      have HB2 := Lib.hid hb
      clear hb
      go_wp2_with fail
      refine (CF.out _).mono ?_
      rintro e w3 ⟨rfl, hb⟩
      have HB3 := Lib.hid (HB2.out.trans (hb.mono HB2.out.size))
      clear hb HB2
      go_wp2_with fail
      refine (CB.out _ HB3.out).mono ?_
      intro e w4 hP
      cases r with
      | bad E a s' =>
        have HP := Lib.hid (TPost.from hP (only_below HB3.out))
        obtain ⟨g, rfl, -⟩ := hP
        exact ⟨rfl, HP.out⟩
      | ok vs j =>
        obtain ⟨X, rfl, hX, hG⟩ := hP
        have HX := Lib.hid (hX.low (n0 := w.heap.size) HB3.out.size)
        have HG := Lib.hid (hG.from (only_below HB3.out))
        clear hX hG
        go_wp2_with fail
        go_ret2
        exact ⟨X, rfl, HX.out, HG.out⟩
    cases hk3 : sees l i 3 kInl
    case true =>
      have hf : formO l i = (12, [sg 123, .ty, sg 125, .pt 4], i + 1, 4) := by unfold formO; simp [hk1, hk2, hk3]
      rw [hf] at hT ⊢
      clear hf
      have hi := sees_lt hk3
      rw [hk1] at ek1
      rw [hk2] at ek2
      rw [hk3] at ek3
      clear ek4 ek5
      have CB := Lib.hid (fun (W : World) (hb : Below w.heap.size w W) => side_any l A c rb i mv 12 (by decide) (by decide) W (HS.out.below hb) hi y123 y125 HN.out r hT)
      clear hT HN HS hk1 hk2 hk3
      generalize fx (wAt l i) = s at *
      generalize hxw : wAt l i = x at *
      obtain ⟨yk, yt, yn, yp⟩ := x
      unfold wV at CW CF
      simp only at CW CF
      clear hxw
      go_enter Tryz.func136, Tryz.ntmps136
      go_wp2_with fail
      refine CW.out.mono ?_
      rintro e w2 ⟨rfl, hb⟩
      have HB2 := Lib.hid hb
      clear hb
      go_wp2_with fail
      refine (CF.out _).mono ?_
      rintro e w3 ⟨rfl, hb⟩
      have HB3 := Lib.hid (HB2.out.trans (hb.mono HB2.out.size))
      clear hb HB2
      go_wp2_with fail
      refine (CB.out _ HB3.out).mono ?_
      intro e w4 hP
      cases r with
      | bad E a s' =>
        have HP := Lib.hid (TPost.from hP (only_below HB3.out))
        obtain ⟨g, rfl, -⟩ := hP
        exact ⟨rfl, HP.out⟩
      | ok vs j =>
        obtain ⟨X, rfl, hX, hG⟩ := hP
        have HX := Lib.hid (hX.low (n0 := w.heap.size) HB3.out.size)
        have HG := Lib.hid (hG.from (only_below HB3.out))
        clear hX hG
        go_wp2_with fail
        go_ret2
        exact ⟨X, rfl, HX.out, HG.out⟩
    cases hk4 : sees l i 3 kInr
    case true =>
      have hf : formO l i = (13, [sg 123, .ty, sg 125, .pt 4], i + 1, 4) := by unfold formO; simp [hk1, hk2, hk3, hk4]
      rw [hf] at hT ⊢
      clear hf
      have hi := sees_lt hk4
      rw [hk1] at ek1
      rw [hk2] at ek2
      rw [hk3] at ek3
      rw [hk4] at ek4
      clear ek5
      have CB := Lib.hid (fun (W : World) (hb : Below w.heap.size w W) => side_any l A c rb i mv 13 (by decide) (by decide) W (HS.out.below hb) hi y123 y125 HN.out r hT)
      clear hT HN HS hk1 hk2 hk3 hk4
      generalize fx (wAt l i) = s at *
      generalize hxw : wAt l i = x at *
      obtain ⟨yk, yt, yn, yp⟩ := x
      unfold wV at CW CF
      simp only at CW CF
      clear hxw
      go_enter Tryz.func136, Tryz.ntmps136
      go_wp2_with fail
      refine CW.out.mono ?_
      rintro e w2 ⟨rfl, hb⟩
      have HB2 := Lib.hid hb
      clear hb
      go_wp2_with fail
      refine (CF.out _).mono ?_
      rintro e w3 ⟨rfl, hb⟩
      have HB3 := Lib.hid (HB2.out.trans (hb.mono HB2.out.size))
      clear hb HB2
      go_wp2_with fail
      refine (CB.out _ HB3.out).mono ?_
      intro e w4 hP
      cases r with
      | bad E a s' =>
        have HP := Lib.hid (TPost.from hP (only_below HB3.out))
        obtain ⟨g, rfl, -⟩ := hP
        exact ⟨rfl, HP.out⟩
      | ok vs j =>
        obtain ⟨X, rfl, hX, hG⟩ := hP
        have HX := Lib.hid (hX.low (n0 := w.heap.size) HB3.out.size)
        have HG := Lib.hid (hG.from (only_below HB3.out))
        clear hX hG
        go_wp2_with fail
        go_ret2
        exact ⟨X, rfl, HX.out, HG.out⟩
    cases hk5 : sees l i 4 [45]
    case true =>
      have hf : formO l i = (101, [.nu], i + 1, 4) := by unfold formO; simp [hk1, hk2, hk3, hk4, hk5]
      rw [hf] at hT ⊢
      clear hf
      have hi := sees_lt hk5
      rw [hk1] at ek1
      rw [hk2] at ek2
      rw [hk3] at ek3
      rw [hk4] at ek4
      rw [hk5] at ek5
      have CH := Lib.hid (fun (W : World) (hb : Below w.heap.size w W) => head_pt l A c rb i mv 1 W (HS.out.below hb) hi)
      rw [pos_at hi] at CH
      clear HN hk1 hk2 hk3 hk4 hk5
      generalize fx (wAt l i) = s at *
      generalize hxw : wAt l i = x at *
      obtain ⟨yk, yt, yn, yp⟩ := x
      unfold wV at CW CF
      simp only at CW CF
      clear hxw
      go_enter Tryz.func136, Tryz.ntmps136
      go_wp2_with fail
      refine CW.out.mono ?_
      rintro e w2 ⟨rfl, hb⟩
      have HB2 := Lib.hid hb
      clear hb
      go_wp2_with fail
      refine (CF.out _).mono ?_
      rintro e w3 ⟨rfl, hb⟩
      have HB3 := Lib.hid (HB2.out.trans (hb.mono HB2.out.size))
      clear hb HB2
      go_wp2_with fail
      refine (CH.out _ HB3.out).mono ?_
      rintro e w4 ⟨N, rfl, hN1, hN2, hX, hP⟩
      have H4 := Lib.hid (show HdS l A c rb mv w w4 N i (i + 1) _ from ⟨HS.out, Nat.le_trans HB3.out.size hN1, hX, hP.1, hi, only_trans (only_below HB3.out) hP.2⟩)
      clear hX hP hN1 hN2 CH
      cases hT with
      | nuNo hno =>
        have CB := Lib.hid (number_no l A c rb (i + 1) mv w4 H4.out.st (by
          unfold wAt
          cases hx : l[i + 1]? with
          | none => decide
          | some x => exact hno x hx))
        clear hno
        go_wp2_with fail
        refine CB.out.mono ?_
        intro e w99 hP
        have HP := Lib.hid (hP.from H4.out.gr)
        obtain ⟨g, rfl, -⟩ := hP
        exact ⟨rfl, HP.out⟩
      | @nu _ x _ _ hx hk2 g =>
        cases g
        have hi1 := (List.getElem?_eq_some_iff.1 hx).1
        have hxn := (HS.out.okw x (List.mem_of_getElem? hx)).2.2.2.1 hk2
        have CB := Lib.hid (number_pt l A c rb (i + 1) mv w4 H4.out.st hx hk2)
        obtain ⟨hn0, hn1⟩ := hxn
        have hwn : IntKind.i64.wrap (-x.num) = -x.num := IntWalk.i64_in _ (by omega)
        clear hx hk2 HS
        go_wp2_with fail
        refine CB.out.mono ?_
        rintro e w5 ⟨rfl, hP⟩
        have H5 := Lib.hid (H4.out.go hP hi1)
        clear hP CB H4
        have c3 := cell_of_heap H5.out.blk 3 rfl
        have z3 := frozen_at H5.out.blk 3
        have H6 := Lib.hid (H5.out.put (o := 3) (v := .int .i64 (-x.num)) (cs' := #[.int .i8 1, .string ⟨#[]⟩, .string ⟨#[]⟩, .int .i64 (-x.num), .int .i8 0, .slice none 0 0, .int .i8 0, .slice none 0 0, .int .i64 0, .int .i64 (posAt l i), .slice none 0 0]) (heap_put H5.out.blk))
        go_wp2_with fail
        go_ret2
        exact ⟨N, rfl, node0 (H := { hd0 1 (posAt l i) with num := -x.num }) (by show (-128 : Int) ≤ 1; decide) (by show (1 : Int) ≤ 127; decide) rfl (Nat.zero_le _) (Nat.zero_le _) ⟨rfl, rfl⟩ ⟨rfl, rfl⟩ H6.out.lo H6.out.blk, H6.out.rd, H6.out.gr⟩
    rw [formO_atom hk1 hk2 hk3 hk4 hk5] at hT ⊢
    have CB := Lib.hid (fun (W : World) (hb : Below w.heap.size w W) => patom_any l A c rb i mv W (HS.out.below hb) yTrue yFalse y40 y91 y41 y44 y93 HN.out r hT)
    rw [hk1] at ek1
    rw [hk2] at ek2
    rw [hk3] at ek3
    rw [hk4] at ek4
    rw [hk5] at ek5
    clear hT HN HS hk1 hk2 hk3 hk4 hk5
    generalize fx (wAt l i) = s at *
    generalize hxw : wAt l i = x at *
    obtain ⟨yk, yt, yn, yp⟩ := x
    unfold wV at CW CF
    simp only at CW CF
    clear hxw
    go_enter Tryz.func136, Tryz.ntmps136
    go_wp2_with fail
    refine CW.out.mono ?_
    rintro e w2 ⟨rfl, hb⟩
    have HB2 := Lib.hid hb
    clear hb
    go_wp2_with fail
    refine (CF.out _).mono ?_
    rintro e w3 ⟨rfl, hb⟩
    have HB3 := Lib.hid (HB2.out.trans (hb.mono HB2.out.size))
    clear hb HB2
    go_wp2_with fail
    refine (CB.out _ HB3.out).mono ?_
    intro e w4 hP
    cases r with
    | bad E a s' =>
      have HP := Lib.hid (TPost.from hP (only_below HB3.out))
      obtain ⟨g, rfl, -⟩ := hP
      exact ⟨rfl, HP.out⟩
    | ok vs j =>
      obtain ⟨X, rfl, hX, hG⟩ := hP
      have HX := Lib.hid (hX.low (n0 := w.heap.size) HB3.out.size)
      have HG := Lib.hid (hG.from (only_below HB3.out))
      clear hX hG
      go_wp2_with fail
      go_ret2
      exact ⟨X, rfl, HX.out, HG.out⟩
end Go.Proofs.YtocehfklacjgbaaGreatDoor
namespace Go.Proofs.YtocehfklacjgbaaGreatDoor
open Go.RowKit Rd Tt

theorem text_at {l : List W4} {i : Nat} (hi : i < l.length) : (wAt l i).text = textAt l i := by
  unfold wAt textAt
  rw [List.getElem?_eq_getElem hi]
/-- a head word's block with its kids: all lies from n0 on -/
theorem nodeJ {n0 N Z : Nat} {w : World} {H : Hd} {TA UA : Option Addr} {tn tc un uc : Nat} {kt : Tm} {C : List Value} {k : Nat} (hn : n0 ≤ N) (hN : w.heap[N]? = some (.cells (H.cells ⟨TA, tn, tc, UA, un, uc, some ⟨Z, 0, none⟩, k, k⟩).toArray 30 (0, 0)))
    (hZ : w.heap[Z]? = some (.cells C.toArray 30 (0, 0))) (hz : n0 ≤ Z) (hfit : ∀ u, KeepFrom n0 w u → Tm.Fit u H ⟨TA, tn, tc, UA, un, uc, some ⟨Z, 0, none⟩, k, k⟩ k) (hC : FlatF n0 w kt C) (hk : Tm.len kt = k) : TAt n0 w N H kt :=
  ⟨hn, _, hN, fun u hu => ⟨by rw [hk]; exact hfit u hu, far_row hZ hz kt C 0 hC (fun j v hv => by rw [Nat.zero_mul, Nat.zero_add]; exact hv) u hu⟩⟩
/-- what reading on from an operator leaves -/
def JPost (l : List W4) (A : Option Addr) (c rb : Nat) (mv : Value) (n0 : Nat) (w : World) (j : Nat) (k : Int) (h : Hd) (t : Tm) (r : Tt.Rs) (e : Ending) (w' : World) : Prop := match r with
  | .ok vs j2 => ∃ Y, e = .returned (.pointer (some ⟨Y, 0, none⟩)) ∧ TAt n0 w' Y (mkO k (posAt l j) (textAt l j) h t vs).1 (mkO k (posAt l j) (textAt l j) h t vs).2 ∧ PGo l A c rb mv w j2 w'
  | .bad E a s => PBad rb w E a s e w'

theorem HdS.below {l : List W4} {A : Option Addr} {c rb : Nat} {mv : Value} {w u u' : World} {N i0 i : Nat} {cs : Array Value} (h : HdS l A c rb mv w u N i0 i cs) (hb : Below u.heap.size u u') : HdS l A c rb mv w u' N i0 i cs :=
  ⟨h.base, h.lo, heap_below hb (heap_lt h.blk) h.blk, heap_below hb (heap_lt h.rd) h.rd, h.le, only_trans h.gr (only_below hb)⟩

set_option maxHeartbeats 4000000 in
set_option maxRecDepth 100000 in
theorem joined_app (l : List W4) (A : Option Addr) (c rb j n0 : Nat) (mv : Value) (s lf q : Int) (w : World) (hS : PdS l A c rb mv w j) (hi : j < l.length) (hr0 : rb < n0) (hn0 : n0 ≤ w.heap.size) (X : Nat) (h : Hd) (t : Tm) (hTX : TAt n0 w X h t) (hN : Needs l A c rb mv j) (r : Tt.Rs) (hT : T l (.seq [.tm, sg 41] (j + 1)) r) :
    Calls Tryz.prog 137 #[.pointer (some ⟨rb, 0, none⟩), .pointer (some ⟨X, 0, none⟩), .agg #[.int .i8 6, .int .i64 s, .int .i64 lf, .int .i64 q]] w (JPost l A c rb mv n0 w j 6 h t r) := by
  obtain ⟨hXn, p, hX, hF⟩ := hTX
  have hbx : Below w.heap.size w (w.alloc (.cells #[.int .i8 6, .int .i64 s, .int .i64 lf, .int .i64 q] 154)) := (Below.refl _ _).alloc (Nat.le_refl _) _
  have HO1 := Lib.hid (heap_new w (.cells #[.int .i8 6, .int .i64 s, .int .i64 lf, .int .i64 q] 154))
  have HB1 := Lib.hid hbx
  have CW := Lib.hid (fun (W : World) (hb : Below w.heap.size w W) => word_pt l A c rb j mv W (hS.below hb))
  have CH := Lib.hid (fun (W : World) (hb : Below w.heap.size w W) => head_pt l A c rb j mv 6 W (hS.below hb) hi)
  have hsm : (textAt l j).size ≤ 281474976710656 := by
    rw [← text_at hi]
    unfold wAt
    rw [List.getElem?_eq_getElem hi]
    exact hS.small _ (List.getElem_mem hi)
  rw [pos_at hi] at CH
  have htx := text_at hi
  have HS := Lib.hid hS
  have HN := Lib.hid hN
  have HX := Lib.hid hX
  have HF := Lib.hid hF
  have hrl := heap_lt hS.rdr
  generalize hyw : wAt l j = y at *
  obtain ⟨yk, yt, yn, yp⟩ := y
  unfold wV at CW
  simp only at CW htx
  subst htx
  have e1 := fld1
  clear hS hN hX hF hbx hyw
  go_enter Tryz.func137, Tryz.ntmps137
  go_wp2_with fail
  refine (CW.out _ HB1.out).mono ?_
  rintro e w2 ⟨rfl, hb⟩
  have HB2 := Lib.hid (HB1.out.trans (hb.mono HB1.out.size))
  have HO2 := Lib.hid (heap_below hb (heap_lt HO1.out) HO1.out)
  obtain ⟨o0, o1, o2, o3, -, -, -, -, hol⟩ := own4 HO2.out
  have hle := HB1.out.size
  clear hb CW HO1 HB1
  go_wp2_with fail
  refine (CH.out _ HB2.out).mono ?_
  rintro e w3 ⟨N, rfl, hN1, hN2, hXn3, hP⟩
  have H3 := Lib.hid (show HdS l A c rb mv w w3 N j (j + 1) _ from ⟨HS.out, Nat.le_trans HB2.out.size hN1, hXn3, hP.1, hi, only_trans (only_below HB2.out) hP.2⟩)
  have HO3 := Lib.hid ((hP.2.block _ hol (fun e => by injection e with e; omega)).trans HO2.out)
  clear hXn3 hP hN1 hN2 CH HO2 o0 o1 o2 o3 hol
  obtain ⟨o0, o1, o2, o3, -, -, -, -, hol⟩ := own4 HO3.out
  cases hT with
  | @tmNo _ E a s _ f =>
    have CP := Lib.hid (HN.out.term (j + 1) (Nat.lt_succ_self j) hi w3 _ H3.out.st f)
    clear f
    go_wp2_with fail
    refine CP.out.mono ?_
    intro e w99 hP
    have HP := Lib.hid (TPost.from hP H3.out.gr)
    obtain ⟨g, rfl, -⟩ := hP
    exact ⟨rfl, HP.out⟩
  | @tm _ j2 h' t' _ r' f g =>
    have hj := (T.goes f hi).2
    have CP := Lib.hid (HN.out.term (j + 1) (Nat.lt_succ_self j) hi w3 _ H3.out.st f)
    clear f
    go_wp2_with fail
    refine CP.out.mono ?_
    rintro e w4 ⟨Y, rfl, hY, hP⟩
    have H4 := Lib.hid (H3.out.go hP hj)
    have TY := Lib.hid (hY.low (n0 := N + 1) (heap_lt H3.out.blk))
    clear hY hP CP H3 HO3 o0 o1 o2 o3 hol
    have HXX := Lib.hid ((H4.out.gr.block X (heap_lt HX.out) (fun e => by injection e with e; omega)).trans HX.out)
    obtain ⟨hYn, p', hY, hF'⟩ := TY.out
    have CK := Lib.hid (kids2 (w4.alloc (.cells #[.pointer (some ⟨X, 0, none⟩), .pointer (some ⟨Y, 0, none⟩)] 101)) w4.heap.size X Y h h' p p' (heap_new _ _) (heap_old HXX.out _) (heap_old hY _))
    have HF' := Lib.hid hF'
    clear hY hF' TY
    go_wp2_with fail
    refine CK.out.mono ?_
    rintro e v8 ⟨rfl, hw5⟩
    have hw8 : (w4.alloc (.cells #[.pointer (some ⟨X, 0, none⟩), .pointer (some ⟨Y, 0, none⟩)] 101)).alloc (.cells (h.cells p ++ h'.cells p').toArray 30) = v8 := hw5
    clear hw5
    have HB8 : Below w4.heap.size w4 v8 := by rw [← hw8]; exact (((Below.refl _ _).alloc (Nat.le_refl _) _).alloc (by simp) _)
    have HZ8 : v8.heap[w4.heap.size + 1]? = some (.cells (h.cells p ++ h'.cells p').toArray 30 (0, 0)) := by
      rw [← hw8]
      have := heap_new (w4.alloc (.cells #[.pointer (some ⟨X, 0, none⟩), .pointer (some ⟨Y, 0, none⟩)] 101)) (.cells (h.cells p ++ h'.cells p').toArray 30)
      simpa using this
    clear hw8
    have H8 := Lib.hid (show HdS l A c rb mv w v8 N j j2 _ from ⟨HS.out, H4.out.lo, heap_below HB8 (heap_lt H4.out.blk) H4.out.blk, heap_below HB8 (heap_lt H4.out.rd) H4.out.rd, H4.out.le, only_trans H4.out.gr (only_below HB8)⟩)
    have c10 := cell_of_heap H8.out.blk 10 rfl
    have z10 := frozen_at H8.out.blk 10
    have H9 := Lib.hid (H8.out.put (o := 10) (v := .slice (some ⟨w4.heap.size + 1, 0, none⟩) 2 2) (cs' := #[.int .i8 6, .string ⟨#[]⟩, .string ⟨#[]⟩, .int .i64 0, .int .i8 0, .slice none 0 0, .int .i8 0, .slice none 0 0, .int .i64 0, .int .i64 (posAt l j), .slice (some ⟨w4.heap.size + 1, 0, none⟩) 2 2]) (heap_put H8.out.blk))
    have HNW := heap_lt H4.out.blk
    have HF9 := Lib.hid (HF.out.keep (KeepFrom.grown H9.out.gr hr0))
    have HF9' := Lib.hid ((HF'.out.keep ((KeepFrom.below HB8).trans (keep_set (o := 10) (v := .slice (some ⟨w4.heap.size + 1, 0, none⟩) 2 2) (Nat.lt_succ_self N)))).low (show n0 ≤ N + 1 by have := H4.out.lo; omega))
    have HTA := Lib.hid (nodeJ (n0 := n0) (H := hd0 6 (posAt l j)) (C := h.cells p ++ h'.cells p') (kt := .node h t (.node h' t' .nil)) (k := 2) (Nat.le_trans hn0 H9.out.lo) H9.out.blk (by rw [Below.heap_setCell _ _ _ _ (by show w4.heap.size + 1 ≠ N; omega)]; exact HZ8) (by have := H4.out.lo; omega) (fun u hu => fitG (by show (-128 : Int) ≤ 6; decide) (by show (6 : Int) ≤ 127; decide) rfl (by decide) (Nat.zero_le _) (Nat.zero_le _) (ty_zero u) (ty_zero u)) ⟨p, _, rfl, HF9.out, p', _, (List.append_nil _).symm, HF9'.out, rfl⟩ rfl)
    clear HB8 HZ8 H8 HF9 HF9' HF HF' HX HXX H4 CK
    have hr3 := H9.out.ne
    cases g with
    | wordNo hw2 =>
      have CB := Lib.hid (want_none l A c rb j2 mv _ _ H9.out.st y41 hw2)
      go_wp2_with fail
      refine CB.out.mono ?_
      intro e w99 hP
      have HP := Lib.hid (TPost.from hP H9.out.gr)
      obtain ⟨g, rfl, -⟩ := hP
      exact ⟨rfl, HP.out⟩
    | word hw2 g2 =>
      cases g2
      have CB := Lib.hid (want_some l A c rb j2 mv _ _ H9.out.st y41 hw2)
      go_wp2_with fail
      refine CB.out.mono ?_
      rintro e w10 ⟨rfl, hP⟩
      have HT10 := Lib.hid (HTA.out.grown hP.2 hr0)
      have HP10 := Lib.hid (PGo.from hP H9.out.gr)
      clear hP
      go_wp2_with fail
      go_ret
      exact ⟨N, rfl, HT10.out, HP10.out⟩

set_option maxHeartbeats 4000000 in
set_option maxRecDepth 100000 in
theorem joined_op (l : List W4) (A : Option Addr) (c rb j n0 : Nat) (mv : Value) (s lf q : Int) (w : World) (hS : PdS l A c rb mv w j) (hi : j < l.length) (hr0 : rb < n0) (hn0 : n0 ≤ w.heap.size) (X : Nat) (h : Hd) (t : Tm) (hTX : TAt n0 w X h t) (q' : Nat) (hqq : q = (q' : Int)) (hN : Needs l A c rb mv j) (r : Tt.Rs) (hT : T l (.seq [.pt q'] (j + 1)) r) :
    Calls Tryz.prog 137 #[.pointer (some ⟨rb, 0, none⟩), .pointer (some ⟨X, 0, none⟩), .agg #[.int .i8 15, .int .i64 s, .int .i64 lf, .int .i64 q]] w (JPost l A c rb mv n0 w j 15 h t r) := by
  subst hqq
  obtain ⟨hXn, p, hX, hF⟩ := hTX
  have hbx : Below w.heap.size w (w.alloc (.cells #[.int .i8 15, .int .i64 s, .int .i64 lf, .int .i64 q'] 154)) := (Below.refl _ _).alloc (Nat.le_refl _) _
  have HO1 := Lib.hid (heap_new w (.cells #[.int .i8 15, .int .i64 s, .int .i64 lf, .int .i64 q'] 154))
  have HB1 := Lib.hid hbx
  have CW := Lib.hid (fun (W : World) (hb : Below w.heap.size w W) => word_pt l A c rb j mv W (hS.below hb))
  have CH := Lib.hid (fun (W : World) (hb : Below w.heap.size w W) => head_pt l A c rb j mv 15 W (hS.below hb) hi)
  have hsm : (textAt l j).size ≤ 281474976710656 := by
    rw [← text_at hi]
    unfold wAt
    rw [List.getElem?_eq_getElem hi]
    exact hS.small _ (List.getElem_mem hi)
  rw [pos_at hi] at CH
  have htx := text_at hi
  have HS := Lib.hid hS
  have HN := Lib.hid hN
  have HX := Lib.hid hX
  have HF := Lib.hid hF
  have hrl := heap_lt hS.rdr
  generalize hyw : wAt l j = y at *
  obtain ⟨yk, yt, yn, yp⟩ := y
  unfold wV at CW
  simp only at CW htx
  subst htx
  have e1 := fld1
  clear hS hN hX hF hbx hyw
  go_enter Tryz.func137, Tryz.ntmps137
  go_wp2_with fail
  refine (CW.out _ HB1.out).mono ?_
  rintro e w2 ⟨rfl, hb⟩
  have HB2 := Lib.hid (HB1.out.trans (hb.mono HB1.out.size))
  have HO2 := Lib.hid (heap_below hb (heap_lt HO1.out) HO1.out)
  obtain ⟨o0, o1, o2, o3, -, -, -, -, hol⟩ := own4 HO2.out
  have hle := HB1.out.size
  clear hb CW HO1 HB1
  go_wp2_with fail
  refine (CH.out _ HB2.out).mono ?_
  rintro e w3 ⟨N, rfl, hN1, hN2, hXn3, hP⟩
  have H3 := Lib.hid (show HdS l A c rb mv w w3 N j (j + 1) _ from ⟨HS.out, Nat.le_trans HB2.out.size hN1, hXn3, hP.1, hi, only_trans (only_below HB2.out) hP.2⟩)
  have HO3 := Lib.hid ((hP.2.block _ hol (fun e => by injection e with e; omega)).trans HO2.out)
  clear hXn3 hP hN1 hN2 CH HO2 o0 o1 o2 o3 hol
  obtain ⟨o0, o1, o2, o3, -, -, -, -, hol⟩ := own4 HO3.out
  have CC := Lib.hid (fun (W : World) => clone_any (textAt l j) hsm W)
  have HSM := Lib.hid hsm
  clear hsm
  go_wp2_with fail
  refine (CC.out _).mono ?_
  rintro e w4 ⟨rfl, hb⟩
  have H4 := Lib.hid (H3.out.below hb)
  have HO4 := Lib.hid (heap_below hb hol HO3.out)
  clear hb CC H3 HO3 o0 o1 o2 o3 hol
  obtain ⟨o0, o1, o2, o3, -, -, -, -, hol⟩ := own4 HO4.out
  have c1 := cell_of_heap H4.out.blk 1 rfl
  have z1 := frozen_at H4.out.blk 1
  have H5 := Lib.hid (H4.out.put (o := 1) (v := .string (textAt l j)) (cs' := #[.int .i8 15, .string (textAt l j), .string ⟨#[]⟩, .int .i64 0, .int .i8 0, .slice none 0 0, .int .i8 0, .slice none 0 0, .int .i64 0, .int .i64 (posAt l j), .slice none 0 0]) (heap_put H4.out.blk))
  have HO5 := Lib.hid (show (w4.setCell ⟨N, 1, none⟩ (.string (textAt l j))).heap[w.heap.size]? = some (.cells #[.int .i8 15, .int .i64 s, .int .i64 lf, .int .i64 q'] 154) from by rw [Below.heap_setCell _ _ _ _ (by show w.heap.size ≠ N; intro e; have h1 := H4.out.blk; rw [← e, HO4.out] at h1; cases h1)]; exact HO4.out)
  generalize hw5 : w4.setCell ⟨N, 1, none⟩ (.string (textAt l j)) = w5 at H5 HO5
  cases hT with
  | @ptNo _ _ E a s _ f =>
    have CP := Lib.hid (HN.out.part q' (j + 1) (Nat.lt_succ_self j) hi w5 _ H5.out.st f)
    clear f
    go_upto_region 9 with fail
    clear hw5 c1 z1 o0 o1 o2 o3 hol
    obtain ⟨o0, o1, o2, o3, -, -, -, -, hol⟩ := own4 HO5.out
    go_wp2_with fail
    refine CP.out.mono ?_
    intro e w99 hP
    have HP := Lib.hid (TPost.from hP H5.out.gr)
    obtain ⟨g, rfl, -⟩ := hP
    exact ⟨rfl, HP.out⟩
  | @pt _ _ j2 h' t' _ r' f g =>
    cases g
    have hj := (T.goes f hi).2
    have CP := Lib.hid (HN.out.part q' (j + 1) (Nat.lt_succ_self j) hi w5 _ H5.out.st f)
    clear f
    go_upto_region 9 with fail
    clear hw5 c1 z1 o0 o1 o2 o3 hol
    obtain ⟨o0, o1, o2, o3, -, -, -, -, hol⟩ := own4 HO5.out
    go_wp2_with fail
    refine CP.out.mono ?_
    rintro e w6 ⟨Y, rfl, hY, hP⟩
    have H6 := Lib.hid (H5.out.go hP hj)
    have TY := Lib.hid (hY.low (n0 := N + 1) (heap_lt H5.out.blk))
    clear hY hP CP H5 H4 HO5 HO4 o0 o1 o2 o3 hol
    have HXX := Lib.hid ((H6.out.gr.block X (heap_lt HX.out) (fun e => by injection e with e; omega)).trans HX.out)
    obtain ⟨hYn, p', hY, hF'⟩ := TY.out
    have CK := Lib.hid (kids2 (w6.alloc (.cells #[.pointer (some ⟨X, 0, none⟩), .pointer (some ⟨Y, 0, none⟩)] 101)) w6.heap.size X Y h h' p p' (heap_new _ _) (heap_old HXX.out _) (heap_old hY _))
    have HF' := Lib.hid hF'
    clear hY hF' TY
    go_wp2_with fail
    refine CK.out.mono ?_
    rintro e v8 ⟨rfl, hw5⟩
    have hw8 : (w6.alloc (.cells #[.pointer (some ⟨X, 0, none⟩), .pointer (some ⟨Y, 0, none⟩)] 101)).alloc (.cells (h.cells p ++ h'.cells p').toArray 30) = v8 := hw5
    clear hw5
    have HB8 : Below w6.heap.size w6 v8 := by rw [← hw8]; exact (((Below.refl _ _).alloc (Nat.le_refl _) _).alloc (by simp) _)
    have HZ8 : v8.heap[w6.heap.size + 1]? = some (.cells (h.cells p ++ h'.cells p').toArray 30 (0, 0)) := by
      rw [← hw8]
      have := heap_new (w6.alloc (.cells #[.pointer (some ⟨X, 0, none⟩), .pointer (some ⟨Y, 0, none⟩)] 101)) (.cells (h.cells p ++ h'.cells p').toArray 30)
      simpa using this
    clear hw8
    have H8 := Lib.hid (show HdS l A c rb mv w v8 N j j2 _ from ⟨HS.out, H6.out.lo, heap_below HB8 (heap_lt H6.out.blk) H6.out.blk, heap_below HB8 (heap_lt H6.out.rd) H6.out.rd, H6.out.le, only_trans H6.out.gr (only_below HB8)⟩)
    have c10 := cell_of_heap H8.out.blk 10 rfl
    have z10 := frozen_at H8.out.blk 10
    have H9 := Lib.hid (H8.out.put (o := 10) (v := .slice (some ⟨w6.heap.size + 1, 0, none⟩) 2 2) (cs' := #[.int .i8 15, .string (textAt l j), .string ⟨#[]⟩, .int .i64 0, .int .i8 0, .slice none 0 0, .int .i8 0, .slice none 0 0, .int .i64 0, .int .i64 (posAt l j), .slice (some ⟨w6.heap.size + 1, 0, none⟩) 2 2]) (heap_put H8.out.blk))
    have HNW := heap_lt H6.out.blk
    have HF9 := Lib.hid (HF.out.keep (KeepFrom.grown H9.out.gr hr0))
    have HF9' := Lib.hid ((HF'.out.keep ((KeepFrom.below HB8).trans (keep_set (o := 10) (v := .slice (some ⟨w6.heap.size + 1, 0, none⟩) 2 2) (Nat.lt_succ_self N)))).low (show n0 ≤ N + 1 by have := H6.out.lo; omega))
    have HTA := Lib.hid (nodeJ (n0 := n0) (H := { hd0 15 (posAt l j) with name := textAt l j }) (C := h.cells p ++ h'.cells p') (kt := .node h t (.node h' t' .nil)) (k := 2) (Nat.le_trans hn0 H9.out.lo) H9.out.blk (by rw [Below.heap_setCell _ _ _ _ (by show w6.heap.size + 1 ≠ N; omega)]; exact HZ8) (by have := H6.out.lo; omega) (fun u hu => fitG (by show (-128 : Int) ≤ 15; decide) (by show (15 : Int) ≤ 127; decide) rfl (by decide) HSM.out (Nat.zero_le _) (ty_zero u) (ty_zero u)) ⟨p, _, rfl, HF9.out, p', _, (List.append_nil _).symm, HF9'.out, rfl⟩ rfl)
    clear HB8 HZ8 H8 HF9 HF9' HF HF' HX HXX H6 CK
    go_wp2_with fail
    go_ret
    exact ⟨N, rfl, HTA.out, H9.out.rd, H9.out.gr⟩

set_option maxHeartbeats 4000000 in
set_option maxRecDepth 100000 in
theorem joined_is (l : List W4) (A : Option Addr) (c rb j n0 : Nat) (mv : Value) (s lf q : Int) (w : World) (hS : PdS l A c rb mv w j) (hi : j < l.length) (hr0 : rb < n0) (hn0 : n0 ≤ w.heap.size) (X : Nat) (h : Hd) (t : Tm) (hTX : TAt n0 w X h t) (hN : Needs l A c rb mv j) (r : Tt.Rs) (hT : T l (.seq [.ty] (j + 1)) r) :
    Calls Tryz.prog 137 #[.pointer (some ⟨rb, 0, none⟩), .pointer (some ⟨X, 0, none⟩), .agg #[.int .i8 16, .int .i64 s, .int .i64 lf, .int .i64 q]] w (JPost l A c rb mv n0 w j 16 h t r) := by
  obtain ⟨hXn, p, hX, hF⟩ := hTX
  have hbx : Below w.heap.size w (w.alloc (.cells #[.int .i8 16, .int .i64 s, .int .i64 lf, .int .i64 q] 154)) := (Below.refl _ _).alloc (Nat.le_refl _) _
  have HO1 := Lib.hid (heap_new w (.cells #[.int .i8 16, .int .i64 s, .int .i64 lf, .int .i64 q] 154))
  have HB1 := Lib.hid hbx
  have CW := Lib.hid (fun (W : World) (hb : Below w.heap.size w W) => word_pt l A c rb j mv W (hS.below hb))
  have CH := Lib.hid (fun (W : World) (hb : Below w.heap.size w W) => head_pt l A c rb j mv 16 W (hS.below hb) hi)
  have hsm : (textAt l j).size ≤ 281474976710656 := by
    rw [← text_at hi]
    unfold wAt
    rw [List.getElem?_eq_getElem hi]
    exact hS.small _ (List.getElem_mem hi)
  rw [pos_at hi] at CH
  have htx := text_at hi
  have HS := Lib.hid hS
  have HN := Lib.hid hN
  have HX := Lib.hid hX
  have HF := Lib.hid hF
  have hrl := heap_lt hS.rdr
  generalize hyw : wAt l j = y at *
  obtain ⟨yk, yt, yn, yp⟩ := y
  unfold wV at CW
  simp only at CW htx
  subst htx
  have e1 := fld1
  clear hS hN hX hF hbx hyw
  go_enter Tryz.func137, Tryz.ntmps137
  go_wp2_with fail
  refine (CW.out _ HB1.out).mono ?_
  rintro e w2 ⟨rfl, hb⟩
  have HB2 := Lib.hid (HB1.out.trans (hb.mono HB1.out.size))
  have HO2 := Lib.hid (heap_below hb (heap_lt HO1.out) HO1.out)
  obtain ⟨o0, o1, o2, o3, -, -, -, -, hol⟩ := own4 HO2.out
  have hle := HB1.out.size
  clear hb CW HO1 HB1
  go_wp2_with fail
  refine (CH.out _ HB2.out).mono ?_
  rintro e w3 ⟨N, rfl, hN1, hN2, hXn3, hP⟩
  have H3 := Lib.hid (show HdS l A c rb mv w w3 N j (j + 1) _ from ⟨HS.out, Nat.le_trans HB2.out.size hN1, hXn3, hP.1, hi, only_trans (only_below HB2.out) hP.2⟩)
  have HO3 := Lib.hid ((hP.2.block _ hol (fun e => by injection e with e; omega)).trans HO2.out)
  clear hXn3 hP hN1 hN2 CH HO2 o0 o1 o2 o3 hol
  obtain ⟨o0, o1, o2, o3, -, -, -, -, hol⟩ := own4 HO3.out
  have HXX := Lib.hid ((H3.out.gr.block X (heap_lt HX.out) (fun e => by injection e with e; omega)).trans HX.out)
  have CK := Lib.hid (kids1 (w3.alloc (.cells #[.pointer (some ⟨X, 0, none⟩)] 101)) w3.heap.size X h p (heap_new _ _) (heap_old HXX.out _))
  go_wp2_with fail
  refine CK.out.mono ?_
  rintro e v8 ⟨rfl, hw5⟩
  have hw8 : (w3.alloc (.cells #[.pointer (some ⟨X, 0, none⟩)] 101)).alloc (.cells (h.cells p).toArray 30) = v8 := hw5
  clear hw5
  have HB8 : Below w3.heap.size w3 v8 := by rw [← hw8]; exact (((Below.refl _ _).alloc (Nat.le_refl _) _).alloc (by simp) _)
  have HZ8 : v8.heap[w3.heap.size + 1]? = some (.cells (h.cells p).toArray 30 (0, 0)) := by
    rw [← hw8]
    have := heap_new (w3.alloc (.cells #[.pointer (some ⟨X, 0, none⟩)] 101)) (.cells (h.cells p).toArray 30)
    simpa using this
  clear hw8 CK HXX HX o0 o1 o2 o3 hol HO3
  have H8 := Lib.hid (H3.out.below HB8)
  have hNW := heap_lt H3.out.blk
  have hNLO := H3.out.lo
  have hv8 := heap_lt HZ8
  have HZ := Lib.hid HZ8
  clear HB8 HZ8
  cases hT with
  | @tyNo _ j2 k2 f2 E a s _ hO hE =>
    have CB := Lib.hid (typed_no l A c rb (j + 1) mv v8 H8.out.st hO hE)
    go_wp2_with fail
    refine CB.out.mono ?_
    intro e w99 hP
    have HP := Lib.hid (hP.from H8.out.gr)
    obtain ⟨g, rfl, -⟩ := hP
    exact ⟨rfl, HP.out⟩
  | @ty _ j2 a f _ _ _ r1 hO g =>
    cases g
    have CB := Lib.hid (typed_yes l A c rb (j + 1) mv v8 H8.out.st hO)
    have hjl : j2 ≤ l.length := (T.goes (T.ty hO (T.nil (l := l) (i := j2))) hi).2
    clear hO
    go_wp2_with fail
    refine CB.out.mono ?_
    rintro e w9 ⟨G, m, cg, rfl, hFT, hP⟩
    have H9 := Lib.hid (H8.out.go hP hjl)
    have HZ9 := Lib.hid ((hP.2.block (w3.heap.size + 1) hv8 (fun e => by injection e with e; omega)).trans HZ.out)
    have HFT := Lib.hid (hFT.low (n0 := N + 1) (by omega))
    clear hP hFT CB H8
    have c10 := cell_of_heap H9.out.blk 10 rfl
    have z10 := frozen_at H9.out.blk 10
    have c4 := cell_of_heap H9.out.blk 4 rfl
    have z4 := frozen_at H9.out.blk 4
    have c5 := cell_of_heap H9.out.blk 5 rfl
    have z5 := frozen_at H9.out.blk 5
    have P1 := Lib.hid (H9.out.put (o := 10) (v := .slice (some ⟨w3.heap.size + 1, 0, none⟩) 1 1) (cs' := #[.int .i8 16, .string ⟨#[]⟩, .string ⟨#[]⟩, .int .i64 0, .int .i8 0, .slice none 0 0, .int .i8 0, .slice none 0 0, .int .i64 0, .int .i64 (posAt l j), .slice (some ⟨w3.heap.size + 1, 0, none⟩) 1 1]) (heap_put H9.out.blk))
    have P2 := Lib.hid (P1.out.put (o := 4) (v := .int .i8 a) (cs' := #[.int .i8 16, .string ⟨#[]⟩, .string ⟨#[]⟩, .int .i64 0, .int .i8 a, .slice none 0 0, .int .i8 0, .slice none 0 0, .int .i64 0, .int .i64 (posAt l j), .slice (some ⟨w3.heap.size + 1, 0, none⟩) 1 1]) (heap_put P1.out.blk))
    have P3 := Lib.hid (P2.out.put (o := 5) (v := .slice G m cg) (cs' := #[.int .i8 16, .string ⟨#[]⟩, .string ⟨#[]⟩, .int .i64 0, .int .i8 a, .slice G m cg, .int .i8 0, .slice none 0 0, .int .i64 0, .int .i64 (posAt l j), .slice (some ⟨w3.heap.size + 1, 0, none⟩) 1 1]) (heap_put P2.out.blk))
    have hK : KeepFrom (N + 1) w9 (((w9.setCell ⟨N, 10, none⟩ (.slice (some ⟨w3.heap.size + 1, 0, none⟩) 1 1)).setCell ⟨N, 4, none⟩ (.int .i8 a)).setCell ⟨N, 5, none⟩ (.slice G m cg)) := ((keep_set (Nat.lt_succ_self N)).trans (keep_set (Nat.lt_succ_self N))).trans (keep_set (Nat.lt_succ_self N))
    have HT2 := Lib.hid (show Far (N + 1) (((w9.setCell ⟨N, 10, none⟩ (.slice (some ⟨w3.heap.size + 1, 0, none⟩) 1 1)).setCell ⟨N, 4, none⟩ (.int .i8 a)).setCell ⟨N, 5, none⟩ (.slice G m cg)) a f G m cg from HFT.out.keep hK)
    have HTA := Lib.hid (nodeJ (n0 := n0) (H := { hd0 16 (posAt l j) with tk := a, tkids := f }) (C := h.cells p) (kt := .node h t .nil) (k := 1) (Nat.le_trans hn0 P3.out.lo) P3.out.blk (by rw [Below.heap_setCell _ _ _ _ (by show w3.heap.size + 1 ≠ N; omega), Below.heap_setCell _ _ _ _ (by show w3.heap.size + 1 ≠ N; omega), Below.heap_setCell _ _ _ _ (by show w3.heap.size + 1 ≠ N; omega)]; exact HZ9.out) (by omega) (fun u hu => fitG (by show (-128 : Int) ≤ 16; decide) (by show (16 : Int) ≤ 127; decide) rfl (by decide) (Nat.zero_le _) (Nat.zero_le _) (HT2.out u (hu.low (by omega))) (ty_zero u)) ⟨p, _, (List.append_nil _).symm, HF.out.keep (KeepFrom.grown P3.out.gr hr0), rfl⟩ rfl)
    clear P1 P2 HT2 hK HFT HZ9 HZ H9 HF
    go_wp2_with fail
    go_ret
    exact ⟨N, rfl, HTA.out, P3.out.rd, P3.out.gr⟩
end Go.Proofs.YtocehfklacjgbaaGreatDoor
namespace Go.Proofs.YtocehfklacjgbaaGreatDoor
open Go.RowKit Rd Tt

theorem opr_tab {l : List W4} {j : Nat} (hok : ∀ x ∈ l, OkWord x) : (opr l j = none → opTab (fx (wAt l j)).toList = none) ∧ ∀ k s lf its, opr l j = some (k, s, lf, its) →
    ∃ q : Nat, opTab (fx (wAt l j)).toList = some (k, (s : Int), (lf : Int), (q : Int)) ∧ ((k = 6 ∧ its = [.tm, sg 41]) ∨ (k = 15 ∧ its = [.pt q]) ∨ (k = 16 ∧ its = [.ty])) := by
  unfold opr
  rw [← says_lit y40 hok, ← says_lit y42 hok, ← says_lit y47 hok, ← says_lit y43 hok, ← says_lit y45 hok, ← says_lit y60 hok, ← says_lit y61 hok, ← says_lit y58 hok]
  generalize (fx (wAt l j)).toList = x
  by_cases h1 : x = [40]
  · subst h1; exact ⟨fun h => (nomatch h), fun k s lf its h => by cases h; exact ⟨0, rfl, .inl ⟨rfl, rfl⟩⟩⟩
  by_cases h2 : x = [42]
  · subst h2; exact ⟨fun h => (nomatch h), fun k s lf its h => by cases h; exact ⟨4, rfl, .inr (.inl ⟨rfl, rfl⟩)⟩⟩
  by_cases h3 : x = [47]
  · subst h3; exact ⟨fun h => (nomatch h), fun k s lf its h => by cases h; exact ⟨4, rfl, .inr (.inl ⟨rfl, rfl⟩)⟩⟩
  by_cases h4 : x = [43]
  · subst h4; exact ⟨fun h => (nomatch h), fun k s lf its h => by cases h; exact ⟨3, rfl, .inr (.inl ⟨rfl, rfl⟩)⟩⟩
  by_cases h5 : x = [45]
  · subst h5; exact ⟨fun h => (nomatch h), fun k s lf its h => by cases h; exact ⟨3, rfl, .inr (.inl ⟨rfl, rfl⟩)⟩⟩
  by_cases h6 : x = [60]
  · subst h6; exact ⟨fun h => (nomatch h), fun k s lf its h => by cases h; exact ⟨2, rfl, .inr (.inl ⟨rfl, rfl⟩)⟩⟩
  by_cases h7 : x = [61]
  · subst h7; exact ⟨fun h => (nomatch h), fun k s lf its h => by cases h; exact ⟨2, rfl, .inr (.inl ⟨rfl, rfl⟩)⟩⟩
  by_cases h8 : x = [58]
  · subst h8; exact ⟨fun h => (nomatch h), fun k s lf its h => by cases h; exact ⟨0, rfl, .inr (.inr ⟨rfl, rfl⟩)⟩⟩
  · refine ⟨fun _ => by unfold opTab; simp [h1, h2, h3, h4, h5, h6, h7, h8], fun k s lf its h => ?_⟩
    simp [h1, h2, h3, h4, h5, h6, h7, h8] at h
theorem Needs.mono {l : List W4} {A : Option Addr} {c rb : Nat} {mv : Value} {i j : Nat} (h : Needs l A c rb mv i) (hij : i ≤ j) : Needs l A c rb mv j :=
  ⟨fun j' h1 h2 => h.term j' (by omega) h2, fun q j' h1 h2 => h.part q j' (by omega) h2⟩
theorem joined_any (l : List W4) (A : Option Addr) (c rb j n0 : Nat) (mv : Value) (k s lf : Int) (q : Nat) (its : List It) (w : World) (hc : (k = 6 ∧ its = [.tm, sg 41]) ∨ (k = 15 ∧ its = [.pt q]) ∨ (k = 16 ∧ its = [.ty])) (hS : PdS l A c rb mv w j) (hi : j < l.length) (hr0 : rb < n0) (hn0 : n0 ≤ w.heap.size) (X : Nat) (h : Hd) (t : Tm) (hTX : TAt n0 w X h t) (hN : Needs l A c rb mv j) (r : Tt.Rs) (hT : T l (.seq its (j + 1)) r) :
    Calls Tryz.prog 137 #[.pointer (some ⟨rb, 0, none⟩), .pointer (some ⟨X, 0, none⟩), .agg #[.int .i8 k, .int .i64 s, .int .i64 lf, .int .i64 q]] w (JPost l A c rb mv n0 w j k h t r) := by
  rcases hc with ⟨rfl, rfl⟩ | ⟨rfl, rfl⟩ | ⟨rfl, rfl⟩
  · exact joined_app l A c rb j n0 mv s lf q w hS hi hr0 hn0 X h t hTX hN r hT
  · exact joined_op l A c rb j n0 mv s lf q w hS hi hr0 hn0 X h t hTX q rfl hN r hT
  · exact joined_is l A c rb j n0 mv s lf q w hS hi hr0 hn0 X h t hTX hN r hT

theorem set_fourC {w : World} {X : Nat} {a b c d : Value} {t : TypeId} (h : w.heap[X]? = some (.cells #[a, b, c, d] t (0, 0))) (p q r s : Value) : ((((w.setCell ⟨X, 0, none⟩ p).setCell ⟨X, 1, none⟩ q).setCell ⟨X, 2, none⟩ r).setCell ⟨X, 3, none⟩ s).heap[X]? = some (.cells #[p, q, r, s] t (0, 0)) := by
  simp [World.setCell, Array.getElem?_modify, h]
theorem PGo.later {l : List W4} {A : Option Addr} {c rb j : Nat} {mv : Value} {w u u' : World} (h : PGo l A c rb mv w j u) (hb : Below u.heap.size u u') : PGo l A c rb mv w j u' := ⟨heap_below hb (heap_lt h.1) h.1, only_trans h.2 (only_below hb)⟩
/-- the loop over operators -/
structure LSt (l : List W4) (A : Option Addr) (c rb : Nat) (mv : Value) (w : World) (q i : Nat) (r : Tt.Rs) (X st j : Nat) (h : Hd) (t : Tm) (wr : World) : Prop where
  run : T l (.lp q h t st j) r
  gt : i ≤ j
  le : j ≤ l.length
  tm : TAt w.heap.size wr X h t
  go : PGo l A c rb mv w j wr

set_option maxHeartbeats 8000000 in
set_option maxRecDepth 100000 in
theorem part_any (l : List W4) (A : Option Addr) (c rb i : Nat) (mv : Value) (q : Nat) (w : World) (hS : PdS l A c rb mv w i) (hN : Needs l A c rb mv i) (r : Tt.Rs) (hT : T l (.part q i) r) :
    Calls Tryz.prog 92 #[.pointer (some ⟨rb, 0, none⟩), .int .i64 q] w (TPost l A c rb mv w r) := by
  have HS := Lib.hid hS
  have HN := Lib.hid hN
  have hrl := heap_lt hS.rdr
  cases hT with
  | @partNo _ _ E a s f =>
    have CO := Lib.hid (operand_any l A c rb i mv w hS hN _ f)
    clear hS hN f
    go_enter Tryz.func92, Tryz.ntmps92
    go_wp2_with fail
    refine CO.out.mono ?_
    intro e w2 hP
    have HP := Lib.hid (show PBad rb w E a s e w2 from hP)
    obtain ⟨g, rfl, -⟩ := hP
    exact ⟨rfl, HP.out⟩
  | @part _ _ j0 h0 t0 _ f g =>
    have hj0 := (T.goes f hS.le)
    simp only [Tt.Rs.within, Tt.Tg.start, Tt.Tg.least] at hj0
    have HJ0 := Lib.hid hj0
    have CO := Lib.hid (operand_any l A c rb i mv w hS hN _ f)
    have HG := Lib.hid g
    clear hS hN f g hj0
    generalize (formO l i).2.2.2 = st0 at *
    go_enter Tryz.func92, Tryz.ntmps92
    go_wp2_with fail
    refine CO.out.mono ?_
    rintro e w2 ⟨X0, rfl, hX0, hP0⟩
    have HL0 := Lib.hid (show LSt l A c rb mv w q i r X0 st0 j0 h0 t0 w2 from ⟨HG.out, by have := HJ0.out.1; omega, HJ0.out.2, hX0, hP0⟩)
    clear hX0 hP0 CO HG HJ0
    go_wp2_with fail
    go_loopg [5, 6] (l.length - j0) (fun g v5 v6 wr => ∃ X st j h t, g = l.length - j ∧ v5 = .pointer (some ⟨X, 0, none⟩) ∧ v6 = .int .i64 (st : Nat) ∧ Hid (LSt l A c rb mv w q i r X st j h t wr))
    case atStart => exact ⟨X0, st0, j0, h0, t0, rfl, rfl, rfl, HL0⟩
    case round =>
      obtain ⟨X, st, j, h, t, hg, rfl, rfl, HW⟩ := hrel
      have HSJ := Lib.hid (HS.out.step HW.out.go.2 HW.out.go.1 HW.out.le)
      have CW := Lib.hid (fun (W : World) (hb : Below wr.heap.size wr W) => word_pt l A c rb j mv W (HSJ.out.below hb))
      have hwk := wAt_ok HSJ.out.okw (i := j)
      have CF := Lib.hid (fun (W : World) => fixed_pt (wAt l j) W hwk.1 hwk.2)
      have htab := opr_tab (j := j) HSJ.out.okw
      have hsz : (fx (wAt l j)).size ≤ maxLen := by
        unfold fx
        split
        · unfold wAt
          cases hx : l[j]? with
          | none => exact Nat.zero_le _
          | some x => show x.text.size ≤ maxLen; have := HSJ.out.small x (List.mem_of_getElem? hx); unfold maxLen; omega
        · exact Nat.zero_le _
      have HLK := Lib.hid (fun (W : World) (hb : Below wr.heap.size wr W) => (show (Instr.lookup 97 mv (.string (fx (wAt l j))) true).run Tryz.prog W = .ok (.tuple #[match opTab (fx (wAt l j)).toList with | some (a, b, c, d) => opV a b c d | none => opV 0 0 0 0, .bool (opTab (fx (wAt l j)).toList).isSome]) W from op_look (HSJ.out.below hb).ops (fx (wAt l j)) hsz 0))
      have hrn := HW.out.run
      have HG := Lib.hid hg
      clear hg hwk hsz
      generalize fx (wAt l j) = s at *
      generalize wAt l j = x at *
      obtain ⟨yk, yt, yn, yp⟩ := x
      unfold wV at CW CF
      simp only at CW CF
      cases hrn with
      | stop estop =>
        cases hop : opr l j with
        | none =>
          have ht := htab.1 hop
          rw [ht] at HLK
          simp only [Option.isSome_none] at HLK
          clear htab estop ht hop
          unfold opV at HLK
          have E1 : Below wr.heap.size wr wr.drew := (Below.refl _ _).drew
          have E1a : Below wr.heap.size wr (wr.alloc (.cells #[.int .i8 0, .int .i64 0, .int .i64 0, .int .i64 0] 154)).drew := ((Below.refl _ wr).alloc (Nat.le_refl _) (.cells #[.int .i8 0, .int .i64 0, .int .i64 0, .int .i64 0] 154)).drew
          obtain ⟨r0, r1, r2, -, -, -, hrl2⟩ := own3' HSJ.out.rdr
          go_wp2_with fail
          go_region_law (first
            | (go_simp; go_at_call 86; (first | (with_reducible refine (CW.out _ E1).mono ?_) | (with_reducible refine (CW.out _ E1a).mono ?_)); rintro e u1 ⟨rfl, hb1⟩; have E2 : Below wr.heap.size wr u1 := (by first | exact E1.trans (hb1.mono E1.size) | exact E1a.trans (hb1.mono E1a.size)); (first | (have hx1 : u1.heap[wr.heap.size]? = some (.cells #[.int .i8 0, .int .i64 0, .int .i64 0, .int .i64 0] 154) := heap_below hb1 (show wr.heap.size < (wr.alloc (.cells #[.int .i8 0, .int .i64 0, .int .i64 0, .int .i64 0] 154)).drew.heap.size from heap_lt (heap_new wr (.cells #[.int .i8 0, .int .i64 0, .int .i64 0, .int .i64 0] 154))) (show (wr.alloc (.cells #[.int .i8 0, .int .i64 0, .int .i64 0, .int .i64 0] 154)).drew.heap[wr.heap.size]? = _ from heap_new wr (.cells #[.int .i8 0, .int .i64 0, .int .i64 0, .int .i64 0] 154))) | skip); have E2a : Below wr.heap.size wr (u1.alloc (.cells #[.int .i8 0, .int .i64 0, .int .i64 0, .int .i64 0] 154)) := E2.alloc E2.size _; obtain ⟨r0, r1, r2, -, -, -, hrl3⟩ := own3' (HSJ.out.below E2).rdr; clear E1 E1a hb1; go_wp2_with fail)
            | (go_simp; go_at_call 85; (with_reducible refine (CF.out _).mono ?_); rintro e u2 ⟨rfl, hb2⟩; have E3 : Below wr.heap.size wr u2 := (by first | exact E2.trans (hb2.mono E2.size) | exact E2a.trans (hb2.mono E2a.size)); (first | (have hx2 : u2.heap[wr.heap.size]? = some (.cells #[.int .i8 0, .int .i64 0, .int .i64 0, .int .i64 0] 154) := heap_below hb2 (heap_lt hx1) hx1; clear hx1; obtain ⟨x0, x1, x2, x3, y0, y1, y2, y3, hxl⟩ := own4 hx2) | (have hx3 : u2.heap[u1.heap.size]? = some (.cells #[.int .i8 0, .int .i64 0, .int .i64 0, .int .i64 0] 154) := heap_below hb2 (heap_lt (heap_new u1 (.cells #[.int .i8 0, .int .i64 0, .int .i64 0, .int .i64 0] 154))) (heap_new u1 (.cells #[.int .i8 0, .int .i64 0, .int .i64 0, .int .i64 0] 154)); have hle3 := E2.size; obtain ⟨x0, x1, x2, x3, y0, y1, y2, y3, hxl⟩ := own4 hx3) | skip); obtain ⟨r0, r1, r2, -, -, -, hrl4⟩ := own3' (HSJ.out.below E3).rdr; have hlk0 := HLK.out u2 E3; have hlk := HLK.out (u2.alloc (.cells #[.int .i8 0, .int .i64 0, .int .i64 0, .int .i64 0] 154)) (E3.alloc E3.size _); clear hb2 E2a; go_wp2_with fail))
          all_goals
            clear r0 r1 r2 hlk hlk0
            have hrl5 := Nat.lt_of_lt_of_le hrl2 E3.size
            first
            | have HOB := Lib.hid (set_fourC hx2 (.int .i8 0) (.int .i64 0) (.int .i64 0) (.int .i64 0))
              have HB3 := Lib.hid (((((E3.setCell (p := ⟨wr.heap.size, 0, none⟩) (Nat.le_refl _) (.int .i8 0)).setCell (p := ⟨wr.heap.size, 1, none⟩) (Nat.le_refl _) (.int .i64 0)).setCell (p := ⟨wr.heap.size, 2, none⟩) (Nat.le_refl _) (.int .i64 0)).setCell (p := ⟨wr.heap.size, 3, none⟩) (Nat.le_refl _) (.int .i64 0)))
              have hbl : wr.heap.size ≤ wr.heap.size := Nat.le_refl _
              clear hx2 x0 x1 x2 x3 y0 y1 y2 y3 hxl
              generalize ((((u2.setCell ⟨wr.heap.size, 0, none⟩ (.int .i8 0)).setCell ⟨wr.heap.size, 1, none⟩ (.int .i64 0)).setCell ⟨wr.heap.size, 2, none⟩ (.int .i64 0)).setCell ⟨wr.heap.size, 3, none⟩ (.int .i64 0)) = v3 at *
              obtain ⟨bx, hbx⟩ : ∃ bx, bx = wr.heap.size := ⟨_, rfl⟩
              rw [← hbx] at HOB ⊢
              replace hbl : wr.heap.size ≤ bx := by omega
              clear hbx
            | have HOB := Lib.hid (set_fourC hx3 (.int .i8 0) (.int .i64 0) (.int .i64 0) (.int .i64 0))
              have HB3 := Lib.hid (((((E3.setCell (p := ⟨u1.heap.size, 0, none⟩) hle3 (.int .i8 0)).setCell (p := ⟨u1.heap.size, 1, none⟩) hle3 (.int .i64 0)).setCell (p := ⟨u1.heap.size, 2, none⟩) hle3 (.int .i64 0)).setCell (p := ⟨u1.heap.size, 3, none⟩) hle3 (.int .i64 0)))
              have hbl := hle3
              clear hx3 x0 x1 x2 x3 y0 y1 y2 y3 hxl
              generalize ((((u2.setCell ⟨u1.heap.size, 0, none⟩ (.int .i8 0)).setCell ⟨u1.heap.size, 1, none⟩ (.int .i64 0)).setCell ⟨u1.heap.size, 2, none⟩ (.int .i64 0)).setCell ⟨u1.heap.size, 3, none⟩ (.int .i64 0)) = v3 at *
              generalize u1.heap.size = bx at *
            | have HOB := Lib.hid (heap_new u2 (.cells #[.int .i8 0, .int .i64 0, .int .i64 0, .int .i64 0] 154))
              have HB3 := Lib.hid (E3.alloc E3.size (.cells #[.int .i8 0, .int .i64 0, .int .i64 0, .int .i64 0] 154))
              have hbl := E3.size
              generalize u2.alloc (.cells #[.int .i8 0, .int .i64 0, .int .i64 0, .int .i64 0] 154) = v3 at *
              generalize u2.heap.size = bx at *
          all_goals
            obtain ⟨o0, o1, o2, o3, -, -, -, -, hol⟩ := own4 HOB.out
            go_wp2_with fail
            go_ret
            exact ⟨X, rfl, HW.out.tm.below HB3.out, HW.out.go.later HB3.out⟩
        | some y =>
          obtain ⟨k, st2, lf, its⟩ := y
          obtain ⟨q2, ht, -⟩ := htab.2 k st2 lf its hop
          rw [ht] at HLK
          simp only [Option.isSome_some] at HLK
          unfold opV at HLK
          have hes := estop k st2 lf its hop
          clear htab estop ht hop
          by_cases hd : st2 < q
          · have hd1 : ((st2 : Nat) : Int) < (q : Int) := by omega
            clear hes hd
            have E1 : Below wr.heap.size wr wr.drew := (Below.refl _ _).drew
            have E1a : Below wr.heap.size wr (wr.alloc (.cells #[.int .i8 0, .int .i64 0, .int .i64 0, .int .i64 0] 154)).drew := ((Below.refl _ wr).alloc (Nat.le_refl _) (.cells #[.int .i8 0, .int .i64 0, .int .i64 0, .int .i64 0] 154)).drew
            obtain ⟨r0, r1, r2, -, -, -, hrl2⟩ := own3' HSJ.out.rdr
            go_wp2_with fail
            go_region_law (first
              | (go_simp; go_at_call 86; (first | (with_reducible refine (CW.out _ E1).mono ?_) | (with_reducible refine (CW.out _ E1a).mono ?_)); rintro e u1 ⟨rfl, hb1⟩; have E2 : Below wr.heap.size wr u1 := (by first | exact E1.trans (hb1.mono E1.size) | exact E1a.trans (hb1.mono E1a.size)); (first | (have hx1 : u1.heap[wr.heap.size]? = some (.cells #[.int .i8 0, .int .i64 0, .int .i64 0, .int .i64 0] 154) := heap_below hb1 (show wr.heap.size < (wr.alloc (.cells #[.int .i8 0, .int .i64 0, .int .i64 0, .int .i64 0] 154)).drew.heap.size from heap_lt (heap_new wr (.cells #[.int .i8 0, .int .i64 0, .int .i64 0, .int .i64 0] 154))) (show (wr.alloc (.cells #[.int .i8 0, .int .i64 0, .int .i64 0, .int .i64 0] 154)).drew.heap[wr.heap.size]? = _ from heap_new wr (.cells #[.int .i8 0, .int .i64 0, .int .i64 0, .int .i64 0] 154))) | skip); have E2a : Below wr.heap.size wr (u1.alloc (.cells #[.int .i8 0, .int .i64 0, .int .i64 0, .int .i64 0] 154)) := E2.alloc E2.size _; obtain ⟨r0, r1, r2, -, -, -, hrl3⟩ := own3' (HSJ.out.below E2).rdr; clear E1 E1a hb1; go_wp2_with fail)
              | (go_simp; go_at_call 85; (with_reducible refine (CF.out _).mono ?_); rintro e u2 ⟨rfl, hb2⟩; have E3 : Below wr.heap.size wr u2 := (by first | exact E2.trans (hb2.mono E2.size) | exact E2a.trans (hb2.mono E2a.size)); (first | (have hx2 : u2.heap[wr.heap.size]? = some (.cells #[.int .i8 0, .int .i64 0, .int .i64 0, .int .i64 0] 154) := heap_below hb2 (heap_lt hx1) hx1; clear hx1; obtain ⟨x0, x1, x2, x3, y0, y1, y2, y3, hxl⟩ := own4 hx2) | (have hx3 : u2.heap[u1.heap.size]? = some (.cells #[.int .i8 0, .int .i64 0, .int .i64 0, .int .i64 0] 154) := heap_below hb2 (heap_lt (heap_new u1 (.cells #[.int .i8 0, .int .i64 0, .int .i64 0, .int .i64 0] 154))) (heap_new u1 (.cells #[.int .i8 0, .int .i64 0, .int .i64 0, .int .i64 0] 154)); have hle3 := E2.size; obtain ⟨x0, x1, x2, x3, y0, y1, y2, y3, hxl⟩ := own4 hx3) | skip); obtain ⟨r0, r1, r2, -, -, -, hrl4⟩ := own3' (HSJ.out.below E3).rdr; have hlk0 := HLK.out u2 E3; have hlk := HLK.out (u2.alloc (.cells #[.int .i8 0, .int .i64 0, .int .i64 0, .int .i64 0] 154)) (E3.alloc E3.size _); clear hb2 E2a; go_wp2_with fail))
            all_goals
              clear r0 r1 r2 hlk hlk0
              have hrl5 := Nat.lt_of_lt_of_le hrl2 E3.size
              first
              | have HOB := Lib.hid (set_fourC hx2 (.int .i8 k) (.int .i64 (st2 : Nat)) (.int .i64 (lf : Nat)) (.int .i64 (q2 : Nat)))
                have HB3 := Lib.hid (((((E3.setCell (p := ⟨wr.heap.size, 0, none⟩) (Nat.le_refl _) (.int .i8 k)).setCell (p := ⟨wr.heap.size, 1, none⟩) (Nat.le_refl _) (.int .i64 (st2 : Nat))).setCell (p := ⟨wr.heap.size, 2, none⟩) (Nat.le_refl _) (.int .i64 (lf : Nat))).setCell (p := ⟨wr.heap.size, 3, none⟩) (Nat.le_refl _) (.int .i64 (q2 : Nat))))
                have hbl : wr.heap.size ≤ wr.heap.size := Nat.le_refl _
                clear hx2 x0 x1 x2 x3 y0 y1 y2 y3 hxl
                generalize ((((u2.setCell ⟨wr.heap.size, 0, none⟩ (.int .i8 k)).setCell ⟨wr.heap.size, 1, none⟩ (.int .i64 (st2 : Nat))).setCell ⟨wr.heap.size, 2, none⟩ (.int .i64 (lf : Nat))).setCell ⟨wr.heap.size, 3, none⟩ (.int .i64 (q2 : Nat))) = v3 at *
                obtain ⟨bx, hbx⟩ : ∃ bx, bx = wr.heap.size := ⟨_, rfl⟩
                rw [← hbx] at HOB ⊢
                replace hbl : wr.heap.size ≤ bx := by omega
                clear hbx
              | have HOB := Lib.hid (set_fourC hx3 (.int .i8 k) (.int .i64 (st2 : Nat)) (.int .i64 (lf : Nat)) (.int .i64 (q2 : Nat)))
                have HB3 := Lib.hid (((((E3.setCell (p := ⟨u1.heap.size, 0, none⟩) hle3 (.int .i8 k)).setCell (p := ⟨u1.heap.size, 1, none⟩) hle3 (.int .i64 (st2 : Nat))).setCell (p := ⟨u1.heap.size, 2, none⟩) hle3 (.int .i64 (lf : Nat))).setCell (p := ⟨u1.heap.size, 3, none⟩) hle3 (.int .i64 (q2 : Nat))))
                have hbl := hle3
                clear hx3 x0 x1 x2 x3 y0 y1 y2 y3 hxl
                generalize ((((u2.setCell ⟨u1.heap.size, 0, none⟩ (.int .i8 k)).setCell ⟨u1.heap.size, 1, none⟩ (.int .i64 (st2 : Nat))).setCell ⟨u1.heap.size, 2, none⟩ (.int .i64 (lf : Nat))).setCell ⟨u1.heap.size, 3, none⟩ (.int .i64 (q2 : Nat))) = v3 at *
                generalize u1.heap.size = bx at *
              | have HOB := Lib.hid (heap_new u2 (.cells #[.int .i8 k, .int .i64 (st2 : Nat), .int .i64 (lf : Nat), .int .i64 (q2 : Nat)] 154))
                have HB3 := Lib.hid (E3.alloc E3.size (.cells #[.int .i8 k, .int .i64 (st2 : Nat), .int .i64 (lf : Nat), .int .i64 (q2 : Nat)] 154))
                have hbl := E3.size
                generalize u2.alloc (.cells #[.int .i8 k, .int .i64 (st2 : Nat), .int .i64 (lf : Nat), .int .i64 (q2 : Nat)] 154) = v3 at *
                generalize u2.heap.size = bx at *
            all_goals
              obtain ⟨o0, o1, o2, o3, -, -, -, -, hol⟩ := own4 HOB.out
              go_wp2_with fail
              go_ret
              exact ⟨X, rfl, HW.out.tm.below HB3.out, HW.out.go.later HB3.out⟩
          · have hd2 : ¬ ((st2 : Nat) : Int) < (q : Int) := by omega
            have hd3 : ((st : Nat) : Int) < (lf : Int) := by omega
            clear hes hd
            have E1 : Below wr.heap.size wr wr.drew := (Below.refl _ _).drew
            have E1a : Below wr.heap.size wr (wr.alloc (.cells #[.int .i8 0, .int .i64 0, .int .i64 0, .int .i64 0] 154)).drew := ((Below.refl _ wr).alloc (Nat.le_refl _) (.cells #[.int .i8 0, .int .i64 0, .int .i64 0, .int .i64 0] 154)).drew
            obtain ⟨r0, r1, r2, -, -, -, hrl2⟩ := own3' HSJ.out.rdr
            go_wp2_with fail
            go_region_law (first
              | (go_simp; go_at_call 86; (first | (with_reducible refine (CW.out _ E1).mono ?_) | (with_reducible refine (CW.out _ E1a).mono ?_)); rintro e u1 ⟨rfl, hb1⟩; have E2 : Below wr.heap.size wr u1 := (by first | exact E1.trans (hb1.mono E1.size) | exact E1a.trans (hb1.mono E1a.size)); (first | (have hx1 : u1.heap[wr.heap.size]? = some (.cells #[.int .i8 0, .int .i64 0, .int .i64 0, .int .i64 0] 154) := heap_below hb1 (show wr.heap.size < (wr.alloc (.cells #[.int .i8 0, .int .i64 0, .int .i64 0, .int .i64 0] 154)).drew.heap.size from heap_lt (heap_new wr (.cells #[.int .i8 0, .int .i64 0, .int .i64 0, .int .i64 0] 154))) (show (wr.alloc (.cells #[.int .i8 0, .int .i64 0, .int .i64 0, .int .i64 0] 154)).drew.heap[wr.heap.size]? = _ from heap_new wr (.cells #[.int .i8 0, .int .i64 0, .int .i64 0, .int .i64 0] 154))) | skip); have E2a : Below wr.heap.size wr (u1.alloc (.cells #[.int .i8 0, .int .i64 0, .int .i64 0, .int .i64 0] 154)) := E2.alloc E2.size _; obtain ⟨r0, r1, r2, -, -, -, hrl3⟩ := own3' (HSJ.out.below E2).rdr; clear E1 E1a hb1; go_wp2_with fail)
              | (go_simp; go_at_call 85; (with_reducible refine (CF.out _).mono ?_); rintro e u2 ⟨rfl, hb2⟩; have E3 : Below wr.heap.size wr u2 := (by first | exact E2.trans (hb2.mono E2.size) | exact E2a.trans (hb2.mono E2a.size)); (first | (have hx2 : u2.heap[wr.heap.size]? = some (.cells #[.int .i8 0, .int .i64 0, .int .i64 0, .int .i64 0] 154) := heap_below hb2 (heap_lt hx1) hx1; clear hx1; obtain ⟨x0, x1, x2, x3, y0, y1, y2, y3, hxl⟩ := own4 hx2) | (have hx3 : u2.heap[u1.heap.size]? = some (.cells #[.int .i8 0, .int .i64 0, .int .i64 0, .int .i64 0] 154) := heap_below hb2 (heap_lt (heap_new u1 (.cells #[.int .i8 0, .int .i64 0, .int .i64 0, .int .i64 0] 154))) (heap_new u1 (.cells #[.int .i8 0, .int .i64 0, .int .i64 0, .int .i64 0] 154)); have hle3 := E2.size; obtain ⟨x0, x1, x2, x3, y0, y1, y2, y3, hxl⟩ := own4 hx3) | skip); obtain ⟨r0, r1, r2, -, -, -, hrl4⟩ := own3' (HSJ.out.below E3).rdr; have hlk0 := HLK.out u2 E3; have hlk := HLK.out (u2.alloc (.cells #[.int .i8 0, .int .i64 0, .int .i64 0, .int .i64 0] 154)) (E3.alloc E3.size _); clear hb2 E2a; go_wp2_with fail))
            all_goals
              clear r0 r1 r2 hlk hlk0
              have hrl5 := Nat.lt_of_lt_of_le hrl2 E3.size
              first
              | have HOB := Lib.hid (set_fourC hx2 (.int .i8 k) (.int .i64 (st2 : Nat)) (.int .i64 (lf : Nat)) (.int .i64 (q2 : Nat)))
                have HB3 := Lib.hid (((((E3.setCell (p := ⟨wr.heap.size, 0, none⟩) (Nat.le_refl _) (.int .i8 k)).setCell (p := ⟨wr.heap.size, 1, none⟩) (Nat.le_refl _) (.int .i64 (st2 : Nat))).setCell (p := ⟨wr.heap.size, 2, none⟩) (Nat.le_refl _) (.int .i64 (lf : Nat))).setCell (p := ⟨wr.heap.size, 3, none⟩) (Nat.le_refl _) (.int .i64 (q2 : Nat))))
                have hbl : wr.heap.size ≤ wr.heap.size := Nat.le_refl _
                clear hx2 x0 x1 x2 x3 y0 y1 y2 y3 hxl
                generalize ((((u2.setCell ⟨wr.heap.size, 0, none⟩ (.int .i8 k)).setCell ⟨wr.heap.size, 1, none⟩ (.int .i64 (st2 : Nat))).setCell ⟨wr.heap.size, 2, none⟩ (.int .i64 (lf : Nat))).setCell ⟨wr.heap.size, 3, none⟩ (.int .i64 (q2 : Nat))) = v3 at *
                obtain ⟨bx, hbx⟩ : ∃ bx, bx = wr.heap.size := ⟨_, rfl⟩
                rw [← hbx] at HOB ⊢
                replace hbl : wr.heap.size ≤ bx := by omega
                clear hbx
              | have HOB := Lib.hid (set_fourC hx3 (.int .i8 k) (.int .i64 (st2 : Nat)) (.int .i64 (lf : Nat)) (.int .i64 (q2 : Nat)))
                have HB3 := Lib.hid (((((E3.setCell (p := ⟨u1.heap.size, 0, none⟩) hle3 (.int .i8 k)).setCell (p := ⟨u1.heap.size, 1, none⟩) hle3 (.int .i64 (st2 : Nat))).setCell (p := ⟨u1.heap.size, 2, none⟩) hle3 (.int .i64 (lf : Nat))).setCell (p := ⟨u1.heap.size, 3, none⟩) hle3 (.int .i64 (q2 : Nat))))
                have hbl := hle3
                clear hx3 x0 x1 x2 x3 y0 y1 y2 y3 hxl
                generalize ((((u2.setCell ⟨u1.heap.size, 0, none⟩ (.int .i8 k)).setCell ⟨u1.heap.size, 1, none⟩ (.int .i64 (st2 : Nat))).setCell ⟨u1.heap.size, 2, none⟩ (.int .i64 (lf : Nat))).setCell ⟨u1.heap.size, 3, none⟩ (.int .i64 (q2 : Nat))) = v3 at *
                generalize u1.heap.size = bx at *
              | have HOB := Lib.hid (heap_new u2 (.cells #[.int .i8 k, .int .i64 (st2 : Nat), .int .i64 (lf : Nat), .int .i64 (q2 : Nat)] 154))
                have HB3 := Lib.hid (E3.alloc E3.size (.cells #[.int .i8 k, .int .i64 (st2 : Nat), .int .i64 (lf : Nat), .int .i64 (q2 : Nat)] 154))
                have hbl := E3.size
                generalize u2.alloc (.cells #[.int .i8 k, .int .i64 (st2 : Nat), .int .i64 (lf : Nat), .int .i64 (q2 : Nat)] 154) = v3 at *
                generalize u2.heap.size = bx at *
            all_goals
              obtain ⟨o0, o1, o2, o3, -, -, -, -, hol⟩ := own4 HOB.out
              go_wp2_with fail
              go_ret
              exact ⟨X, rfl, HW.out.tm.below HB3.out, HW.out.go.later HB3.out⟩
      | @go _ _ _ j2 s' lf _ _ k its vs _ e h1 h2 f g =>
        obtain ⟨q2, ht, hcs⟩ := htab.2 _ _ _ _ e
        rw [ht] at HLK
        simp only [Option.isSome_some] at HLK
        unfold opV at HLK
        have hjl := opr_lt e
        have hd2 : ¬ ((s' : Nat) : Int) < (q : Int) := by omega
        have hd3 : ¬ ((st : Nat) : Int) < (lf : Int) := by omega
        have CJ := Lib.hid (fun (W : World) (hb : Below wr.heap.size wr W) => joined_any l A c rb j w.heap.size mv k s' lf q2 its W hcs (HSJ.out.below hb) hjl hrl (Nat.le_trans HW.out.go.2.size hb.size) X h t (HW.out.tm.below hb) (HN.out.mono HW.out.gt) _ f)
        have hj2 := T.goes f (show j + 1 ≤ l.length from hjl)
        simp only [Tt.Rs.within, Tt.Tg.start] at hj2
        have HJ2 := Lib.hid hj2
        have HGG := Lib.hid g
        have HH := Lib.hid (And.intro h1 h2)
        clear htab ht hcs e h1 h2 f g hj2
        have E1 : Below wr.heap.size wr wr.drew := (Below.refl _ _).drew
        have E1a : Below wr.heap.size wr (wr.alloc (.cells #[.int .i8 0, .int .i64 0, .int .i64 0, .int .i64 0] 154)).drew := ((Below.refl _ wr).alloc (Nat.le_refl _) (.cells #[.int .i8 0, .int .i64 0, .int .i64 0, .int .i64 0] 154)).drew
        obtain ⟨r0, r1, r2, -, -, -, hrl2⟩ := own3' HSJ.out.rdr
        go_wp2_with fail
        go_region_law (first
          | (go_simp; go_at_call 86; (first | (with_reducible refine (CW.out _ E1).mono ?_) | (with_reducible refine (CW.out _ E1a).mono ?_)); rintro e u1 ⟨rfl, hb1⟩; have E2 : Below wr.heap.size wr u1 := (by first | exact E1.trans (hb1.mono E1.size) | exact E1a.trans (hb1.mono E1a.size)); (first | (have hx1 : u1.heap[wr.heap.size]? = some (.cells #[.int .i8 0, .int .i64 0, .int .i64 0, .int .i64 0] 154) := heap_below hb1 (show wr.heap.size < (wr.alloc (.cells #[.int .i8 0, .int .i64 0, .int .i64 0, .int .i64 0] 154)).drew.heap.size from heap_lt (heap_new wr (.cells #[.int .i8 0, .int .i64 0, .int .i64 0, .int .i64 0] 154))) (show (wr.alloc (.cells #[.int .i8 0, .int .i64 0, .int .i64 0, .int .i64 0] 154)).drew.heap[wr.heap.size]? = _ from heap_new wr (.cells #[.int .i8 0, .int .i64 0, .int .i64 0, .int .i64 0] 154))) | skip); have E2a : Below wr.heap.size wr (u1.alloc (.cells #[.int .i8 0, .int .i64 0, .int .i64 0, .int .i64 0] 154)) := E2.alloc E2.size _; obtain ⟨r0, r1, r2, -, -, -, hrl3⟩ := own3' (HSJ.out.below E2).rdr; clear E1 E1a hb1; go_wp2_with fail)
          | (go_simp; go_at_call 85; (with_reducible refine (CF.out _).mono ?_); rintro e u2 ⟨rfl, hb2⟩; have E3 : Below wr.heap.size wr u2 := (by first | exact E2.trans (hb2.mono E2.size) | exact E2a.trans (hb2.mono E2a.size)); (first | (have hx2 : u2.heap[wr.heap.size]? = some (.cells #[.int .i8 0, .int .i64 0, .int .i64 0, .int .i64 0] 154) := heap_below hb2 (heap_lt hx1) hx1; clear hx1; obtain ⟨x0, x1, x2, x3, y0, y1, y2, y3, hxl⟩ := own4 hx2) | (have hx3 : u2.heap[u1.heap.size]? = some (.cells #[.int .i8 0, .int .i64 0, .int .i64 0, .int .i64 0] 154) := heap_below hb2 (heap_lt (heap_new u1 (.cells #[.int .i8 0, .int .i64 0, .int .i64 0, .int .i64 0] 154))) (heap_new u1 (.cells #[.int .i8 0, .int .i64 0, .int .i64 0, .int .i64 0] 154)); have hle3 := E2.size; obtain ⟨x0, x1, x2, x3, y0, y1, y2, y3, hxl⟩ := own4 hx3) | skip); obtain ⟨r0, r1, r2, -, -, -, hrl4⟩ := own3' (HSJ.out.below E3).rdr; have hlk0 := HLK.out u2 E3; have hlk := HLK.out (u2.alloc (.cells #[.int .i8 0, .int .i64 0, .int .i64 0, .int .i64 0] 154)) (E3.alloc E3.size _); clear hb2 E2a; go_wp2_with fail))
        all_goals
          clear r0 r1 r2 hlk hlk0
          have hrl5 := Nat.lt_of_lt_of_le hrl2 E3.size
          first
          | have HOB := Lib.hid (set_fourC hx2 (.int .i8 k) (.int .i64 (s' : Nat)) (.int .i64 (lf : Nat)) (.int .i64 (q2 : Nat)))
            have HB3 := Lib.hid (((((E3.setCell (p := ⟨wr.heap.size, 0, none⟩) (Nat.le_refl _) (.int .i8 k)).setCell (p := ⟨wr.heap.size, 1, none⟩) (Nat.le_refl _) (.int .i64 (s' : Nat))).setCell (p := ⟨wr.heap.size, 2, none⟩) (Nat.le_refl _) (.int .i64 (lf : Nat))).setCell (p := ⟨wr.heap.size, 3, none⟩) (Nat.le_refl _) (.int .i64 (q2 : Nat))))
            have hbl : wr.heap.size ≤ wr.heap.size := Nat.le_refl _
            clear hx2 x0 x1 x2 x3 y0 y1 y2 y3 hxl
            generalize ((((u2.setCell ⟨wr.heap.size, 0, none⟩ (.int .i8 k)).setCell ⟨wr.heap.size, 1, none⟩ (.int .i64 (s' : Nat))).setCell ⟨wr.heap.size, 2, none⟩ (.int .i64 (lf : Nat))).setCell ⟨wr.heap.size, 3, none⟩ (.int .i64 (q2 : Nat))) = v3 at *
            obtain ⟨bx, hbx⟩ : ∃ bx, bx = wr.heap.size := ⟨_, rfl⟩
            rw [← hbx] at HOB ⊢
            replace hbl : wr.heap.size ≤ bx := by omega
            clear hbx
          | have HOB := Lib.hid (set_fourC hx3 (.int .i8 k) (.int .i64 (s' : Nat)) (.int .i64 (lf : Nat)) (.int .i64 (q2 : Nat)))
            have HB3 := Lib.hid (((((E3.setCell (p := ⟨u1.heap.size, 0, none⟩) hle3 (.int .i8 k)).setCell (p := ⟨u1.heap.size, 1, none⟩) hle3 (.int .i64 (s' : Nat))).setCell (p := ⟨u1.heap.size, 2, none⟩) hle3 (.int .i64 (lf : Nat))).setCell (p := ⟨u1.heap.size, 3, none⟩) hle3 (.int .i64 (q2 : Nat))))
            have hbl := hle3
            clear hx3 x0 x1 x2 x3 y0 y1 y2 y3 hxl
            generalize ((((u2.setCell ⟨u1.heap.size, 0, none⟩ (.int .i8 k)).setCell ⟨u1.heap.size, 1, none⟩ (.int .i64 (s' : Nat))).setCell ⟨u1.heap.size, 2, none⟩ (.int .i64 (lf : Nat))).setCell ⟨u1.heap.size, 3, none⟩ (.int .i64 (q2 : Nat))) = v3 at *
            generalize u1.heap.size = bx at *
          | have HOB := Lib.hid (heap_new u2 (.cells #[.int .i8 k, .int .i64 (s' : Nat), .int .i64 (lf : Nat), .int .i64 (q2 : Nat)] 154))
            have HB3 := Lib.hid (E3.alloc E3.size (.cells #[.int .i8 k, .int .i64 (s' : Nat), .int .i64 (lf : Nat), .int .i64 (q2 : Nat)] 154))
            have hbl := E3.size
            generalize u2.alloc (.cells #[.int .i8 k, .int .i64 (s' : Nat), .int .i64 (lf : Nat), .int .i64 (q2 : Nat)] 154) = v3 at *
            generalize u2.heap.size = bx at *
        all_goals
          obtain ⟨o0, o1, o2, o3, -, -, -, -, hol⟩ := own4 HOB.out
          go_upto_region 5 with fail
          clear o0 o1 o2 o3 hol
          obtain ⟨o0, o1, o2, o3, -, -, -, -, hol⟩ := own4 (show v3.drew.heap[bx]? = _ from HOB.out)
          have E5 := HB3.out.drew
          go_region_law (first
            | (go_simp; go_at_call 137; (with_reducible refine (CJ.out _ E5).mono ?_); rintro e u4 ⟨Y, rfl, hY, hP⟩; have HTY := Lib.hid hY; have HPY := Lib.hid (PGo.from hP (only_trans HW.out.go.2 (only_below E5))); obtain ⟨o0, o1, o2, o3, -, -, -, -, hol6⟩ := own4 ((hP.2.block bx hol (fun e => by injection e with e; omega)).trans HOB.out); clear hY hP; go_wp2_with fail))
          all_goals
            go_wp2_with fail
            go_roundg (l.length - j2)
            case measure => have := HJ2.out; have := HG.out; omega
            case rel => exact ⟨Y, s', j2, _, _, rfl, rfl, rfl, Lib.hid ⟨HGG.out, by have := HW.out.gt; have := HJ2.out.1; omega, HJ2.out.2, HTY.out, HPY.out⟩⟩
      | @goNo _ _ _ s' lf _ _ k its E a wd e h1 h2 f =>
        obtain ⟨q2, ht, hcs⟩ := htab.2 _ _ _ _ e
        rw [ht] at HLK
        simp only [Option.isSome_some] at HLK
        unfold opV at HLK
        have hjl := opr_lt e
        have hd2 : ¬ ((s' : Nat) : Int) < (q : Int) := by omega
        have hd3 : ¬ ((st : Nat) : Int) < (lf : Int) := by omega
        have CJ := Lib.hid (fun (W : World) (hb : Below wr.heap.size wr W) => joined_any l A c rb j w.heap.size mv k s' lf q2 its W hcs (HSJ.out.below hb) hjl hrl (Nat.le_trans HW.out.go.2.size hb.size) X h t (HW.out.tm.below hb) (HN.out.mono HW.out.gt) _ f)
        have HH := Lib.hid (And.intro h1 h2)
        clear htab ht hcs e h1 h2 f
        have E1 : Below wr.heap.size wr wr.drew := (Below.refl _ _).drew
        have E1a : Below wr.heap.size wr (wr.alloc (.cells #[.int .i8 0, .int .i64 0, .int .i64 0, .int .i64 0] 154)).drew := ((Below.refl _ wr).alloc (Nat.le_refl _) (.cells #[.int .i8 0, .int .i64 0, .int .i64 0, .int .i64 0] 154)).drew
        obtain ⟨r0, r1, r2, -, -, -, hrl2⟩ := own3' HSJ.out.rdr
        go_wp2_with fail
        go_region_law (first
          | (go_simp; go_at_call 86; (first | (with_reducible refine (CW.out _ E1).mono ?_) | (with_reducible refine (CW.out _ E1a).mono ?_)); rintro e u1 ⟨rfl, hb1⟩; have E2 : Below wr.heap.size wr u1 := (by first | exact E1.trans (hb1.mono E1.size) | exact E1a.trans (hb1.mono E1a.size)); (first | (have hx1 : u1.heap[wr.heap.size]? = some (.cells #[.int .i8 0, .int .i64 0, .int .i64 0, .int .i64 0] 154) := heap_below hb1 (show wr.heap.size < (wr.alloc (.cells #[.int .i8 0, .int .i64 0, .int .i64 0, .int .i64 0] 154)).drew.heap.size from heap_lt (heap_new wr (.cells #[.int .i8 0, .int .i64 0, .int .i64 0, .int .i64 0] 154))) (show (wr.alloc (.cells #[.int .i8 0, .int .i64 0, .int .i64 0, .int .i64 0] 154)).drew.heap[wr.heap.size]? = _ from heap_new wr (.cells #[.int .i8 0, .int .i64 0, .int .i64 0, .int .i64 0] 154))) | skip); have E2a : Below wr.heap.size wr (u1.alloc (.cells #[.int .i8 0, .int .i64 0, .int .i64 0, .int .i64 0] 154)) := E2.alloc E2.size _; obtain ⟨r0, r1, r2, -, -, -, hrl3⟩ := own3' (HSJ.out.below E2).rdr; clear E1 E1a hb1; go_wp2_with fail)
          | (go_simp; go_at_call 85; (with_reducible refine (CF.out _).mono ?_); rintro e u2 ⟨rfl, hb2⟩; have E3 : Below wr.heap.size wr u2 := (by first | exact E2.trans (hb2.mono E2.size) | exact E2a.trans (hb2.mono E2a.size)); (first | (have hx2 : u2.heap[wr.heap.size]? = some (.cells #[.int .i8 0, .int .i64 0, .int .i64 0, .int .i64 0] 154) := heap_below hb2 (heap_lt hx1) hx1; clear hx1; obtain ⟨x0, x1, x2, x3, y0, y1, y2, y3, hxl⟩ := own4 hx2) | (have hx3 : u2.heap[u1.heap.size]? = some (.cells #[.int .i8 0, .int .i64 0, .int .i64 0, .int .i64 0] 154) := heap_below hb2 (heap_lt (heap_new u1 (.cells #[.int .i8 0, .int .i64 0, .int .i64 0, .int .i64 0] 154))) (heap_new u1 (.cells #[.int .i8 0, .int .i64 0, .int .i64 0, .int .i64 0] 154)); have hle3 := E2.size; obtain ⟨x0, x1, x2, x3, y0, y1, y2, y3, hxl⟩ := own4 hx3) | skip); obtain ⟨r0, r1, r2, -, -, -, hrl4⟩ := own3' (HSJ.out.below E3).rdr; have hlk0 := HLK.out u2 E3; have hlk := HLK.out (u2.alloc (.cells #[.int .i8 0, .int .i64 0, .int .i64 0, .int .i64 0] 154)) (E3.alloc E3.size _); clear hb2 E2a; go_wp2_with fail))
        all_goals
          clear r0 r1 r2 hlk hlk0
          have hrl5 := Nat.lt_of_lt_of_le hrl2 E3.size
          first
          | have HOB := Lib.hid (set_fourC hx2 (.int .i8 k) (.int .i64 (s' : Nat)) (.int .i64 (lf : Nat)) (.int .i64 (q2 : Nat)))
            have HB3 := Lib.hid (((((E3.setCell (p := ⟨wr.heap.size, 0, none⟩) (Nat.le_refl _) (.int .i8 k)).setCell (p := ⟨wr.heap.size, 1, none⟩) (Nat.le_refl _) (.int .i64 (s' : Nat))).setCell (p := ⟨wr.heap.size, 2, none⟩) (Nat.le_refl _) (.int .i64 (lf : Nat))).setCell (p := ⟨wr.heap.size, 3, none⟩) (Nat.le_refl _) (.int .i64 (q2 : Nat))))
            have hbl : wr.heap.size ≤ wr.heap.size := Nat.le_refl _
            clear hx2 x0 x1 x2 x3 y0 y1 y2 y3 hxl
            generalize ((((u2.setCell ⟨wr.heap.size, 0, none⟩ (.int .i8 k)).setCell ⟨wr.heap.size, 1, none⟩ (.int .i64 (s' : Nat))).setCell ⟨wr.heap.size, 2, none⟩ (.int .i64 (lf : Nat))).setCell ⟨wr.heap.size, 3, none⟩ (.int .i64 (q2 : Nat))) = v3 at *
            obtain ⟨bx, hbx⟩ : ∃ bx, bx = wr.heap.size := ⟨_, rfl⟩
            rw [← hbx] at HOB ⊢
            replace hbl : wr.heap.size ≤ bx := by omega
            clear hbx
          | have HOB := Lib.hid (set_fourC hx3 (.int .i8 k) (.int .i64 (s' : Nat)) (.int .i64 (lf : Nat)) (.int .i64 (q2 : Nat)))
            have HB3 := Lib.hid (((((E3.setCell (p := ⟨u1.heap.size, 0, none⟩) hle3 (.int .i8 k)).setCell (p := ⟨u1.heap.size, 1, none⟩) hle3 (.int .i64 (s' : Nat))).setCell (p := ⟨u1.heap.size, 2, none⟩) hle3 (.int .i64 (lf : Nat))).setCell (p := ⟨u1.heap.size, 3, none⟩) hle3 (.int .i64 (q2 : Nat))))
            have hbl := hle3
            clear hx3 x0 x1 x2 x3 y0 y1 y2 y3 hxl
            generalize ((((u2.setCell ⟨u1.heap.size, 0, none⟩ (.int .i8 k)).setCell ⟨u1.heap.size, 1, none⟩ (.int .i64 (s' : Nat))).setCell ⟨u1.heap.size, 2, none⟩ (.int .i64 (lf : Nat))).setCell ⟨u1.heap.size, 3, none⟩ (.int .i64 (q2 : Nat))) = v3 at *
            generalize u1.heap.size = bx at *
          | have HOB := Lib.hid (heap_new u2 (.cells #[.int .i8 k, .int .i64 (s' : Nat), .int .i64 (lf : Nat), .int .i64 (q2 : Nat)] 154))
            have HB3 := Lib.hid (E3.alloc E3.size (.cells #[.int .i8 k, .int .i64 (s' : Nat), .int .i64 (lf : Nat), .int .i64 (q2 : Nat)] 154))
            have hbl := E3.size
            generalize u2.alloc (.cells #[.int .i8 k, .int .i64 (s' : Nat), .int .i64 (lf : Nat), .int .i64 (q2 : Nat)] 154) = v3 at *
            generalize u2.heap.size = bx at *
        all_goals
          obtain ⟨o0, o1, o2, o3, -, -, -, -, hol⟩ := own4 HOB.out
          go_upto_region 5 with fail
          clear o0 o1 o2 o3 hol
          obtain ⟨o0, o1, o2, o3, -, -, -, -, hol⟩ := own4 (show v3.drew.heap[bx]? = _ from HOB.out)
          have E5 := HB3.out.drew
          go_region_with (first
            | (go_at_call 137; (with_reducible refine (CJ.out _ E5).mono ?_); rintro e u4 hB; have HP := Lib.hid (PBad.from hB (only_trans HW.out.go.2 (only_below E5))); obtain ⟨g, rfl, -⟩ := hB; refine panic_end2 (P := Tryz.prog) (w := u4) ?_))
          all_goals exact ⟨rfl, HP.out⟩
end Go.Proofs.YtocehfklacjgbaaGreatDoor
namespace Go.Proofs.YtocehfklacjgbaaGreatDoor
open Go.RowKit Rd Tt

set_option maxHeartbeats 4000000 in
set_option maxRecDepth 100000 in
theorem term_any (l : List W4) (A : Option Addr) (c rb i : Nat) (mv : Value) (w : World) (hS : PdS l A c rb mv w i) (hN : Needs l A c rb mv i) (hPt : ∀ (W : World) (r : Tt.Rs), PdS l A c rb mv W i → T l (.part 0 i) r → Calls Tryz.prog 92 #[.pointer (some ⟨rb, 0, none⟩), .int .i64 0] W (TPost l A c rb mv W r)) (r : Tt.Rs) (hT : T l (.term i) r) :
    Calls Tryz.prog 44 #[.pointer (some ⟨rb, 0, none⟩)] w (TPost l A c rb mv w r) := by
  have CW := Lib.hid (word_pt l A c rb i mv w hS)
  have hwk := wAt_ok hS.okw (i := i)
  have CF := Lib.hid (fun (W : World) => fixed_pt (wAt l i) W hwk.1 hwk.2)
  have ek1 : ((fx (wAt l i)).toList == [92]) = sees l i 4 [92] := says_lit y92 hS.okw
  have ek2 : ((fx (wAt l i)).toList == [108, 101, 116]) = sees l i 3 kLet := says_lit yLet hS.okw
  have ek3 : ((fx (wAt l i)).toList == [105, 102]) = sees l i 3 kIf := says_lit yIf hS.okw
  have ek4 : ((fx (wAt l i)).toList == [114, 101, 99]) = sees l i 3 kRec := says_lit yRec hS.okw
  have ek5 : ((fx (wAt l i)).toList == [99, 97, 115, 101]) = sees l i 3 kCase := says_lit yCase hS.okw
  have HS := Lib.hid hS
  have HN := Lib.hid hN
  clear hwk hS hN
  have HPT := Lib.hid hPt
  clear hPt
  cases hk1 : sees l i 4 [92]
  case true =>
    have hf : formT l i = some (4, [.nm, sg 58, .ty, sg 46, .tm]) := by unfold formT; simp [hk1]
    cases hT with
    | term h0 _ => rw [hf] at h0; cases h0
    | @opn _ k0 its r h0 hT =>
      rw [hf] at h0
      injection h0 with h0
      injection h0 with e0 e1
      subst e0
      subst e1
      clear hf
      have hi := sees_lt hk1
      rw [hk1] at ek1
      clear ek2 ek3 ek4 ek5
      have CB := Lib.hid (fun (W : World) (hb : Below w.heap.size w W) => lam_any l A c rb i mv W (HS.out.below hb) hi y58 y46 HN.out r hT)
      clear hT HN HS HPT hk1
      generalize fx (wAt l i) = s at *
      generalize hxw : wAt l i = x at *
      obtain ⟨yk, yt, yn, yp⟩ := x
      unfold wV at CW CF
      simp only at CW CF
      clear hxw
      go_enter Tryz.func44, Tryz.ntmps44
      go_wp2_with fail
      refine CW.out.mono ?_
      rintro e w2 ⟨rfl, hb⟩
      have HB2 := Lib.hid hb
      clear hb
      go_wp2_with fail
      refine (CF.out _).mono ?_
      rintro e w3 ⟨rfl, hb⟩
      have HB3 := Lib.hid (HB2.out.trans (hb.mono HB2.out.size))
      clear hb HB2
      go_wp2_with fail
      refine (CB.out _ HB3.out).mono ?_
      intro e w4 hP
      have HP := Lib.hid (TPost.from hP (only_below HB3.out))
      cases r with
      | bad E a s' =>
        obtain ⟨g, rfl, -⟩ := hP
        exact ⟨rfl, HP.out⟩
      | ok vs j =>
        obtain ⟨X, rfl, -⟩ := hP
        go_wp2_with fail
        go_ret
        exact HP.out
  cases hk2 : sees l i 3 kLet
  case true =>
    have hf : formT l i = some (7, [.nm, sg 58, .ty, sg 61, .tm, .w 3 kIn, .tm]) := by unfold formT; simp [hk1, hk2]
    cases hT with
    | term h0 _ => rw [hf] at h0; cases h0
    | @opn _ k0 its r h0 hT =>
      rw [hf] at h0
      injection h0 with h0
      injection h0 with e0 e1
      subst e0
      subst e1
      clear hf
      have hi := sees_lt hk2
      rw [hk1] at ek1
      rw [hk2] at ek2
      clear ek3 ek4 ek5
      have CB := Lib.hid (fun (W : World) (hb : Below w.heap.size w W) => let_any l A c rb i mv W (HS.out.below hb) hi y58 y61 yIn HN.out r hT)
      clear hT HN HS HPT hk1 hk2
      generalize fx (wAt l i) = s at *
      generalize hxw : wAt l i = x at *
      obtain ⟨yk, yt, yn, yp⟩ := x
      unfold wV at CW CF
      simp only at CW CF
      clear hxw
      go_enter Tryz.func44, Tryz.ntmps44
      go_wp2_with fail
      refine CW.out.mono ?_
      rintro e w2 ⟨rfl, hb⟩
      have HB2 := Lib.hid hb
      clear hb
      go_wp2_with fail
      refine (CF.out _).mono ?_
      rintro e w3 ⟨rfl, hb⟩
      have HB3 := Lib.hid (HB2.out.trans (hb.mono HB2.out.size))
      clear hb HB2
      go_wp2_with fail
      refine (CB.out _ HB3.out).mono ?_
      intro e w4 hP
      have HP := Lib.hid (TPost.from hP (only_below HB3.out))
      cases r with
      | bad E a s' =>
        obtain ⟨g, rfl, -⟩ := hP
        exact ⟨rfl, HP.out⟩
      | ok vs j =>
        obtain ⟨X, rfl, -⟩ := hP
        go_wp2_with fail
        go_ret
        exact HP.out
  cases hk3 : sees l i 3 kIf
  case true =>
    have hf : formT l i = some (8, [.tm, .w 3 kThen, .tm, .w 3 kElse, .tm]) := by unfold formT; simp [hk1, hk2, hk3]
    cases hT with
    | term h0 _ => rw [hf] at h0; cases h0
    | @opn _ k0 its r h0 hT =>
      rw [hf] at h0
      injection h0 with h0
      injection h0 with e0 e1
      subst e0
      subst e1
      clear hf
      have hi := sees_lt hk3
      rw [hk1] at ek1
      rw [hk2] at ek2
      rw [hk3] at ek3
      clear ek4 ek5
      have CB := Lib.hid (fun (W : World) (hb : Below w.heap.size w W) => choice_any l A c rb i mv W (HS.out.below hb) hi yThen yElse HN.out r hT)
      clear hT HN HS HPT hk1 hk2 hk3
      generalize fx (wAt l i) = s at *
      generalize hxw : wAt l i = x at *
      obtain ⟨yk, yt, yn, yp⟩ := x
      unfold wV at CW CF
      simp only at CW CF
      clear hxw
      go_enter Tryz.func44, Tryz.ntmps44
      go_wp2_with fail
      refine CW.out.mono ?_
      rintro e w2 ⟨rfl, hb⟩
      have HB2 := Lib.hid hb
      clear hb
      go_wp2_with fail
      refine (CF.out _).mono ?_
      rintro e w3 ⟨rfl, hb⟩
      have HB3 := Lib.hid (HB2.out.trans (hb.mono HB2.out.size))
      clear hb HB2
      go_wp2_with fail
      refine (CB.out _ HB3.out).mono ?_
      intro e w4 hP
      have HP := Lib.hid (TPost.from hP (only_below HB3.out))
      cases r with
      | bad E a s' =>
        obtain ⟨g, rfl, -⟩ := hP
        exact ⟨rfl, HP.out⟩
      | ok vs j =>
        obtain ⟨X, rfl, -⟩ := hP
        go_wp2_with fail
        go_ret
        exact HP.out
  cases hk4 : sees l i 3 kRec
  case true =>
    have hf : formT l i = some (5, [.nm, sg 40, .nm, sg 58, .ty, sg 41, sg 58, .ty, sg 46, .tm]) := by unfold formT; simp [hk1, hk2, hk3, hk4]
    cases hT with
    | term h0 _ => rw [hf] at h0; cases h0
    | @opn _ k0 its r h0 hT =>
      rw [hf] at h0
      injection h0 with h0
      injection h0 with e0 e1
      subst e0
      subst e1
      clear hf
      have hi := sees_lt hk4
      rw [hk1] at ek1
      rw [hk2] at ek2
      rw [hk3] at ek3
      rw [hk4] at ek4
      clear ek5
      have CB := Lib.hid (fun (W : World) (hb : Below w.heap.size w W) => rec_any l A c rb i mv W (HS.out.below hb) hi y40 y58 y41 y46 HN.out r hT)
      clear hT HN HS HPT hk1 hk2 hk3 hk4
      generalize fx (wAt l i) = s at *
      generalize hxw : wAt l i = x at *
      obtain ⟨yk, yt, yn, yp⟩ := x
      unfold wV at CW CF
      simp only at CW CF
      clear hxw
      go_enter Tryz.func44, Tryz.ntmps44
      go_wp2_with fail
      refine CW.out.mono ?_
      rintro e w2 ⟨rfl, hb⟩
      have HB2 := Lib.hid hb
      clear hb
      go_wp2_with fail
      refine (CF.out _).mono ?_
      rintro e w3 ⟨rfl, hb⟩
      have HB3 := Lib.hid (HB2.out.trans (hb.mono HB2.out.size))
      clear hb HB2
      go_wp2_with fail
      refine (CB.out _ HB3.out).mono ?_
      intro e w4 hP
      have HP := Lib.hid (TPost.from hP (only_below HB3.out))
      cases r with
      | bad E a s' =>
        obtain ⟨g, rfl, -⟩ := hP
        exact ⟨rfl, HP.out⟩
      | ok vs j =>
        obtain ⟨X, rfl, -⟩ := hP
        go_wp2_with fail
        go_ret
        exact HP.out
  cases hk5 : sees l i 3 kCase
  case true =>
    have hf : formT l i = some (14, [.tm, .w 3 kOf, .nm, sg 46, .tm, sg 124, .nm, sg 46, .tm]) := by unfold formT; simp [hk1, hk2, hk3, hk4, hk5]
    cases hT with
    | term h0 _ => rw [hf] at h0; cases h0
    | @opn _ k0 its r h0 hT =>
      rw [hf] at h0
      injection h0 with h0
      injection h0 with e0 e1
      subst e0
      subst e1
      clear hf
      have hi := sees_lt hk5
      rw [hk1] at ek1
      rw [hk2] at ek2
      rw [hk3] at ek3
      rw [hk4] at ek4
      rw [hk5] at ek5
      have CB := Lib.hid (fun (W : World) (hb : Below w.heap.size w W) => branches_any l A c rb i mv W (HS.out.below hb) hi yOf y46 y124 HN.out r hT)
      clear hT HN HS HPT hk1 hk2 hk3 hk4 hk5
      generalize fx (wAt l i) = s at *
      generalize hxw : wAt l i = x at *
      obtain ⟨yk, yt, yn, yp⟩ := x
      unfold wV at CW CF
      simp only at CW CF
      clear hxw
      go_enter Tryz.func44, Tryz.ntmps44
      go_wp2_with fail
      refine CW.out.mono ?_
      rintro e w2 ⟨rfl, hb⟩
      have HB2 := Lib.hid hb
      clear hb
      go_wp2_with fail
      refine (CF.out _).mono ?_
      rintro e w3 ⟨rfl, hb⟩
      have HB3 := Lib.hid (HB2.out.trans (hb.mono HB2.out.size))
      clear hb HB2
      go_wp2_with fail
      refine (CB.out _ HB3.out).mono ?_
      intro e w4 hP
      have HP := Lib.hid (TPost.from hP (only_below HB3.out))
      cases r with
      | bad E a s' =>
        obtain ⟨g, rfl, -⟩ := hP
        exact ⟨rfl, HP.out⟩
      | ok vs j =>
        obtain ⟨X, rfl, -⟩ := hP
        go_wp2_with fail
        go_ret
        exact HP.out
  have hf : formT l i = none := by unfold formT; simp [hk1, hk2, hk3, hk4, hk5]
  cases hT with
  | opn h0 _ => rw [hf] at h0; cases h0
  | @term _ r h0 hT =>
    clear hf h0
    have hsg : Tt.Rs.single r := T.single hT
    have CB := Lib.hid (fun (W : World) (hb : Below w.heap.size w W) => HPT.out W r (HS.out.below hb) hT)
    rw [hk1] at ek1
    rw [hk2] at ek2
    rw [hk3] at ek3
    rw [hk4] at ek4
    rw [hk5] at ek5
    clear hT HN HS HPT hk1 hk2 hk3 hk4 hk5
    generalize fx (wAt l i) = s at *
    generalize hxw : wAt l i = x at *
    obtain ⟨yk, yt, yn, yp⟩ := x
    unfold wV at CW CF
    simp only at CW CF
    clear hxw
    go_enter Tryz.func44, Tryz.ntmps44
    go_wp2_with fail
    refine CW.out.mono ?_
    rintro e w2 ⟨rfl, hb⟩
    have HB2 := Lib.hid hb
    clear hb
    go_wp2_with fail
    refine (CF.out _).mono ?_
    rintro e w3 ⟨rfl, hb⟩
    have HB3 := Lib.hid (HB2.out.trans (hb.mono HB2.out.size))
    clear hb HB2
    go_wp2_with fail
    refine (CB.out _ HB3.out).mono ?_
    intro e w4 hP
    have HP := Lib.hid (TPost.from hP (only_below HB3.out))
    cases r with
    | bad E a s' =>
      obtain ⟨g, rfl, -⟩ := hP
      exact ⟨rfl, HP.out⟩
    | ok vs j =>
      match vs, hsg, hP, HP with
      | [.tm h t], _, hP, HP =>
        obtain ⟨X, rfl, -⟩ := hP
        go_wp2_with fail
        go_ret
        exact HP.out
end Go.Proofs.YtocehfklacjgbaaGreatDoor
namespace Go.Proofs.YtocehfklacjgbaaGreatDoor
open Go.RowKit Rd Tt

theorem reads_lt (l : List W4) (A : Option Addr) (c rb : Nat) (mv : Value) : ∀ n, (∀ i, l.length - i < n → i ≤ l.length → Reads l A c rb mv 44 [] (.term i)) ∧ (∀ (q i : Nat), l.length - i < n → i ≤ l.length → Reads l A c rb mv 92 [.int .i64 q] (.part q i))
  | 0 => ⟨fun _ h => absurd h (by omega), fun _ _ h => absurd h (by omega)⟩
  | n + 1 => by
    obtain ⟨it, ip⟩ := reads_lt l A c rb mv n
    have hN : ∀ i, l.length - i < n + 1 → i ≤ l.length → Needs l A c rb mv i := fun i hi hl => ⟨fun j h1 h2 => it j (by omega) h2, fun q j h1 h2 => ip q j (by omega) h2⟩
    have hp : ∀ (q i : Nat), l.length - i < n + 1 → i ≤ l.length → Reads l A c rb mv 92 [.int .i64 q] (.part q i) := fun q i hi hl w r hS hT => part_any l A c rb i mv q w hS (hN i hi hl) r hT
    exact ⟨fun i hi hl w r hS hT => term_any l A c rb i mv w hS (hN i hi hl) (fun W r h1 h2 => hp 0 i hi hl W r h1 h2) r hT, hp⟩
theorem reads_term (l : List W4) (A : Option Addr) (c rb i : Nat) (mv : Value) (w : World) (hS : PdS l A c rb mv w i) (r : Tt.Rs) (hT : T l (.term i) r) :
    Calls Tryz.prog 44 #[.pointer (some ⟨rb, 0, none⟩)] w (TPost l A c rb mv w r) :=
  (reads_lt l A c rb mv (l.length - i + 1)).1 i (Nat.lt_succ_self _) hS.le w r hS hT
end Go.Proofs.YtocehfklacjgbaaGreatDoor
namespace Go.Proofs.YtocehfklacjgbaaGreatDoor
open Go.RowKit Rd
namespace Tt
/-- a value that is well formed, of an item -/
def Good : It → Vl → Prop
  | .nm, .nm s => Sc.isName s = true
  | .nu, .nu _ => True
  | .ty, .ty k f => Ty.chk k f = 0
  | .tm, .tm h t => Tm.okT h t = true
  | .pt _, .tm h t => Tm.okT h t = true
  | _, _ => False
def Fill : List It → List Vl → Prop
  | [], vs => vs = []
  | .w _ _ :: its, vs => Fill its vs
  | it :: its, vs => ∃ v us, vs = v :: us ∧ Good it v ∧ Fill its us
def Tg.fills (vs : List Vl) : Tg → Prop
  | .seq its _ => Fill its vs
  | .lp _ h0 t0 _ _ => Tm.okT h0 t0 = true → ∃ h t, vs = [.tm h t] ∧ Tm.okT h t = true
  | _ => ∃ h t, vs = [.tm h t] ∧ Tm.okT h t = true
theorem fill_nm {its : List It} {vs : List Vl} (h : Fill (.nm :: its) vs) : ∃ s us, vs = .nm s :: us ∧ Sc.isName s = true ∧ Fill its us := by
  obtain ⟨v, us, rfl, hg, hf⟩ := h
  cases v with
  | nm s => exact ⟨s, us, rfl, hg, hf⟩
  | nu _ => exact hg.elim
  | ty _ _ => exact hg.elim
  | tm _ _ => exact hg.elim
theorem fill_nu {its : List It} {vs : List Vl} (h : Fill (.nu :: its) vs) : ∃ n us, vs = .nu n :: us ∧ Fill its us := by
  obtain ⟨v, us, rfl, hg, hf⟩ := h
  cases v with
  | nu s => exact ⟨s, us, rfl, hf⟩
  | nm _ => exact hg.elim
  | ty _ _ => exact hg.elim
  | tm _ _ => exact hg.elim
theorem fill_ty {its : List It} {vs : List Vl} (h : Fill (.ty :: its) vs) : ∃ k f us, vs = .ty k f :: us ∧ Ty.chk k f = 0 ∧ Fill its us := by
  obtain ⟨v, us, rfl, hg, hf⟩ := h
  cases v with
  | ty k f => exact ⟨k, f, us, rfl, hg, hf⟩
  | nm _ => exact hg.elim
  | nu _ => exact hg.elim
  | tm _ _ => exact hg.elim
theorem fill_tm {its : List It} {vs : List Vl} (h : Fill (.tm :: its) vs) : ∃ k f us, vs = .tm k f :: us ∧ Tm.okT k f = true ∧ Fill its us := by
  obtain ⟨v, us, rfl, hg, hf⟩ := h
  cases v with
  | tm k f => exact ⟨k, f, us, rfl, hg, hf⟩
  | nm _ => exact hg.elim
  | nu _ => exact hg.elim
  | ty _ _ => exact hg.elim
theorem fill_pt {q : Nat} {its : List It} {vs : List Vl} (h : Fill (.pt q :: its) vs) : ∃ k f us, vs = .tm k f :: us ∧ Tm.okT k f = true ∧ Fill its us := by
  obtain ⟨v, us, rfl, hg, hf⟩ := h
  cases v with
  | tm k f => exact ⟨k, f, us, rfl, hg, hf⟩
  | nm _ => exact hg.elim
  | nu _ => exact hg.elim
  | ty _ _ => exact hg.elim
theorem fill_w {c : UInt8} {its : List It} {vs : List Vl} (h : Fill (sg c :: its) vs) : Fill its vs := h
theorem fill_k {k : Int} {t : List UInt8} {its : List It} {vs : List Vl} (h : Fill (.w k t :: its) vs) : Fill its vs := h
theorem fill_0 {vs : List Vl} (h : Fill [] vs) : vs = [] := h
theorem okT_of {h : Hd} {kids : Tm} (h1 : Tm.headOk h (Tm.len kids) = true) (h2 : Tm.okF kids = true) : Tm.okT h kids = true := by unfold Tm.okT; rw [h1, h2]; rfl
theorem okF_cons {h : Hd} {t r : Tm} (h1 : Tm.okT h t = true) (h2 : Tm.okF r = true) : Tm.okF (.node h t r) = true := by
  unfold Tm.okT at h1
  unfold Tm.okF
  rw [h1, h2]; rfl
theorem mkT_ok {l : List W4} {i : Nat} {k : Int} {its : List It} {vs : List Vl} (h : formT l i = some (k, its)) (hf : Fill its vs) (p : Int) : Tm.okT (mk k p vs).1 (mk k p vs).2 = true := by
  unfold formT at h
  split at h
  · injection h with h; injection h with h1 h2; subst h1; subst h2
    obtain ⟨x, us, rfl, g1, hf⟩ := fill_nm hf
    obtain ⟨a, f, us, rfl, g2, hf⟩ := fill_ty (fill_w hf)
    obtain ⟨b, t, us, rfl, g3, hf⟩ := fill_tm (fill_w hf)
    obtain rfl := fill_0 hf
    exact okT_of (by simp [mk, hd0, Tm.headOk, Tm.isKind, Tm.kidsN, Tm.len, Tm.nameOk, Tm.hasName, Tm.hasArg, Tm.hasLabel, Tm.tysOk, Tm.hasType, Tm.hasTo, g1, g2]) (okF_cons g3 rfl)
  split at h
  · injection h with h; injection h with h1 h2; subst h1; subst h2
    obtain ⟨x, us, rfl, g1, hf⟩ := fill_nm hf
    obtain ⟨a, f, us, rfl, g2, hf⟩ := fill_ty (fill_w hf)
    obtain ⟨b, t, us, rfl, g3, hf⟩ := fill_tm (fill_w hf)
    obtain ⟨b2, t2, us, rfl, g4, hf⟩ := fill_tm (fill_k hf)
    obtain rfl := fill_0 hf
    exact okT_of (by simp [mk, hd0, Tm.headOk, Tm.isKind, Tm.kidsN, Tm.len, Tm.nameOk, Tm.hasName, Tm.hasArg, Tm.hasLabel, Tm.tysOk, Tm.hasType, Tm.hasTo, g1, g2]) (okF_cons g3 (okF_cons g4 rfl))
  split at h
  · injection h with h; injection h with h1 h2; subst h1; subst h2
    obtain ⟨b, t, us, rfl, g3, hf⟩ := fill_tm hf
    obtain ⟨b2, t2, us, rfl, g4, hf⟩ := fill_tm (fill_k hf)
    obtain ⟨b3, t3, us, rfl, g5, hf⟩ := fill_tm (fill_k hf)
    obtain rfl := fill_0 hf
    exact okT_of (by simp [mk, hd0, Tm.headOk, Tm.isKind, Tm.kidsN, Tm.len, Tm.nameOk, Tm.hasName, Tm.hasArg, Tm.hasLabel, Tm.tysOk, Tm.hasType, Tm.hasTo]) (okF_cons g3 (okF_cons g4 (okF_cons g5 rfl)))
  split at h
  · injection h with h; injection h with h1 h2; subst h1; subst h2
    obtain ⟨x, us, rfl, g1, hf⟩ := fill_nm hf
    obtain ⟨y, us, rfl, g2, hf⟩ := fill_nm (fill_w hf)
    obtain ⟨a, f, us, rfl, g3, hf⟩ := fill_ty (fill_w hf)
    obtain ⟨a2, f2, us, rfl, g4, hf⟩ := fill_ty (fill_w (fill_w hf))
    obtain ⟨b, t, us, rfl, g5, hf⟩ := fill_tm (fill_w hf)
    obtain rfl := fill_0 hf
    exact okT_of (by simp [mk, hd0, Tm.headOk, Tm.isKind, Tm.kidsN, Tm.len, Tm.nameOk, Tm.hasName, Tm.hasArg, Tm.hasLabel, Tm.tysOk, Tm.hasType, Tm.hasTo, g1, g2, g3, g4]) (okF_cons g5 rfl)
  split at h
  · injection h with h; injection h with h1 h2; subst h1; subst h2
    obtain ⟨b, t, us, rfl, g3, hf⟩ := fill_tm hf
    obtain ⟨x, us, rfl, g1, hf⟩ := fill_nm (fill_k hf)
    obtain ⟨b2, t2, us, rfl, g4, hf⟩ := fill_tm (fill_w hf)
    obtain ⟨y, us, rfl, g2, hf⟩ := fill_nm (fill_w hf)
    obtain ⟨b3, t3, us, rfl, g5, hf⟩ := fill_tm (fill_w hf)
    obtain rfl := fill_0 hf
    exact okT_of (by simp [mk, hd0, Tm.headOk, Tm.isKind, Tm.kidsN, Tm.len, Tm.nameOk, Tm.hasName, Tm.hasArg, Tm.hasLabel, Tm.tysOk, Tm.hasType, Tm.hasTo, g1, g2]) (okF_cons g3 (okF_cons g4 (okF_cons g5 rfl)))
  · cases h
theorem nu_ok (k p n : Int) (hk : k = 101 ∨ k = 1) : Tm.okT (mk k p [.nu n]).1 (mk k p [.nu n]).2 = true := by
  rcases hk with rfl | rfl
  · exact okT_of (by simp [mk, hd0, Tm.headOk, Tm.isKind, Tm.kidsN, Tm.len, Tm.nameOk, Tm.hasName, Tm.hasArg, Tm.hasLabel, Tm.tysOk, Tm.hasType, Tm.hasTo]) (by simp [mk, Tm.okF])
  · exact okT_of (by simp [mk, hd0, Tm.headOk, Tm.isKind, Tm.kidsN, Tm.len, Tm.nameOk, Tm.hasName, Tm.hasArg, Tm.hasLabel, Tm.tysOk, Tm.hasType, Tm.hasTo]) (by simp [mk, Tm.okF])
theorem mkO_form {q : Int × List It × Nat × Nat} {l : List W4} {i : Nat} (h : formO l i = q) {vs : List Vl} (hf : Fill q.2.1 vs) (p : Int) : Tm.okT (mk q.1 p vs).1 (mk q.1 p vs).2 = true := by
  unfold formO at h
  repeat' split at h
  all_goals subst h
  all_goals dsimp only at hf ⊢
  all_goals first
    | (obtain ⟨b, t, us, rfl, g3, hf⟩ := fill_pt hf; obtain rfl := fill_0 hf; exact okT_of (by simp [mk, hd0, Tm.headOk, Tm.isKind, Tm.kidsN, Tm.len, Tm.nameOk, Tm.hasName, Tm.hasArg, Tm.hasLabel, Tm.tysOk, Tm.hasType, Tm.hasTo]) (okF_cons g3 rfl))
    | (obtain ⟨a, f, us, rfl, g2, hf⟩ := fill_ty (fill_w hf); obtain ⟨b, t, us, rfl, g3, hf⟩ := fill_pt (fill_w hf); obtain rfl := fill_0 hf; exact okT_of (by simp [mk, hd0, Tm.headOk, Tm.isKind, Tm.kidsN, Tm.len, Tm.nameOk, Tm.hasName, Tm.hasArg, Tm.hasLabel, Tm.tysOk, Tm.hasType, Tm.hasTo, g2]) (okF_cons g3 rfl))
    | (obtain ⟨n, us, hv, hf⟩ := fill_nu hf; rw [hv, fill_0 hf]; exact nu_ok _ _ _ (by decide))
    | (obtain ⟨x, us, rfl, g1, hf⟩ := fill_nm hf; obtain rfl := fill_0 hf; exact okT_of (by simp [mk, hd0, Tm.headOk, Tm.isKind, Tm.kidsN, Tm.len, Tm.nameOk, Tm.hasName, Tm.hasArg, Tm.hasLabel, Tm.tysOk, Tm.hasType, Tm.hasTo, g1]) rfl)
    | (obtain ⟨b, t, us, rfl, g3, hf⟩ := fill_tm hf; obtain rfl := fill_0 (fill_w hf); exact g3)
    | (obtain ⟨b, t, us, rfl, g3, hf⟩ := fill_tm hf; obtain ⟨b2, t2, us, rfl, g4, hf⟩ := fill_tm (fill_w hf); obtain rfl := fill_0 (fill_w hf); exact okT_of (by simp [mk, hd0, Tm.headOk, Tm.isKind, Tm.kidsN, Tm.len, Tm.nameOk, Tm.hasName, Tm.hasArg, Tm.hasLabel, Tm.tysOk, Tm.hasType, Tm.hasTo]) (okF_cons g3 (okF_cons g4 rfl)))
    | (obtain rfl := fill_0 hf; rfl)
theorem sign_at {l : List W4} {i : Nat} {k : Int} {t : List UInt8} (h : sees l i k t = true) : (textAt l i).toList = t := by
  unfold sees at h
  unfold textAt
  cases hx : l[i]? with
  | none => rw [hx] at h; cases h
  | some x => rw [hx] at h; simp at h; exact h.2
theorem mkOp_ok {l : List W4} {j : Nat} {k : Int} {s lf : Nat} {its : List It} {vs : List Vl} (h : opr l j = some (k, s, lf, its)) (hf : Fill its vs) (p : Int) {h0 : Hd} {t0 : Tm} (g0 : Tm.okT h0 t0 = true) :
    Tm.okT (mkO k p (textAt l j) h0 t0 vs).1 (mkO k p (textAt l j) h0 t0 vs).2 = true := by
  unfold opr at h
  repeat' split at h
  all_goals first
    | (cases h; done)
    | (injection h with h; injection h with h1 h2; injection h2 with h2 h3; injection h3 with h3 h4; subst h1; subst h4)
  all_goals first
    | (obtain ⟨b, t, us, rfl, g3, hf⟩ := fill_pt hf; obtain rfl := fill_0 hf; have hsg := sign_at (l := l) (i := j) (k := 4) (by assumption); refine okT_of (by simp [mkO, hd0, Tm.headOk, Tm.isKind, Tm.kidsN, Tm.len, Tm.nameOk, Tm.isOp, hsg, Tm.hasLabel, Tm.tysOk, Tm.hasType, Tm.hasTo]) (okF_cons g0 (okF_cons g3 rfl)))
    | (obtain ⟨b, t, us, rfl, g3, hf⟩ := fill_tm hf; obtain rfl := fill_0 (fill_w hf); exact okT_of (by simp [mkO, hd0, Tm.headOk, Tm.isKind, Tm.kidsN, Tm.len, Tm.nameOk, Tm.hasName, Tm.hasArg, Tm.hasLabel, Tm.tysOk, Tm.hasType, Tm.hasTo]) (okF_cons g0 (okF_cons g3 rfl)))
    | (obtain ⟨a, f, us, rfl, g2, hf⟩ := fill_ty hf; obtain rfl := fill_0 hf; exact okT_of (by simp [mkO, hd0, Tm.headOk, Tm.isKind, Tm.kidsN, Tm.len, Tm.nameOk, Tm.hasName, Tm.hasArg, Tm.hasLabel, Tm.tysOk, Tm.hasType, Tm.hasTo, g2]) (okF_cons g0 rfl))
theorem T.fills {l : List W4} (hok : ∀ x ∈ l, OkWord x) {t : Tg} {r : Rs} (h : T l t r) : ∀ vs j, r = .ok vs j → t.fills vs := by
  induction h with
  | nil => intro vs j e; injection e with e _; subst e; rfl
  | word h g ih => intro vs j e; exact ih vs j e
  | wordNo h => intro vs j e; cases e
  | @nm i x its r h hk g ih => intro vs j e; cases r with
    | bad => cases e
    | ok vs2 j2 => injection e with e1 _; subst e1; exact ⟨_, _, rfl, (hok x (List.mem_of_getElem? h)).2.2.1 hk, ih _ _ rfl⟩
  | nmNo h => intro vs j e; cases e
  | @nu i x its r h hk g ih => intro vs j e; cases r with
    | bad => cases e
    | ok vs2 j2 => injection e with e1 _; subst e1; exact ⟨_, _, rfl, trivial, ih _ _ rfl⟩
  | nuNo h => intro vs j e; cases e
  | @ty i j0 k f a t its r h g ih => intro vs j e; cases r with
    | bad => cases e
    | ok vs2 j2 =>
      injection e with e1 _; subst e1
      refine ⟨_, _, rfl, ?_, ih _ _ rfl⟩
      rcases h with ⟨-, h1, -⟩ | ⟨k1, f1, j1, h1, h2, -, -, -, h3, -⟩ | ⟨q, -, -, -, -, h3, -⟩
      · exact h1
      · exact absurd h3.symm (by exact_mod_cast h2)
      · exact absurd h3 (by decide)
  | tyNo h hE => intro vs j e; cases e
  | @tm i j0 h t its r f g ihf ihg => intro vs j e; cases r with
    | bad => cases e
    | ok vs2 j2 =>
      injection e with e1 _; subst e1
      obtain ⟨h', t', e2, g2⟩ := ihf _ _ rfl
      injection e2 with e2 _; injection e2 with e2 e3; subst e2; subst e3
      exact ⟨_, _, rfl, g2, ihg _ _ rfl⟩
  | tmNo f ih => intro vs j e; cases e
  | @pt q i j0 h t its r f g ihf ihg => intro vs j e; cases r with
    | bad => cases e
    | ok vs2 j2 =>
      injection e with e1 _; subst e1
      obtain ⟨h', t', e2, g2⟩ := ihf _ _ rfl
      injection e2 with e2 _; injection e2 with e2 e3; subst e2; subst e3
      exact ⟨_, _, rfl, g2, ihg _ _ rfl⟩
  | ptNo f ih => intro vs j e; cases e
  | @opn i k its r h g ih => intro vs j e; cases r with
    | bad => cases e
    | ok vs2 j2 => injection e with e1 _; subst e1; exact ⟨_, _, rfl, mkT_ok h (ih _ _ rfl) _⟩
  | term h g ih => intro vs j e; exact ih vs j e
  | @opnd i r g ih => intro vs j e; cases r with
    | bad => cases e
    | ok vs2 j2 => injection e with e1 _; subst e1; exact ⟨_, _, rfl, mkO_form rfl (ih _ _ rfl) _⟩
  | part f g ihf ihg => intro vs j e; obtain ⟨h', t', e2, g2⟩ := ihf _ _ rfl; injection e2 with e2 _; injection e2 with e2 e3; subst e2; subst e3; exact ihg vs j e g2
  | partNo f ih => intro vs j e; cases e
  | stop e => intro vs j e g0; injection e with e _; subst e; exact ⟨_, _, rfl, g0⟩
  | go e h1 h2 f g ihf ihg => intro vs j e2 g0; exact ihg vs j e2 (mkOp_ok e (ihf _ _ rfl) _ g0)
  | goNo e h1 h2 f ih => intro vs j e; cases e
/-- a term that was read is well formed -/
theorem T.okT {l : List W4} (hok : ∀ x ∈ l, OkWord x) {i j : Nat} {h : Hd} {t : Tm} (hT : T l (.term i) (.ok [.tm h t] j)) : Tm.okT h t = true := by
  obtain ⟨h', t', e, g⟩ := hT.fills hok _ _ rfl
  injection e with e _; injection e with e2 e3; subst e2; subst e3; exact g
theorem T.chk {l : List W4} (hok : ∀ x ∈ l, OkWord x) {i j : Nat} {h : Hd} {t : Tm} (hT : T l (.term i) (.ok [.tm h t] j)) : Tm.chk h t = if 8192 < Tm.nd h t then 32 else if 200 < Tm.dp h t then 31 else 0 := by
  unfold Tm.chk
  rw [hT.okT hok]
  rfl
end Tt
end Go.Proofs.YtocehfklacjgbaaGreatDoor
namespace Go.Proofs.YtocehfklacjgbaaGreatDoor
open Rd
namespace Tt
/-- the head words that are the same for all terms of a kind -/
def hw (k : Int) : Option (Int × List UInt8) :=
  if k = 2 then some (3, kTrue) else if k = 3 then some (3, kFalse) else if k = 4 then some (4, [92]) else if k = 5 then some (3, kRec) else if k = 6 then some (4, [40]) else if k = 7 then some (3, kLet) else if k = 8 then some (3, kIf)
  else if k = 9 then some (4, [91]) else if k = 10 then some (3, kFst) else if k = 11 then some (3, kSnd) else if k = 12 then some (3, kInl) else if k = 13 then some (3, kInr) else if k = 14 then some (3, kCase) else if k = 16 then some (4, [58]) else none
/-- the n-th word is the head word of a term with these fields, and the term's place is its place -/
def HW (l : List W4) (n : Nat) (g : Hd) : Prop := g.pos = posAt l n ∧ n < l.length ∧
  ((g.kind = 0 ∧ ∃ x, l[n]? = some x ∧ x.kind = 1 ∧ x.text = g.name) ∨ (g.kind = 1 ∧ ∃ x, l[n]? = some x ∧ x.kind = 2 ∧ x.num = g.num) ∨ (g.kind = 1 ∧ g.num ≤ 0 ∧ sees l n 4 [45] = true) ∨
    (∃ k t, hw g.kind = some (k, t) ∧ sees l n k t = true) ∨ (g.kind = 15 ∧ sees l n 4 g.name.toList = true))
def heads : Tm → List Hd
  | .nil => []
  | .node h kids r => h :: (heads kids ++ heads r)
def vhs : List Vl → List Hd
  | [] => []
  | .tm h t :: vs => h :: (heads t ++ vhs vs)
  | _ :: vs => vhs vs
inductive All2 {α β : Type} (R : α → β → Prop) : List α → List β → Prop where
  | nil : All2 R [] []
  | cons {a : α} {b : β} {as' : List α} {bs' : List β} (h : R a b) (g : All2 R as' bs') : All2 R (a :: as') (b :: bs')
theorem All2.app {α β : Type} {R : α → β → Prop} {a c : List α} {b d : List β} (h : All2 R a b) (g : All2 R c d) : All2 R (a ++ c) (b ++ d) := by
  induction h with
  | nil => exact g
  | cons h _ ih => exact .cons h ih
/-- these heads have words of their own, from lo on, ahead of hi -/
def Has (l : List W4) (lo hi : Nat) (gs : List Hd) : Prop := ∃ ns : List Nat, All2 (HW l) ns gs ∧ ns.Nodup ∧ ∀ n ∈ ns, lo ≤ n ∧ n < hi
theorem Has.nil {l : List W4} {lo hi : Nat} : Has l lo hi [] := ⟨[], .nil, List.nodup_nil, fun _ h => by cases h⟩
theorem Has.mono {l : List W4} {lo hi lo' hi' : Nat} {gs : List Hd} (h : Has l lo hi gs) (h1 : lo' ≤ lo) (h2 : hi ≤ hi') : Has l lo' hi' gs := by
  obtain ⟨ns, a, b, c⟩ := h
  exact ⟨ns, a, b, fun n hn => by have := c n hn; omega⟩
theorem Has.app {l : List W4} {lo mid hi : Nat} {gs gs' : List Hd} (h : Has l lo mid gs) (g : Has l mid hi gs') (h1 : lo ≤ mid) (h2 : mid ≤ hi) : Has l lo hi (gs ++ gs') := by
  obtain ⟨ns, a, b, c⟩ := h
  obtain ⟨ms, d, e, f⟩ := g
  refine ⟨ns ++ ms, a.app d, List.nodup_append.2 ⟨b, e, fun x hx y hy => by have := c x hx; have := f y hy; omega⟩, fun n hn => ?_⟩
  rcases List.mem_append.1 hn with hn | hn
  · have := c n hn; omega
  · have := f n hn; omega
theorem Has.cons {l : List W4} {n lo hi : Nat} {g : Hd} {gs : List Hd} (h : HW l n g) (k : Has l lo hi gs) (h1 : n < lo) (h2 : lo ≤ hi) : Has l n hi (g :: gs) := by
  obtain ⟨ms, d, e, f⟩ := k
  refine ⟨n :: ms, .cons h d, List.nodup_cons.2 ⟨fun hn => by have := f n hn; omega, e⟩, fun m hm => ?_⟩
  rcases List.mem_cons.1 hm with rfl | hm
  · omega
  · have := f m hm; omega
/-- a head in the midst of its kids: left ones, the head, right ones -/
theorem Has.mid {l : List W4} {lo j hi : Nat} {g : Hd} {xs ys : List Hd} (ha : Has l lo j xs) (h : HW l j g) (hb : Has l (j + 1) hi ys) (h1 : lo ≤ j) (h2 : j + 1 ≤ hi) : Has l lo hi (g :: (xs ++ ys)) := by
  obtain ⟨ns, a, b, c⟩ := ha
  obtain ⟨ms, d, e, f⟩ := hb
  refine ⟨j :: (ns ++ ms), .cons h (a.app d), List.nodup_cons.2 ⟨fun hn => ?_, List.nodup_append.2 ⟨b, e, fun x hx y hy => by have := c x hx; have := f y hy; omega⟩⟩, fun n hn => ?_⟩
  · rcases List.mem_append.1 hn with hn | hn
    · have := c j hn; omega
    · have := f j hn; omega
  · rcases List.mem_cons.1 hn with rfl | hn
    · omega
    · rcases List.mem_append.1 hn with hn | hn
      · have := c n hn; omega
      · have := f n hn; omega
/-- what a form makes holds what its values hold -/
theorem heads_T {l : List W4} {i : Nat} {k p : Int} {its : List It} {vs : List Vl} (h : formT l i = some (k, its)) (hf : Fill its vs) : (mk k p vs).1 = { (mk k p vs).1 with kind := k, pos := p } ∧ heads (mk k p vs).2 = vhs vs := by
  unfold formT at h
  repeat' split at h
  · injection h with h; injection h with h1 h2; subst h1; subst h2
    obtain ⟨x, us, rfl, g1, hf⟩ := fill_nm hf
    obtain ⟨a, f, us, rfl, g2, hf⟩ := fill_ty (fill_w hf)
    obtain ⟨b, t, us, rfl, g3, hf⟩ := fill_tm (fill_w hf)
    obtain rfl := fill_0 hf
    exact ⟨rfl, by simp [mk, heads, vhs]⟩
  · injection h with h; injection h with h1 h2; subst h1; subst h2
    obtain ⟨x, us, rfl, g1, hf⟩ := fill_nm hf
    obtain ⟨a, f, us, rfl, g2, hf⟩ := fill_ty (fill_w hf)
    obtain ⟨b, t, us, rfl, g3, hf⟩ := fill_tm (fill_w hf)
    obtain ⟨b2, t2, us, rfl, g4, hf⟩ := fill_tm (fill_k hf)
    obtain rfl := fill_0 hf
    exact ⟨rfl, by simp [mk, heads, vhs]⟩
  · injection h with h; injection h with h1 h2; subst h1; subst h2
    obtain ⟨b, t, us, rfl, g3, hf⟩ := fill_tm hf
    obtain ⟨b2, t2, us, rfl, g4, hf⟩ := fill_tm (fill_k hf)
    obtain ⟨b3, t3, us, rfl, g5, hf⟩ := fill_tm (fill_k hf)
    obtain rfl := fill_0 hf
    exact ⟨rfl, by simp [mk, heads, vhs]⟩
  · injection h with h; injection h with h1 h2; subst h1; subst h2
    obtain ⟨x, us, rfl, g1, hf⟩ := fill_nm hf
    obtain ⟨y, us, rfl, g2, hf⟩ := fill_nm (fill_w hf)
    obtain ⟨a, f, us, rfl, g3, hf⟩ := fill_ty (fill_w hf)
    obtain ⟨a2, f2, us, rfl, g4, hf⟩ := fill_ty (fill_w (fill_w hf))
    obtain ⟨b, t, us, rfl, g5, hf⟩ := fill_tm (fill_w hf)
    obtain rfl := fill_0 hf
    exact ⟨rfl, by simp [mk, heads, vhs]⟩
  · injection h with h; injection h with h1 h2; subst h1; subst h2
    obtain ⟨b, t, us, rfl, g3, hf⟩ := fill_tm hf
    obtain ⟨x, us, rfl, g1, hf⟩ := fill_nm (fill_k hf)
    obtain ⟨b2, t2, us, rfl, g4, hf⟩ := fill_tm (fill_w hf)
    obtain ⟨y, us, rfl, g2, hf⟩ := fill_nm (fill_w hf)
    obtain ⟨b3, t3, us, rfl, g5, hf⟩ := fill_tm (fill_w hf)
    obtain rfl := fill_0 hf
    exact ⟨rfl, by simp [mk, heads, vhs]⟩
  · cases h
theorem hw_T {l : List W4} {i : Nat} {k : Int} {its : List It} (h : formT l i = some (k, its)) : ∃ kk t, hw k = some (kk, t) ∧ sees l i kk t = true := by
  unfold formT at h
  repeat' split at h
  all_goals first
    | (cases h; done)
    | (injection h with h; injection h with h1 h2; subst h1; exact ⟨_, _, rfl, by assumption⟩)
end Tt
end Go.Proofs.YtocehfklacjgbaaGreatDoor
namespace Go.Proofs.YtocehfklacjgbaaGreatDoor
open Rd
namespace Tt
theorem head_O {l : List W4} {j : Nat} {k : Int} {s lf : Nat} {its : List It} {vs : List Vl} (e : opr l j = some (k, s, lf, its)) (hf : Fill its vs) (h : Hd) (t : Tm) :
    HW l j (mkO k (posAt l j) (textAt l j) h t vs).1 ∧ heads (mkO k (posAt l j) (textAt l j) h t vs).2 = (h :: heads t) ++ vhs vs := by
  have hlt := opr_lt e
  unfold opr at e
  repeat' split at e
  all_goals first
    | (cases e; done)
    | (injection e with e; injection e with h1 h2; injection h2 with h2 h3; injection h3 with h3 h4; subst h1; subst h4)
  all_goals first
    | (obtain ⟨b, u, us, rfl, g3, hf⟩ := fill_pt hf; obtain rfl := fill_0 hf; have hsg := sign_at (l := l) (i := j) (k := 4) (by assumption); exact ⟨⟨rfl, hlt, .inr (.inr (.inr (.inr ⟨rfl, by show sees l j 4 (textAt l j).toList = true; rw [hsg]; assumption⟩)))⟩, by simp [mkO, heads, vhs]⟩)
    | (obtain ⟨b, u, us, rfl, g3, hf⟩ := fill_tm hf; obtain rfl := fill_0 (fill_w hf); exact ⟨⟨rfl, hlt, .inr (.inr (.inr (.inl ⟨4, [40], rfl, by assumption⟩)))⟩, by simp [mkO, heads, vhs]⟩)
    | (obtain ⟨a, f, us, rfl, g2, hf⟩ := fill_ty hf; obtain rfl := fill_0 hf; exact ⟨⟨rfl, hlt, .inr (.inr (.inr (.inl ⟨4, [58], rfl, by assumption⟩)))⟩, by simp [mkO, heads, vhs]⟩)
theorem seq_nm {l : List W4} {i : Nat} {vs : List Vl} {j : Nat} (h : T l (.seq [.nm] i) (.ok vs j)) : ∃ x, l[i]? = some x ∧ x.kind = 1 ∧ vs = [.nm x.text] ∧ j = i + 1 := by
  generalize hr : Rs.ok vs j = r at h
  cases h with
  | @nm _ x _ r2 h hk g =>
    cases g
    injection hr with e1 e2
    exact ⟨x, h, hk, e1, e2⟩
  | nmNo h => cases hr
theorem seq_nu {l : List W4} {i : Nat} {vs : List Vl} {j : Nat} (h : T l (.seq [.nu] i) (.ok vs j)) : ∃ x, l[i]? = some x ∧ x.kind = 2 ∧ vs = [.nu x.num] ∧ j = i + 1 := by
  generalize hr : Rs.ok vs j = r at h
  cases h with
  | @nu _ x _ r2 h hk g =>
    cases g
    injection hr with e1 e2
    exact ⟨x, h, hk, e1, e2⟩
  | nuNo h => cases hr
/-- what stands between operators -/
theorem head_form {l : List W4} (hok : ∀ x ∈ l, OkWord x) {i : Nat} {q : Int × List It × Nat × Nat} (h : formO l i = q) {vs : List Vl} {j : Nat} (g : T l (.seq q.2.1 q.2.2.1) (.ok vs j)) (hf : Fill q.2.1 vs) (hs : Has l q.2.2.1 j (vhs vs)) (hj : q.2.2.1 ≤ j) :
    Has l i j (vhs [.tm (mk q.1 (posAt l i) vs).1 (mk q.1 (posAt l i) vs).2]) := by
  have up : ∀ {gg : Hd} {tt : Tm}, HW l i gg → heads tt = vhs vs → Has l (i + 1) j (vhs vs) → i + 1 ≤ j → Has l i j (vhs [.tm gg tt]) := fun {gg tt} a b c d => by
    have := Has.cons a c (Nat.lt_succ_self i) d
    simp only [vhs, List.append_nil]
    rw [b]
    exact this
  unfold formO at h
  repeat' split at h
  all_goals subst h
  all_goals dsimp only at hf g hs hj ⊢
  all_goals first
    | (obtain ⟨b, t, us, rfl, g3, hf⟩ := fill_pt hf; obtain rfl := fill_0 hf; exact up ⟨rfl, sees_lt (by assumption), .inr (.inr (.inr (.inl ⟨_, _, rfl, by assumption⟩)))⟩ (by simp [mk, heads, vhs]) hs hj)
    | (obtain ⟨a, f, us, rfl, g2, hf⟩ := fill_ty (fill_w hf); obtain ⟨b, t, us, rfl, g3, hf⟩ := fill_pt (fill_w hf); obtain rfl := fill_0 hf; exact up ⟨rfl, sees_lt (by assumption), .inr (.inr (.inr (.inl ⟨_, _, rfl, by assumption⟩)))⟩ (by simp [mk, heads, vhs]) hs hj)
    | (obtain ⟨b, t, us, rfl, g3, hf⟩ := fill_tm hf; obtain ⟨b2, t2, us, rfl, g4, hf⟩ := fill_tm (fill_w hf); obtain rfl := fill_0 (fill_w hf); exact up ⟨rfl, sees_lt (by assumption), .inr (.inr (.inr (.inl ⟨_, _, rfl, by assumption⟩)))⟩ (by simp [mk, heads, vhs]) hs hj)
    | (obtain ⟨b, t, us, rfl, g3, hf⟩ := fill_tm hf; obtain rfl := fill_0 (fill_w hf); exact hs.mono (by omega) (Nat.le_refl _))
    | (obtain rfl := fill_0 hf; exact up ⟨rfl, sees_lt (by assumption), .inr (.inr (.inr (.inl ⟨_, _, rfl, by assumption⟩)))⟩ (by simp [mk, heads, vhs]) hs hj)
    | (obtain ⟨x, hx, hk, rfl, rfl⟩ := seq_nm g; exact up ⟨rfl, (List.getElem?_eq_some_iff.1 hx).1, .inl ⟨rfl, x, hx, hk, rfl⟩⟩ (by simp [mk, heads, vhs]) Has.nil (Nat.le_refl _))
    | skip
  · obtain ⟨x, hx, hk, rfl, rfl⟩ := seq_nu g
    have hn := (hok x (List.mem_of_getElem? hx)).2.2.2.1 hk
    exact up ⟨rfl, sees_lt (by assumption), .inr (.inr (.inl ⟨rfl, by show -x.num ≤ 0; omega, by assumption⟩))⟩ (by simp [mk, heads, vhs]) Has.nil (by omega)
  · obtain ⟨x, hx, hk, rfl, rfl⟩ := seq_nu g
    exact up ⟨rfl, (List.getElem?_eq_some_iff.1 hx).1, .inr (.inl ⟨rfl, x, hx, hk, rfl⟩)⟩ (by simp [mk, heads, vhs]) Has.nil (Nat.le_refl _)
def Tg.hasP (l : List W4) (vs : List Vl) (j : Nat) : Tg → Prop
  | .seq _ i => Has l i j (vhs vs)
  | .lp _ h0 t0 _ j0 => ∀ lo, lo ≤ j0 → Has l lo j0 (vhs [.tm h0 t0]) → Has l lo j (vhs vs)
  | .term i => Has l i j (vhs vs)
  | .part _ i => Has l i j (vhs vs)
  | .opnd i => Has l i j (vhs vs)
theorem T.le {l : List W4} {t : Tg} {vs : List Vl} {j : Nat} (h : T l t (.ok vs j)) (hs : t.start ≤ l.length) : t.start ≤ j ∧ j ≤ l.length := by
  have := h.goes hs
  simp only [Rs.within] at this
  omega
theorem T.has {l : List W4} (hok : ∀ x ∈ l, OkWord x) {t : Tg} {r : Rs} (h : T l t r) : t.start ≤ l.length → ∀ vs j, r = .ok vs j → t.hasP l vs j := by
  induction h with
  | nil => intro _ vs j e; injection e with e _; subst e; exact Has.nil
  | word h g ih => intro _ vs j e; have := sees_lt h; exact Has.mono (ih (by simp only [Tg.start]; omega) vs j e) (Nat.le_succ _) (Nat.le_refl _)
  | wordNo h => intro _ vs j e; cases e
  | @nm i x its r h hk g ih => intro _ vs j e; cases r with
    | bad => cases e
    | ok vs2 j2 => injection e with e1 e2; subst e1; subst e2; have := (List.getElem?_eq_some_iff.1 h).1; have q := ih (by simp only [Tg.start]; omega) _ _ rfl; exact Has.mono (show Has l (i + 1) j2 (vhs vs2) from q) (Nat.le_succ _) (Nat.le_refl _)
  | nmNo h => intro _ vs j e; cases e
  | @nu i x its r h hk g ih => intro _ vs j e; cases r with
    | bad => cases e
    | ok vs2 j2 => injection e with e1 e2; subst e1; subst e2; have := (List.getElem?_eq_some_iff.1 h).1; have q := ih (by simp only [Tg.start]; omega) _ _ rfl; exact Has.mono (show Has l (i + 1) j2 (vhs vs2) from q) (Nat.le_succ _) (Nat.le_refl _)
  | nuNo h => intro _ vs j e; cases e
  | @ty i j0 k f a t its r h g ih => intro hi vs j e; cases r with
    | bad => cases e
    | ok vs2 j2 => injection e with e1 e2; subst e1; subst e2; have ho := Out.goes h hi; have q := ih (by simp only [Tg.start]; omega) _ _ rfl; exact Has.mono (show Has l j0 j2 (vhs vs2) from q) (by omega) (Nat.le_refl _)
  | tyNo h hE => intro _ vs j e; cases e
  | @tm i j0 h t its r f g ihf ihg => intro hi vs j e; cases r with
    | bad => cases e
    | ok vs2 j2 =>
      injection e with e1 e2; subst e1; subst e2
      have l1 := f.le hi
      simp only [Tg.start] at l1
      have l2 := g.le (by simp only [Tg.start]; omega)
      simp only [Tg.start] at l2
      have qa := ihf hi _ _ rfl
      have qb := ihg (by simp only [Tg.start]; omega) _ _ rfl
      have := Has.app (show Has l i j0 (vhs [.tm h t]) from qa) (show Has l j0 j2 (vhs vs2) from qb) l1.1 l2.1
      show Has l i j2 (vhs (.tm h t :: vs2))
      simpa [vhs] using this
  | tmNo f ih => intro _ vs j e; cases e
  | @pt q i j0 h t its r f g ihf ihg => intro hi vs j e; cases r with
    | bad => cases e
    | ok vs2 j2 =>
      injection e with e1 e2; subst e1; subst e2
      have l1 := f.le hi
      simp only [Tg.start] at l1
      have l2 := g.le (by simp only [Tg.start]; omega)
      simp only [Tg.start] at l2
      have qa := ihf hi _ _ rfl
      have qb := ihg (by simp only [Tg.start]; omega) _ _ rfl
      have := Has.app (show Has l i j0 (vhs [.tm h t]) from qa) (show Has l j0 j2 (vhs vs2) from qb) l1.1 l2.1
      show Has l i j2 (vhs (.tm h t :: vs2))
      simpa [vhs] using this
  | ptNo f ih => intro _ vs j e; cases e
  | @opn i k its r h g ih => intro _ vs j e; cases r with
    | bad => cases e
    | ok vs2 j2 =>
      injection e with e1 e2; subst e1; subst e2
      have hlt := formT_lt h
      have hs := ih (by simp only [Tg.start]; omega) _ _ rfl
      have hle := (g.le (by simp only [Tg.start]; omega)).1
      obtain ⟨a, b⟩ := heads_T (p := posAt l i) h (g.fills hok _ _ rfl)
      obtain ⟨kk, t, c, d⟩ := hw_T h
      have := Has.cons (n := i) (g := (mk k (posAt l i) vs2).1) ⟨by rw [a], hlt, .inr (.inr (.inr (.inl ⟨kk, t, by rw [a]; exact c, d⟩)))⟩ hs (Nat.lt_succ_self i) hle
      show Has l i j2 (vhs [.tm (mk k (posAt l i) vs2).1 (mk k (posAt l i) vs2).2])
      simp only [vhs, List.append_nil]
      rw [b]
      exact this
  | term h g ih => intro hi vs j e; exact ih hi vs j e
  | @opnd i r g ih => intro hi vs j e; cases r with
    | bad => cases e
    | ok vs2 j2 =>
      injection e with e1 e2; subst e1; subst e2
      have hst : (formO l i).2.2.1 ≤ l.length := by
        rcases formO_off l i with ⟨h1, h2⟩ | ⟨h1, -⟩
        · rw [h1]; omega
        · rw [h1]; exact hi
      exact head_form hok rfl g (g.fills hok _ _ rfl) (ih hst _ _ rfl) (g.le hst).1
  | part f g ihf ihg =>
    intro hi vs j e
    have l1 := f.le hi
    exact ihg l1.2 vs j e _ l1.1 (ihf hi _ _ rfl)
  | partNo f ih => intro _ vs j e; cases e
  | stop e => intro _ vs j e2 lo hlo h0; injection e2 with e2 e3; subst e2; subst e3; exact h0
  | @go q st j j2 s lf h t k its vs1 r e h1 h2 f g ihf ihg =>
    intro hi vs j' e2 lo hlo h0
    have hlt := opr_lt e
    have l1 := f.le (by simp only [Tg.start]; omega)
    simp only [Tg.start] at l1
    obtain ⟨a, b⟩ := head_O e (f.fills hok _ _ rfl) h t
    refine ihg l1.2 vs j' e2 lo (by omega) ?_
    have h0' : Has l lo j (h :: heads t) := by simpa [vhs] using h0
    have := Has.mid h0' a (ihf (by simp only [Tg.start]; omega) _ _ rfl) hlo l1.1
    simp only [vhs, List.append_nil]
    rw [b]
    exact this
  | goNo e h1 h2 f ih => intro _ vs j e; cases e
end Tt
end Go.Proofs.YtocehfklacjgbaaGreatDoor
