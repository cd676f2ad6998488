import Derived.Test.YtgjemmmbnpkamaaGreatDoorM16
namespace Go.Proofs.YtgjemmmbnpkamaaGreatDoor
open Go.RowKit Rd Tt
theorem zGS {n N : Nat} {w : World} {k p : Int} {h h' : Hd} {t t' : Tm} {o : Obj} (hk1 : -128 ≤ k) (hk2 : k ≤ 127) (hn : n ≤ N) (hN : w.heap[N]? = some (.cells #[.int .i8 k, .string ⟨#[]⟩, .string ⟨#[]⟩, .int .i64 0, .int .i8 0, .slice none 0 0, .int .i8 0, .slice none 0 0, .int .i64 0, .int .i64 p, .slice none 0 0] 28 (0, 0)))
    {q q' : Pl} (hF : FarT (N + 1) w h t q) (hF' : FarT (N + 1) w h' t' q') :
    TAt n (((w.alloc o).alloc (.cells (h.cells q ++ h'.cells q').toArray 28)).setCell ⟨N, 10, none⟩ (.slice (some ⟨w.heap.size + 1, 0, none⟩) 2 2)) N (hd0 k p) (.node h t (.node h' t' .nil)) := by
  rw [show w.heap.size + 1 = (w.alloc o).heap.size by simp]
  have hNl := zD hN
  have hN2 := zG (zG hN o) (.cells (h.cells q ++ h'.cells q').toArray 28)
  have hZ := zF (w.alloc o) (.cells (h.cells q ++ h'.cells q').toArray 28)
  have hs : (w.alloc o).heap.size = w.heap.size + 1 := by simp
  have hk := ((zk (n0 := N + 1) (w := w) o).trans (zk (.cells (h.cells q ++ h'.cells q').toArray 28))).trans (zU (o := 10) (v := .slice (some ⟨(w.alloc o).heap.size, 0, none⟩) 2 2) (Nat.lt_succ_self N))
  refine ⟨hn, ⟨none, 0, 0, none, 0, 0, some ⟨(w.alloc o).heap.size, 0, none⟩, 2, 2⟩, ?_, fun u hu => ⟨zFy hk1 hk2 (by omega), ?_⟩⟩
  · exact zBU
  · exact zHI
theorem zH {w : World} {b : Nat} {cs : Array Value} {t : TypeId} (h : w.heap[b]? = some (.cells cs t (0, 0))) (o : Nat) : w.frozen? ⟨b, o, none⟩ = false := by simp [World.frozen?, h]
set_option maxHeartbeats 4000000 in
set_option maxRecDepth 100000 in
theorem zES (l : List W4) (A : Option Addr) (c rb i : Nat) (mv : Value) (w : World) (hS : PdS l A c rb mv w i) (hi : i < l.length) (s1 : Says ⟨#[44]⟩ 4 [44]) (s2 : Says ⟨#[93]⟩ 4 [93]) (hN : Needs l A c rb mv i) (r : Tt.Rs) (hT : T l (.seq [.tm, sg 44, .tm, sg 93] (i + 1)) r) :
    Calls Tryz.prog 141 #[.pointer (some ⟨rb, 0, none⟩)] w (TPost l A c rb mv w (r.make 9 (posAt l i))) := by
  have CH := k0_ (qM l A c rb i mv 9 w hS hi)
  have hrl := zD hS.rdr
  rw [qc hi] at CH
  have CT := k0_ (fun (j : Nat) (hij : i < j) (hj : j ≤ l.length) => hN.term j hij hj)
  have HS := k0_ hS
  clear hS hN
  go_enter Tryz.func141, Tryz.ntmps141
  go_wp2_with fail
  refine CH.out.mono ?_
  rintro e w2 ⟨N, rfl, hN1, hN2, hX, hR, hg⟩
  have HG2 := k0_ hg
  have HR2 := k0_ hR
  have HN2 := k0_ hX
  clear hR hg hX CH
  cases hT with
  | @tmNo _ E a s _ f =>
    exact zGr
  | @tm _ j h t _ r' f g =>
    have CP := k0_ (CT.out (i + 1) (Nat.lt_succ_self i) hi w2 _ (HS.out.step HG2.out HR2.out hi) f)
    have hij : i + 1 ≤ j := Nat.le_trans (Nat.le_add_right _ _) (T.goes f hi).1
    have hj := (T.goes f hi).2
    clear f
    go_wp2_with fail
    refine CP.out.mono ?_
    rintro e w3 ⟨X, rfl, hX, hr, hg⟩
    have HN3 := k0_ ((hg.block _ hN2 (fun e => by injection e with e; omega)).trans HN2.out)
    have HG3 := k0_ (zI HG2.out hg)
    have HX3 := k0_ (hX.low (n0 := N + 1) hN2)
    have hN3 := zD HN3.out
    have HS3 := k0_ (HS.out.step HG3.out hr hj)
    clear hr hg hX CP
    cases g with
    | wordNo hw =>
      have CB := k0_ (qF l A c rb j mv _ w3 HS3.out s1 hw)
      clear CT
      exact zGD
    | word hw g2 =>
      have hjl := zP hw
      cases g2 with
      | @tmNo _ E a s _ f =>
        exact zFb
      | @tm _ j2 h' t' _ r'' f g3 =>
        have CB := k0_ (zZ l A c rb j mv _ w3 HS3.out s1 hw (CT.out (j + 1) (by omega) hjl) _ f)
        have hj2 := (T.goes f hjl).2
        clear CT f
        go_wp2_with fail
        refine CB.out.mono ?_
        rintro e w4 ⟨Y, rfl, hY, hr, hg⟩
        have HN4 := k0_ ((hg.block _ hN3 (fun e => by injection e with e; omega)).trans HN3.out)
        have HG4 := k0_ (zI HG3.out hg)
        have HX4 := k0_ (HX3.out.grown hg (by omega))
        have HY4 := k0_ (hY.low (n0 := N + 1) hN3)
        have HR4 := k0_ hr
        clear hr hg hY CB HX3
        obtain ⟨hXn, p, hX, hF⟩ := HX4.out
        obtain ⟨hYn, p', hY, hF'⟩ := HY4.out
        have CK := k0_ (zg (w4.alloc (.cells #[.pointer (some ⟨X, 0, none⟩), .pointer (some ⟨Y, 0, none⟩)] 74)) w4.heap.size X Y h h' p p' (zF _ _) (zG hX _) (zG hY _))
        have HF := k0_ hF
        have HF' := k0_ hF'
        clear hX hY hF hF' HX4 HY4
        go_wp2_with fail
        refine CK.out.mono ?_
        rintro e w5 ⟨rfl, hw5⟩
        have hw6 : (w4.alloc (.cells #[.pointer (some ⟨X, 0, none⟩), .pointer (some ⟨Y, 0, none⟩)] 74)).alloc (.cells (h.cells p ++ h'.cells p').toArray 28) = w5 := hw5
        clear hw5
        have HX5 := zG (zG HN4.out (.cells #[.pointer (some ⟨X, 0, none⟩), .pointer (some ⟨Y, 0, none⟩)] 74)) (.cells (h.cells p ++ h'.cells p').toArray 28)
        have HT0 := zGS (o := .cells #[.pointer (some ⟨X, 0, none⟩), .pointer (some ⟨Y, 0, none⟩)] 74) (by decide) (by decide) hN1 HN4.out HF.out HF'.out
        have HR5 : PRd w5 rb A l.length c j2 mv := by rw [← hw6]; exact zG (zG HR4.out _) _
        have HB5 : Below w4.heap.size w4 w5 := by rw [← hw6]; exact (((Below.refl _ _).alloc (Nat.le_refl _) _).alloc (by simp) _)
        rw [hw6] at HX5 HT0
        clear hw6
        have c10 := cell_of_heap HX5 10 rfl
        have z10 := zH HX5 10
        have hr3 : rb ≠ N := by omega
        have HTA := k0_ HT0
        have HR6 := k0_ (show PRd (w5.setCell ⟨N, 10, none⟩ (.slice (some ⟨w4.heap.size + 1, 0, none⟩) 2 2)) rb A l.length c j2 mv from by
          unfold PRd; rw [Below.heap_setCell _ _ _ rb hr3]; exact HR5)
        have HG5 := k0_ (zK (zI HG4.out (zJ (rb := rb) HB5)) (p := ⟨N, 10, none⟩) (.inr hN1) (.slice (some ⟨w4.heap.size + 1, 0, none⟩) 2 2))
        have HS6 := k0_ (HS.out.step HG5.out HR6.out hj2)
        clear HT0 HR5 HB5 CK HF HF' HG4 HR4 HN4 HS3 HN3 HX5
        generalize hw7 : w5.setCell ⟨N, 10, none⟩ (.slice (some ⟨w4.heap.size + 1, 0, none⟩) 2 2) = w7 at HTA HR6 HG5 HS6
        go_wp2_with fail
        clear hw7 c10 z10
        cases g3 with
        | wordNo hw2 =>
          refine (qJ l A c rb j2 mv _ w7 HS6.out s2 hw2).mono ?_
          intro e w8 hP
          exact zFH
        | word hw2 g4 =>
          cases g4
          refine (qC l A c rb j2 mv _ w7 HS6.out s2 hw2).mono ?_
          rintro e w8 ⟨rfl, hr, hg⟩
          have HG8 := k0_ (zI HG5.out hg)
          have HR8 := k0_ hr
          have HT8 := k0_ (HTA.out.grown hg hrl)
          clear hr hg
          go_wp2_with fail
          go_ret
          exact ⟨N, rfl, HT8.out, HR8.out, HG8.out⟩
theorem node3 {n N : Nat} {w : World} {k p : Int} {h h' h'' : Hd} {t t' t'' : Tm} {o : Obj} (hk1 : -128 ≤ k) (hk2 : k ≤ 127) (hn : n ≤ N) (hN : w.heap[N]? = some (.cells #[.int .i8 k, .string ⟨#[]⟩, .string ⟨#[]⟩, .int .i64 0, .int .i8 0, .slice none 0 0, .int .i8 0, .slice none 0 0, .int .i64 0, .int .i64 p, .slice none 0 0] 28 (0, 0)))
    {q q' q'' : Pl} (hF : FarT (N + 1) w h t q) (hF' : FarT (N + 1) w h' t' q') (hF'' : FarT (N + 1) w h'' t'' q'') :
    TAt n (((w.alloc o).alloc (.cells (h.cells q ++ (h'.cells q' ++ h''.cells q'')).toArray 28)).setCell ⟨N, 10, none⟩ (.slice (some ⟨w.heap.size + 1, 0, none⟩) 3 3)) N (hd0 k p) (.node h t (.node h' t' (.node h'' t'' .nil))) := by
  rw [show w.heap.size + 1 = (w.alloc o).heap.size by simp]
  have hNl := zD hN
  have hN2 := zG (zG hN o) (.cells (h.cells q ++ (h'.cells q' ++ h''.cells q'')).toArray 28)
  have hZ := zF (w.alloc o) (.cells (h.cells q ++ (h'.cells q' ++ h''.cells q'')).toArray 28)
  have hs : (w.alloc o).heap.size = w.heap.size + 1 := by simp
  have hk := ((zk (n0 := N + 1) (w := w) o).trans (zk (.cells (h.cells q ++ (h'.cells q' ++ h''.cells q'')).toArray 28))).trans (zU (o := 10) (v := .slice (some ⟨(w.alloc o).heap.size, 0, none⟩) 3 3) (Nat.lt_succ_self N))
  refine ⟨hn, ⟨none, 0, 0, none, 0, 0, some ⟨(w.alloc o).heap.size, 0, none⟩, 3, 3⟩, ?_, fun u hu => ⟨zFy hk1 hk2 (by omega), ?_⟩⟩
  · exact zBU
  · have hZ2 : (((w.alloc o).alloc (.cells (h.cells q ++ (h'.cells q' ++ h''.cells q'')).toArray 28)).setCell ⟨N, 10, none⟩ (.slice (some ⟨(w.alloc o).heap.size, 0, none⟩) 3 3)).heap[(w.alloc o).heap.size]? = some (.cells (h.cells q ++ (h'.cells q' ++ h''.cells q'')).toArray 28 (0, 0)) := by
      exact zEJ
    exact zHf (n0 := N + 1) hZ2 (by omega) (hF.keep hk) (hF'.keep hk) (hF''.keep hk) u (hu.low (by omega))
set_option maxHeartbeats 4000000 in
set_option maxRecDepth 100000 in
theorem zBQ (l : List W4) (A : Option Addr) (c rb i : Nat) (mv : Value) (w : World) (hS : PdS l A c rb mv w i) (hi : i < l.length) (s1 : Says ⟨#[116, 104, 101, 110]⟩ 3 kThen) (s2 : Says ⟨#[101, 108, 115, 101]⟩ 3 kElse) (hN : Needs l A c rb mv i) (r : Tt.Rs) (hT : T l (.seq [.tm, .w 3 kThen, .tm, .w 3 kElse, .tm] (i + 1)) r) :
    Calls Tryz.prog 51 #[.pointer (some ⟨rb, 0, none⟩)] w (TPost l A c rb mv w (r.make 8 (posAt l i))) := by
  have CH := k0_ (qM l A c rb i mv 8 w hS hi)
  have hrl := zD hS.rdr
  rw [qc hi] at CH
  have CT := k0_ (fun (j : Nat) (hij : i < j) (hj : j ≤ l.length) => hN.term j hij hj)
  have HS := k0_ hS
  clear hS hN
  go_enter Tryz.func51, Tryz.ntmps51
  go_wp2_with fail
  refine CH.out.mono ?_
  rintro e w2 ⟨N, rfl, hN1, hN2, hX, hR, hg⟩
  have HG2 := k0_ hg
  have HR2 := k0_ hR
  have HN2 := k0_ hX
  clear hR hg hX CH
  cases hT with
  | @tmNo _ E a s _ f =>
    exact zGr
  | @tm _ j h t _ r' f g =>
    have CP := k0_ (CT.out (i + 1) (Nat.lt_succ_self i) hi w2 _ (HS.out.step HG2.out HR2.out hi) f)
    have hij : i + 1 ≤ j := Nat.le_trans (Nat.le_add_right _ _) (T.goes f hi).1
    have hj := (T.goes f hi).2
    clear f
    go_wp2_with fail
    refine CP.out.mono ?_
    rintro e w3 ⟨X, rfl, hX, hr, hg⟩
    have HN3 := k0_ ((hg.block _ hN2 (fun e => by injection e with e; omega)).trans HN2.out)
    have HG3 := k0_ (zI HG2.out hg)
    have HX3 := k0_ (hX.low (n0 := N + 1) hN2)
    have hN3 := zD HN3.out
    have HS3 := k0_ (HS.out.step HG3.out hr hj)
    clear hr hg hX CP
    cases g with
    | wordNo hw =>
      have CB := k0_ (qF l A c rb j mv _ w3 HS3.out s1 hw)
      clear CT
      exact zGD
    | word hw g2 =>
      have hjl := zP hw
      cases g2 with
      | @tmNo _ E a s _ f =>
        exact zFb
      | @tm _ j2 h' t' _ r'' f g3 =>
        have CB := k0_ (zZ l A c rb j mv _ w3 HS3.out s1 hw (CT.out (j + 1) (by omega) hjl) _ f)
        have hj2 := (T.goes f hjl).2
        have HJ2 : j + 1 ≤ j2 := Nat.le_trans (Nat.le_add_right _ _) (T.goes f hjl).1
        clear f
        go_wp2_with fail
        refine CB.out.mono ?_
        rintro e w4 ⟨Y, rfl, hY, hr, hg⟩
        have HN4 := k0_ ((hg.block _ hN3 (fun e => by injection e with e; omega)).trans HN3.out)
        have HG4 := k0_ (zI HG3.out hg)
        have HX4 := k0_ (HX3.out.grown hg (by omega))
        have HY4 := k0_ (hY.low (n0 := N + 1) hN3)
        have hN4 := zD HN4.out
        have HS4 := k0_ (HS.out.step HG4.out hr hj2)
        have hjj : j + 1 ≤ j2 := HJ2
        clear hr hg hY CB HX3 HS3
        cases g3 with
        | wordNo hw2 =>
          have CB := k0_ (qF l A c rb j2 mv _ w4 HS4.out s2 hw2)
          clear CT
          exact zGj
        | word hw2 g4 =>
          have hjl2 := zP hw2
          cases g4 with
          | @tmNo _ E a s _ f =>
            have CB := k0_ (zZ l A c rb j2 mv _ w4 HS4.out s2 hw2 (CT.out (j2 + 1) (by omega) hjl2) _ f)
            clear CT f
            exact zGj
          | @tm _ j3 h'' t'' _ r3 f g5 =>
            cases g5
            have CB := k0_ (zZ l A c rb j2 mv _ w4 HS4.out s2 hw2 (CT.out (j2 + 1) (by omega) hjl2) _ f)
            clear CT f
            go_wp2_with fail
            refine CB.out.mono ?_
            rintro e w5 ⟨V, rfl, hV, hr, hg⟩
            have HN5 := k0_ ((hg.block _ hN4 (fun e => by injection e with e; omega)).trans HN4.out)
            have HG5 := k0_ (zI HG4.out hg)
            have HX5 := k0_ (HX4.out.grown hg (by omega))
            have HY5 := k0_ (HY4.out.grown hg (by omega))
            have HV5 := k0_ (hV.low (n0 := N + 1) hN4)
            have HR5 := k0_ hr
            clear hr hg hV CB HX4 HY4
            obtain ⟨hXn, p, hX, hF⟩ := HX5.out
            obtain ⟨hYn, p', hY, hF'⟩ := HY5.out
            obtain ⟨hVn, p'', hV, hF''⟩ := HV5.out
            have CK := k0_ (zA7 (w5.alloc (.cells #[.pointer (some ⟨X, 0, none⟩), .pointer (some ⟨Y, 0, none⟩), .pointer (some ⟨V, 0, none⟩)] 74)) w5.heap.size X Y V h h' h'' p p' p'' (zF _ _) (zG hX _) (zG hY _) (zG hV _))
            have HF := k0_ hF
            have HF' := k0_ hF'
            have HF'' := k0_ hF''
            clear hX hY hV hF hF' hF'' HX5 HY5 HV5
            go_wp2_with fail
            refine CK.out.mono ?_
            rintro e w6 ⟨rfl, hw5⟩
            have hw6 : (w5.alloc (.cells #[.pointer (some ⟨X, 0, none⟩), .pointer (some ⟨Y, 0, none⟩), .pointer (some ⟨V, 0, none⟩)] 74)).alloc (.cells (h.cells p ++ (h'.cells p' ++ h''.cells p'')).toArray 28) = w6 := hw5
            clear hw5
            have HX5 := zG (zG HN5.out (.cells #[.pointer (some ⟨X, 0, none⟩), .pointer (some ⟨Y, 0, none⟩), .pointer (some ⟨V, 0, none⟩)] 74)) (.cells (h.cells p ++ (h'.cells p' ++ h''.cells p'')).toArray 28)
            have HT0 := node3 (o := .cells #[.pointer (some ⟨X, 0, none⟩), .pointer (some ⟨Y, 0, none⟩), .pointer (some ⟨V, 0, none⟩)] 74) (by decide) (by decide) hN1 HN5.out HF.out HF'.out HF''.out
            have HR6 : PRd w6 rb A l.length c j3 mv := by rw [← hw6]; exact zG (zG HR5.out _) _
            have HB6 : Below w5.heap.size w5 w6 := by rw [← hw6]; exact (((Below.refl _ _).alloc (Nat.le_refl _) _).alloc (by simp) _)
            rw [hw6] at HX5 HT0
            clear hw6
            have c10 := cell_of_heap HX5 10 rfl
            have z10 := zH HX5 10
            have hr3 : rb ≠ N := by omega
            have HTA := k0_ HT0
            have HR7 := k0_ (show PRd (w6.setCell ⟨N, 10, none⟩ (.slice (some ⟨w5.heap.size + 1, 0, none⟩) 3 3)) rb A l.length c j3 mv from by
              unfold PRd; rw [Below.heap_setCell _ _ _ rb hr3]; exact HR6)
            have HG6 := k0_ (zK (zI HG5.out (zJ (rb := rb) HB6)) (p := ⟨N, 10, none⟩) (.inr hN1) (.slice (some ⟨w5.heap.size + 1, 0, none⟩) 3 3))
            clear HT0 HR6 HB6 CK HF HF' HF'' HG5 HR5 HN5 HS4 HN4 HX5
            go_wp2_with fail
            go_ret
            exact ⟨N, rfl, HTA.out, HR7.out, HG6.out⟩
theorem zHk {w : World} {k p a : Int} {f : Fo} {G A : Option Addr} {m cg n : Nat} (h1 : -128 ≤ k) (h2 : k ≤ 127) (hn : n ≤ 3) (hT : Ty.Is w a f G m cg) : Tm.Fit w { hd0 k p with tk := a, tkids := f } ⟨G, m, cg, none, 0, 0, A, n, n⟩ n :=
  ⟨hT, ⟨trivial, rfl, Nat.le_refl _, Nat.zero_le _, by show (-128 : Int) ≤ 0; omega, by show (0 : Int) ≤ 127; omega⟩, rfl, Nat.le_refl _, by show n ≤ maxLen; unfold maxLen; omega, h1, h2, by show (-9223372036854775808 : Int) ≤ 0; omega, by show (0 : Int) ≤ 9223372036854775807; omega, Nat.zero_le _, Nat.zero_le _⟩
theorem zFt {n N : Nat} {w : World} {k p a : Int} {f : Fo} {G : Option Addr} {m cg : Nat} {h : Hd} {t : Tm} {o : Obj} (hk1 : -128 ≤ k) (hk2 : k ≤ 127) (hn : n ≤ N) (hN : w.heap[N]? = some (.cells #[.int .i8 k, .string ⟨#[]⟩, .string ⟨#[]⟩, .int .i64 0, .int .i8 a, .slice G m cg, .int .i8 0, .slice none 0 0, .int .i64 0, .int .i64 p, .slice none 0 0] 28 (0, 0)))
    {q : Pl} (hF : FarT (N + 1) w h t q) (hT : Far (N + 1) w a f G m cg) :
    TAt n (((w.alloc o).alloc (.cells (h.cells q).toArray 28)).setCell ⟨N, 10, none⟩ (.slice (some ⟨w.heap.size + 1, 0, none⟩) 1 1)) N { hd0 k p with tk := a, tkids := f } (.node h t .nil) := by
  rw [show w.heap.size + 1 = (w.alloc o).heap.size by simp]
  have hNl := zD hN
  have hN2 := zG (zG hN o) (.cells (h.cells q).toArray 28)
  have hZ := zF (w.alloc o) (.cells (h.cells q).toArray 28)
  have hs : (w.alloc o).heap.size = w.heap.size + 1 := by simp
  have hk := ((zk (n0 := N + 1) (w := w) o).trans (zk (.cells (h.cells q).toArray 28))).trans (zU (o := 10) (v := .slice (some ⟨(w.alloc o).heap.size, 0, none⟩) 1 1) (Nat.lt_succ_self N))
  refine ⟨hn, ⟨G, m, cg, none, 0, 0, some ⟨(w.alloc o).heap.size, 0, none⟩, 1, 1⟩, ?_, fun u hu => ⟨zHk hk1 hk2 (by omega) (hT u (hk.trans (hu.low (by omega)))), ?_⟩⟩
  · exact zBU
  · exact zHH
set_option maxHeartbeats 4000000 in
set_option maxRecDepth 100000 in
theorem um (l : List W4) (A : Option Addr) (c rb i : Nat) (mv : Value) (k : Int) (hk1 : -128 ≤ k) (hk2 : k < 100) (w : World) (hS : PdS l A c rb mv w i) (hi : i < l.length) (s1 : Says ⟨#[123]⟩ 4 [123]) (s2 : Says ⟨#[125]⟩ 4 [125]) (hN : Needs l A c rb mv i) (r : Tt.Rs) (hT : T l (.seq [sg 123, .ty, sg 125, .pt 4] (i + 1)) r) :
    Calls Tryz.prog 115 #[.pointer (some ⟨rb, 0, none⟩), .int .i8 k] w (TPost l A c rb mv w (r.make k (posAt l i))) := by
  have CH := k0_ (qM l A c rb i mv k w hS hi)
  have hrl := zD hS.rdr
  rw [qc hi] at CH
  have CT := k0_ (fun (j : Nat) (hij : i < j) (hj : j ≤ l.length) => hN.part 4 j hij hj)
  have HS := k0_ hS
  clear hS hN
  go_enter Tryz.func115, Tryz.ntmps115
  go_wp2_with fail
  refine CH.out.mono ?_
  rintro e w2 ⟨N, rfl, hN1, hN2, hX, hR, hg⟩
  have HG2 := k0_ hg
  have HS2 := k0_ (HS.out.step hg hR hi)
  have HN2 := k0_ hX
  clear hR hg hX CH
  cases hT with
  | wordNo hw =>
    have CB := k0_ (qJ l A c rb (i + 1) mv _ w2 HS2.out s1 hw)
    clear CT
    go_wp2_with fail
    refine CB.out.mono ?_
    intro e w4 hP
    have HP := k0_ (TPost.from hP HG2.out)
    exact qY
  | word hw g1 =>
    have hi1 := zP hw
    have CB := k0_ (qC l A c rb (i + 1) mv _ w2 HS2.out s1 hw)
    go_wp2_with fail
    refine CB.out.mono ?_
    rintro e w3 ⟨rfl, hr, hg⟩
    have HN3 := k0_ ((hg.block _ hN2 (fun e => by injection e with e; omega)).trans HN2.out)
    have HG3 := k0_ (zI HG2.out hg)
    have hN3 := zD HN3.out
    have HS3 := k0_ (HS.out.step HG3.out hr hi1)
    clear hr hg CB HN2 HS2
    cases g1 with
    | @tyNo _ j k2 f2 E a s _ hO hE =>
      have CB := k0_ (yE l A c rb (i + 1 + 1) mv w3 HS3.out hO hE)
      exact zEK
    | @ty _ j a f _ _ _ r1 hO g2 =>
      have CB := k0_ (kC l A c rb (i + 1 + 1) mv w3 HS3.out hO)
      go_wp2_with fail
      refine CB.out.mono ?_
      rintro e w4 ⟨G, m, cg, rfl, hF, hr, hg⟩
      have HN4 := k0_ ((hg.block _ hN3 (fun e => by injection e with e; omega)).trans HN3.out)
      have HG4 := k0_ (zI HG3.out hg)
      have HF4 := k0_ (hF.low (n0 := N + 1) hN3)
      have HR4 := k0_ hr
      clear hr hg hF CB HN3
      have c4 := cell_of_heap HN4.out 4 rfl
      have c5 := cell_of_heap HN4.out 5 rfl
      have z4 := zH HN4.out 4
      have z5 := zH HN4.out 5
      have hjl : j ≤ l.length := (T.goes (T.ty hO (T.nil (l := l) (i := j))) hi1).2
      have hij : i + 1 + 1 ≤ j := Nat.le_trans (Nat.le_add_right _ _) (T.goes (T.ty hO (T.nil (l := l) (i := j))) hi1).1
      have hr3 : rb ≠ N := by omega
      have hN4 := zD HN4.out
      have HN5 : ((w4.setCell ⟨N, 4, none⟩ (.int .i8 a)).setCell ⟨N, 5, none⟩ (.slice G m cg)).heap[N]? = some (.cells #[.int .i8 k, .string ⟨#[]⟩, .string ⟨#[]⟩, .int .i64 0, .int .i8 a, .slice G m cg, .int .i8 0, .slice none 0 0, .int .i64 0, .int .i64 (posAt l i), .slice none 0 0] 28 (0, 0)) := by
        simp [World.setCell, Array.getElem?_modify, HN4.out]
      have HN5 := k0_ HN5
      have HR5 := k0_ (show PRd ((w4.setCell ⟨N, 4, none⟩ (.int .i8 a)).setCell ⟨N, 5, none⟩ (.slice G m cg)) rb A l.length c j mv from by unfold PRd; rw [Below.heap_setCell _ _ _ rb hr3, Below.heap_setCell _ _ _ rb hr3]; exact HR4.out)
      have HG5 := k0_ (zK (zK HG4.out (p := ⟨N, 4, none⟩) (.inr hN1) (.int .i8 a)) (p := ⟨N, 5, none⟩) (.inr hN1) (.slice G m cg))
      have HF5 := k0_ (show Far (N + 1) ((w4.setCell ⟨N, 4, none⟩ (.int .i8 a)).setCell ⟨N, 5, none⟩ (.slice G m cg)) a f G m cg from HF4.out.keep ((zU (Nat.lt_succ_self N)).trans (zU (Nat.lt_succ_self N))))
      generalize hw5 : ((w4.setCell ⟨N, 4, none⟩ (.int .i8 a)).setCell ⟨N, 5, none⟩ (.slice G m cg)) = w5 at HN5 HR5 HG5 HF5
      have HS5 := k0_ (HS.out.step HG5.out HR5.out hjl)
      clear HN4 HR4 HG4 HF4 HS3
      go_wp2_with fail
      clear hw5 c4 c5 z4 z5
      have hN5 := zD HN5.out
      cases g2 with
      | wordNo hw2 =>
        have CB := k0_ (qJ l A c rb j mv _ w5 HS5.out s2 hw2)
        clear CT
        refine CB.out.mono ?_
        intro e w6 hP
        exact zFH
      | word hw2 g3 =>
        have hj1 := zP hw2
        have CB := k0_ (qC l A c rb j mv _ w5 HS5.out s2 hw2)
        refine CB.out.mono ?_
        rintro e w6 ⟨rfl, hr, hg⟩
        have HN6 := k0_ ((hg.block _ hN5 (fun e => by injection e with e; omega)).trans HN5.out)
        have HG6 := k0_ (zI HG5.out hg)
        have HF6 := k0_ (show Far (N + 1) w6 a f G m cg from HF5.out.keep (KeepFrom.grown hg (by omega)))
        have hN6 := zD HN6.out
        have HS6 := k0_ (HS.out.step HG6.out hr hj1)
        clear hr hg CB HN5 HS5 HR5 HF5
        cases g3 with
        | @ptNo _ _ E a s _ f =>
          have CP := k0_ (CT.out (j + 1) (by omega) hj1 w6 _ HS6.out f)
          clear CT f
          go_wp2_with fail
          refine CP.out.mono ?_
          intro e w7 hP
          have HP := k0_ (TPost.from hP HG6.out)
          exact qY
        | @pt _ _ j2 h t _ r' fd g =>
          cases g
          have CP := k0_ (CT.out (j + 1) (by omega) hj1 w6 _ HS6.out fd)
          clear CT fd
          go_wp2_with fail
          refine CP.out.mono ?_
          rintro e w7 ⟨X, rfl, hX, hr, hg⟩
          have HN7 := k0_ ((hg.block _ hN6 (fun e => by injection e with e; omega)).trans HN6.out)
          have HG7 := k0_ (zI HG6.out hg)
          have HF7 := k0_ (show Far (N + 1) w7 a f G m cg from HF6.out.keep (KeepFrom.grown hg (by omega)))
          have HX7 := k0_ (hX.low (n0 := N + 1) hN6)
          have HR7 := k0_ hr
          clear hr hg hX CP HN6 HF6 HS6
          obtain ⟨hXn, p, hX, hF⟩ := HX7.out
          have CK := k0_ (qw (w7.alloc (.cells #[.pointer (some ⟨X, 0, none⟩)] 74)) w7.heap.size X h p (zF _ _) (zG hX _))
          have HF := k0_ hF
          clear hX hF HX7
          go_wp2_with fail
          refine CK.out.mono ?_
          rintro e w8 ⟨rfl, hw5⟩
          have hw8 : (w7.alloc (.cells #[.pointer (some ⟨X, 0, none⟩)] 74)).alloc (.cells (h.cells p).toArray 28) = w8 := hw5
          clear hw5
          have HX8 := zG (zG HN7.out (.cells #[.pointer (some ⟨X, 0, none⟩)] 74)) (.cells (h.cells p).toArray 28)
          have HT0 := zFt (o := .cells #[.pointer (some ⟨X, 0, none⟩)] 74) hk1 (by omega) hN1 HN7.out HF.out HF7.out
          exact zHR
theorem jZ {l : List W4} {i : Nat} (h : ∀ x, l[i]? = some x → x.kind ≠ 1) : (wAt l i).kind ≠ 1 := by
  unfold wAt
  cases hx : l[i]? with
  | none => decide
  | some x => exact h x hx
theorem zFa {w : World} {x : ByteArray} (hx : x.size ≤ 281474976710656) {k p a : Int} {f : Fo} {G A : Option Addr} {m cg n : Nat} (h1 : -128 ≤ k) (h2 : k ≤ 127) (hn : n ≤ 3) (hT : Ty.Is w a f G m cg) : Tm.Fit w { hd0 k p with name := x, tk := a, tkids := f } ⟨G, m, cg, none, 0, 0, A, n, n⟩ n :=
  ⟨hT, ⟨trivial, rfl, Nat.le_refl _, Nat.zero_le _, by show (-128 : Int) ≤ 0; omega, by show (0 : Int) ≤ 127; omega⟩, rfl, Nat.le_refl _, by show n ≤ maxLen; unfold maxLen; omega, h1, h2, by show (-9223372036854775808 : Int) ≤ 0; omega, by show (0 : Int) ≤ 9223372036854775807; omega, hx, Nat.zero_le _⟩
theorem zEk {n N : Nat} {w : World} {x : ByteArray} (hx : x.size ≤ 281474976710656) {k p a : Int} {f : Fo} {G : Option Addr} {m cg : Nat} {h : Hd} {t : Tm} {o : Obj} (hk1 : -128 ≤ k) (hk2 : k ≤ 127) (hn : n ≤ N) (hN : w.heap[N]? = some (.cells #[.int .i8 k, .string x, .string ⟨#[]⟩, .int .i64 0, .int .i8 a, .slice G m cg, .int .i8 0, .slice none 0 0, .int .i64 0, .int .i64 p, .slice none 0 0] 28 (0, 0)))
    {q : Pl} (hF : FarT (N + 1) w h t q) (hT : Far (N + 1) w a f G m cg) :
    TAt n (((w.alloc o).alloc (.cells (h.cells q).toArray 28)).setCell ⟨N, 10, none⟩ (.slice (some ⟨w.heap.size + 1, 0, none⟩) 1 1)) N { hd0 k p with name := x, tk := a, tkids := f } (.node h t .nil) := by
  rw [show w.heap.size + 1 = (w.alloc o).heap.size by simp]
  have hNl := zD hN
  have hN2 := zG (zG hN o) (.cells (h.cells q).toArray 28)
  have hZ := zF (w.alloc o) (.cells (h.cells q).toArray 28)
  have hs : (w.alloc o).heap.size = w.heap.size + 1 := by simp
  have hk := ((zk (n0 := N + 1) (w := w) o).trans (zk (.cells (h.cells q).toArray 28))).trans (zU (o := 10) (v := .slice (some ⟨(w.alloc o).heap.size, 0, none⟩) 1 1) (Nat.lt_succ_self N))
  refine ⟨hn, ⟨G, m, cg, none, 0, 0, some ⟨(w.alloc o).heap.size, 0, none⟩, 1, 1⟩, ?_, fun u hu => ⟨zFa hx hk1 hk2 (by omega) (hT u (hk.trans (hu.low (by omega)))), ?_⟩⟩
  · exact zBU
  · exact zHH
set_option maxHeartbeats 4000000 in
set_option maxRecDepth 100000 in
theorem zEv (l : List W4) (A : Option Addr) (c rb i : Nat) (mv : Value) (w : World) (hS : PdS l A c rb mv w i) (hi : i < l.length) (s1 : Says ⟨#[58]⟩ 4 [58]) (s2 : Says ⟨#[46]⟩ 4 [46]) (hN : Needs l A c rb mv i) (r : Tt.Rs) (hT : T l (.seq [.nm, sg 58, .ty, sg 46, .tm] (i + 1)) r) :
    Calls Tryz.prog 49 #[.pointer (some ⟨rb, 0, none⟩)] w (TPost l A c rb mv w (r.make 4 (posAt l i))) := by
  have CH := k0_ (qM l A c rb i mv 4 w hS hi)
  have hrl := zD hS.rdr
  rw [qc hi] at CH
  have CT := k0_ (fun (j : Nat) (hij : i < j) (hj : j ≤ l.length) => hN.term j hij hj)
  have HS := k0_ hS
  have hsm := hS.small
  have hok := hS.okw
  clear hS hN
  go_enter Tryz.func49, Tryz.ntmps49
  go_wp2_with fail
  refine CH.out.mono ?_
  rintro e w2 ⟨N, rfl, hN1, hN2, hX, hR, hg⟩
  have HG2 := k0_ hg
  have HS2 := k0_ (HS.out.step hg hR hi)
  have HN2 := k0_ hX
  clear hR hg hX CH
  cases hT with
  | nmNo hno =>
    exact zGp
  | @nm _ x _ r0 hx hk g1 =>
    have hi1 := (List.getElem?_eq_some_iff.1 hx).1
    have hxs := hsm x (List.mem_of_getElem? hx)
    have CB := k0_ (jQ l A c rb (i + 1) mv w2 HS2.out hx hk)
    clear hx hk hsm
    go_wp2_with fail
    refine CB.out.mono ?_
    rintro e w3 ⟨rfl, hr, hg⟩
    have HN3 := k0_ ((hg.block _ hN2 (fun e => by injection e with e; omega)).trans HN2.out)
    have HG3 := k0_ (zI HG2.out hg)
    have hN3 := zD HN3.out
    have HS3 := k0_ (HS.out.step HG3.out hr hi1)
    clear hr hg CB HN2 HS2
    cases g1 with
    | wordNo hw =>
      have CB := k0_ (jV l A c rb (i + 1 + 1) mv w3 HS3.out ((qb s1 hok).trans hw))
      exact zEK
    | word hw g1 =>
    have hi2 := zP hw
    have hw2 := (qb s1 hok).trans hw
    clear hw hok
    cases g1 with
    | @tyNo _ j k2 f2 E a s _ hO hE =>
      have CB := k0_ (vw l A c rb (i + 1 + 1) mv w3 HS3.out hi2 hw2 hO hE)
      exact zEK
    | @ty _ j a f _ _ _ r1 hO g2 =>
      have CB := k0_ (vG l A c rb (i + 1 + 1) mv w3 HS3.out hi2 hw2 hO)
      clear hw2
      go_wp2_with fail
      refine CB.out.mono ?_
      rintro e w4 ⟨G, m, cg, rfl, hF, hr, hg⟩
      have HN4 := k0_ ((hg.block _ hN3 (fun e => by injection e with e; omega)).trans HN3.out)
      have HG4 := k0_ (zI HG3.out hg)
      have HF4 := k0_ (hF.low (n0 := N + 1) hN3)
      have HR4 := k0_ hr
      clear hr hg hF CB HN3
      have c1 := cell_of_heap HN4.out 1 rfl
      have c4 := cell_of_heap HN4.out 4 rfl
      have c5 := cell_of_heap HN4.out 5 rfl
      have z1 := zH HN4.out 1
      have z4 := zH HN4.out 4
      have z5 := zH HN4.out 5
      have hjl : j ≤ l.length := (T.goes (T.ty hO (T.nil (l := l) (i := j))) hi2).2
      have hij : i + 1 + 1 + 1 ≤ j := Nat.le_trans (Nat.le_add_right _ _) (T.goes (T.ty hO (T.nil (l := l) (i := j))) hi2).1
      have hr3 : rb ≠ N := by omega
      have hN4 := zD HN4.out
      have HN5 : (((w4.setCell ⟨N, 1, none⟩ (.string x.text)).setCell ⟨N, 4, none⟩ (.int .i8 a)).setCell ⟨N, 5, none⟩ (.slice G m cg)).heap[N]? = some (.cells #[.int .i8 4, .string x.text, .string ⟨#[]⟩, .int .i64 0, .int .i8 a, .slice G m cg, .int .i8 0, .slice none 0 0, .int .i64 0, .int .i64 (posAt l i), .slice none 0 0] 28 (0, 0)) := by
        simp [World.setCell, Array.getElem?_modify, HN4.out]
      have HN5 := k0_ HN5
      have HR5 := k0_ (show PRd (((w4.setCell ⟨N, 1, none⟩ (.string x.text)).setCell ⟨N, 4, none⟩ (.int .i8 a)).setCell ⟨N, 5, none⟩ (.slice G m cg)) rb A l.length c j mv from by unfold PRd; rw [Below.heap_setCell _ _ _ rb hr3, Below.heap_setCell _ _ _ rb hr3, Below.heap_setCell _ _ _ rb hr3]; exact HR4.out)
      have HG5 := k0_ (zK (zK (zK HG4.out (p := ⟨N, 1, none⟩) (.inr hN1) (.string x.text)) (p := ⟨N, 4, none⟩) (.inr hN1) (.int .i8 a)) (p := ⟨N, 5, none⟩) (.inr hN1) (.slice G m cg))
      have HF5 := k0_ (show Far (N + 1) (((w4.setCell ⟨N, 1, none⟩ (.string x.text)).setCell ⟨N, 4, none⟩ (.int .i8 a)).setCell ⟨N, 5, none⟩ (.slice G m cg)) a f G m cg from HF4.out.keep (((zU (Nat.lt_succ_self N)).trans (zU (Nat.lt_succ_self N))).trans (zU (Nat.lt_succ_self N))))
      generalize hw5 : (((w4.setCell ⟨N, 1, none⟩ (.string x.text)).setCell ⟨N, 4, none⟩ (.int .i8 a)).setCell ⟨N, 5, none⟩ (.slice G m cg)) = w5 at HN5 HR5 HG5 HF5
      have HS5 := k0_ (HS.out.step HG5.out HR5.out hjl)
      have hN5 := zD HN5.out
      clear HN4 HR4 HG4 HF4 HS3
      cases g2 with
      | wordNo hw2 =>
        exact zH0
      | word hw2 g3 =>
        have hj1 := zP hw2
        cases g3 with
        | @tmNo _ E a s _ fd =>
          exact zH9
        | @tm _ j2 h t _ r' fd g =>
          cases g
          have CB := k0_ (zZ l A c rb j mv _ w5 HS5.out s2 hw2 (CT.out (j + 1) (by omega) hj1) _ fd)
          clear CT fd
          go_wp2_with fail
          clear hw5 c1 c4 c5 z1 z4 z5
          refine CB.out.mono ?_
          rintro e w7 ⟨X, rfl, hX, hr, hg⟩
          have HN7 := k0_ ((hg.block _ hN5 (fun e => by injection e with e; omega)).trans HN5.out)
          have HG7 := k0_ (zI HG5.out hg)
          have HF7 := k0_ (show Far (N + 1) w7 a f G m cg from HF5.out.keep (KeepFrom.grown hg (by omega)))
          have HX7 := k0_ (hX.low (n0 := N + 1) hN5)
          have HR7 := k0_ hr
          clear hr hg hX CB HN5 HF5 HS5 HR5
          obtain ⟨hXn, p, hX, hF⟩ := HX7.out
          have CK := k0_ (qw (w7.alloc (.cells #[.pointer (some ⟨X, 0, none⟩)] 74)) w7.heap.size X h p (zF _ _) (zG hX _))
          have HF := k0_ hF
          clear hX hF HX7
          go_wp2_with fail
          refine CK.out.mono ?_
          rintro e w8 ⟨rfl, hw5⟩
          have hw8 : (w7.alloc (.cells #[.pointer (some ⟨X, 0, none⟩)] 74)).alloc (.cells (h.cells p).toArray 28) = w8 := hw5
          clear hw5
          have HX8 := zG (zG HN7.out (.cells #[.pointer (some ⟨X, 0, none⟩)] 74)) (.cells (h.cells p).toArray 28)
          have HT0 := zEk (o := .cells #[.pointer (some ⟨X, 0, none⟩)] 74) (x := x.text) hxs (by decide) (by decide) hN1 HN7.out HF.out HF7.out
          exact zHR
theorem zEj {n N : Nat} {w : World} {x : ByteArray} (hx : x.size ≤ 281474976710656) {k p a : Int} {f : Fo} {G : Option Addr} {m cg : Nat} {h h' : Hd} {t t' : Tm} {o : Obj} (hk1 : -128 ≤ k) (hk2 : k ≤ 127) (hn : n ≤ N) (hN : w.heap[N]? = some (.cells #[.int .i8 k, .string x, .string ⟨#[]⟩, .int .i64 0, .int .i8 a, .slice G m cg, .int .i8 0, .slice none 0 0, .int .i64 0, .int .i64 p, .slice none 0 0] 28 (0, 0)))
    {q q' : Pl} (hF : FarT (N + 1) w h t q) (hF' : FarT (N + 1) w h' t' q') (hT : Far (N + 1) w a f G m cg) :
    TAt n (((w.alloc o).alloc (.cells (h.cells q ++ h'.cells q').toArray 28)).setCell ⟨N, 10, none⟩ (.slice (some ⟨w.heap.size + 1, 0, none⟩) 2 2)) N { hd0 k p with name := x, tk := a, tkids := f } (.node h t (.node h' t' .nil)) := by
  rw [show w.heap.size + 1 = (w.alloc o).heap.size by simp]
  have hNl := zD hN
  have hN2 := zG (zG hN o) (.cells (h.cells q ++ h'.cells q').toArray 28)
  have hZ := zF (w.alloc o) (.cells (h.cells q ++ h'.cells q').toArray 28)
  have hs : (w.alloc o).heap.size = w.heap.size + 1 := by simp
  have hk := ((zk (n0 := N + 1) (w := w) o).trans (zk (.cells (h.cells q ++ h'.cells q').toArray 28))).trans (zU (o := 10) (v := .slice (some ⟨(w.alloc o).heap.size, 0, none⟩) 2 2) (Nat.lt_succ_self N))
  refine ⟨hn, ⟨G, m, cg, none, 0, 0, some ⟨(w.alloc o).heap.size, 0, none⟩, 2, 2⟩, ?_, fun u hu => ⟨zFa hx hk1 hk2 (by omega) (hT u (hk.trans (hu.low (by omega)))), ?_⟩⟩
  · exact zBU
  · exact zHI
set_option maxHeartbeats 4000000 in
set_option maxRecDepth 100000 in
theorem zEp (l : List W4) (A : Option Addr) (c rb i : Nat) (mv : Value) (w : World) (hS : PdS l A c rb mv w i) (hi : i < l.length) (s1 : Says ⟨#[58]⟩ 4 [58]) (s2 : Says ⟨#[61]⟩ 4 [61]) (s3 : Says ⟨#[105, 110]⟩ 3 kIn) (hN : Needs l A c rb mv i) (r : Tt.Rs) (hT : T l (.seq [.nm, sg 58, .ty, sg 61, .tm, .w 3 kIn, .tm] (i + 1)) r) :
    Calls Tryz.prog 50 #[.pointer (some ⟨rb, 0, none⟩)] w (TPost l A c rb mv w (r.make 7 (posAt l i))) := by
  have CH := k0_ (qM l A c rb i mv 7 w hS hi)
  have hrl := zD hS.rdr
  rw [qc hi] at CH
  have CT := k0_ (fun (j : Nat) (hij : i < j) (hj : j ≤ l.length) => hN.term j hij hj)
  have HS := k0_ hS
  have hsm := hS.small
  have hok := hS.okw
  clear hS hN
  go_enter Tryz.func50, Tryz.ntmps50
  go_wp2_with fail
  refine CH.out.mono ?_
  rintro e w2 ⟨N, rfl, hN1, hN2, hX, hR, hg⟩
  have HG2 := k0_ hg
  have HS2 := k0_ (HS.out.step hg hR hi)
  have HN2 := k0_ hX
  clear hR hg hX CH
  cases hT with
  | nmNo hno =>
    exact zGp
  | @nm _ x _ r0 hx hk g1 =>
    have hi1 := (List.getElem?_eq_some_iff.1 hx).1
    have hxs := hsm x (List.mem_of_getElem? hx)
    have CB := k0_ (jQ l A c rb (i + 1) mv w2 HS2.out hx hk)
    clear hx hk hsm
    go_wp2_with fail
    refine CB.out.mono ?_
    rintro e w3 ⟨rfl, hr, hg⟩
    have HN3 := k0_ ((hg.block _ hN2 (fun e => by injection e with e; omega)).trans HN2.out)
    have HG3 := k0_ (zI HG2.out hg)
    have hN3 := zD HN3.out
    have HS3 := k0_ (HS.out.step HG3.out hr hi1)
    clear hr hg CB HN2 HS2
    cases g1 with
    | wordNo hw =>
      have CB := k0_ (jV l A c rb (i + 1 + 1) mv w3 HS3.out ((qb s1 hok).trans hw))
      exact zEK
    | word hw g1 =>
    have hi2 := zP hw
    have hw2 := (qb s1 hok).trans hw
    clear hw hok
    cases g1 with
    | @tyNo _ j k2 f2 E a s _ hO hE =>
      have CB := k0_ (vw l A c rb (i + 1 + 1) mv w3 HS3.out hi2 hw2 hO hE)
      exact zEK
    | @ty _ j a f _ _ _ r1 hO g2 =>
      have CB := k0_ (vG l A c rb (i + 1 + 1) mv w3 HS3.out hi2 hw2 hO)
      clear hw2
      go_wp2_with fail
      refine CB.out.mono ?_
      rintro e w4 ⟨G, m, cg, rfl, hF, hr, hg⟩
      have HN4 := k0_ ((hg.block _ hN3 (fun e => by injection e with e; omega)).trans HN3.out)
      have HG4 := k0_ (zI HG3.out hg)
      have HF4 := k0_ (hF.low (n0 := N + 1) hN3)
      have HR4 := k0_ hr
      clear hr hg hF CB HN3
      have c1 := cell_of_heap HN4.out 1 rfl
      have c4 := cell_of_heap HN4.out 4 rfl
      have c5 := cell_of_heap HN4.out 5 rfl
      have z1 := zH HN4.out 1
      have z4 := zH HN4.out 4
      have z5 := zH HN4.out 5
      have hjl : j ≤ l.length := (T.goes (T.ty hO (T.nil (l := l) (i := j))) hi2).2
      have hij : i + 1 + 1 + 1 ≤ j := Nat.le_trans (Nat.le_add_right _ _) (T.goes (T.ty hO (T.nil (l := l) (i := j))) hi2).1
      have hr3 : rb ≠ N := by omega
      have hN4 := zD HN4.out
      have HN5 : (((w4.setCell ⟨N, 1, none⟩ (.string x.text)).setCell ⟨N, 4, none⟩ (.int .i8 a)).setCell ⟨N, 5, none⟩ (.slice G m cg)).heap[N]? = some (.cells #[.int .i8 7, .string x.text, .string ⟨#[]⟩, .int .i64 0, .int .i8 a, .slice G m cg, .int .i8 0, .slice none 0 0, .int .i64 0, .int .i64 (posAt l i), .slice none 0 0] 28 (0, 0)) := by
        simp [World.setCell, Array.getElem?_modify, HN4.out]
      have HN5 := k0_ HN5
      have HR5 := k0_ (show PRd (((w4.setCell ⟨N, 1, none⟩ (.string x.text)).setCell ⟨N, 4, none⟩ (.int .i8 a)).setCell ⟨N, 5, none⟩ (.slice G m cg)) rb A l.length c j mv from by unfold PRd; rw [Below.heap_setCell _ _ _ rb hr3, Below.heap_setCell _ _ _ rb hr3, Below.heap_setCell _ _ _ rb hr3]; exact HR4.out)
      have HG5 := k0_ (zK (zK (zK HG4.out (p := ⟨N, 1, none⟩) (.inr hN1) (.string x.text)) (p := ⟨N, 4, none⟩) (.inr hN1) (.int .i8 a)) (p := ⟨N, 5, none⟩) (.inr hN1) (.slice G m cg))
      have HF5 := k0_ (show Far (N + 1) (((w4.setCell ⟨N, 1, none⟩ (.string x.text)).setCell ⟨N, 4, none⟩ (.int .i8 a)).setCell ⟨N, 5, none⟩ (.slice G m cg)) a f G m cg from HF4.out.keep (((zU (Nat.lt_succ_self N)).trans (zU (Nat.lt_succ_self N))).trans (zU (Nat.lt_succ_self N))))
      generalize hw5 : (((w4.setCell ⟨N, 1, none⟩ (.string x.text)).setCell ⟨N, 4, none⟩ (.int .i8 a)).setCell ⟨N, 5, none⟩ (.slice G m cg)) = w5 at HN5 HR5 HG5 HF5
      have HS5 := k0_ (HS.out.step HG5.out HR5.out hjl)
      have hN5 := zD HN5.out
      clear HN4 HR4 HG4 HF4 HS3
      cases g2 with
      | wordNo hw2 =>
        exact zH0
      | word hw2 g3 =>
        have hj1 := zP hw2
        cases g3 with
        | @tmNo _ E a s _ fd =>
          exact zH9
        | @tm _ j2 h t _ r' fd g4 =>
          have CB := k0_ (zZ l A c rb j mv _ w5 HS5.out s2 hw2 (CT.out (j + 1) (by omega) hj1) _ fd)
          have hj2 := (T.goes fd hj1).2
          have HJ2 : j + 1 ≤ j2 := Nat.le_trans (Nat.le_add_right _ _) (T.goes fd hj1).1
          clear fd
          go_wp2_with fail
          clear hw5 c1 c4 c5 z1 z4 z5
          refine CB.out.mono ?_
          rintro e w7 ⟨X, rfl, hX, hr, hg⟩
          have HN7 := k0_ ((hg.block _ hN5 (fun e => by injection e with e; omega)).trans HN5.out)
          have HG7 := k0_ (zI HG5.out hg)
          have HF7 := k0_ (show Far (N + 1) w7 a f G m cg from HF5.out.keep (KeepFrom.grown hg (by omega)))
          have HX7 := k0_ (hX.low (n0 := N + 1) hN5)
          have hN7 := zD HN7.out
          have HS7 := k0_ (HS.out.step HG7.out hr hj2)
          clear hr hg hX CB HN5 HF5 HS5 HR5
          cases g4 with
          | wordNo hw3 =>
            have CB := k0_ (qF l A c rb j2 mv _ w7 HS7.out s3 hw3)
            clear CT
            exact zGn
          | word hw3 g5 =>
            have hj3 := zP hw3
            cases g5 with
            | @tmNo _ E a s _ fd =>
              have CB := k0_ (zZ l A c rb j2 mv _ w7 HS7.out s3 hw3 (CT.out (j2 + 1) (by omega) hj3) _ fd)
              clear CT fd
              exact zGn
            | @tm _ j3 h' t' _ r3 fd g6 =>
              cases g6
              have CB := k0_ (zZ l A c rb j2 mv _ w7 HS7.out s3 hw3 (CT.out (j2 + 1) (by omega) hj3) _ fd)
              clear CT fd
              go_wp2_with fail
              refine CB.out.mono ?_
              rintro e w9 ⟨Y, rfl, hY, hr, hg⟩
              have HN9 := k0_ ((hg.block _ hN7 (fun e => by injection e with e; omega)).trans HN7.out)
              have HG9 := k0_ (zI HG7.out hg)
              have HF9 := k0_ (show Far (N + 1) w9 a f G m cg from HF7.out.keep (KeepFrom.grown hg (by omega)))
              have HX9 := k0_ (HX7.out.grown hg (by omega))
              have HY9 := k0_ (hY.low (n0 := N + 1) hN7)
              have HR9 := k0_ hr
              clear hr hg hY CB HN7 HF7 HS7 HX7
              obtain ⟨hXn, p, hX, hF⟩ := HX9.out
              obtain ⟨hYn, p', hY, hF'⟩ := HY9.out
              have CK := k0_ (zg (w9.alloc (.cells #[.pointer (some ⟨X, 0, none⟩), .pointer (some ⟨Y, 0, none⟩)] 74)) w9.heap.size X Y h h' p p' (zF _ _) (zG hX _) (zG hY _))
              have HF := k0_ hF
              have HF' := k0_ hF'
              clear hX hY hF hF' HX9 HY9
              go_wp2_with fail
              refine CK.out.mono ?_
              rintro e v8 ⟨rfl, hw5⟩
              have hw8 : (w9.alloc (.cells #[.pointer (some ⟨X, 0, none⟩), .pointer (some ⟨Y, 0, none⟩)] 74)).alloc (.cells (h.cells p ++ h'.cells p').toArray 28) = v8 := hw5
              clear hw5
              have HX8 := zG (zG HN9.out (.cells #[.pointer (some ⟨X, 0, none⟩), .pointer (some ⟨Y, 0, none⟩)] 74)) (.cells (h.cells p ++ h'.cells p').toArray 28)
              have HT0 := zEj (o := .cells #[.pointer (some ⟨X, 0, none⟩), .pointer (some ⟨Y, 0, none⟩)] 74) (x := x.text) hxs (by decide) (by decide) hN1 HN9.out HF.out HF'.out HF9.out
              have HR8 : PRd v8 rb A l.length c j3 mv := by rw [← hw8]; exact zG (zG HR9.out _) _
              have HB8 : Below w9.heap.size w9 v8 := by rw [← hw8]; exact (((Below.refl _ _).alloc (Nat.le_refl _) _).alloc (by simp) _)
              rw [hw8] at HX8 HT0
              clear hw8
              have c10 := cell_of_heap HX8 10 rfl
              have z10 := zH HX8 10
              have HTA := k0_ HT0
              have HRA := k0_ (show PRd (v8.setCell ⟨N, 10, none⟩ (.slice (some ⟨w9.heap.size + 1, 0, none⟩) 2 2)) rb A l.length c j3 mv from by
                unfold PRd; rw [Below.heap_setCell _ _ _ rb hr3]; exact HR8)
              have HGA := k0_ (zK (zI HG9.out (zJ (rb := rb) HB8)) (p := ⟨N, 10, none⟩) (.inr hN1) (.slice (some ⟨w9.heap.size + 1, 0, none⟩) 2 2))
              clear HT0 HR8 HB8 CK HF HF' HF9 HG9 HR9 HN9 HX8
              go_wp2_with fail
              go_ret
              exact ⟨N, rfl, HTA.out, HRA.out, HGA.out⟩
end Go.Proofs.YtgjemmmbnpkamaaGreatDoor
