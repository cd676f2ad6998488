import Derived.Test.YtepmjknljbafgaaGreatDoorM17
import Derived.Deep.RegionWith
namespace Go.Proofs.YtepmjknljbafgaaGreatDoor
open Go.RowKit Rd Tt
structure HdS (l : List W4) (A : Option Addr) (c rb : Nat) (mv : Value) (w u : World) (N i0 i : Nat) (cs : Array Value) : Prop where
  base : PdS l A c rb mv w i0
  lo : w.heap.size <= N
  blk : u.heap[N]? = some (.cells cs 41 (0, 0))
  rd : PRd u rb A l.length c i mv
  le : i <= l.length
  gr : w.grownBy u (some rb)
theorem HdS.st {l : List W4} {A : Option Addr} {c rb : Nat} {mv : Value} {w u : World} {N i0 i : Nat} {cs : Array Value} (h : HdS l A c rb mv w u N i0 i cs) : PdS l A c rb mv u i := h.base.step h.gr h.rd h.le
theorem HdS.rlt {l : List W4} {A : Option Addr} {c rb : Nat} {mv : Value} {w u : World} {N i0 i : Nat} {cs : Array Value} (h : HdS l A c rb mv w u N i0 i cs) : rb < w.heap.size := zD h.base.rdr
theorem HdS.ne {l : List W4} {A : Option Addr} {c rb : Nat} {mv : Value} {w u : World} {N i0 i : Nat} {cs : Array Value} (h : HdS l A c rb mv w u N i0 i cs) : rb ≠ N := by have := h.rlt; have := h.lo; omega
theorem HdS.go {l : List W4} {A : Option Addr} {c rb : Nat} {mv : Value} {w u u' : World} {N i0 i j : Nat} {cs : Array Value} (h : HdS l A c rb mv w u N i0 i cs) (hP : PGo l A c rb mv u j u') (hj : j <= l.length) : HdS l A c rb mv w u' N i0 j cs :=
  ⟨h.base, h.lo, (hP.2.block _ (zD h.blk) (fun e => by injection e with e; have := h.ne; omega)).trans h.blk, hP.1, hj, zI h.gr hP.2⟩
theorem heap_put {w : World} {N o : Nat} {v : Value} {cs : Array Value} {t : TypeId} (h : w.heap[N]? = some (.cells cs t (0, 0))) : (w.setCell ⟨N, o, none⟩ v).heap[N]? = some (.cells (cs.setIfInBounds o v) t (0, 0)) := by simp [World.setCell, Array.getElem?_modify, h]
theorem HdS.put {l : List W4} {A : Option Addr} {c rb : Nat} {mv : Value} {w u : World} {N i0 i o : Nat} {v : Value} {cs cs' : Array Value} (h : HdS l A c rb mv w u N i0 i cs) (hc : (u.setCell ⟨N, o, none⟩ v).heap[N]? = some (.cells cs' 41 (0, 0))) : HdS l A c rb mv w (u.setCell ⟨N, o, none⟩ v) N i0 i cs' :=
  ⟨h.base, h.lo, hc, by unfold PRd; rw [Below.heap_setCell _ _ _ rb h.ne]; exact h.rd, h.le, zL h.gr (.inr h.lo) _⟩
theorem uj {l : List W4} {A : Option Addr} {c rb : Nat} {mv : Value} {u u' : World} {j n0 : Nat} {a : Int} {f : Fo} {G : Option Addr} {m cg : Nat} (hF : Far n0 u a f G m cg) (hP : PGo l A c rb mv u j u') (hr : rb < n0) : Far n0 u' a f G m cg := hF.keep (KeepFrom.grown hP.2 hr)
theorem jb {u : World} {n0 N o : Nat} {v : Value} {a : Int} {f : Fo} {G : Option Addr} {m cg : Nat} (hF : Far n0 u a f G m cg) (h : N < n0) : Far n0 (u.setCell ⟨N, o, none⟩ v) a f G m cg := hF.keep (zX h)
theorem TAt.set {n0 X N o : Nat} {w : World} {v : Value} {h : Hd} {kids : Tm} (f : TAt n0 w X h kids) (hN : N < n0) : TAt n0 (w.setCell ⟨N, o, none⟩ v) X h kids := by
  obtain ⟨h1, p, h2, h3⟩ := f;exact ⟨h1, p, by rw [Below.heap_setCell _ _ _ X (by show X ≠ N; omega)]; exact h2, h3.keep (zX hN)⟩
theorem FlatF.keep {n0 : Nat} {w w' : World} (hk : KeepFrom n0 w w') : ∀ (f : Tm) (xs : List Value), FlatF n0 w f xs -> FlatF n0 w' f xs
  | .nil, _, e => e
  | .node _ _ r, _, e => by
    obtain ⟨p, ys, rfl, h1, h2⟩ := e;exact ⟨p, ys, rfl, h1.keep hk, FlatF.keep hk r ys h2⟩
theorem zDK {w : World} {H : Hd} {G U A : Option Addr} {m cg m' cg' n : Nat} (h1 : -128 <= H.kind) (h2 : H.kind <= 127) (hl : H.label = 0) (hn : n <= 3) (hx : H.name.size <= 281474976710656) (hy : H.arg.size <= 281474976710656) (hT : Ty.Is w H.tk H.tkids G m cg) (hU : Ty.Is w H.uk H.ukids U m' cg') : Tm.Fit w H ⟨G, m, cg, U, m', cg', A, n, n⟩ n :=
  ⟨hT, hU, rfl, Nat.le_refl _, by show n <= maxLen; unfold maxLen; omega, h1, h2, by rw [hl]; omega, by rw [hl]; omega, hx, hy⟩
theorem jD (w : World) : Ty.Is w 0 .nil none 0 0 := ⟨trivial, rfl, Nat.le_refl _, Nat.zero_le _, by omega, by omega⟩
theorem zGU {n N : Nat} {w : World} {H : Hd} {TA UA : Option Addr} {tn tc un uc : Nat} {o : Obj} {kt : Tm} {C : List Value} {k : Nat} (hn : n <= N) (hN : w.heap[N]? = some (.cells (H.cells ⟨TA, tn, tc, UA, un, uc, none, 0, 0⟩).toArray 41 (0, 0)))
    (hfit : ∀ u, KeepFrom (N + 1) w u -> Tm.Fit u H ⟨TA, tn, tc, UA, un, uc, some ⟨w.heap.size + 1, 0, none⟩, k, k⟩ k) (hC : FlatF (N + 1) w kt C) (hk : Tm.len kt = k) :
    TAt n (((w.alloc o).alloc (.cells C.toArray 41)).setCell ⟨N, 10, none⟩ (.slice (some ⟨w.heap.size + 1, 0, none⟩) k k)) N H kt := by
  rw [show w.heap.size + 1 = (w.alloc o).heap.size by simp] at hfit ⊢;have hNl := zD hN;have hN2 := zG (zG hN o) (.cells C.toArray 41);have hZ := zF (w.alloc o) (.cells C.toArray 41);have hs : (w.alloc o).heap.size = w.heap.size + 1 := by simp
  have hkp := ((zk (n0 := N + 1) (w := w) o).trans (zk (.cells C.toArray 41))).trans (zX (o := 10) (v := .slice (some ⟨(w.alloc o).heap.size, 0, none⟩) k k) (Nat.lt_succ_self N));refine ⟨hn, ⟨TA, tn, tc, UA, un, uc, some ⟨(w.alloc o).heap.size, 0, none⟩, k, k⟩, ?_, fun u hu => ⟨by rw [hk]; exact hfit u (hkp.trans (hu.low (by omega))), ?_⟩⟩
  · exact zC7
  · have hZ2 : (((w.alloc o).alloc (.cells C.toArray 41)).setCell ⟨N, 10, none⟩ (.slice (some ⟨(w.alloc o).heap.size, 0, none⟩) k k)).heap[(w.alloc o).heap.size]? = some (.cells C.toArray 41 (0, 0)) := by
      exact zF5
    exact vL hZ2 (by omega) kt C 0 (FlatF.keep hkp kt C hC) (fun j v hv => by rw [Nat.zero_mul, Nat.zero_add]; exact hv) u (hu.low (by omega))
set_option maxHeartbeats 8000000 in
set_option maxRecDepth 100000 in
theorem zFL (l : List W4) (A : Option Addr) (c rb i : Nat) (mv : Value) (w : World) (hS : PdS l A c rb mv w i) (hi : i < l.length) (s1 : Says ⟨#[40]⟩ 4 [40]) (s2 : Says ⟨#[58]⟩ 4 [58]) (s3 : Says ⟨#[41]⟩ 4 [41]) (s4 : Says ⟨#[46]⟩ 4 [46]) (hN : Needs l A c rb mv i) (r : Tt.Rs) (hT : T l (.seq [.nm, sg 40, .nm, sg 58, .ty, sg 41, sg 58, .ty, sg 46, .tm] (i + 1)) r) :
    Calls Tryz.prog 66 #[.pointer (some ⟨rb, 0, none⟩)] w (TPost l A c rb mv w (r.make 5 (posAt l i))) := by
  have CH := k0_ (qQ l A c rb i mv 5 w hS hi);rw [qj hi] at CH;have CT := k0_ (fun (j : Nat) (hij : i < j) (hj : j <= l.length) => hN.term j hij hj);have HS := k0_ hS;have hsm := hS.small;have hok := hS.okw;clear hS hN
  go_enter Tryz.func66, Tryz.ntmps66
  go_wp2_with fail
  refine CH.out.mono ?_;rintro e w2 ⟨N, rfl, hN1, hN2, hX, hP⟩;have H2 := k0_ (show HdS l A c rb mv w w2 N i (i + 1) _ from ⟨HS.out, hN1, hX, hP.1, hi, hP.2⟩);clear hX hP CH hN1 hN2 HS
  cases hT with
  | nmNo hno =>
    have CB := k0_ (kE l A c rb (i + 1) mv w2 H2.out.st (jk hno));clear CT
    go_wp2_with fail
    refine CB.out.mono ?_;intro e w99 hP;have HP := k0_ (hP.from H2.out.gr);exact qY
  | @nm _ x _ r1 hx hk g1 =>
    have hxi := (List.getElem?_eq_some_iff.1 hx).1;have hxs := hsm x (List.mem_of_getElem? hx);have CB := k0_ (ja l A c rb (i + 1) mv w2 H2.out.st hx hk);clear hx hk
    go_wp2_with fail
    refine CB.out.mono ?_;rintro e w3 ⟨rfl, hP⟩;have H3 := k0_ (H2.out.go hP hxi);clear hP CB;have c1 := cell_of_heap H3.out.blk 1 rfl;have z1 := zH H3.out.blk 1;have P3_1 := k0_ (H3.out.put (o := 1) (v := .string x.text) (cs' := #[.int .i8 5, .string x.text, .string ⟨#[]⟩, .int .i64 0, .int .i8 0, .slice none 0 0, .int .i8 0, .slice none 0 0, .int .i64 0, .int .i64 (posAt l i), .slice none 0 0]) (heap_put H3.out.blk));generalize hw4 : (w3.setCell ⟨N, 1, none⟩ (.string x.text)) = w4 at P3_1;clear H3
    cases g1 with
    | wordNo hw =>
      have CB := k0_ (qN l A c rb ((i + 1) + 1) mv _ w4 P3_1.out.st s1 hw);clear CT
      go_wp2_with fail
      refine CB.out.mono ?_;intro e w99 hP;have HP := k0_ (TPost.from hP P3_1.out.gr);exact qY
    | word hv2 g2 =>
      have hv2i := zQ hv2;have CB := k0_ (qF l A c rb ((i + 1) + 1) mv _ w4 P3_1.out.st s1 hv2);clear hv2
      go_wp2_with fail
      clear hw4 c1 z1;refine CB.out.mono ?_;rintro e w5 ⟨rfl, hP⟩;have H5 := k0_ (P3_1.out.go hP hv2i);clear hP CB;clear P3_1
      cases g2 with
      | nmNo hno =>
        have CB := k0_ (kE l A c rb (((i + 1) + 1) + 1) mv w5 H5.out.st (jk hno));clear CT
        go_wp2_with fail
        refine CB.out.mono ?_;intro e w99 hP;have HP := k0_ (hP.from H5.out.gr);exact qY
      | @nm _ y _ r3 hy hk g3 =>
        have hyi := (List.getElem?_eq_some_iff.1 hy).1;have hys := hsm y (List.mem_of_getElem? hy);have CB := k0_ (ja l A c rb (((i + 1) + 1) + 1) mv w5 H5.out.st hy hk);clear hy hk
        go_wp2_with fail
        refine CB.out.mono ?_;rintro e w6 ⟨rfl, hP⟩;have H6 := k0_ (H5.out.go hP hyi);clear hP CB;clear H5
        cases g3 with
        | wordNo hw =>
          have CB := k0_ (jf l A c rb ((((i + 1) + 1) + 1) + 1) mv w6 H6.out.st ((qi s2 hok).trans hw));exact zHo
        | word hv4 g4 =>
          have hv4i := zQ hv4;have hv4e := (qi s2 hok).trans hv4;clear hv4
          cases g4 with
          | @tyNo _ jj kk ff E a s _ hO hE =>
            have CB := k0_ (kK l A c rb ((((i + 1) + 1) + 1) + 1) mv w6 H6.out.st hv4i hv4e hO hE);exact zHo
          | @ty _ j a f _ _ _ r5 hO g5 =>
            have CB := k0_ (vO l A c rb ((((i + 1) + 1) + 1) + 1) mv w6 H6.out.st hv4i hv4e hO);have hjl : j <= l.length := (T.goes (T.ty hO (T.nil (l := l) (i := j))) hv4i).2;have hji : ((((i + 1) + 1) + 1) + 1) + 1 <= j := Nat.le_trans (Nat.le_add_right _ _) (T.goes (T.ty hO (T.nil (l := l) (i := j))) hv4i).1;clear hO hv4e
            go_wp2_with fail
            refine CB.out.mono ?_;rintro e w7 ⟨Ga, mGa, cGa, rfl, hF, hP⟩;have H7 := k0_ (H6.out.go hP hjl);have FGa := k0_ (hF.low (n0 := N + 1) (zD H6.out.blk));clear hF;clear hP CB;clear H6;have c2 := cell_of_heap H7.out.blk 2 rfl;have z2 := zH H7.out.blk 2;have c4 := cell_of_heap H7.out.blk 4 rfl;have z4 := zH H7.out.blk 4;have c5 := cell_of_heap H7.out.blk 5 rfl;have z5 := zH H7.out.blk 5;have P7_1 := k0_ (H7.out.put (o := 2) (v := .string y.text) (cs' := #[.int .i8 5, .string x.text, .string y.text, .int .i64 0, .int .i8 0, .slice none 0 0, .int .i8 0, .slice none 0 0, .int .i64 0, .int .i64 (posAt l i), .slice none 0 0]) (heap_put H7.out.blk));have FGa_1 := k0_ (jb (o := 2) (v := .string y.text) FGa.out (Nat.lt_succ_self N));clear FGa;have P7_2 := k0_ (P7_1.out.put (o := 4) (v := .int .i8 a) (cs' := #[.int .i8 5, .string x.text, .string y.text, .int .i64 0, .int .i8 a, .slice none 0 0, .int .i8 0, .slice none 0 0, .int .i64 0, .int .i64 (posAt l i), .slice none 0 0]) (heap_put P7_1.out.blk));have FGa_1_2 := k0_ (jb (o := 4) (v := .int .i8 a) FGa_1.out (Nat.lt_succ_self N));clear FGa_1;have P7_3 := k0_ (P7_2.out.put (o := 5) (v := .slice Ga mGa cGa) (cs' := #[.int .i8 5, .string x.text, .string y.text, .int .i64 0, .int .i8 a, .slice Ga mGa cGa, .int .i8 0, .slice none 0 0, .int .i64 0, .int .i64 (posAt l i), .slice none 0 0]) (heap_put P7_2.out.blk));have FGa_1_2_3 := k0_ (jb (o := 5) (v := .slice Ga mGa cGa) FGa_1_2.out (Nat.lt_succ_self N));clear FGa_1_2;generalize hw8 : (((w7.setCell ⟨N, 2, none⟩ (.string y.text)).setCell ⟨N, 4, none⟩ (.int .i8 a)).setCell ⟨N, 5, none⟩ (.slice Ga mGa cGa)) = w8 at P7_3 FGa_1_2_3;clear H7 P7_1 P7_2
            cases g5 with
            | wordNo hw =>
              have CB := k0_ (qN l A c rb j mv _ w8 P7_3.out.st s3 hw);clear CT
              go_wp2_with fail
              refine CB.out.mono ?_;intro e w99 hP;have HP := k0_ (TPost.from hP P7_3.out.gr);exact qY
            | word hv6 g6 =>
              have hv6i := zQ hv6;have CB := k0_ (qF l A c rb j mv _ w8 P7_3.out.st s3 hv6);clear hv6
              go_wp2_with fail
              clear hw8 c2 z2 c4 z4 c5 z5;refine CB.out.mono ?_;rintro e w9 ⟨rfl, hP⟩;have H9 := k0_ (P7_3.out.go hP hv6i);have FGa_1_2_3_9 := k0_ (uj FGa_1_2_3.out hP (Nat.lt_succ_of_lt (Nat.lt_of_lt_of_le P7_3.out.rlt P7_3.out.lo)));clear hP CB FGa_1_2_3;clear P7_3
              cases g6 with
              | wordNo hw =>
                have CB := k0_ (jf l A c rb (j + 1) mv w9 H9.out.st ((qi s2 hok).trans hw));exact zHu
              | word hv7 g7 =>
                have hv7i := zQ hv7;have hv7e := (qi s2 hok).trans hv7;clear hv7
                cases g7 with
                | @tyNo _ jj kk ff E a s _ hO hE =>
                  have CB := k0_ (kK l A c rb (j + 1) mv w9 H9.out.st hv7i hv7e hO hE);exact zHu
                | @ty _ j2 b f2 _ _ _ r8 hO g8 =>
                  have CB := k0_ (vO l A c rb (j + 1) mv w9 H9.out.st hv7i hv7e hO);have hj2l : j2 <= l.length := (T.goes (T.ty hO (T.nil (l := l) (i := j2))) hv7i).2;have hj2i : (j + 1) + 1 <= j2 := Nat.le_trans (Nat.le_add_right _ _) (T.goes (T.ty hO (T.nil (l := l) (i := j2))) hv7i).1;clear hO hv7e
                  go_wp2_with fail
                  refine CB.out.mono ?_;rintro e w10 ⟨Gb, mGb, cGb, rfl, hF, hP⟩;have H10 := k0_ (H9.out.go hP hj2l);have FGa_1_2_3_9_10 := k0_ (uj FGa_1_2_3_9.out hP (Nat.lt_succ_of_lt (Nat.lt_of_lt_of_le H9.out.rlt H9.out.lo)));have FGb := k0_ (hF.low (n0 := N + 1) (zD H9.out.blk));clear hF;clear hP CB FGa_1_2_3_9;clear H9;have c6 := cell_of_heap H10.out.blk 6 rfl;have z6 := zH H10.out.blk 6;have c7 := cell_of_heap H10.out.blk 7 rfl;have z7 := zH H10.out.blk 7;have P10_1 := k0_ (H10.out.put (o := 6) (v := .int .i8 b) (cs' := #[.int .i8 5, .string x.text, .string y.text, .int .i64 0, .int .i8 a, .slice Ga mGa cGa, .int .i8 b, .slice none 0 0, .int .i64 0, .int .i64 (posAt l i), .slice none 0 0]) (heap_put H10.out.blk));have FGa_1_2_3_9_10_1 := k0_ (jb (o := 6) (v := .int .i8 b) FGa_1_2_3_9_10.out (Nat.lt_succ_self N));have FGb_1 := k0_ (jb (o := 6) (v := .int .i8 b) FGb.out (Nat.lt_succ_self N));clear FGa_1_2_3_9_10 FGb;have P10_2 := k0_ (P10_1.out.put (o := 7) (v := .slice Gb mGb cGb) (cs' := #[.int .i8 5, .string x.text, .string y.text, .int .i64 0, .int .i8 a, .slice Ga mGa cGa, .int .i8 b, .slice Gb mGb cGb, .int .i64 0, .int .i64 (posAt l i), .slice none 0 0]) (heap_put P10_1.out.blk));have FGa_1_2_3_9_10_1_2 := k0_ (jb (o := 7) (v := .slice Gb mGb cGb) FGa_1_2_3_9_10_1.out (Nat.lt_succ_self N));have FGb_1_2 := k0_ (jb (o := 7) (v := .slice Gb mGb cGb) FGb_1.out (Nat.lt_succ_self N));clear FGa_1_2_3_9_10_1 FGb_1;generalize hw11 : ((w10.setCell ⟨N, 6, none⟩ (.int .i8 b)).setCell ⟨N, 7, none⟩ (.slice Gb mGb cGb)) = w11 at P10_2 FGa_1_2_3_9_10_1_2 FGb_1_2;clear H10 P10_1
                  cases g8 with
                  | wordNo hw =>
                    have CB := k0_ (qI l A c rb j2 mv _ w11 P10_2.out.st s4 hw);clear CT;exact zHt
                  | word hv9 g9 =>
                    have hv9i := zQ hv9
                    cases g9 with
                    | @tmNo _ E a s _ fd =>
                      have CB := k0_ (zg l A c rb j2 mv _ w11 P10_2.out.st s4 hv9 (CT.out (j2 + 1) (by omega) hv9i) _ fd);clear CT fd;exact zHt
                    | @tm _ j3 h t _ r10 fd g10 =>
                      have CB := k0_ (zg l A c rb j2 mv _ w11 P10_2.out.st s4 hv9 (CT.out (j2 + 1) (by omega) hv9i) _ fd);have hj3l := (T.goes fd hv9i).2;have hj3i : j2 + 1 <= j3 := Nat.le_trans (Nat.le_add_right _ _) (T.goes fd hv9i).1;clear fd
                      go_wp2_with fail
                      clear hw11 c6 z6 c7 z7;refine CB.out.mono ?_;rintro e w12 ⟨X, rfl, hX, hP⟩;have H12 := k0_ (P10_2.out.go hP hj3l);have FGa_1_2_3_9_10_1_2_12 := k0_ (uj FGa_1_2_3_9_10_1_2.out hP (Nat.lt_succ_of_lt (Nat.lt_of_lt_of_le P10_2.out.rlt P10_2.out.lo)));have FGb_1_2_12 := k0_ (uj FGb_1_2.out hP (Nat.lt_succ_of_lt (Nat.lt_of_lt_of_le P10_2.out.rlt P10_2.out.lo)));have TX := k0_ (hX.low (n0 := N + 1) (zD P10_2.out.blk));clear hX;clear hP CB FGa_1_2_3_9_10_1_2 FGb_1_2;clear P10_2;cases g10;clear CT;obtain ⟨hXn, pX, hX, hFX⟩ := TX.out;have CK := k0_ (zT (w12.alloc (.cells #[.pointer (some ⟨X, 0, none⟩)] 108)) w12.heap.size X h pX (zF _ _) (zG hX _));have HFX := k0_ hFX;clear hX hFX TX
                      go_wp2_with fail
                      refine CK.out.mono ?_;rintro e v8 ⟨rfl, hw5⟩;have hw8 : (w12.alloc (.cells #[.pointer (some ⟨X, 0, none⟩)] 108)).alloc (.cells (h.cells pX).toArray 41) = v8 := hw5;clear hw5;have HX8 := zG (zG H12.out.blk (.cells #[.pointer (some ⟨X, 0, none⟩)] 108)) (.cells (h.cells pX).toArray 41);have HT0 := zGU (o := .cells #[.pointer (some ⟨X, 0, none⟩)] 108) (H := { hd0 5 (posAt l i) with name := x.text, arg := y.text, tk := a, tkids := f, uk := b, ukids := f2 }) (C := h.cells pX) (kt := (.node h t .nil)) (k := 1) H12.out.lo H12.out.blk (fun u hu => zDK (by show (-128 : Int) <= 5; decide) (by show (5 : Int) <= 127; decide) rfl (by decide) hxs hys (FGa_1_2_3_9_10_1_2_12.out u hu) (FGb_1_2_12.out u hu)) ⟨pX, _, (List.append_nil _).symm, HFX.out, rfl⟩ rfl;have HR8 : PRd v8 rb A l.length c j3 mv := by rw [← hw8]; exact zG (zG H12.out.rd _) _
                      have HB8 : Below w12.heap.size w12 v8 := by rw [← hw8]; exact (((Below.refl _ _).alloc (Nat.le_refl _) _).alloc (by simp) _)
                      rw [hw8] at HX8 HT0;clear hw8;have c10 := cell_of_heap HX8 10 rfl;have z10 := zH HX8 10;have HTA := k0_ HT0;have hr3 := H12.out.ne
                      have HR9 := k0_ (show PRd (v8.setCell ⟨N, 10, none⟩ (.slice (some ⟨w12.heap.size + 1, 0, none⟩) 1 1)) rb A l.length c j3 mv from by
                        unfold PRd; rw [Below.heap_setCell _ _ _ rb hr3]; exact HR8)
                      have HG9 := k0_ (zL (zI H12.out.gr (zJ (rb := rb) HB8)) (p := ⟨N, 10, none⟩) (.inr H12.out.lo) (.slice (some ⟨w12.heap.size + 1, 0, none⟩) 1 1));clear HT0 HR8 HB8 CK H12 HX8 hr3 HFX FGa_1_2_3_9_10_1_2_12 FGb_1_2_12;exact zGX
set_option maxHeartbeats 8000000 in
set_option maxRecDepth 100000 in
theorem zA1 (l : List W4) (A : Option Addr) (c rb i : Nat) (mv : Value) (w : World) (hS : PdS l A c rb mv w i) (hi : i < l.length) (s1 : Says ⟨#[111, 102]⟩ 3 kOf) (s2 : Says ⟨#[46]⟩ 4 [46]) (s3 : Says ⟨#[124]⟩ 4 [124]) (hN : Needs l A c rb mv i) (r : Tt.Rs) (hT : T l (.seq [.tm, .w 3 kOf, .nm, sg 46, .tm, sg 124, .nm, sg 46, .tm] (i + 1)) r) :
    Calls Tryz.prog 67 #[.pointer (some ⟨rb, 0, none⟩)] w (TPost l A c rb mv w (r.make 14 (posAt l i))) := by
  have CH := k0_ (qQ l A c rb i mv 14 w hS hi);rw [qj hi] at CH;have CT := k0_ (fun (j : Nat) (hij : i < j) (hj : j <= l.length) => hN.term j hij hj);have HS := k0_ hS;have hsm := hS.small;have hok := hS.okw;clear hS hN
  go_enter Tryz.func67, Tryz.ntmps67
  go_wp2_with fail
  refine CH.out.mono ?_;rintro e w2 ⟨N, rfl, hN1, hN2, hX, hP⟩;have H2 := k0_ (show HdS l A c rb mv w w2 N i (i + 1) _ from ⟨HS.out, hN1, hX, hP.1, hi, hP.2⟩);clear hX hP CH hN1 hN2 HS
  cases hT with
  | @tmNo _ E a s _ fd =>
    have CB := k0_ (CT.out (i + 1) (by omega) hi w2 _ H2.out.st fd);clear CT fd
    go_wp2_with fail
    refine CB.out.mono ?_;intro e w99 hP;have HP := k0_ (TPost.from hP H2.out.gr);exact qY
  | @tm _ j h t _ r1 fd g1 =>
    have CB := k0_ (CT.out (i + 1) (by omega) hi w2 _ H2.out.st fd);have hjl := (T.goes fd hi).2;have hji : (i + 1) <= j := Nat.le_trans (Nat.le_add_right _ _) (T.goes fd hi).1;clear fd
    go_wp2_with fail
    refine CB.out.mono ?_;rintro e w3 ⟨X, rfl, hX, hP⟩;have H3 := k0_ (H2.out.go hP hjl);have TX := k0_ (hX.low (n0 := N + 1) (zD H2.out.blk));clear hX;clear hP CB;clear H2
    cases g1 with
    | wordNo hw =>
      have CB := k0_ (qN l A c rb j mv _ w3 H3.out.st s1 hw);clear CT
      go_wp2_with fail
      refine CB.out.mono ?_;intro e w99 hP;have HP := k0_ (TPost.from hP H3.out.gr);exact qY
    | word hv2 g2 =>
      have hv2i := zQ hv2;have CB := k0_ (qF l A c rb j mv _ w3 H3.out.st s1 hv2);clear hv2
      go_wp2_with fail
      refine CB.out.mono ?_;rintro e w4 ⟨rfl, hP⟩;have H4 := k0_ (H3.out.go hP hv2i);have TX_4 := k0_ (TX.out.grown hP.2 (Nat.lt_succ_of_lt (Nat.lt_of_lt_of_le H3.out.rlt H3.out.lo)));clear hP CB TX;clear H3
      cases g2 with
      | nmNo hno =>
        have CB := k0_ (kE l A c rb (j + 1) mv w4 H4.out.st (jk hno));clear CT;exact zGZ
      | @nm _ x _ r3 hx hk g3 =>
        have hxi := (List.getElem?_eq_some_iff.1 hx).1;have hxs := hsm x (List.mem_of_getElem? hx);have CB := k0_ (ja l A c rb (j + 1) mv w4 H4.out.st hx hk);clear hx hk
        go_wp2_with fail
        refine CB.out.mono ?_;rintro e w5 ⟨rfl, hP⟩;have H5 := k0_ (H4.out.go hP hxi);have TX_4_5 := k0_ (TX_4.out.grown hP.2 (Nat.lt_succ_of_lt (Nat.lt_of_lt_of_le H4.out.rlt H4.out.lo)));clear hP CB TX_4;have c1 := cell_of_heap H5.out.blk 1 rfl;have z1 := zH H5.out.blk 1;have P5_1 := k0_ (H5.out.put (o := 1) (v := .string x.text) (cs' := #[.int .i8 14, .string x.text, .string ⟨#[]⟩, .int .i64 0, .int .i8 0, .slice none 0 0, .int .i8 0, .slice none 0 0, .int .i64 0, .int .i64 (posAt l i), .slice none 0 0]) (heap_put H5.out.blk));have TX_4_5_1 := k0_ (TX_4_5.out.set (o := 1) (v := .string x.text) (Nat.lt_succ_self N));clear TX_4_5;generalize hw6 : (w5.setCell ⟨N, 1, none⟩ (.string x.text)) = w6 at P5_1 TX_4_5_1;clear H5
        cases g3 with
        | wordNo hw =>
          have CB := k0_ (qI l A c rb ((j + 1) + 1) mv _ w6 P5_1.out.st s2 hw);clear CT;exact zHk
        | word hv4 g4 =>
          have hv4i := zQ hv4
          cases g4 with
          | @tmNo _ E a s _ fd =>
            have CB := k0_ (zg l A c rb ((j + 1) + 1) mv _ w6 P5_1.out.st s2 hv4 (CT.out (((j + 1) + 1) + 1) (by omega) hv4i) _ fd);clear CT fd;exact zHk
          | @tm _ j2 h' t' _ r5 fd g5 =>
            have CB := k0_ (zg l A c rb ((j + 1) + 1) mv _ w6 P5_1.out.st s2 hv4 (CT.out (((j + 1) + 1) + 1) (by omega) hv4i) _ fd);have hj2l := (T.goes fd hv4i).2;have hj2i : ((j + 1) + 1) + 1 <= j2 := Nat.le_trans (Nat.le_add_right _ _) (T.goes fd hv4i).1;clear fd
            go_wp2_with fail
            clear hw6 c1 z1;refine CB.out.mono ?_;rintro e w7 ⟨Y, rfl, hX, hP⟩;have H7 := k0_ (P5_1.out.go hP hj2l);have TX_4_5_1_7 := k0_ (TX_4_5_1.out.grown hP.2 (Nat.lt_succ_of_lt (Nat.lt_of_lt_of_le P5_1.out.rlt P5_1.out.lo)));have TY := k0_ (hX.low (n0 := N + 1) (zD P5_1.out.blk));clear hX;clear hP CB TX_4_5_1;clear P5_1
            cases g5 with
            | wordNo hw =>
              have CB := k0_ (qN l A c rb j2 mv _ w7 H7.out.st s3 hw);clear CT
              go_wp2_with fail
              refine CB.out.mono ?_;intro e w99 hP;have HP := k0_ (TPost.from hP H7.out.gr);exact qY
            | word hv6 g6 =>
              have hv6i := zQ hv6;have CB := k0_ (qF l A c rb j2 mv _ w7 H7.out.st s3 hv6);clear hv6
              go_wp2_with fail
              refine CB.out.mono ?_;rintro e w8 ⟨rfl, hP⟩;have H8 := k0_ (H7.out.go hP hv6i);have TX_4_5_1_7_8 := k0_ (TX_4_5_1_7.out.grown hP.2 (Nat.lt_succ_of_lt (Nat.lt_of_lt_of_le H7.out.rlt H7.out.lo)));have TY_8 := k0_ (TY.out.grown hP.2 (Nat.lt_succ_of_lt (Nat.lt_of_lt_of_le H7.out.rlt H7.out.lo)));clear hP CB TX_4_5_1_7 TY;clear H7
              cases g6 with
              | nmNo hno =>
                have CB := k0_ (kE l A c rb (j2 + 1) mv w8 H8.out.st (jk hno));clear CT;exact zGe
              | @nm _ y _ r7 hy hk g7 =>
                have hyi := (List.getElem?_eq_some_iff.1 hy).1;have hys := hsm y (List.mem_of_getElem? hy);have CB := k0_ (ja l A c rb (j2 + 1) mv w8 H8.out.st hy hk);clear hy hk
                go_wp2_with fail
                refine CB.out.mono ?_;rintro e w9 ⟨rfl, hP⟩;have H9 := k0_ (H8.out.go hP hyi);have TX_4_5_1_7_8_9 := k0_ (TX_4_5_1_7_8.out.grown hP.2 (Nat.lt_succ_of_lt (Nat.lt_of_lt_of_le H8.out.rlt H8.out.lo)));have TY_8_9 := k0_ (TY_8.out.grown hP.2 (Nat.lt_succ_of_lt (Nat.lt_of_lt_of_le H8.out.rlt H8.out.lo)));clear hP CB TX_4_5_1_7_8 TY_8;have c2 := cell_of_heap H9.out.blk 2 rfl;have z2 := zH H9.out.blk 2;have P9_1 := k0_ (H9.out.put (o := 2) (v := .string y.text) (cs' := #[.int .i8 14, .string x.text, .string y.text, .int .i64 0, .int .i8 0, .slice none 0 0, .int .i8 0, .slice none 0 0, .int .i64 0, .int .i64 (posAt l i), .slice none 0 0]) (heap_put H9.out.blk));have TX_4_5_1_7_8_9_1 := k0_ (TX_4_5_1_7_8_9.out.set (o := 2) (v := .string y.text) (Nat.lt_succ_self N));have TY_8_9_1 := k0_ (TY_8_9.out.set (o := 2) (v := .string y.text) (Nat.lt_succ_self N));clear TX_4_5_1_7_8_9 TY_8_9;generalize hw10 : (w9.setCell ⟨N, 2, none⟩ (.string y.text)) = w10 at P9_1 TX_4_5_1_7_8_9_1 TY_8_9_1;clear H9
                cases g7 with
                | wordNo hw =>
                  have CB := k0_ (qI l A c rb ((j2 + 1) + 1) mv _ w10 P9_1.out.st s2 hw);clear CT;exact zHs
                | word hv8 g8 =>
                  have hv8i := zQ hv8
                  cases g8 with
                  | @tmNo _ E a s _ fd =>
                    have CB := k0_ (zg l A c rb ((j2 + 1) + 1) mv _ w10 P9_1.out.st s2 hv8 (CT.out (((j2 + 1) + 1) + 1) (by omega) hv8i) _ fd);clear CT fd;exact zHs
                  | @tm _ j3 h'' t'' _ r9 fd g9 =>
                    have CB := k0_ (zg l A c rb ((j2 + 1) + 1) mv _ w10 P9_1.out.st s2 hv8 (CT.out (((j2 + 1) + 1) + 1) (by omega) hv8i) _ fd);have hj3l := (T.goes fd hv8i).2;have hj3i : ((j2 + 1) + 1) + 1 <= j3 := Nat.le_trans (Nat.le_add_right _ _) (T.goes fd hv8i).1;clear fd
                    go_wp2_with fail
                    clear hw10 c2 z2;refine CB.out.mono ?_;rintro e w11 ⟨V, rfl, hX, hP⟩;have H11 := k0_ (P9_1.out.go hP hj3l);have TX_4_5_1_7_8_9_1_11 := k0_ (TX_4_5_1_7_8_9_1.out.grown hP.2 (Nat.lt_succ_of_lt (Nat.lt_of_lt_of_le P9_1.out.rlt P9_1.out.lo)));have TY_8_9_1_11 := k0_ (TY_8_9_1.out.grown hP.2 (Nat.lt_succ_of_lt (Nat.lt_of_lt_of_le P9_1.out.rlt P9_1.out.lo)));have TV := k0_ (hX.low (n0 := N + 1) (zD P9_1.out.blk));clear hX;clear hP CB TX_4_5_1_7_8_9_1 TY_8_9_1;clear P9_1;cases g9;clear CT;obtain ⟨hXn, pX, hX, hFX⟩ := TX_4_5_1_7_8_9_1_11.out;obtain ⟨hYn, pY, hY, hFY⟩ := TY_8_9_1_11.out;obtain ⟨hVn, pV, hV, hFV⟩ := TV.out;have CK := k0_ (zAa (w11.alloc (.cells #[.pointer (some ⟨X, 0, none⟩), .pointer (some ⟨Y, 0, none⟩), .pointer (some ⟨V, 0, none⟩)] 108)) w11.heap.size X Y V h h' h'' pX pY pV (zF _ _) (zG hX _) (zG hY _) (zG hV _));have HFX := k0_ hFX;have HFY := k0_ hFY;have HFV := k0_ hFV;clear hX hFX TX_4_5_1_7_8_9_1_11 hY hFY TY_8_9_1_11 hV hFV TV
                    go_wp2_with fail
                    refine CK.out.mono ?_;rintro e v8 ⟨rfl, hw5⟩;have hw8 : (w11.alloc (.cells #[.pointer (some ⟨X, 0, none⟩), .pointer (some ⟨Y, 0, none⟩), .pointer (some ⟨V, 0, none⟩)] 108)).alloc (.cells (h.cells pX ++ (h'.cells pY ++ h''.cells pV)).toArray 41) = v8 := hw5;clear hw5;have HX8 := zG (zG H11.out.blk (.cells #[.pointer (some ⟨X, 0, none⟩), .pointer (some ⟨Y, 0, none⟩), .pointer (some ⟨V, 0, none⟩)] 108)) (.cells (h.cells pX ++ (h'.cells pY ++ h''.cells pV)).toArray 41);have HT0 := zGU (o := .cells #[.pointer (some ⟨X, 0, none⟩), .pointer (some ⟨Y, 0, none⟩), .pointer (some ⟨V, 0, none⟩)] 108) (H := { hd0 14 (posAt l i) with name := x.text, arg := y.text }) (C := h.cells pX ++ (h'.cells pY ++ h''.cells pV)) (kt := (.node h t (.node h' t' (.node h'' t'' .nil)))) (k := 3) H11.out.lo H11.out.blk (fun u hu => zDK (by show (-128 : Int) <= 14; decide) (by show (14 : Int) <= 127; decide) rfl (by decide) hxs hys (jD u) (jD u)) ⟨pX, _, rfl, HFX.out, ⟨pY, _, rfl, HFY.out, ⟨pV, _, (List.append_nil _).symm, HFV.out, rfl⟩⟩⟩ rfl;have HR8 : PRd v8 rb A l.length c j3 mv := by rw [← hw8]; exact zG (zG H11.out.rd _) _
                    have HB8 : Below w11.heap.size w11 v8 := by rw [← hw8]; exact (((Below.refl _ _).alloc (Nat.le_refl _) _).alloc (by simp) _)
                    rw [hw8] at HX8 HT0;clear hw8;have c10 := cell_of_heap HX8 10 rfl;have z10 := zH HX8 10;have HTA := k0_ HT0;have hr3 := H11.out.ne
                    have HR9 := k0_ (show PRd (v8.setCell ⟨N, 10, none⟩ (.slice (some ⟨w11.heap.size + 1, 0, none⟩) 3 3)) rb A l.length c j3 mv from by
                      unfold PRd; rw [Below.heap_setCell _ _ _ rb hr3]; exact HR8)
                    have HG9 := k0_ (zL (zI H11.out.gr (zJ (rb := rb) HB8)) (p := ⟨N, 10, none⟩) (.inr H11.out.lo) (.slice (some ⟨w11.heap.size + 1, 0, none⟩) 3 3));clear HT0 HR8 HB8 CK H11 HX8 hr3 HFX HFY HFV;exact zGX
theorem zAV {n N : Nat} {w : World} {H : Hd} (hk1 : -128 <= H.kind) (hk2 : H.kind <= 127) (hl : H.label = 0) (hx : H.name.size <= 281474976710656) (hy : H.arg.size <= 281474976710656) (ht : H.tk = 0 /\ H.tkids = .nil) (hu : H.uk = 0 /\ H.ukids = .nil) (hn : n <= N)
    (hN : w.heap[N]? = some (.cells (H.cells ⟨none, 0, 0, none, 0, 0, none, 0, 0⟩).toArray 41 (0, 0))) : TAt n w N H .nil :=
  ⟨hn, _, hN, fun u _ => ⟨zDK hk1 hk2 hl (Nat.zero_le _) hx hy (by rw [ht.1, ht.2]; exact jD u) (by rw [hu.1, hu.2]; exact jD u), trivial⟩⟩
theorem zh {l : List W4} {i : Nat} {s : ByteArray} {k : Int} {t : List UInt8} (h : Says s k t) (hok : ∀ x ∈ l, OkWord x) : ((fx (wAt l i)).toList == t) = sees l i k t := by
  have q := qi (i := i) h hok;rw [h.1] at q;exact q
def formA (l : List W4) (i : Nat) : Int × List It × Nat :=
  if sees l i 3 kTrue then (2, [], i + 1)
  else if sees l i 3 kFalse then (3, [], i + 1)
  else if sees l i 4 [40] then (100, [.tm, sg 41], i + 1)
  else if sees l i 4 [91] then (9, [.tm, sg 44, .tm, sg 93], i + 1)
  else if (l[i]?.map (·.kind)) = some 1 then (0, [.nm], i)
  else (1, [.nu], i)
theorem zCL {l : List W4} {A : Option Addr} {c rb j : Nat} {mv : Value} {w u : World} (h : PGo l A c rb mv w j u) (o : Obj) : PGo l A c rb mv w j (u.alloc o) :=
  ⟨zG h.1 o, zI h.2 (zJ ((Below.refl _ _).alloc (Nat.le_refl _) _))⟩
set_option maxHeartbeats 4000000 in
set_option maxRecDepth 100000 in
theorem zD1 (l : List W4) (A : Option Addr) (c rb i : Nat) (mv : Value) (w : World) (hS : PdS l A c rb mv w i) (sT : Says ⟨#[116, 114, 117, 101]⟩ 3 kTrue) (sF : Says ⟨#[102, 97, 108, 115, 101]⟩ 3 kFalse) (s1 : Says ⟨#[40]⟩ 4 [40]) (s2 : Says ⟨#[91]⟩ 4 [91]) (s3 : Says ⟨#[41]⟩ 4 [41]) (s4 : Says ⟨#[44]⟩ 4 [44]) (s5 : Says ⟨#[93]⟩ 4 [93]) (hN : Needs l A c rb mv i) (r : Tt.Rs) (hT : T l (.seq (formA l i).2.1 (formA l i).2.2) r) :
    Calls Tryz.prog 125 #[.pointer (some ⟨rb, 0, none⟩)] w (TPost l A c rb mv w (r.make (formA l i).1 (posAt l i))) := by
  have CW := k0_ (qJ l A c rb i mv w hS);have hwk := ji hS.okw (i := i);have CF := k0_ (fun (W : World) => jX (wAt l i) W hwk.1 hwk.2);have esT : ((fx (wAt l i)).toList == [116, 114, 117, 101]) = sees l i 3 kTrue := zh sT hS.okw;have esF : ((fx (wAt l i)).toList == [102, 97, 108, 115, 101]) = sees l i 3 kFalse := zh sF hS.okw;have es1 : ((fx (wAt l i)).toList == [40]) = sees l i 4 [40] := zh s1 hS.okw;have es2 : ((fx (wAt l i)).toList == [91]) = sees l i 4 [91] := zh s2 hS.okw;have HS := k0_ hS;have HN := k0_ hN;clear hwk hS hN;cases hsT : sees l i 3 kTrue
  case true =>
    have hf : formA l i = (2, [], i + 1) := by unfold formA; simp [hsT]
    rw [hf] at hT ⊢;clear hf;have hi := zQ hsT;rw [hsT] at esT;clear esF es1 es2;cases hT;have CH := k0_ (fun (W : World) (hb : Below w.heap.size w W) => qQ l A c rb i mv 2 W (HS.out.below hb) hi);rw [qj hi] at CH;clear HN HS hsT;clear sT sF s1 s2 s3 s4 s5;generalize fx (wAt l i) = s at *;generalize hxw : wAt l i = x at *;obtain ⟨yk, yt, yn, yp⟩ := x;unfold wV at CW CF;simp only at CW CF;clear hxw
    go_enter Tryz.func125, Tryz.ntmps125
    go_wp2_with fail
    refine CW.out.mono ?_;rintro e w2 ⟨rfl, hb⟩;have hbx : Below w2.heap.size w2 (w2.alloc (.cells #[.int .i8 yk, .string yt, .int .i64 yn, .int .i64 yp] 63)) := (Below.refl _ _).alloc (Nat.le_refl _) _;have HX2 := k0_ (zF w2 (.cells #[.int .i8 yk, .string yt, .int .i64 yn, .int .i64 yp] 63));have HB2 := k0_ (hb.trans (hbx.mono hb.size));have hwl := hb.size;clear hb hbx;obtain ⟨x0, x1, x2, x3, -, -, -, -, hxl⟩ := zV HX2.out
    go_wp2_with fail
    refine (CF.out _).mono ?_;rintro e w3 ⟨rfl, hb⟩;have HX3 := kp_ hb HX2;have HB3 := kt_ HB2 hb;clear hb x0 x1 x2 x3 hxl HX2 HB2
    go_wp2_with fail
    refine (CH.out _ HB3.out).mono ?_;rintro e w4 ⟨N, rfl, hN1, hN2, hX, hP⟩;have HTA := k0_ (zAV (H := hd0 2 (posAt l i)) (by show (-128 : Int) <= 2; decide) (by show (2 : Int) <= 127; decide) rfl (Nat.zero_le _) (Nat.zero_le _) ⟨rfl, rfl⟩ ⟨rfl, rfl⟩ (Nat.le_trans HB3.out.size hN1) hX);exact zGc
  cases hsF : sees l i 3 kFalse
  case true =>
    have hf : formA l i = (3, [], i + 1) := by unfold formA; simp [hsT, hsF]
    rw [hf] at hT ⊢;clear hf;have hi := zQ hsF;rw [hsT] at esT;rw [hsF] at esF;clear es1 es2;cases hT;have CH := k0_ (fun (W : World) (hb : Below w.heap.size w W) => qQ l A c rb i mv 3 W (HS.out.below hb) hi);rw [qj hi] at CH;clear HN HS hsT hsF;clear sT sF s1 s2 s3 s4 s5;generalize fx (wAt l i) = s at *;generalize hxw : wAt l i = x at *;obtain ⟨yk, yt, yn, yp⟩ := x;unfold wV at CW CF;simp only at CW CF;clear hxw
    go_enter Tryz.func125, Tryz.ntmps125
    go_wp2_with fail
    refine CW.out.mono ?_;rintro e w2 ⟨rfl, hb⟩;have hbx : Below w2.heap.size w2 (w2.alloc (.cells #[.int .i8 yk, .string yt, .int .i64 yn, .int .i64 yp] 63)) := (Below.refl _ _).alloc (Nat.le_refl _) _;have HX2 := k0_ (zF w2 (.cells #[.int .i8 yk, .string yt, .int .i64 yn, .int .i64 yp] 63));have HB2 := k0_ (hb.trans (hbx.mono hb.size));have hwl := hb.size;clear hb hbx;obtain ⟨x0, x1, x2, x3, -, -, -, -, hxl⟩ := zV HX2.out
    go_wp2_with fail
    refine (CF.out _).mono ?_;rintro e w3 ⟨rfl, hb⟩;have HX3 := kp_ hb HX2;have HB3 := kt_ HB2 hb;clear hb x0 x1 x2 x3 hxl HX2 HB2
    go_wp2_with fail
    refine (CH.out _ HB3.out).mono ?_;rintro e w4 ⟨N, rfl, hN1, hN2, hX, hP⟩;have HTA := k0_ (zAV (H := hd0 3 (posAt l i)) (by show (-128 : Int) <= 3; decide) (by show (3 : Int) <= 127; decide) rfl (Nat.zero_le _) (Nat.zero_le _) ⟨rfl, rfl⟩ ⟨rfl, rfl⟩ (Nat.le_trans HB3.out.size hN1) hX);exact zGc
  cases hs1 : sees l i 4 [40]
  case true =>
    have hf : formA l i = (100, [.tm, sg 41], i + 1) := by unfold formA; simp [hsT, hsF, hs1]
    rw [hf] at hT ⊢;clear hf;have hi := zQ hs1;rw [hsT] at esT;rw [hsF] at esF;rw [hs1] at es1;clear es2;have CB := k0_ (fun (W : World) (hb : Below w.heap.size w W) => xz l A c rb i mv W (HS.out.below hb) s1 s3 hs1 HN.out r hT);clear hT HN HS hsT hsF hs1;exact zIU
  cases hs2 : sees l i 4 [91]
  case true =>
    have hf : formA l i = (9, [.tm, sg 44, .tm, sg 93], i + 1) := by unfold formA; simp [hsT, hsF, hs1, hs2]
    rw [hf] at hT ⊢;clear hf;have hi := zQ hs2;rw [hsT] at esT;rw [hsF] at esF;rw [hs1] at es1;rw [hs2] at es2;have CB := k0_ (fun (W : World) (hb : Below w.heap.size w W) => zFI l A c rb i mv W (HS.out.below hb) hi s4 s5 HN.out r hT);clear hT HN HS hsT hsF hs1 hs2;exact zIU
  by_cases hk : (l[i]?.map (·.kind)) = some 1
  · have hf : formA l i = (0, [.nm], i) := by unfold formA; simp [hsT, hsF, hs1, hs2, hk]
    rw [hf] at hT ⊢;clear hf;rw [hsT] at esT;rw [hsF] at esF;rw [hs1] at es1;rw [hs2] at es2
    obtain ⟨x, hx⟩ : ∃ x, l[i]? = some x := by
      cases hq : l[i]? with
      | none => rw [hq] at hk; cases hk
      | some x => exact ⟨x, rfl⟩
    have hk1 : x.kind = 1 := by rw [hx] at hk; injection hk
    have hwx : wAt l i = x := by unfold wAt; rw [hx]
    have hpx : posAt l i = x.pos := by unfold posAt; rw [hx]
    have hxs := HS.out.small x (List.mem_of_getElem? hx);have CN := k0_ (fun (W : World) (hb : Below w.heap.size w W) => ja l A c rb i mv W (HS.out.below hb) hx hk1);have hrl := zD HS.out.rdr
    cases hT with
    | nmNo hno => exact absurd hk1 (hno x hx)
    | @nm _ x' _ _ hx' _ g =>
      rw [hx] at hx';injection hx' with hx'
      subst hx';cases g;rw [hpx];rw [hwx] at CW CF esT esF es1 es2;clear sT sF s1 s2 s3 s4 s5 hsT hsF hs1 hs2 HN HS hx hwx hpx hk;generalize fx x = s at *;obtain ⟨yk, yt, yn, yp⟩ := x;unfold wV at CW CF;simp only at CW CF CN hk1 hxs ⊢;subst hk1
      go_enter Tryz.func125, Tryz.ntmps125
      go_wp2_with fail
      refine CW.out.mono ?_;rintro e w2 ⟨rfl, hb⟩;have hbx : Below w2.heap.size w2 (w2.alloc (.cells #[.int .i8 1, .string yt, .int .i64 yn, .int .i64 yp] 63)) := (Below.refl _ _).alloc (Nat.le_refl _) _;have HX2 := k0_ (zF w2 (.cells #[.int .i8 1, .string yt, .int .i64 yn, .int .i64 yp] 63));have HB2 := k0_ (hb.trans (hbx.mono hb.size));have hwl := hb.size;clear hb hbx;obtain ⟨x0, x1, x2, x3, -, -, -, -, hxl⟩ := zV HX2.out
      go_wp2_with fail
      refine (CF.out _).mono ?_;rintro e w3 ⟨rfl, hb⟩;have HX3 := kp_ hb HX2;have HB3 := kt_ HB2 hb;clear hb x0 x1 x2 x3 hxl HX2 HB2;obtain ⟨x0, x1, x2, x3, -, -, -, -, hxl⟩ := zV HX3.out
      go_wp2_with fail
      have D0 := HB3.out.drew;have hw2 := HB3.out.size
      go_region_law (first
        | (go_simp; go_at_call 86; (with_reducible refine (CN.out _ D0).mono ?_); rintro e u ⟨rfl, hP⟩; have HPU := k0_ (hP.from (zJ (rb := rb) D0)); obtain ⟨u0, u1, u2, u3, -, -, -, -, hul⟩ := zV ((hP.2.block w2.heap.size hxl (fun e => by injection e with e; omega)).trans HX3.out); clear hP; go_wp2_with fail))
      all_goals
        go_wp2_with fail
        go_ret
        exact ⟨u.heap.size, rfl, zAV (H := { hd0 0 yp with name := yt }) (by show (-128 : Int) <= 0; decide) (by show (0 : Int) <= 127; decide) rfl hxs (Nat.zero_le _) ⟨rfl, rfl⟩ ⟨rfl, rfl⟩ HPU.out.2.size (zF u _), zCL HPU.out _⟩
  · have hf : formA l i = (1, [.nu], i) := by unfold formA; simp [hsT, hsF, hs1, hs2, hk]
    rw [hf] at hT ⊢;clear hf;rw [hsT] at esT;rw [hsF] at esF;rw [hs1] at es1;rw [hs2] at es2
    cases hT with
    | nuNo hno =>
      have hkn : (wAt l i).kind ≠ 2 := by
        unfold wAt
        cases hx : l[i]? with
        | none => decide
        | some x => exact hno x hx
      have hk0 : ((wAt l i).kind == 1) = false := by
        unfold wAt
        cases hx : l[i]? with
        | none => rfl
        | some x =>
          rw [hx] at hk
          simpa using hk
      have CB := k0_ (fun (W : World) (hb : Below w.heap.size w W) => wR l A c rb i mv W (HS.out.below hb) hkn);clear sT sF s1 s2 s3 s4 s5 hsT hsF hs1 hs2 HN HS hk hno hkn;generalize fx (wAt l i) = s at *;generalize hxw : wAt l i = x at *;obtain ⟨yk, yt, yn, yp⟩ := x;unfold wV at CW CF;simp only at CW CF;clear hxw;simp only at hk0
      go_enter Tryz.func125, Tryz.ntmps125
      go_wp2_with fail
      refine CW.out.mono ?_;rintro e w2 ⟨rfl, hb⟩;have hbx : Below w2.heap.size w2 (w2.alloc (.cells #[.int .i8 yk, .string yt, .int .i64 yn, .int .i64 yp] 63)) := (Below.refl _ _).alloc (Nat.le_refl _) _;have HX2 := k0_ (zF w2 (.cells #[.int .i8 yk, .string yt, .int .i64 yn, .int .i64 yp] 63));have HB2 := k0_ (hb.trans (hbx.mono hb.size));have hwl := hb.size;clear hb hbx;obtain ⟨x0, x1, x2, x3, -, -, -, -, hxl⟩ := zV HX2.out
      go_wp2_with fail
      refine (CF.out _).mono ?_;rintro e w3 ⟨rfl, hb⟩;have HX3 := kp_ hb HX2;have HB3 := kt_ HB2 hb;clear hb x0 x1 x2 x3 hxl HX2 HB2;obtain ⟨x0, x1, x2, x3, -, -, -, -, hxl⟩ := zV HX3.out
      go_wp2_with fail
      have D0 := HB3.out.drew
      go_region_with (first
        | (go_at_call 124; (with_reducible refine (CB.out _ D0).mono ?_); rintro e u hB; have HP := k0_ (hB.from (zJ (rb := rb) D0)); obtain ⟨g, rfl, -⟩ := hB; refine xD (P := Tryz.prog) (w := u) ?_))
      all_goals exact ⟨rfl, HP.out⟩
    | @nu _ x _ _ hx hk2 g =>
      cases g;have hwx : wAt l i = x := by unfold wAt; rw [hx]
      have hpx : posAt l i = x.pos := by unfold posAt; rw [hx]
      have CN := k0_ (fun (W : World) (hb : Below w.heap.size w W) => wQ l A c rb i mv W (HS.out.below hb) hx hk2);have hrl := zD HS.out.rdr;rw [hpx];rw [hwx] at CW CF esT esF es1 es2;clear sT sF s1 s2 s3 s4 s5 hsT hsF hs1 hs2 HN HS hx hwx hpx hk;generalize fx x = s at *;obtain ⟨yk, yt, yn, yp⟩ := x;unfold wV at CW CF;simp only at CW CF CN hk2 ⊢;subst hk2
      go_enter Tryz.func125, Tryz.ntmps125
      go_wp2_with fail
      refine CW.out.mono ?_;rintro e w2 ⟨rfl, hb⟩;have hbx : Below w2.heap.size w2 (w2.alloc (.cells #[.int .i8 2, .string yt, .int .i64 yn, .int .i64 yp] 63)) := (Below.refl _ _).alloc (Nat.le_refl _) _;have HX2 := k0_ (zF w2 (.cells #[.int .i8 2, .string yt, .int .i64 yn, .int .i64 yp] 63));have HB2 := k0_ (hb.trans (hbx.mono hb.size));have hwl := hb.size;clear hb hbx;obtain ⟨x0, x1, x2, x3, -, -, -, -, hxl⟩ := zV HX2.out
      go_wp2_with fail
      refine (CF.out _).mono ?_;rintro e w3 ⟨rfl, hb⟩;have HX3 := kp_ hb HX2;have HB3 := kt_ HB2 hb;clear hb x0 x1 x2 x3 hxl HX2 HB2;obtain ⟨x0, x1, x2, x3, -, -, -, -, hxl⟩ := zV HX3.out
      go_wp2_with fail
      have D0 := HB3.out.drew;have hw2 := HB3.out.size
      go_region_law (first
        | (go_simp; go_at_call 124; (with_reducible refine (CN.out _ D0).mono ?_); rintro e u ⟨rfl, hP⟩; have HPU := k0_ (hP.from (zJ (rb := rb) D0)); obtain ⟨u0, u1, u2, u3, -, -, -, -, hul⟩ := zV ((hP.2.block w2.heap.size hxl (fun e => by injection e with e; omega)).trans HX3.out); clear hP; go_wp2_with fail))
      all_goals
        go_wp2_with fail
        go_ret
        exact ⟨u.heap.size, rfl, zAV (H := { hd0 1 yp with num := yn }) (by show (-128 : Int) <= 1; decide) (by show (1 : Int) <= 127; decide) rfl (Nat.zero_le _) (Nat.zero_le _) ⟨rfl, rfl⟩ ⟨rfl, rfl⟩ HPU.out.2.size (zF u _), zCL HPU.out _⟩
def OPost (l : List W4) (A : Option Addr) (c rb : Nat) (mv : Value) (w : World) (st : Nat) (r : Tt.Rs) (e : Ending) (w' : World) : Prop := match r with
  | .ok [.tm h t] j => ∃ X, e = .returned (.tuple #[.pointer (some ⟨X, 0, none⟩), .int .i64 st]) /\ TAt w.heap.size w' X h t /\ PGo l A c rb mv w j w'
  | .ok _ _ => False
  | .bad E a s => PBad rb w E a s e w'
theorem zBj {l : List W4} {i : Nat} (h1 : sees l i 3 kFst = false) (h2 : sees l i 3 kSnd = false) (h3 : sees l i 3 kInl = false) (h4 : sees l i 3 kInr = false) (h5 : sees l i 4 [45] = false) :
    formO l i = ((formA l i).1, (formA l i).2.1, (formA l i).2.2, 5) := by
  unfold formO formA;rw [h1, h2, h3, h4, h5];cases sees l i 3 kTrue <;> cases sees l i 3 kFalse <;> cases sees l i 4 [40] <;> cases sees l i 4 [91] <;> by_cases hk : (l[i]?.map (·.kind)) = some 1 <;> simp [hk]
set_option maxHeartbeats 4000000 in
set_option maxRecDepth 100000 in
theorem yF (l : List W4) (A : Option Addr) (c rb i : Nat) (mv : Value) (w : World) (hS : PdS l A c rb mv w i) (hN : Needs l A c rb mv i) (r : Tt.Rs) (hT : T l (.opnd i) r) :
    Calls Tryz.prog 91 #[.pointer (some ⟨rb, 0, none⟩)] w (OPost l A c rb mv w (formO l i).2.2.2 r) := by
  have CW := k0_ (qJ l A c rb i mv w hS);have hwk := ji hS.okw (i := i);have CF := k0_ (fun (W : World) => jX (wAt l i) W hwk.1 hwk.2);have ek1 : ((fx (wAt l i)).toList == [102, 115, 116]) = sees l i 3 kFst := zh zId hS.okw;have ek2 : ((fx (wAt l i)).toList == [115, 110, 100]) = sees l i 3 kSnd := zh zIY hS.okw;have ek3 : ((fx (wAt l i)).toList == [105, 110, 108]) = sees l i 3 kInl := zh zIc hS.okw;have ek4 : ((fx (wAt l i)).toList == [105, 110, 114]) = sees l i 3 kInr := zh zIb hS.okw;have ek5 : ((fx (wAt l i)).toList == [45]) = sees l i 4 [45] := zh y45 hS.okw;have HS := k0_ hS;have HN := k0_ hN;clear hwk hS hN
  cases hT with
  | @opnd _ r hT =>
    cases hk1 : sees l i 3 kFst
    case true =>
      have hf : formO l i = (10, [.pt 4], i + 1, 4) := by unfold formO; simp [hk1]
      rw [hf] at hT ⊢;clear hf;have hi := zQ hk1;rw [hk1] at ek1;clear ek2 ek3 ek4 ek5;have CB := k0_ (fun (W : World) (hb : Below w.heap.size w W) => xB l A c rb i mv 10 (by decide) (by decide) W (HS.out.below hb) hi HN.out r hT);clear hT HN HS hk1;exact c3_
    cases hk2 : sees l i 3 kSnd
    case true =>
      have hf : formO l i = (11, [.pt 4], i + 1, 4) := by unfold formO; simp [hk1, hk2]
      rw [hf] at hT ⊢;clear hf;have hi := zQ hk2;rw [hk1] at ek1;rw [hk2] at ek2;clear ek3 ek4 ek5;have CB := k0_ (fun (W : World) (hb : Below w.heap.size w W) => xB l A c rb i mv 11 (by decide) (by decide) W (HS.out.below hb) hi HN.out r hT);clear hT HN HS hk1 hk2;exact c3_
    cases hk3 : sees l i 3 kInl
    case true =>
      have hf : formO l i = (12, [sg 123, .ty, sg 125, .pt 4], i + 1, 4) := by unfold formO; simp [hk1, hk2, hk3]
      rw [hf] at hT ⊢;clear hf;have hi := zQ hk3;rw [hk1] at ek1;rw [hk2] at ek2;rw [hk3] at ek3;clear ek4 ek5;have CB := k0_ (fun (W : World) (hb : Below w.heap.size w W) => zAJ l A c rb i mv 12 (by decide) (by decide) W (HS.out.below hb) hi zHQ zHP HN.out r hT);clear hT HN HS hk1 hk2 hk3;exact c3_
    cases hk4 : sees l i 3 kInr
    case true =>
      have hf : formO l i = (13, [sg 123, .ty, sg 125, .pt 4], i + 1, 4) := by unfold formO; simp [hk1, hk2, hk3, hk4]
      rw [hf] at hT ⊢;clear hf;have hi := zQ hk4;rw [hk1] at ek1;rw [hk2] at ek2;rw [hk3] at ek3;rw [hk4] at ek4;clear ek5;have CB := k0_ (fun (W : World) (hb : Below w.heap.size w W) => zAJ l A c rb i mv 13 (by decide) (by decide) W (HS.out.below hb) hi zHQ zHP HN.out r hT);clear hT HN HS hk1 hk2 hk3 hk4;exact c3_
    cases hk5 : sees l i 4 [45]
    case true =>
      have hf : formO l i = (101, [.nu], i + 1, 4) := by unfold formO; simp [hk1, hk2, hk3, hk4, hk5]
      rw [hf] at hT ⊢;clear hf;have hi := zQ hk5;rw [hk1] at ek1;rw [hk2] at ek2;rw [hk3] at ek3;rw [hk4] at ek4;rw [hk5] at ek5;have CH := k0_ (fun (W : World) (hb : Below w.heap.size w W) => qQ l A c rb i mv 1 W (HS.out.below hb) hi);rw [qj hi] at CH;clear HN hk1 hk2 hk3 hk4 hk5;generalize fx (wAt l i) = s at *;generalize hxw : wAt l i = x at *;obtain ⟨yk, yt, yn, yp⟩ := x;unfold wV at CW CF;simp only at CW CF;clear hxw
      go_enter Tryz.func91, Tryz.ntmps91
      go_wp2_with fail
      refine CW.out.mono ?_;rintro e w2 ⟨rfl, hb⟩;have HB2 := k0_ hb;clear hb
      go_wp2_with fail
      refine (CF.out _).mono ?_;rintro e w3 ⟨rfl, hb⟩;have HB3 := kt_ HB2 hb;clear hb HB2
      go_wp2_with fail
      refine (CH.out _ HB3.out).mono ?_;rintro e w4 ⟨N, rfl, hN1, hN2, hX, hP⟩;have H4 := k0_ (show HdS l A c rb mv w w4 N i (i + 1) _ from ⟨HS.out, Nat.le_trans HB3.out.size hN1, hX, hP.1, hi, zI (zJ HB3.out) hP.2⟩);clear hX hP hN1 hN2 CH
      cases hT with
      | nuNo hno =>
        have CB := k0_ (wR l A c rb (i + 1) mv w4 H4.out.st (by
          unfold wAt
          cases hx : l[i + 1]? with
          | none => decide
          | some x => exact hno x hx))
        clear hno;exact zGZ
      | @nu _ x _ _ hx hk2 g =>
        cases g;have hi1 := (List.getElem?_eq_some_iff.1 hx).1;have hxn := (HS.out.okw x (List.mem_of_getElem? hx)).2.2.2.1 hk2;have CB := k0_ (wQ l A c rb (i + 1) mv w4 H4.out.st hx hk2);obtain ⟨hn0, hn1⟩ := hxn;have hwn : IntKind.i64.wrap (-x.num) = -x.num := IntWalk.i64_in _ (by omega);clear hx hk2 HS
        go_wp2_with fail
        refine CB.out.mono ?_;rintro e w5 ⟨rfl, hP⟩;have H5 := k0_ (H4.out.go hP hi1);clear hP CB H4;have c3 := cell_of_heap H5.out.blk 3 rfl;have z3 := zH H5.out.blk 3;have H6 := k0_ (H5.out.put (o := 3) (v := .int .i64 (-x.num)) (cs' := #[.int .i8 1, .string ⟨#[]⟩, .string ⟨#[]⟩, .int .i64 (-x.num), .int .i8 0, .slice none 0 0, .int .i8 0, .slice none 0 0, .int .i64 0, .int .i64 (posAt l i), .slice none 0 0]) (heap_put H5.out.blk))
        go_wp2_with fail
        go_ret2
        exact ⟨N, rfl, zAV (H := { hd0 1 (posAt l i) with num := -x.num }) (by show (-128 : Int) <= 1; decide) (by show (1 : Int) <= 127; decide) rfl (Nat.zero_le _) (Nat.zero_le _) ⟨rfl, rfl⟩ ⟨rfl, rfl⟩ H6.out.lo H6.out.blk, H6.out.rd, H6.out.gr⟩
    rw [zBj hk1 hk2 hk3 hk4 hk5] at hT ⊢;have CB := k0_ (fun (W : World) (hb : Below w.heap.size w W) => zD1 l A c rb i mv W (HS.out.below hb) zHL zGh y40 y91 y41 y44 y93 HN.out r hT);rw [hk1] at ek1;rw [hk2] at ek2;rw [hk3] at ek3;rw [hk4] at ek4;rw [hk5] at ek5;clear hT HN HS hk1 hk2 hk3 hk4 hk5;exact c3_
end Go.Proofs.YtepmjknljbafgaaGreatDoor
namespace Go.Proofs.YtepmjknljbafgaaGreatDoor
set_option maxHeartbeats 4000000
set_option maxRecDepth 100000
open Go.RowKit Rd Tt
theorem yN {l : List W4} {i : Nat} (hi : i < l.length) : (wAt l i).text = textAt l i := by
  unfold wAt textAt;rw [List.getElem?_eq_getElem hi]
theorem zEY {n0 N Z : Nat} {w : World} {H : Hd} {TA UA : Option Addr} {tn tc un uc : Nat} {kt : Tm} {C : List Value} {k : Nat} (hn : n0 <= N) (hN : w.heap[N]? = some (.cells (H.cells ⟨TA, tn, tc, UA, un, uc, some ⟨Z, 0, none⟩, k, k⟩).toArray 41 (0, 0)))
    (hZ : w.heap[Z]? = some (.cells C.toArray 41 (0, 0))) (hz : n0 <= Z) (hfit : ∀ u, KeepFrom n0 w u -> Tm.Fit u H ⟨TA, tn, tc, UA, un, uc, some ⟨Z, 0, none⟩, k, k⟩ k) (hC : FlatF n0 w kt C) (hk : Tm.len kt = k) : TAt n0 w N H kt :=
  ⟨hn, _, hN, fun u hu => ⟨by rw [hk]; exact hfit u hu, vL hZ hz kt C 0 hC (fun j v hv => by rw [Nat.zero_mul, Nat.zero_add]; exact hv) u hu⟩⟩
def JPost (l : List W4) (A : Option Addr) (c rb : Nat) (mv : Value) (n0 : Nat) (w : World) (j : Nat) (k : Int) (h : Hd) (t : Tm) (r : Tt.Rs) (e : Ending) (w' : World) : Prop := match r with
  | .ok vs j2 => ∃ Y, e = .returned (.pointer (some ⟨Y, 0, none⟩)) /\ TAt n0 w' Y (mkO k (posAt l j) (textAt l j) h t vs).1 (mkO k (posAt l j) (textAt l j) h t vs).2 /\ PGo l A c rb mv w j2 w'
  | .bad E a s => PBad rb w E a s e w'
theorem HdS.below {l : List W4} {A : Option Addr} {c rb : Nat} {mv : Value} {w u u' : World} {N i0 i : Nat} {cs : Array Value} (h : HdS l A c rb mv w u N i0 i cs) (hb : Below u.heap.size u u') : HdS l A c rb mv w u' N i0 i cs :=
  ⟨h.base, h.lo, zB hb (zD h.blk) h.blk, zB hb (zD h.rd) h.rd, h.le, zI h.gr (zJ hb)⟩
theorem zBg (l : List W4) (A : Option Addr) (c rb j n0 : Nat) (mv : Value) (s lf q : Int) (w : World) (hS : PdS l A c rb mv w j) (hi : j < l.length) (hr0 : rb < n0) (hn0 : n0 <= w.heap.size) (X : Nat) (h : Hd) (t : Tm) (hTX : TAt n0 w X h t) (hN : Needs l A c rb mv j) (r : Tt.Rs) (hT : T l (.seq [.tm, sg 41] (j + 1)) r) :
    Calls Tryz.prog 92 #[.pointer (some ⟨rb, 0, none⟩), .pointer (some ⟨X, 0, none⟩), .agg #[.int .i8 6, .int .i64 s, .int .i64 lf, .int .i64 q]] w (JPost l A c rb mv n0 w j 6 h t r) := by
  obtain ⟨hXn, p, hX, hF⟩ := hTX;have hbx : Below w.heap.size w (w.alloc (.cells #[.int .i8 6, .int .i64 s, .int .i64 lf, .int .i64 q] 144)) := (Below.refl _ _).alloc (Nat.le_refl _) _;have HO1 := k0_ (zF w (.cells #[.int .i8 6, .int .i64 s, .int .i64 lf, .int .i64 q] 144));have HB1 := k0_ hbx;have CW := k0_ (fun (W : World) (hb : Below w.heap.size w W) => qJ l A c rb j mv W (hS.below hb));have CH := k0_ (fun (W : World) (hb : Below w.heap.size w W) => qQ l A c rb j mv 6 W (hS.below hb) hi)
  have hsm : (textAt l j).size <= 281474976710656 := by
    exact zH3
  rw [qj hi] at CH;have htx := yN hi;have HS := k0_ hS;have HN := k0_ hN;have HX := k0_ hX;have HF := k0_ hF;have hrl := zD hS.rdr;generalize hyw : wAt l j = y at *;obtain ⟨yk, yt, yn, yp⟩ := y;unfold wV at CW;simp only at CW htx;subst htx;have e1 := zFt;clear hS hN hX hF hbx hyw
  go_enter Tryz.func92, Tryz.ntmps92
  go_wp2_with fail
  refine (CW.out _ HB1.out).mono ?_;rintro e w2 ⟨rfl, hb⟩;have HB2 := kt_ HB1 hb;have HO2 := kp_ hb HO1;obtain ⟨o0, o1, o2, o3, -, -, -, -, hol⟩ := zV HO2.out;have hle := HB1.out.size;clear hb CW HO1 HB1
  go_wp2_with fail
  refine (CH.out _ HB2.out).mono ?_;rintro e w3 ⟨N, rfl, hN1, hN2, hXn3, hP⟩;have H3 := k0_ (show HdS l A c rb mv w w3 N j (j + 1) _ from ⟨HS.out, Nat.le_trans HB2.out.size hN1, hXn3, hP.1, hi, zI (zJ HB2.out) hP.2⟩);have HO3 := k0_ ((hP.2.block _ hol (fun e => by injection e with e; omega)).trans HO2.out);clear hXn3 hP hN1 hN2 CH HO2 o0 o1 o2 o3 hol;obtain ⟨o0, o1, o2, o3, -, -, -, -, hol⟩ := zV HO3.out
  cases hT with
  | @tmNo _ E a s _ f =>
    have CP := k0_ (HN.out.term (j + 1) (Nat.lt_succ_self j) hi w3 _ H3.out.st f);clear f
    go_wp2_with fail
    refine CP.out.mono ?_;intro e w99 hP;have HP := k0_ (TPost.from hP H3.out.gr);exact qY
  | @tm _ j2 h' t' _ r' f g =>
    have hj := (T.goes f hi).2;have CP := k0_ (HN.out.term (j + 1) (Nat.lt_succ_self j) hi w3 _ H3.out.st f);clear f
    go_wp2_with fail
    refine CP.out.mono ?_;rintro e w4 ⟨Y, rfl, hY, hP⟩;have H4 := k0_ (H3.out.go hP hj);have TY := k0_ (hY.low (n0 := N + 1) (zD H3.out.blk));clear hY hP CP H3 HO3 o0 o1 o2 o3 hol;have HXX := k0_ ((H4.out.gr.block X (zD HX.out) (fun e => by injection e with e; omega)).trans HX.out);obtain ⟨hYn, p', hY, hF'⟩ := TY.out;have CK := k0_ (zO (w4.alloc (.cells #[.pointer (some ⟨X, 0, none⟩), .pointer (some ⟨Y, 0, none⟩)] 108)) w4.heap.size X Y h h' p p' (zF _ _) (zG HXX.out _) (zG hY _));have HF' := k0_ hF';clear hY hF' TY
    go_wp2_with fail
    refine CK.out.mono ?_;rintro e v8 ⟨rfl, hw5⟩;have hw8 : (w4.alloc (.cells #[.pointer (some ⟨X, 0, none⟩), .pointer (some ⟨Y, 0, none⟩)] 108)).alloc (.cells (h.cells p ++ h'.cells p').toArray 41) = v8 := hw5;clear hw5;have HB8 : Below w4.heap.size w4 v8 := by rw [← hw8]; exact (((Below.refl _ _).alloc (Nat.le_refl _) _).alloc (by simp) _)
    have HZ8 : v8.heap[w4.heap.size + 1]? = some (.cells (h.cells p ++ h'.cells p').toArray 41 (0, 0)) := by
      rw [← hw8];have := zF (w4.alloc (.cells #[.pointer (some ⟨X, 0, none⟩), .pointer (some ⟨Y, 0, none⟩)] 108)) (.cells (h.cells p ++ h'.cells p').toArray 41)
      simpa using this
    clear hw8;have H8 := k0_ (show HdS l A c rb mv w v8 N j j2 _ from ⟨HS.out, H4.out.lo, zB HB8 (zD H4.out.blk) H4.out.blk, zB HB8 (zD H4.out.rd) H4.out.rd, H4.out.le, zI H4.out.gr (zJ HB8)⟩);have c10 := cell_of_heap H8.out.blk 10 rfl;have z10 := zH H8.out.blk 10;have H9 := k0_ (H8.out.put (o := 10) (v := .slice (some ⟨w4.heap.size + 1, 0, none⟩) 2 2) (cs' := #[.int .i8 6, .string ⟨#[]⟩, .string ⟨#[]⟩, .int .i64 0, .int .i8 0, .slice none 0 0, .int .i8 0, .slice none 0 0, .int .i64 0, .int .i64 (posAt l j), .slice (some ⟨w4.heap.size + 1, 0, none⟩) 2 2]) (heap_put H8.out.blk));have HNW := zD H4.out.blk;have HF9 := k0_ (HF.out.keep (KeepFrom.grown H9.out.gr hr0));have HF9' := k0_ ((HF'.out.keep ((KeepFrom.below HB8).trans (zX (o := 10) (v := .slice (some ⟨w4.heap.size + 1, 0, none⟩) 2 2) (Nat.lt_succ_self N)))).low (show n0 <= N + 1 by have := H4.out.lo; omega));have HTA := k0_ (zEY (n0 := n0) (H := hd0 6 (posAt l j)) (C := h.cells p ++ h'.cells p') (kt := .node h t (.node h' t' .nil)) (k := 2) (Nat.le_trans hn0 H9.out.lo) H9.out.blk (by rw [Below.heap_setCell _ _ _ _ (by show w4.heap.size + 1 ≠ N; omega)]; exact HZ8) (by have := H4.out.lo; omega) (fun u hu => zDK (by show (-128 : Int) <= 6; decide) (by show (6 : Int) <= 127; decide) rfl (by decide) (Nat.zero_le _) (Nat.zero_le _) (jD u) (jD u)) ⟨p, _, rfl, HF9.out, p', _, (List.append_nil _).symm, HF9'.out, rfl⟩ rfl);clear HB8 HZ8 H8 HF9 HF9' HF HF' HX HXX H4 CK;have hr3 := H9.out.ne
    cases g with
    | wordNo hw2 =>
      have CB := k0_ (qN l A c rb j2 mv _ _ H9.out.st y41 hw2)
      go_wp2_with fail
      refine CB.out.mono ?_;intro e w99 hP;have HP := k0_ (TPost.from hP H9.out.gr);exact qY
    | word hw2 g2 =>
      cases g2;have CB := k0_ (qF l A c rb j2 mv _ _ H9.out.st y41 hw2)
      go_wp2_with fail
      refine CB.out.mono ?_;rintro e w10 ⟨rfl, hP⟩;have HT10 := k0_ (HTA.out.grown hP.2 hr0);have HP10 := k0_ (PGo.from hP H9.out.gr);clear hP
      go_wp2_with fail
      go_ret
      exact ⟨N, rfl, HT10.out, HP10.out⟩
theorem zDC (l : List W4) (A : Option Addr) (c rb j n0 : Nat) (mv : Value) (s lf q : Int) (w : World) (hS : PdS l A c rb mv w j) (hi : j < l.length) (hr0 : rb < n0) (hn0 : n0 <= w.heap.size) (X : Nat) (h : Hd) (t : Tm) (hTX : TAt n0 w X h t) (q' : Nat) (hqq : q = (q' : Int)) (hN : Needs l A c rb mv j) (r : Tt.Rs) (hT : T l (.seq [.pt q'] (j + 1)) r) :
    Calls Tryz.prog 92 #[.pointer (some ⟨rb, 0, none⟩), .pointer (some ⟨X, 0, none⟩), .agg #[.int .i8 15, .int .i64 s, .int .i64 lf, .int .i64 q]] w (JPost l A c rb mv n0 w j 15 h t r) := by
  subst hqq;obtain ⟨hXn, p, hX, hF⟩ := hTX;have hbx : Below w.heap.size w (w.alloc (.cells #[.int .i8 15, .int .i64 s, .int .i64 lf, .int .i64 q'] 144)) := (Below.refl _ _).alloc (Nat.le_refl _) _;have HO1 := k0_ (zF w (.cells #[.int .i8 15, .int .i64 s, .int .i64 lf, .int .i64 q'] 144));have HB1 := k0_ hbx;have CW := k0_ (fun (W : World) (hb : Below w.heap.size w W) => qJ l A c rb j mv W (hS.below hb));have CH := k0_ (fun (W : World) (hb : Below w.heap.size w W) => qQ l A c rb j mv 15 W (hS.below hb) hi)
  have hsm : (textAt l j).size <= 281474976710656 := by
    exact zH3
  rw [qj hi] at CH;have htx := yN hi;have HS := k0_ hS;have HN := k0_ hN;have HX := k0_ hX;have HF := k0_ hF;have hrl := zD hS.rdr;generalize hyw : wAt l j = y at *;obtain ⟨yk, yt, yn, yp⟩ := y;unfold wV at CW;simp only at CW htx;subst htx;have e1 := zFt;clear hS hN hX hF hbx hyw
  go_enter Tryz.func92, Tryz.ntmps92
  go_wp2_with fail
  refine (CW.out _ HB1.out).mono ?_;rintro e w2 ⟨rfl, hb⟩;have HB2 := kt_ HB1 hb;have HO2 := kp_ hb HO1;obtain ⟨o0, o1, o2, o3, -, -, -, -, hol⟩ := zV HO2.out;have hle := HB1.out.size;clear hb CW HO1 HB1
  go_wp2_with fail
  refine (CH.out _ HB2.out).mono ?_;rintro e w3 ⟨N, rfl, hN1, hN2, hXn3, hP⟩;have H3 := k0_ (show HdS l A c rb mv w w3 N j (j + 1) _ from ⟨HS.out, Nat.le_trans HB2.out.size hN1, hXn3, hP.1, hi, zI (zJ HB2.out) hP.2⟩);have HO3 := k0_ ((hP.2.block _ hol (fun e => by injection e with e; omega)).trans HO2.out);clear hXn3 hP hN1 hN2 CH HO2 o0 o1 o2 o3 hol;obtain ⟨o0, o1, o2, o3, -, -, -, -, hol⟩ := zV HO3.out;have CC := k0_ (fun (W : World) => jK (textAt l j) hsm W);have HSM := k0_ hsm;clear hsm
  go_wp2_with fail
  refine (CC.out _).mono ?_;rintro e w4 ⟨rfl, hb⟩;have H4 := k0_ (H3.out.below hb);have HO4 := k0_ (zB hb hol HO3.out);clear hb CC H3 HO3 o0 o1 o2 o3 hol;obtain ⟨o0, o1, o2, o3, -, -, -, -, hol⟩ := zV HO4.out;have c1 := cell_of_heap H4.out.blk 1 rfl;have z1 := zH H4.out.blk 1;have H5 := k0_ (H4.out.put (o := 1) (v := .string (textAt l j)) (cs' := #[.int .i8 15, .string (textAt l j), .string ⟨#[]⟩, .int .i64 0, .int .i8 0, .slice none 0 0, .int .i8 0, .slice none 0 0, .int .i64 0, .int .i64 (posAt l j), .slice none 0 0]) (heap_put H4.out.blk));have HO5 := k0_ (show (w4.setCell ⟨N, 1, none⟩ (.string (textAt l j))).heap[w.heap.size]? = some (.cells #[.int .i8 15, .int .i64 s, .int .i64 lf, .int .i64 q'] 144) from by rw [Below.heap_setCell _ _ _ _ (by show w.heap.size ≠ N; intro e; have h1 := H4.out.blk; rw [← e, HO4.out] at h1; cases h1)]; exact HO4.out);generalize hw5 : w4.setCell ⟨N, 1, none⟩ (.string (textAt l j)) = w5 at H5 HO5
  cases hT with
  | @ptNo _ _ E a s _ f =>
    have CP := k0_ (HN.out.part q' (j + 1) (Nat.lt_succ_self j) hi w5 _ H5.out.st f);clear f
    go_upto_region 9 with fail
    clear hw5 c1 z1 o0 o1 o2 o3 hol;obtain ⟨o0, o1, o2, o3, -, -, -, -, hol⟩ := zV HO5.out
    go_wp2_with fail
    refine CP.out.mono ?_;intro e w99 hP;have HP := k0_ (TPost.from hP H5.out.gr);exact qY
  | @pt _ _ j2 h' t' _ r' f g =>
    cases g;have hj := (T.goes f hi).2;have CP := k0_ (HN.out.part q' (j + 1) (Nat.lt_succ_self j) hi w5 _ H5.out.st f);clear f
    go_upto_region 9 with fail
    clear hw5 c1 z1 o0 o1 o2 o3 hol;obtain ⟨o0, o1, o2, o3, -, -, -, -, hol⟩ := zV HO5.out
    go_wp2_with fail
    refine CP.out.mono ?_;rintro e w6 ⟨Y, rfl, hY, hP⟩;have H6 := k0_ (H5.out.go hP hj);have TY := k0_ (hY.low (n0 := N + 1) (zD H5.out.blk));clear hY hP CP H5 H4 HO5 HO4 o0 o1 o2 o3 hol;have HXX := k0_ ((H6.out.gr.block X (zD HX.out) (fun e => by injection e with e; omega)).trans HX.out);obtain ⟨hYn, p', hY, hF'⟩ := TY.out;have CK := k0_ (zO (w6.alloc (.cells #[.pointer (some ⟨X, 0, none⟩), .pointer (some ⟨Y, 0, none⟩)] 108)) w6.heap.size X Y h h' p p' (zF _ _) (zG HXX.out _) (zG hY _));have HF' := k0_ hF';clear hY hF' TY
    go_wp2_with fail
    refine CK.out.mono ?_;rintro e v8 ⟨rfl, hw5⟩;have hw8 : (w6.alloc (.cells #[.pointer (some ⟨X, 0, none⟩), .pointer (some ⟨Y, 0, none⟩)] 108)).alloc (.cells (h.cells p ++ h'.cells p').toArray 41) = v8 := hw5;clear hw5;have HB8 : Below w6.heap.size w6 v8 := by rw [← hw8]; exact (((Below.refl _ _).alloc (Nat.le_refl _) _).alloc (by simp) _)
    have HZ8 : v8.heap[w6.heap.size + 1]? = some (.cells (h.cells p ++ h'.cells p').toArray 41 (0, 0)) := by
      rw [← hw8];have := zF (w6.alloc (.cells #[.pointer (some ⟨X, 0, none⟩), .pointer (some ⟨Y, 0, none⟩)] 108)) (.cells (h.cells p ++ h'.cells p').toArray 41)
      simpa using this
    clear hw8;have H8 := k0_ (show HdS l A c rb mv w v8 N j j2 _ from ⟨HS.out, H6.out.lo, zB HB8 (zD H6.out.blk) H6.out.blk, zB HB8 (zD H6.out.rd) H6.out.rd, H6.out.le, zI H6.out.gr (zJ HB8)⟩);have c10 := cell_of_heap H8.out.blk 10 rfl;have z10 := zH H8.out.blk 10;have H9 := k0_ (H8.out.put (o := 10) (v := .slice (some ⟨w6.heap.size + 1, 0, none⟩) 2 2) (cs' := #[.int .i8 15, .string (textAt l j), .string ⟨#[]⟩, .int .i64 0, .int .i8 0, .slice none 0 0, .int .i8 0, .slice none 0 0, .int .i64 0, .int .i64 (posAt l j), .slice (some ⟨w6.heap.size + 1, 0, none⟩) 2 2]) (heap_put H8.out.blk));have HNW := zD H6.out.blk;have HF9 := k0_ (HF.out.keep (KeepFrom.grown H9.out.gr hr0));have HF9' := k0_ ((HF'.out.keep ((KeepFrom.below HB8).trans (zX (o := 10) (v := .slice (some ⟨w6.heap.size + 1, 0, none⟩) 2 2) (Nat.lt_succ_self N)))).low (show n0 <= N + 1 by have := H6.out.lo; omega));have HTA := k0_ (zEY (n0 := n0) (H := { hd0 15 (posAt l j) with name := textAt l j }) (C := h.cells p ++ h'.cells p') (kt := .node h t (.node h' t' .nil)) (k := 2) (Nat.le_trans hn0 H9.out.lo) H9.out.blk (by rw [Below.heap_setCell _ _ _ _ (by show w6.heap.size + 1 ≠ N; omega)]; exact HZ8) (by have := H6.out.lo; omega) (fun u hu => zDK (by show (-128 : Int) <= 15; decide) (by show (15 : Int) <= 127; decide) rfl (by decide) HSM.out (Nat.zero_le _) (jD u) (jD u)) ⟨p, _, rfl, HF9.out, p', _, (List.append_nil _).symm, HF9'.out, rfl⟩ rfl);clear HB8 HZ8 H8 HF9 HF9' HF HF' HX HXX H6 CK
    go_wp2_with fail
    go_ret
    exact ⟨N, rfl, HTA.out, H9.out.rd, H9.out.gr⟩
theorem zDD (l : List W4) (A : Option Addr) (c rb j n0 : Nat) (mv : Value) (s lf q : Int) (w : World) (hS : PdS l A c rb mv w j) (hi : j < l.length) (hr0 : rb < n0) (hn0 : n0 <= w.heap.size) (X : Nat) (h : Hd) (t : Tm) (hTX : TAt n0 w X h t) (hN : Needs l A c rb mv j) (r : Tt.Rs) (hT : T l (.seq [.ty] (j + 1)) r) :
    Calls Tryz.prog 92 #[.pointer (some ⟨rb, 0, none⟩), .pointer (some ⟨X, 0, none⟩), .agg #[.int .i8 16, .int .i64 s, .int .i64 lf, .int .i64 q]] w (JPost l A c rb mv n0 w j 16 h t r) := by
  obtain ⟨hXn, p, hX, hF⟩ := hTX;have hbx : Below w.heap.size w (w.alloc (.cells #[.int .i8 16, .int .i64 s, .int .i64 lf, .int .i64 q] 144)) := (Below.refl _ _).alloc (Nat.le_refl _) _;have HO1 := k0_ (zF w (.cells #[.int .i8 16, .int .i64 s, .int .i64 lf, .int .i64 q] 144));have HB1 := k0_ hbx;have CW := k0_ (fun (W : World) (hb : Below w.heap.size w W) => qJ l A c rb j mv W (hS.below hb));have CH := k0_ (fun (W : World) (hb : Below w.heap.size w W) => qQ l A c rb j mv 16 W (hS.below hb) hi)
  have hsm : (textAt l j).size <= 281474976710656 := by
    exact zH3
  rw [qj hi] at CH;have htx := yN hi;have HS := k0_ hS;have HN := k0_ hN;have HX := k0_ hX;have HF := k0_ hF;have hrl := zD hS.rdr;generalize hyw : wAt l j = y at *;obtain ⟨yk, yt, yn, yp⟩ := y;unfold wV at CW;simp only at CW htx;subst htx;have e1 := zFt;clear hS hN hX hF hbx hyw
  go_enter Tryz.func92, Tryz.ntmps92
  go_wp2_with fail
  refine (CW.out _ HB1.out).mono ?_;rintro e w2 ⟨rfl, hb⟩;have HB2 := kt_ HB1 hb;have HO2 := kp_ hb HO1;obtain ⟨o0, o1, o2, o3, -, -, -, -, hol⟩ := zV HO2.out;have hle := HB1.out.size;clear hb CW HO1 HB1
  go_wp2_with fail
  refine (CH.out _ HB2.out).mono ?_;rintro e w3 ⟨N, rfl, hN1, hN2, hXn3, hP⟩;have H3 := k0_ (show HdS l A c rb mv w w3 N j (j + 1) _ from ⟨HS.out, Nat.le_trans HB2.out.size hN1, hXn3, hP.1, hi, zI (zJ HB2.out) hP.2⟩);have HO3 := k0_ ((hP.2.block _ hol (fun e => by injection e with e; omega)).trans HO2.out);clear hXn3 hP hN1 hN2 CH HO2 o0 o1 o2 o3 hol;obtain ⟨o0, o1, o2, o3, -, -, -, -, hol⟩ := zV HO3.out;have HXX := k0_ ((H3.out.gr.block X (zD HX.out) (fun e => by injection e with e; omega)).trans HX.out);have CK := k0_ (zT (w3.alloc (.cells #[.pointer (some ⟨X, 0, none⟩)] 108)) w3.heap.size X h p (zF _ _) (zG HXX.out _))
  go_wp2_with fail
  refine CK.out.mono ?_;rintro e v8 ⟨rfl, hw5⟩;have hw8 : (w3.alloc (.cells #[.pointer (some ⟨X, 0, none⟩)] 108)).alloc (.cells (h.cells p).toArray 41) = v8 := hw5;clear hw5;have HB8 : Below w3.heap.size w3 v8 := by rw [← hw8]; exact (((Below.refl _ _).alloc (Nat.le_refl _) _).alloc (by simp) _)
  have HZ8 : v8.heap[w3.heap.size + 1]? = some (.cells (h.cells p).toArray 41 (0, 0)) := by
    rw [← hw8];have := zF (w3.alloc (.cells #[.pointer (some ⟨X, 0, none⟩)] 108)) (.cells (h.cells p).toArray 41)
    simpa using this
  clear hw8 CK HXX HX o0 o1 o2 o3 hol HO3;have H8 := k0_ (H3.out.below HB8);have hNW := zD H3.out.blk;have hNLO := H3.out.lo;have hv8 := zD HZ8;have HZ := k0_ HZ8;clear HB8 HZ8
  cases hT with
  | @tyNo _ j2 k2 f2 E a s _ hO hE =>
    have CB := k0_ (yS l A c rb (j + 1) mv v8 H8.out.st hO hE);exact zGe
  | @ty _ j2 a f _ _ _ r1 hO g =>
    cases g;have CB := k0_ (kP l A c rb (j + 1) mv v8 H8.out.st hO);have hjl : j2 <= l.length := (T.goes (T.ty hO (T.nil (l := l) (i := j2))) hi).2;clear hO
    go_wp2_with fail
    refine CB.out.mono ?_;rintro e w9 ⟨G, m, cg, rfl, hFT, hP⟩;have H9 := k0_ (H8.out.go hP hjl);have HZ9 := k0_ ((hP.2.block (w3.heap.size + 1) hv8 (fun e => by injection e with e; omega)).trans HZ.out);have HFT := k0_ (hFT.low (n0 := N + 1) (by omega));clear hP hFT CB H8;have c10 := cell_of_heap H9.out.blk 10 rfl;have z10 := zH H9.out.blk 10;have c4 := cell_of_heap H9.out.blk 4 rfl;have z4 := zH H9.out.blk 4;have c5 := cell_of_heap H9.out.blk 5 rfl;have z5 := zH H9.out.blk 5;have P1 := k0_ (H9.out.put (o := 10) (v := .slice (some ⟨w3.heap.size + 1, 0, none⟩) 1 1) (cs' := #[.int .i8 16, .string ⟨#[]⟩, .string ⟨#[]⟩, .int .i64 0, .int .i8 0, .slice none 0 0, .int .i8 0, .slice none 0 0, .int .i64 0, .int .i64 (posAt l j), .slice (some ⟨w3.heap.size + 1, 0, none⟩) 1 1]) (heap_put H9.out.blk));have P2 := k0_ (P1.out.put (o := 4) (v := .int .i8 a) (cs' := #[.int .i8 16, .string ⟨#[]⟩, .string ⟨#[]⟩, .int .i64 0, .int .i8 a, .slice none 0 0, .int .i8 0, .slice none 0 0, .int .i64 0, .int .i64 (posAt l j), .slice (some ⟨w3.heap.size + 1, 0, none⟩) 1 1]) (heap_put P1.out.blk));have P3 := k0_ (P2.out.put (o := 5) (v := .slice G m cg) (cs' := #[.int .i8 16, .string ⟨#[]⟩, .string ⟨#[]⟩, .int .i64 0, .int .i8 a, .slice G m cg, .int .i8 0, .slice none 0 0, .int .i64 0, .int .i64 (posAt l j), .slice (some ⟨w3.heap.size + 1, 0, none⟩) 1 1]) (heap_put P2.out.blk));have hK : KeepFrom (N + 1) w9 (((w9.setCell ⟨N, 10, none⟩ (.slice (some ⟨w3.heap.size + 1, 0, none⟩) 1 1)).setCell ⟨N, 4, none⟩ (.int .i8 a)).setCell ⟨N, 5, none⟩ (.slice G m cg)) := ((zX (Nat.lt_succ_self N)).trans (zX (Nat.lt_succ_self N))).trans (zX (Nat.lt_succ_self N));have HT2 := k0_ (show Far (N + 1) (((w9.setCell ⟨N, 10, none⟩ (.slice (some ⟨w3.heap.size + 1, 0, none⟩) 1 1)).setCell ⟨N, 4, none⟩ (.int .i8 a)).setCell ⟨N, 5, none⟩ (.slice G m cg)) a f G m cg from HFT.out.keep hK);have HTA := k0_ (zEY (n0 := n0) (H := { hd0 16 (posAt l j) with tk := a, tkids := f }) (C := h.cells p) (kt := .node h t .nil) (k := 1) (Nat.le_trans hn0 P3.out.lo) P3.out.blk (by rw [Below.heap_setCell _ _ _ _ (by show w3.heap.size + 1 ≠ N; omega), Below.heap_setCell _ _ _ _ (by show w3.heap.size + 1 ≠ N; omega), Below.heap_setCell _ _ _ _ (by show w3.heap.size + 1 ≠ N; omega)]; exact HZ9.out) (by omega) (fun u hu => zDK (by show (-128 : Int) <= 16; decide) (by show (16 : Int) <= 127; decide) rfl (by decide) (Nat.zero_le _) (Nat.zero_le _) (HT2.out u (hu.low (by omega))) (jD u)) ⟨p, _, (List.append_nil _).symm, HF.out.keep (KeepFrom.grown P3.out.gr hr0), rfl⟩ rfl);clear P1 P2 HT2 hK HFT HZ9 HZ H9 HF
    go_wp2_with fail
    go_ret
    exact ⟨N, rfl, HTA.out, P3.out.rd, P3.out.gr⟩
end Go.Proofs.YtepmjknljbafgaaGreatDoor
