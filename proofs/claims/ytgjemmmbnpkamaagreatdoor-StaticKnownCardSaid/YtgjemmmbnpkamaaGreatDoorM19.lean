import Derived.Test.YtgjemmmbnpkamaaGreatDoorM18
namespace Go.Proofs.YtgjemmmbnpkamaaGreatDoor
open Go.RowKit Rd Tt
theorem zEe {l : List W4} {j : Nat} (hok : ∀ x ∈ l, OkWord x) : (opr l j = none → opTab (fx (wAt l j)).toList = none) ∧ ∀ k s lf its, opr l j = some (k, s, lf, its) →
    ∃ q : Nat, opTab (fx (wAt l j)).toList = some (k, (s : Int), (lf : Int), (q : Int)) ∧ ((k = 6 ∧ its = [.tm, sg 41]) ∨ (k = 15 ∧ its = [.pt q]) ∨ (k = 16 ∧ its = [.ty])) := by
  unfold opr
  rw [← ze y40 hok, ← ze y42 hok, ← ze y47 hok, ← ze y43 hok, ← ze y45 hok, ← ze y60 hok, ← ze y61 hok, ← ze y58 hok]
  generalize (fx (wAt l j)).toList = x
  by_cases h1 : x = [40]
  · subst h1; exact ⟨fun h => (nomatch h), fun k s lf its h => by cases h; exact ⟨0, rfl, .inl ⟨rfl, rfl⟩⟩⟩
  by_cases h2 : x = [42]
  · subst h2; exact ⟨fun h => (nomatch h), fun k s lf its h => by cases h; exact ⟨4, rfl, .inr (.inl ⟨rfl, rfl⟩)⟩⟩
  by_cases h3 : x = [47]
  · subst h3; exact ⟨fun h => (nomatch h), fun k s lf its h => by cases h; exact ⟨4, rfl, .inr (.inl ⟨rfl, rfl⟩)⟩⟩
  by_cases h4 : x = [43]
  · subst h4; exact ⟨fun h => (nomatch h), fun k s lf its h => by cases h; exact ⟨3, rfl, .inr (.inl ⟨rfl, rfl⟩)⟩⟩
  by_cases h5 : x = [45]
  · subst h5; exact ⟨fun h => (nomatch h), fun k s lf its h => by cases h; exact ⟨3, rfl, .inr (.inl ⟨rfl, rfl⟩)⟩⟩
  by_cases h6 : x = [60]
  · subst h6; exact ⟨fun h => (nomatch h), fun k s lf its h => by cases h; exact ⟨2, rfl, .inr (.inl ⟨rfl, rfl⟩)⟩⟩
  by_cases h7 : x = [61]
  · subst h7; exact ⟨fun h => (nomatch h), fun k s lf its h => by cases h; exact ⟨2, rfl, .inr (.inl ⟨rfl, rfl⟩)⟩⟩
  by_cases h8 : x = [58]
  · subst h8; exact ⟨fun h => (nomatch h), fun k s lf its h => by cases h; exact ⟨0, rfl, .inr (.inr ⟨rfl, rfl⟩)⟩⟩
  · refine ⟨fun _ => by unfold opTab; simp [h1, h2, h3, h4, h5, h6, h7, h8], fun k s lf its h => ?_⟩
    simp [h1, h2, h3, h4, h5, h6, h7, h8] at h
theorem Needs.mono {l : List W4} {A : Option Addr} {c rb : Nat} {mv : Value} {i j : Nat} (h : Needs l A c rb mv i) (hij : i ≤ j) : Needs l A c rb mv j :=
  ⟨fun j' h1 h2 => h.term j' (by omega) h2, fun q j' h1 h2 => h.part q j' (by omega) h2⟩
theorem yu (l : List W4) (A : Option Addr) (c rb j n0 : Nat) (mv : Value) (k s lf : Int) (q : Nat) (its : List It) (w : World) (hc : (k = 6 ∧ its = [.tm, sg 41]) ∨ (k = 15 ∧ its = [.pt q]) ∨ (k = 16 ∧ its = [.ty])) (hS : PdS l A c rb mv w j) (hi : j < l.length) (hr0 : rb < n0) (hn0 : n0 ≤ w.heap.size) (X : Nat) (h : Hd) (t : Tm) (hTX : TAt n0 w X h t) (hN : Needs l A c rb mv j) (r : Tt.Rs) (hT : T l (.seq its (j + 1)) r) :
    Calls Tryz.prog 82 #[.pointer (some ⟨rb, 0, none⟩), .pointer (some ⟨X, 0, none⟩), .agg #[.int .i8 k, .int .i64 s, .int .i64 lf, .int .i64 q]] w (JPost l A c rb mv n0 w j k h t r) := by
  rcases hc with ⟨rfl, rfl⟩ | ⟨rfl, rfl⟩ | ⟨rfl, rfl⟩
  · exact zB4 l A c rb j n0 mv s lf q w hS hi hr0 hn0 X h t hTX hN r hT
  · exact zCZ l A c rb j n0 mv s lf q w hS hi hr0 hn0 X h t hTX q rfl hN r hT
  · exact zCa l A c rb j n0 mv s lf q w hS hi hr0 hn0 X h t hTX hN r hT
theorem j6 {w : World} {X : Nat} {a b c d : Value} {t : TypeId} (h : w.heap[X]? = some (.cells #[a, b, c, d] t (0, 0))) (p q r s : Value) : ((((w.setCell ⟨X, 0, none⟩ p).setCell ⟨X, 1, none⟩ q).setCell ⟨X, 2, none⟩ r).setCell ⟨X, 3, none⟩ s).heap[X]? = some (.cells #[p, q, r, s] t (0, 0)) := by
  simp [World.setCell, Array.getElem?_modify, h]
theorem PGo.later {l : List W4} {A : Option Addr} {c rb j : Nat} {mv : Value} {w u u' : World} (h : PGo l A c rb mv w j u) (hb : Below u.heap.size u u') : PGo l A c rb mv w j u' := ⟨zC hb (zD h.1) h.1, zI h.2 (zJ hb)⟩
structure LSt (l : List W4) (A : Option Addr) (c rb : Nat) (mv : Value) (w : World) (q i : Nat) (r : Tt.Rs) (X st j : Nat) (h : Hd) (t : Tm) (wr : World) : Prop where
  run : T l (.lp q h t st j) r
  gt : i ≤ j
  le : j ≤ l.length
  tm : TAt w.heap.size wr X h t
  go : PGo l A c rb mv w j wr
set_option maxHeartbeats 8000000 in
set_option maxRecDepth 100000 in
theorem zDj (l : List W4) (A : Option Addr) (c rb i : Nat) (mv : Value) (q : Nat) (w : World) (hS : PdS l A c rb mv w i) (hN : Needs l A c rb mv i) (r : Tt.Rs) (hT : T l (.part q i) r) :
    Calls Tryz.prog 54 #[.pointer (some ⟨rb, 0, none⟩), .int .i64 q] w (TPost l A c rb mv w r) := by
  have HS := k0_ hS
  have HN := k0_ hN
  have hrl := zD hS.rdr
  cases hT with
  | @partNo _ _ E a s f =>
    have CO := k0_ (kg l A c rb i mv w hS hN _ f)
    clear hS hN f
    go_enter Tryz.func54, Tryz.ntmps54
    go_wp2_with fail
    refine CO.out.mono ?_
    intro e w2 hP
    have HP := k0_ (show PBad rb w E a s e w2 from hP)
    exact qY
  | @part _ _ j0 h0 t0 _ f g =>
    have hj0 := (T.goes f hS.le)
    simp only [Tt.Rs.within, Tt.Tg.start, Tt.Tg.least] at hj0
    have HJ0 := k0_ hj0
    have CO := k0_ (kg l A c rb i mv w hS hN _ f)
    have HG := k0_ g
    clear hS hN f g hj0
    generalize (formO l i).2.2.2 = st0 at *
    go_enter Tryz.func54, Tryz.ntmps54
    go_wp2_with fail
    refine CO.out.mono ?_
    rintro e w2 ⟨X0, rfl, hX0, hP0⟩
    have HL0 := k0_ (show LSt l A c rb mv w q i r X0 st0 j0 h0 t0 w2 from ⟨HG.out, by have := HJ0.out.1; omega, HJ0.out.2, hX0, hP0⟩)
    clear hX0 hP0 CO HG HJ0
    go_wp2_with fail
    go_loopg [5, 6] (l.length - j0) (fun g v5 v6 wr => ∃ X st j h t, g = l.length - j ∧ v5 = .pointer (some ⟨X, 0, none⟩) ∧ v6 = .int .i64 (st : Nat) ∧ Hid (LSt l A c rb mv w q i r X st j h t wr))
    case atStart => exact ⟨X0, st0, j0, h0, t0, rfl, rfl, rfl, HL0⟩
    case round =>
      obtain ⟨X, st, j, h, t, hg, rfl, rfl, HW⟩ := hrel
      have HSJ := k0_ (HS.out.step HW.out.go.2 HW.out.go.1 HW.out.le)
      have CW := k0_ (fun (W : World) (hb : Below wr.heap.size wr W) => qG l A c rb j mv W (HSJ.out.below hb))
      have hwk := jY HSJ.out.okw (i := j)
      have CF := k0_ (fun (W : World) => jN (wAt l j) W hwk.1 hwk.2)
      have htab := zEe (j := j) HSJ.out.okw
      have hsz : (fx (wAt l j)).size ≤ maxLen := by
        unfold fx
        split
        · unfold wAt
          cases hx : l[j]? with
          | none => exact Nat.zero_le _
          | some x => show x.text.size ≤ maxLen; have := HSJ.out.small x (List.mem_of_getElem? hx); unfold maxLen; omega
        · exact Nat.zero_le _
      have HLK := k0_ (fun (W : World) (hb : Below wr.heap.size wr W) => (show (Instr.lookup 70 mv (.string (fx (wAt l j))) true).run Tryz.prog W = .ok (.tuple #[match opTab (fx (wAt l j)).toList with | some (a, b, c, d) => opV a b c d | none => opV 0 0 0 0, .bool (opTab (fx (wAt l j)).toList).isSome]) W from zEg (HSJ.out.below hb).ops (fx (wAt l j)) hsz 0))
      have hrn := HW.out.run
      have HG := k0_ hg
      clear hg hwk hsz
      generalize fx (wAt l j) = s at *
      generalize wAt l j = x at *
      obtain ⟨yk, yt, yn, yp⟩ := x
      unfold wV at CW CF
      simp only at CW CF
      cases hrn with
      | stop estop =>
        cases hop : opr l j with
        | none =>
          have ht := htab.1 hop
          rw [ht] at HLK
          simp only [Option.isSome_none] at HLK
          clear htab estop ht hop
          unfold opV at HLK
          have E1 : Below wr.heap.size wr wr.drew := (Below.refl _ _).drew
          have E1a : Below wr.heap.size wr (wr.alloc (.cells #[.int .i8 0, .int .i64 0, .int .i64 0, .int .i64 0] 103)).drew := ((Below.refl _ wr).alloc (Nat.le_refl _) (.cells #[.int .i8 0, .int .i64 0, .int .i64 0, .int .i64 0] 103)).drew
          obtain ⟨r0, r1, r2, -, -, -, hrl2⟩ := qB HSJ.out.rdr
          go_wp2_with fail
          go_region_law (first
            | (go_simp; go_at_call 48; (first | (with_reducible refine (CW.out _ E1).mono ?_) | (with_reducible refine (CW.out _ E1a).mono ?_)); rintro e u1 ⟨rfl, hb1⟩; have E2 : Below wr.heap.size wr u1 := (by first | exact E1.trans (hb1.mono E1.size) | exact E1a.trans (hb1.mono E1a.size)); (first | (have hx1 : u1.heap[wr.heap.size]? = some (.cells #[.int .i8 0, .int .i64 0, .int .i64 0, .int .i64 0] 103) := zC hb1 (show wr.heap.size < (wr.alloc (.cells #[.int .i8 0, .int .i64 0, .int .i64 0, .int .i64 0] 103)).drew.heap.size from zD (zF wr (.cells #[.int .i8 0, .int .i64 0, .int .i64 0, .int .i64 0] 103))) (show (wr.alloc (.cells #[.int .i8 0, .int .i64 0, .int .i64 0, .int .i64 0] 103)).drew.heap[wr.heap.size]? = _ from zF wr (.cells #[.int .i8 0, .int .i64 0, .int .i64 0, .int .i64 0] 103))) | skip); have E2a : Below wr.heap.size wr (u1.alloc (.cells #[.int .i8 0, .int .i64 0, .int .i64 0, .int .i64 0] 103)) := E2.alloc E2.size _; obtain ⟨r0, r1, r2, -, -, -, hrl3⟩ := qB (HSJ.out.below E2).rdr; clear E1 E1a hb1; go_wp2_with fail)
            | (go_simp; go_at_call 47; (with_reducible refine (CF.out _).mono ?_); rintro e u2 ⟨rfl, hb2⟩; have E3 : Below wr.heap.size wr u2 := (by first | exact E2.trans (hb2.mono E2.size) | exact E2a.trans (hb2.mono E2a.size)); (first | (have hx2 : u2.heap[wr.heap.size]? = some (.cells #[.int .i8 0, .int .i64 0, .int .i64 0, .int .i64 0] 103) := zC hb2 (zD hx1) hx1; clear hx1; obtain ⟨x0, x1, x2, x3, y0, y1, y2, y3, hxl⟩ := zX hx2) | (have hx3 : u2.heap[u1.heap.size]? = some (.cells #[.int .i8 0, .int .i64 0, .int .i64 0, .int .i64 0] 103) := zC hb2 (zD (zF u1 (.cells #[.int .i8 0, .int .i64 0, .int .i64 0, .int .i64 0] 103))) (zF u1 (.cells #[.int .i8 0, .int .i64 0, .int .i64 0, .int .i64 0] 103)); have hle3 := E2.size; obtain ⟨x0, x1, x2, x3, y0, y1, y2, y3, hxl⟩ := zX hx3) | skip); obtain ⟨r0, r1, r2, -, -, -, hrl4⟩ := qB (HSJ.out.below E3).rdr; have hlk0 := HLK.out u2 E3; have hlk := HLK.out (u2.alloc (.cells #[.int .i8 0, .int .i64 0, .int .i64 0, .int .i64 0] 103)) (E3.alloc E3.size _); clear hb2 E2a; go_wp2_with fail))
          all_goals
            clear r0 r1 r2 hlk hlk0
            have hrl5 := Nat.lt_of_lt_of_le hrl2 E3.size
            first
            | have HOB := k0_ (j6 hx2 (.int .i8 0) (.int .i64 0) (.int .i64 0) (.int .i64 0))
              have HB3 := k0_ (((((E3.setCell (p := ⟨wr.heap.size, 0, none⟩) (Nat.le_refl _) (.int .i8 0)).setCell (p := ⟨wr.heap.size, 1, none⟩) (Nat.le_refl _) (.int .i64 0)).setCell (p := ⟨wr.heap.size, 2, none⟩) (Nat.le_refl _) (.int .i64 0)).setCell (p := ⟨wr.heap.size, 3, none⟩) (Nat.le_refl _) (.int .i64 0)))
              have hbl : wr.heap.size ≤ wr.heap.size := Nat.le_refl _
              clear hx2 x0 x1 x2 x3 y0 y1 y2 y3 hxl
              generalize ((((u2.setCell ⟨wr.heap.size, 0, none⟩ (.int .i8 0)).setCell ⟨wr.heap.size, 1, none⟩ (.int .i64 0)).setCell ⟨wr.heap.size, 2, none⟩ (.int .i64 0)).setCell ⟨wr.heap.size, 3, none⟩ (.int .i64 0)) = v3 at *
              obtain ⟨bx, hbx⟩ : ∃ bx, bx = wr.heap.size := ⟨_, rfl⟩
              rw [← hbx] at HOB ⊢
              replace hbl : wr.heap.size ≤ bx := by omega
              clear hbx
            | have HOB := k0_ (j6 hx3 (.int .i8 0) (.int .i64 0) (.int .i64 0) (.int .i64 0))
              have HB3 := k0_ (((((E3.setCell (p := ⟨u1.heap.size, 0, none⟩) hle3 (.int .i8 0)).setCell (p := ⟨u1.heap.size, 1, none⟩) hle3 (.int .i64 0)).setCell (p := ⟨u1.heap.size, 2, none⟩) hle3 (.int .i64 0)).setCell (p := ⟨u1.heap.size, 3, none⟩) hle3 (.int .i64 0)))
              have hbl := hle3
              clear hx3 x0 x1 x2 x3 y0 y1 y2 y3 hxl
              generalize ((((u2.setCell ⟨u1.heap.size, 0, none⟩ (.int .i8 0)).setCell ⟨u1.heap.size, 1, none⟩ (.int .i64 0)).setCell ⟨u1.heap.size, 2, none⟩ (.int .i64 0)).setCell ⟨u1.heap.size, 3, none⟩ (.int .i64 0)) = v3 at *
              generalize u1.heap.size = bx at *
            | have HOB := k0_ (zF u2 (.cells #[.int .i8 0, .int .i64 0, .int .i64 0, .int .i64 0] 103))
              have HB3 := k0_ (E3.alloc E3.size (.cells #[.int .i8 0, .int .i64 0, .int .i64 0, .int .i64 0] 103))
              have hbl := E3.size
              generalize u2.alloc (.cells #[.int .i8 0, .int .i64 0, .int .i64 0, .int .i64 0] 103) = v3 at *
              generalize u2.heap.size = bx at *
          all_goals
            obtain ⟨o0, o1, o2, o3, -, -, -, -, hol⟩ := zX HOB.out
            go_wp2_with fail
            go_ret
            exact ⟨X, rfl, HW.out.tm.below HB3.out, HW.out.go.later HB3.out⟩
        | some y =>
          obtain ⟨k, st2, lf, its⟩ := y
          obtain ⟨q2, ht, -⟩ := htab.2 k st2 lf its hop
          rw [ht] at HLK
          simp only [Option.isSome_some] at HLK
          unfold opV at HLK
          have hes := estop k st2 lf its hop
          clear htab estop ht hop
          by_cases hd : st2 < q
          · have hd1 : ((st2 : Nat) : Int) < (q : Int) := by omega
            exact c2_
          · have hd2 : ¬ ((st2 : Nat) : Int) < (q : Int) := by omega
            have hd3 : ((st : Nat) : Int) < (lf : Int) := by omega
            exact c2_
      | @go _ _ _ j2 s' lf _ _ k its vs _ e h1 h2 f g =>
        obtain ⟨q2, ht, hcs⟩ := htab.2 _ _ _ _ e
        rw [ht] at HLK
        simp only [Option.isSome_some] at HLK
        unfold opV at HLK
        have hjl := wZ e
        have hd2 : ¬ ((s' : Nat) : Int) < (q : Int) := by omega
        have hd3 : ¬ ((st : Nat) : Int) < (lf : Int) := by omega
        have CJ := k0_ (fun (W : World) (hb : Below wr.heap.size wr W) => yu l A c rb j w.heap.size mv k s' lf q2 its W hcs (HSJ.out.below hb) hjl hrl (Nat.le_trans HW.out.go.2.size hb.size) X h t (HW.out.tm.below hb) (HN.out.mono HW.out.gt) _ f)
        have hj2 := T.goes f (show j + 1 ≤ l.length from hjl)
        simp only [Tt.Rs.within, Tt.Tg.start] at hj2
        have HJ2 := k0_ hj2
        have HGG := k0_ g
        have HH := k0_ (And.intro h1 h2)
        clear htab ht hcs e h1 h2 f g hj2
        have E1 : Below wr.heap.size wr wr.drew := (Below.refl _ _).drew
        have E1a : Below wr.heap.size wr (wr.alloc (.cells #[.int .i8 0, .int .i64 0, .int .i64 0, .int .i64 0] 103)).drew := ((Below.refl _ wr).alloc (Nat.le_refl _) (.cells #[.int .i8 0, .int .i64 0, .int .i64 0, .int .i64 0] 103)).drew
        obtain ⟨r0, r1, r2, -, -, -, hrl2⟩ := qB HSJ.out.rdr
        go_wp2_with fail
        go_region_law (first
          | (go_simp; go_at_call 48; (first | (with_reducible refine (CW.out _ E1).mono ?_) | (with_reducible refine (CW.out _ E1a).mono ?_)); rintro e u1 ⟨rfl, hb1⟩; have E2 : Below wr.heap.size wr u1 := (by first | exact E1.trans (hb1.mono E1.size) | exact E1a.trans (hb1.mono E1a.size)); (first | (have hx1 : u1.heap[wr.heap.size]? = some (.cells #[.int .i8 0, .int .i64 0, .int .i64 0, .int .i64 0] 103) := zC hb1 (show wr.heap.size < (wr.alloc (.cells #[.int .i8 0, .int .i64 0, .int .i64 0, .int .i64 0] 103)).drew.heap.size from zD (zF wr (.cells #[.int .i8 0, .int .i64 0, .int .i64 0, .int .i64 0] 103))) (show (wr.alloc (.cells #[.int .i8 0, .int .i64 0, .int .i64 0, .int .i64 0] 103)).drew.heap[wr.heap.size]? = _ from zF wr (.cells #[.int .i8 0, .int .i64 0, .int .i64 0, .int .i64 0] 103))) | skip); have E2a : Below wr.heap.size wr (u1.alloc (.cells #[.int .i8 0, .int .i64 0, .int .i64 0, .int .i64 0] 103)) := E2.alloc E2.size _; obtain ⟨r0, r1, r2, -, -, -, hrl3⟩ := qB (HSJ.out.below E2).rdr; clear E1 E1a hb1; go_wp2_with fail)
          | (go_simp; go_at_call 47; (with_reducible refine (CF.out _).mono ?_); rintro e u2 ⟨rfl, hb2⟩; have E3 : Below wr.heap.size wr u2 := (by first | exact E2.trans (hb2.mono E2.size) | exact E2a.trans (hb2.mono E2a.size)); (first | (have hx2 : u2.heap[wr.heap.size]? = some (.cells #[.int .i8 0, .int .i64 0, .int .i64 0, .int .i64 0] 103) := zC hb2 (zD hx1) hx1; clear hx1; obtain ⟨x0, x1, x2, x3, y0, y1, y2, y3, hxl⟩ := zX hx2) | (have hx3 : u2.heap[u1.heap.size]? = some (.cells #[.int .i8 0, .int .i64 0, .int .i64 0, .int .i64 0] 103) := zC hb2 (zD (zF u1 (.cells #[.int .i8 0, .int .i64 0, .int .i64 0, .int .i64 0] 103))) (zF u1 (.cells #[.int .i8 0, .int .i64 0, .int .i64 0, .int .i64 0] 103)); have hle3 := E2.size; obtain ⟨x0, x1, x2, x3, y0, y1, y2, y3, hxl⟩ := zX hx3) | skip); obtain ⟨r0, r1, r2, -, -, -, hrl4⟩ := qB (HSJ.out.below E3).rdr; have hlk0 := HLK.out u2 E3; have hlk := HLK.out (u2.alloc (.cells #[.int .i8 0, .int .i64 0, .int .i64 0, .int .i64 0] 103)) (E3.alloc E3.size _); clear hb2 E2a; go_wp2_with fail))
        all_goals
          clear r0 r1 r2 hlk hlk0
          have hrl5 := Nat.lt_of_lt_of_le hrl2 E3.size
          first
          | have HOB := k0_ (j6 hx2 (.int .i8 k) (.int .i64 (s' : Nat)) (.int .i64 (lf : Nat)) (.int .i64 (q2 : Nat)))
            have HB3 := k0_ (((((E3.setCell (p := ⟨wr.heap.size, 0, none⟩) (Nat.le_refl _) (.int .i8 k)).setCell (p := ⟨wr.heap.size, 1, none⟩) (Nat.le_refl _) (.int .i64 (s' : Nat))).setCell (p := ⟨wr.heap.size, 2, none⟩) (Nat.le_refl _) (.int .i64 (lf : Nat))).setCell (p := ⟨wr.heap.size, 3, none⟩) (Nat.le_refl _) (.int .i64 (q2 : Nat))))
            have hbl : wr.heap.size ≤ wr.heap.size := Nat.le_refl _
            clear hx2 x0 x1 x2 x3 y0 y1 y2 y3 hxl
            generalize ((((u2.setCell ⟨wr.heap.size, 0, none⟩ (.int .i8 k)).setCell ⟨wr.heap.size, 1, none⟩ (.int .i64 (s' : Nat))).setCell ⟨wr.heap.size, 2, none⟩ (.int .i64 (lf : Nat))).setCell ⟨wr.heap.size, 3, none⟩ (.int .i64 (q2 : Nat))) = v3 at *
            obtain ⟨bx, hbx⟩ : ∃ bx, bx = wr.heap.size := ⟨_, rfl⟩
            rw [← hbx] at HOB ⊢
            replace hbl : wr.heap.size ≤ bx := by omega
            clear hbx
          | have HOB := k0_ (j6 hx3 (.int .i8 k) (.int .i64 (s' : Nat)) (.int .i64 (lf : Nat)) (.int .i64 (q2 : Nat)))
            have HB3 := k0_ (((((E3.setCell (p := ⟨u1.heap.size, 0, none⟩) hle3 (.int .i8 k)).setCell (p := ⟨u1.heap.size, 1, none⟩) hle3 (.int .i64 (s' : Nat))).setCell (p := ⟨u1.heap.size, 2, none⟩) hle3 (.int .i64 (lf : Nat))).setCell (p := ⟨u1.heap.size, 3, none⟩) hle3 (.int .i64 (q2 : Nat))))
            have hbl := hle3
            clear hx3 x0 x1 x2 x3 y0 y1 y2 y3 hxl
            generalize ((((u2.setCell ⟨u1.heap.size, 0, none⟩ (.int .i8 k)).setCell ⟨u1.heap.size, 1, none⟩ (.int .i64 (s' : Nat))).setCell ⟨u1.heap.size, 2, none⟩ (.int .i64 (lf : Nat))).setCell ⟨u1.heap.size, 3, none⟩ (.int .i64 (q2 : Nat))) = v3 at *
            generalize u1.heap.size = bx at *
          | have HOB := k0_ (zF u2 (.cells #[.int .i8 k, .int .i64 (s' : Nat), .int .i64 (lf : Nat), .int .i64 (q2 : Nat)] 103))
            have HB3 := k0_ (E3.alloc E3.size (.cells #[.int .i8 k, .int .i64 (s' : Nat), .int .i64 (lf : Nat), .int .i64 (q2 : Nat)] 103))
            have hbl := E3.size
            generalize u2.alloc (.cells #[.int .i8 k, .int .i64 (s' : Nat), .int .i64 (lf : Nat), .int .i64 (q2 : Nat)] 103) = v3 at *
            generalize u2.heap.size = bx at *
        all_goals
          obtain ⟨o0, o1, o2, o3, -, -, -, -, hol⟩ := zX HOB.out
          go_upto_region 5 with fail
          clear o0 o1 o2 o3 hol
          obtain ⟨o0, o1, o2, o3, -, -, -, -, hol⟩ := zX (show v3.drew.heap[bx]? = _ from HOB.out)
          have E5 := HB3.out.drew
          go_region_law (first
            | (go_simp; go_at_call 82; (with_reducible refine (CJ.out _ E5).mono ?_); rintro e u4 ⟨Y, rfl, hY, hP⟩; have HTY := k0_ hY; have HPY := k0_ (PGo.from hP (zI HW.out.go.2 (zJ E5))); obtain ⟨o0, o1, o2, o3, -, -, -, -, hol6⟩ := zX ((hP.2.block bx hol (fun e => by injection e with e; omega)).trans HOB.out); clear hY hP; go_wp2_with fail))
          all_goals
            go_wp2_with fail
            go_roundg (l.length - j2)
            case measure => have := HJ2.out; have := HG.out; omega
            case rel => exact ⟨Y, s', j2, _, _, rfl, rfl, rfl, k0_ ⟨HGG.out, by have := HW.out.gt; have := HJ2.out.1; omega, HJ2.out.2, HTY.out, HPY.out⟩⟩
      | @goNo _ _ _ s' lf _ _ k its E a wd e h1 h2 f =>
        obtain ⟨q2, ht, hcs⟩ := htab.2 _ _ _ _ e
        rw [ht] at HLK
        simp only [Option.isSome_some] at HLK
        unfold opV at HLK
        have hjl := wZ e
        have hd2 : ¬ ((s' : Nat) : Int) < (q : Int) := by omega
        have hd3 : ¬ ((st : Nat) : Int) < (lf : Int) := by omega
        have CJ := k0_ (fun (W : World) (hb : Below wr.heap.size wr W) => yu l A c rb j w.heap.size mv k s' lf q2 its W hcs (HSJ.out.below hb) hjl hrl (Nat.le_trans HW.out.go.2.size hb.size) X h t (HW.out.tm.below hb) (HN.out.mono HW.out.gt) _ f)
        have HH := k0_ (And.intro h1 h2)
        clear htab ht hcs e h1 h2 f
        have E1 : Below wr.heap.size wr wr.drew := (Below.refl _ _).drew
        have E1a : Below wr.heap.size wr (wr.alloc (.cells #[.int .i8 0, .int .i64 0, .int .i64 0, .int .i64 0] 103)).drew := ((Below.refl _ wr).alloc (Nat.le_refl _) (.cells #[.int .i8 0, .int .i64 0, .int .i64 0, .int .i64 0] 103)).drew
        obtain ⟨r0, r1, r2, -, -, -, hrl2⟩ := qB HSJ.out.rdr
        go_wp2_with fail
        go_region_law (first
          | (go_simp; go_at_call 48; (first | (with_reducible refine (CW.out _ E1).mono ?_) | (with_reducible refine (CW.out _ E1a).mono ?_)); rintro e u1 ⟨rfl, hb1⟩; have E2 : Below wr.heap.size wr u1 := (by first | exact E1.trans (hb1.mono E1.size) | exact E1a.trans (hb1.mono E1a.size)); (first | (have hx1 : u1.heap[wr.heap.size]? = some (.cells #[.int .i8 0, .int .i64 0, .int .i64 0, .int .i64 0] 103) := zC hb1 (show wr.heap.size < (wr.alloc (.cells #[.int .i8 0, .int .i64 0, .int .i64 0, .int .i64 0] 103)).drew.heap.size from zD (zF wr (.cells #[.int .i8 0, .int .i64 0, .int .i64 0, .int .i64 0] 103))) (show (wr.alloc (.cells #[.int .i8 0, .int .i64 0, .int .i64 0, .int .i64 0] 103)).drew.heap[wr.heap.size]? = _ from zF wr (.cells #[.int .i8 0, .int .i64 0, .int .i64 0, .int .i64 0] 103))) | skip); have E2a : Below wr.heap.size wr (u1.alloc (.cells #[.int .i8 0, .int .i64 0, .int .i64 0, .int .i64 0] 103)) := E2.alloc E2.size _; obtain ⟨r0, r1, r2, -, -, -, hrl3⟩ := qB (HSJ.out.below E2).rdr; clear E1 E1a hb1; go_wp2_with fail)
          | (go_simp; go_at_call 47; (with_reducible refine (CF.out _).mono ?_); rintro e u2 ⟨rfl, hb2⟩; have E3 : Below wr.heap.size wr u2 := (by first | exact E2.trans (hb2.mono E2.size) | exact E2a.trans (hb2.mono E2a.size)); (first | (have hx2 : u2.heap[wr.heap.size]? = some (.cells #[.int .i8 0, .int .i64 0, .int .i64 0, .int .i64 0] 103) := zC hb2 (zD hx1) hx1; clear hx1; obtain ⟨x0, x1, x2, x3, y0, y1, y2, y3, hxl⟩ := zX hx2) | (have hx3 : u2.heap[u1.heap.size]? = some (.cells #[.int .i8 0, .int .i64 0, .int .i64 0, .int .i64 0] 103) := zC hb2 (zD (zF u1 (.cells #[.int .i8 0, .int .i64 0, .int .i64 0, .int .i64 0] 103))) (zF u1 (.cells #[.int .i8 0, .int .i64 0, .int .i64 0, .int .i64 0] 103)); have hle3 := E2.size; obtain ⟨x0, x1, x2, x3, y0, y1, y2, y3, hxl⟩ := zX hx3) | skip); obtain ⟨r0, r1, r2, -, -, -, hrl4⟩ := qB (HSJ.out.below E3).rdr; have hlk0 := HLK.out u2 E3; have hlk := HLK.out (u2.alloc (.cells #[.int .i8 0, .int .i64 0, .int .i64 0, .int .i64 0] 103)) (E3.alloc E3.size _); clear hb2 E2a; go_wp2_with fail))
        all_goals
          clear r0 r1 r2 hlk hlk0
          have hrl5 := Nat.lt_of_lt_of_le hrl2 E3.size
          first
          | have HOB := k0_ (j6 hx2 (.int .i8 k) (.int .i64 (s' : Nat)) (.int .i64 (lf : Nat)) (.int .i64 (q2 : Nat)))
            have HB3 := k0_ (((((E3.setCell (p := ⟨wr.heap.size, 0, none⟩) (Nat.le_refl _) (.int .i8 k)).setCell (p := ⟨wr.heap.size, 1, none⟩) (Nat.le_refl _) (.int .i64 (s' : Nat))).setCell (p := ⟨wr.heap.size, 2, none⟩) (Nat.le_refl _) (.int .i64 (lf : Nat))).setCell (p := ⟨wr.heap.size, 3, none⟩) (Nat.le_refl _) (.int .i64 (q2 : Nat))))
            have hbl : wr.heap.size ≤ wr.heap.size := Nat.le_refl _
            clear hx2 x0 x1 x2 x3 y0 y1 y2 y3 hxl
            generalize ((((u2.setCell ⟨wr.heap.size, 0, none⟩ (.int .i8 k)).setCell ⟨wr.heap.size, 1, none⟩ (.int .i64 (s' : Nat))).setCell ⟨wr.heap.size, 2, none⟩ (.int .i64 (lf : Nat))).setCell ⟨wr.heap.size, 3, none⟩ (.int .i64 (q2 : Nat))) = v3 at *
            obtain ⟨bx, hbx⟩ : ∃ bx, bx = wr.heap.size := ⟨_, rfl⟩
            rw [← hbx] at HOB ⊢
            replace hbl : wr.heap.size ≤ bx := by omega
            clear hbx
          | have HOB := k0_ (j6 hx3 (.int .i8 k) (.int .i64 (s' : Nat)) (.int .i64 (lf : Nat)) (.int .i64 (q2 : Nat)))
            have HB3 := k0_ (((((E3.setCell (p := ⟨u1.heap.size, 0, none⟩) hle3 (.int .i8 k)).setCell (p := ⟨u1.heap.size, 1, none⟩) hle3 (.int .i64 (s' : Nat))).setCell (p := ⟨u1.heap.size, 2, none⟩) hle3 (.int .i64 (lf : Nat))).setCell (p := ⟨u1.heap.size, 3, none⟩) hle3 (.int .i64 (q2 : Nat))))
            have hbl := hle3
            clear hx3 x0 x1 x2 x3 y0 y1 y2 y3 hxl
            generalize ((((u2.setCell ⟨u1.heap.size, 0, none⟩ (.int .i8 k)).setCell ⟨u1.heap.size, 1, none⟩ (.int .i64 (s' : Nat))).setCell ⟨u1.heap.size, 2, none⟩ (.int .i64 (lf : Nat))).setCell ⟨u1.heap.size, 3, none⟩ (.int .i64 (q2 : Nat))) = v3 at *
            generalize u1.heap.size = bx at *
          | have HOB := k0_ (zF u2 (.cells #[.int .i8 k, .int .i64 (s' : Nat), .int .i64 (lf : Nat), .int .i64 (q2 : Nat)] 103))
            have HB3 := k0_ (E3.alloc E3.size (.cells #[.int .i8 k, .int .i64 (s' : Nat), .int .i64 (lf : Nat), .int .i64 (q2 : Nat)] 103))
            have hbl := E3.size
            generalize u2.alloc (.cells #[.int .i8 k, .int .i64 (s' : Nat), .int .i64 (lf : Nat), .int .i64 (q2 : Nat)] 103) = v3 at *
            generalize u2.heap.size = bx at *
        all_goals
          obtain ⟨o0, o1, o2, o3, -, -, -, -, hol⟩ := zX HOB.out
          go_upto_region 5 with fail
          clear o0 o1 o2 o3 hol
          obtain ⟨o0, o1, o2, o3, -, -, -, -, hol⟩ := zX (show v3.drew.heap[bx]? = _ from HOB.out)
          have E5 := HB3.out.drew
          go_region_with (first
            | (go_at_call 82; (with_reducible refine (CJ.out _ E5).mono ?_); rintro e u4 hB; have HP := k0_ (PBad.from hB (zI HW.out.go.2 (zJ E5))); obtain ⟨g, rfl, -⟩ := hB; refine yZ (P := Tryz.prog) (w := u4) ?_))
          all_goals exact ⟨rfl, HP.out⟩
set_option maxHeartbeats 4000000 in
set_option maxRecDepth 100000 in
theorem zDH (l : List W4) (A : Option Addr) (c rb i : Nat) (mv : Value) (w : World) (hS : PdS l A c rb mv w i) (hN : Needs l A c rb mv i) (hPt : ∀ (W : World) (r : Tt.Rs), PdS l A c rb mv W i → T l (.part 0 i) r → Calls Tryz.prog 54 #[.pointer (some ⟨rb, 0, none⟩), .int .i64 0] W (TPost l A c rb mv W r)) (r : Tt.Rs) (hT : T l (.term i) r) :
    Calls Tryz.prog 21 #[.pointer (some ⟨rb, 0, none⟩)] w (TPost l A c rb mv w r) := by
  have CW := k0_ (qG l A c rb i mv w hS)
  have hwk := jY hS.okw (i := i)
  have CF := k0_ (fun (W : World) => jN (wAt l i) W hwk.1 hwk.2)
  have ek1 : ((fx (wAt l i)).toList == [92]) = sees l i 4 [92] := ze y92 hS.okw
  have ek2 : ((fx (wAt l i)).toList == [108, 101, 116]) = sees l i 3 kLet := ze zHZ hS.okw
  have ek3 : ((fx (wAt l i)).toList == [105, 102]) = sees l i 3 kIf := ze yIf hS.okw
  have ek4 : ((fx (wAt l i)).toList == [114, 101, 99]) = sees l i 3 kRec := ze zHY hS.okw
  have ek5 : ((fx (wAt l i)).toList == [99, 97, 115, 101]) = sees l i 3 kCase := ze zGN hS.okw
  have HS := k0_ hS
  have HN := k0_ hN
  clear hwk hS hN
  have HPT := k0_ hPt
  clear hPt
  cases hk1 : sees l i 4 [92]
  case true =>
    have hf : formT l i = some (4, [.nm, sg 58, .ty, sg 46, .tm]) := by unfold formT; simp [hk1]
    cases hT with
    | term h0 _ => rw [hf] at h0; cases h0
    | @opn _ k0 its r h0 hT =>
      rw [hf] at h0
      injection h0 with h0
      injection h0 with e0 e1
      subst e0
      subst e1
      clear hf
      have hi := zP hk1
      rw [hk1] at ek1
      clear ek2 ek3 ek4 ek5
      have CB := k0_ (fun (W : World) (hb : Below w.heap.size w W) => zEv l A c rb i mv W (HS.out.below hb) hi y58 y46 HN.out r hT)
      clear hT HN HS HPT hk1
      exact c4_
  cases hk2 : sees l i 3 kLet
  case true =>
    have hf : formT l i = some (7, [.nm, sg 58, .ty, sg 61, .tm, .w 3 kIn, .tm]) := by unfold formT; simp [hk1, hk2]
    cases hT with
    | term h0 _ => rw [hf] at h0; cases h0
    | @opn _ k0 its r h0 hT =>
      rw [hf] at h0
      injection h0 with h0
      injection h0 with e0 e1
      subst e0
      subst e1
      clear hf
      have hi := zP hk2
      rw [hk1] at ek1
      rw [hk2] at ek2
      clear ek3 ek4 ek5
      have CB := k0_ (fun (W : World) (hb : Below w.heap.size w W) => zEp l A c rb i mv W (HS.out.below hb) hi y58 y61 yIn HN.out r hT)
      clear hT HN HS HPT hk1 hk2
      exact c4_
  cases hk3 : sees l i 3 kIf
  case true =>
    have hf : formT l i = some (8, [.tm, .w 3 kThen, .tm, .w 3 kElse, .tm]) := by unfold formT; simp [hk1, hk2, hk3]
    cases hT with
    | term h0 _ => rw [hf] at h0; cases h0
    | @opn _ k0 its r h0 hT =>
      rw [hf] at h0
      injection h0 with h0
      injection h0 with e0 e1
      subst e0
      subst e1
      clear hf
      have hi := zP hk3
      rw [hk1] at ek1
      rw [hk2] at ek2
      rw [hk3] at ek3
      clear ek4 ek5
      have CB := k0_ (fun (W : World) (hb : Below w.heap.size w W) => zBQ l A c rb i mv W (HS.out.below hb) hi zGL zGM HN.out r hT)
      clear hT HN HS HPT hk1 hk2 hk3
      exact c4_
  cases hk4 : sees l i 3 kRec
  case true =>
    have hf : formT l i = some (5, [.nm, sg 40, .nm, sg 58, .ty, sg 41, sg 58, .ty, sg 46, .tm]) := by unfold formT; simp [hk1, hk2, hk3, hk4]
    cases hT with
    | term h0 _ => rw [hf] at h0; cases h0
    | @opn _ k0 its r h0 hT =>
      rw [hf] at h0
      injection h0 with h0
      injection h0 with e0 e1
      subst e0
      subst e1
      clear hf
      have hi := zP hk4
      rw [hk1] at ek1
      rw [hk2] at ek2
      rw [hk3] at ek3
      rw [hk4] at ek4
      clear ek5
      have CB := k0_ (fun (W : World) (hb : Below w.heap.size w W) => zEX l A c rb i mv W (HS.out.below hb) hi y40 y58 y41 y46 HN.out r hT)
      clear hT HN HS HPT hk1 hk2 hk3 hk4
      exact c4_
  cases hk5 : sees l i 3 kCase
  case true =>
    have hf : formT l i = some (14, [.tm, .w 3 kOf, .nm, sg 46, .tm, sg 124, .nm, sg 46, .tm]) := by unfold formT; simp [hk1, hk2, hk3, hk4, hk5]
    cases hT with
    | term h0 _ => rw [hf] at h0; cases h0
    | @opn _ k0 its r h0 hT =>
      rw [hf] at h0
      injection h0 with h0
      injection h0 with e0 e1
      subst e0
      subst e1
      clear hf
      have hi := zP hk5
      rw [hk1] at ek1
      rw [hk2] at ek2
      rw [hk3] at ek3
      rw [hk4] at ek4
      rw [hk5] at ek5
      have CB := k0_ (fun (W : World) (hb : Below w.heap.size w W) => uQ l A c rb i mv W (HS.out.below hb) hi yOf y46 zHd HN.out r hT)
      clear hT HN HS HPT hk1 hk2 hk3 hk4 hk5
      exact c4_
  have hf : formT l i = none := by unfold formT; simp [hk1, hk2, hk3, hk4, hk5]
  cases hT with
  | opn h0 _ => rw [hf] at h0; cases h0
  | @term _ r h0 hT =>
    clear hf h0
    have hsg : Tt.Rs.single r := T.single hT
    have CB := k0_ (fun (W : World) (hb : Below w.heap.size w W) => HPT.out W r (HS.out.below hb) hT)
    rw [hk1] at ek1
    rw [hk2] at ek2
    rw [hk3] at ek3
    rw [hk4] at ek4
    rw [hk5] at ek5
    clear hT HN HS HPT hk1 hk2 hk3 hk4 hk5
    generalize fx (wAt l i) = s at *
    generalize hxw : wAt l i = x at *
    obtain ⟨yk, yt, yn, yp⟩ := x
    unfold wV at CW CF
    simp only at CW CF
    clear hxw
    go_enter Tryz.func21, Tryz.ntmps21
    go_wp2_with fail
    refine CW.out.mono ?_
    rintro e w2 ⟨rfl, hb⟩
    have HB2 := k0_ hb
    clear hb
    go_wp2_with fail
    refine (CF.out _).mono ?_
    rintro e w3 ⟨rfl, hb⟩
    have HB3 := kt_ HB2 hb
    clear hb HB2
    go_wp2_with fail
    refine (CB.out _ HB3.out).mono ?_
    intro e w4 hP
    have HP := k0_ (TPost.from hP (zJ HB3.out))
    exact zGq
theorem uy (l : List W4) (A : Option Addr) (c rb : Nat) (mv : Value) : ∀ n, (∀ i, l.length - i < n → i ≤ l.length → Reads l A c rb mv 21 [] (.term i)) ∧ (∀ (q i : Nat), l.length - i < n → i ≤ l.length → Reads l A c rb mv 54 [.int .i64 q] (.part q i))
  | 0 => ⟨fun _ h => absurd h (by omega), fun _ _ h => absurd h (by omega)⟩
  | n + 1 => by
    obtain ⟨it, ip⟩ := uy l A c rb mv n
    have hN : ∀ i, l.length - i < n + 1 → i ≤ l.length → Needs l A c rb mv i := fun i hi hl => ⟨fun j h1 h2 => it j (by omega) h2, fun q j h1 h2 => ip q j (by omega) h2⟩
    have hp : ∀ (q i : Nat), l.length - i < n + 1 → i ≤ l.length → Reads l A c rb mv 54 [.int .i64 q] (.part q i) := fun q i hi hl w r hS hT => zDj l A c rb i mv q w hS (hN i hi hl) r hT
    exact ⟨fun i hi hl w r hS hT => zDH l A c rb i mv w hS (hN i hi hl) (fun W r h1 h2 => hp 0 i hi hl W r h1 h2) r hT, hp⟩
theorem zAs (l : List W4) (A : Option Addr) (c rb i : Nat) (mv : Value) (w : World) (hS : PdS l A c rb mv w i) (r : Tt.Rs) (hT : T l (.term i) r) :
    Calls Tryz.prog 21 #[.pointer (some ⟨rb, 0, none⟩)] w (TPost l A c rb mv w r) :=
  (uy l A c rb mv (l.length - i + 1)).1 i (Nat.lt_succ_self _) hS.le w r hS hT
end Go.Proofs.YtgjemmmbnpkamaaGreatDoor
