/-
  The reader's atom.
-/
import Derived.Test.YtkpdddlonmkebaaDoorRd3
namespace Go.Proofs.YtkpdddlonmkebaaDoor
open Go.RowKit Rd

/-- a type that lies in blocks from n0 on -/
def Far (n0 : Nat) (w : World) (k : Int) (kids : Fo) (G : Option Addr) (m c : Nat) : Prop := ∀ u : World, (∀ b o v, n0 ≤ b → w.cell? ⟨b, o, none⟩ = some v → u.cell? ⟨b, o, none⟩ = some v) → Ty.Is u k kids G m c
theorem Far.is {n0 : Nat} {w : World} {k : Int} {kids : Fo} {G : Option Addr} {m c : Nat} (h : Far n0 w k kids G m c) : Ty.Is w k kids G m c := h w fun _ _ _ _ h => h
theorem Far.keep {n0 : Nat} {w w' : World} {k : Int} {kids : Fo} {G : Option Addr} {m c : Nat} (h : Far n0 w k kids G m c) (hk : ∀ b o v, n0 ≤ b → w.cell? ⟨b, o, none⟩ = some v → w'.cell? ⟨b, o, none⟩ = some v) : Far n0 w' k kids G m c :=
  fun u hu => h u fun b o v hb hc => hu b o v hb (hk b o v hb hc)
theorem Far.below {n0 : Nat} {w w' : World} {k : Int} {kids : Fo} {G : Option Addr} {m c : Nat} (h : Far n0 w k kids G m c) (hb : Below w.heap.size w w') : Far n0 w' k kids G m c :=
  h.keep fun b o v _ hc => by rw [hb.cell (p := ⟨b, o, none⟩) (Ty.cell_lt hc)]; exact hc
theorem Far.low {n0 n1 : Nat} {w : World} {k : Int} {kids : Fo} {G : Option Addr} {m c : Nat} (h : Far n1 w k kids G m c) (hn : n0 ≤ n1) : Far n0 w k kids G m c := fun u hu => h u fun b o v hb hc => hu b o v (by omega) hc
theorem far_nil (n0 : Nat) (w : World) (k : Int) (h1 : -128 ≤ k) (h2 : k ≤ 127) : Far n0 w k .nil none 0 0 := fun _ _ => ⟨trivial, rfl, Nat.le_refl _, Nat.zero_le _, h1, h2⟩

/-- the reader stands at the i-th word -/
structure RdS (l : List W4) (A : Option Addr) (c rb : Nat) (w : World) (i : Nat) : Prop where
  rdr : Rdr w rb A l.length c i
  row : WRow w A l
  ne : ∀ g o, A = some ⟨g, o, none⟩ → l ≠ [] → g ≠ rb
  le : i ≤ l.length
  sh : Shapes w
  len : l.length < maxLen
  small : ∀ x ∈ l, x.text.size ≤ 281474976710656
theorem shapes_ne {w : World} {rb n c i : Nat} {A : Option Addr} (hS : Shapes w) (hR : Rdr w rb A n c i) : 0 ≠ rb := fun e => by
  subst e
  have h0 := hS.2 0 _ rfl
  have h1 := (own2 hR).1
  rw [h0] at h1
  cases h1
theorem RdS.step {l : List W4} {A : Option Addr} {c rb i j : Nat} {w w' : World} (h : RdS l A c rb w i) (hg : w.grownBy w' (some rb)) (hR : Rdr w' rb A l.length c j) (hj : j ≤ l.length) : RdS l A c rb w' j := by
  refine ⟨hR, h.row.grown h.ne hg, h.ne, hj, ⟨Nat.lt_of_lt_of_le h.sh.1 hg.size, fun q v hv => ?_⟩, h.len, h.small⟩
  have h0 := h.sh.2 q v hv
  rw [World.cell?_of_block (hg.block _ (Ty.cell_lt h0) (fun e => shapes_ne h.sh h.rdr (by injection e)))]
  exact h0
theorem RdS.below {l : List W4} {A : Option Addr} {c rb i : Nat} {w w' : World} (h : RdS l A c rb w i) (hb : Below w.heap.size w w') : RdS l A c rb w' i :=
  ⟨heap_below hb (heap_lt h.rdr) h.rdr, h.row.below hb, h.ne, h.le, h.sh.below hb, h.len, h.small⟩
theorem only_below {w u : World} {rb : Nat} (hb : Below w.heap.size w u) : w.grownBy u (some rb) := ⟨hb.os, hb.tape, hb.output, hb.size, fun k hk _ => hb.block k hk⟩

def ROk (l : List W4) (A : Option Addr) (c rb : Nat) (w : World) (k : Int) (kids : Fo) (j : Nat) (e : Ending) (w' : World) : Prop :=
  ∃ G m cg, e = .returned (.agg #[.int .i8 k, .slice G m cg]) ∧ Far w.heap.size w' k kids G m cg ∧ Rdr w' rb A l.length c j ∧ w.grownBy w' (some rb)
def RBad (l : List W4) (rb : Nat) (w : World) (i : Nat) (e : Ending) (w' : World) : Prop :=
  ∃ g, e = .panicked [{ v := .iface 53 (.pointer (some ⟨g, 0, none⟩)), recovered := false }] ∧ w'.heap[g]? = some (.cells #[.int .i64 40, .int .i64 (Rd.fAt l i), .string (Rd.fWord l i)] 59 (0, 0)) ∧ w.heap.size ≤ g ∧ w.grownBy w' (some rb)
/-- what a reading leaves -/
def RPost (l : List W4) (A : Option Addr) (c rb : Nat) (w : World) (t : Tg) (e : Ending) (w' : World) : Prop :=
  (∃ k kids j, R l t (.ok k kids j) ∧ ROk l A c rb w k kids j e w') ∨ (∃ i, R l t (.bad i) ∧ RBad l rb w i e w')
theorem GaveUp.bad {l : List W4} {i rb : Nat} {w u : World} {e : Ending} {w' : World} (h : GaveUp l i u e w') (hg : w.grownBy u (some rb)) : RBad l rb w i e w' := by
  obtain ⟨g, he, hh, hl, hb⟩ := h
  exact ⟨g, he, hh, Nat.le_trans hg.size hl, only_trans hg (only_below hb)⟩
theorem RBad.from {l : List W4} {i rb : Nat} {w u : World} {e : Ending} {w' : World} (h : RBad l rb u i e w') (hg : w.grownBy u (some rb)) : RBad l rb w i e w' := by
  obtain ⟨g, he, hh, hl, hb⟩ := h
  exact ⟨g, he, hh, Nat.le_trans hg.size hl, only_trans hg hb⟩

set_option maxHeartbeats 4000000 in
set_option maxRecDepth 100000 in
theorem atom_word (l : List W4) (A : Option Addr) (c rb i : Nat) (w : World) (h : RdS l A c rb w i) (hno : Rd.sees l i 4 [40] = false) :
    Calls Tryd.prog 34 #[.pointer (some ⟨rb, 0, none⟩)] w (RPost l A c rb w (.one i)) := by
  have hb0 : Below w.heap.size w (w.alloc (.cells #[.int .i8 0, .slice none 0 0] 29)) := (Below.refl _ _).alloc (Nat.le_refl _) _
  have hX := heap_new w (.cells #[.int .i8 0, .slice none 0 0] 29)
  have hlit : (⟨#[40]⟩ : ByteArray).toList = [40] := (Lib.toList_data _).trans rfl
  have hl : l.length ≤ maxLen := Nat.le_of_lt h.len
  have CS := Lib.hid (fun (W : World) (hb : Below w.heap.size w W) => (show Calls Tryd.prog 60 #[.pointer (some ⟨rb, 0, none⟩), .int .i8 4, .string ⟨#[40]⟩] W (fun e w' => e = .returned (.bool false) ∧ ∃ m, w' = W.drewN m) from by
    have q := sees_any l A c rb i 4 ⟨#[40]⟩ W hl h.le (h.below hb).rdr (h.below hb).row
    rw [hlit, hno] at q; exact q))
  have CK := Lib.hid (fun (W : World) (hb : Below w.heap.size w W) => kind0_any l A c rb i W hl h.le (h.below hb).sh (h.below hb).rdr (h.below hb).row)
  have H := Lib.hid h
  have HX := Lib.hid hX
  have HB0 := Lib.hid hb0
  have HNO := Lib.hid hno
  clear hlit hl hX hb0 hno h
  cases hk : Rd.atK l i with
  | none =>
    have hv : kind0V l i = .tuple #[.int .i8 0, .bool false] := by unfold kind0V; rw [hk]
    rw [hv] at CK
    have HK := Lib.hid hk
    clear hv hk
    go_enter Tryd.func34, Tryd.ntmps34
    go_wp2_with fail
    refine (CS.out _ HB0.out).mono ?_
    rintro e w2 ⟨rfl, m, rfl⟩
    have HB1 := Lib.hid (below_drewN HB0.out m)
    go_wp2_with fail
    refine (CK.out _ HB1.out).mono ?_
    rintro e w3 ⟨rfl, hb⟩
    have HB2 := Lib.hid (HB1.out.trans (hb.mono HB1.out.size))
    clear hb
    go_wp2_with fail
    have hs := H.out.below HB2.out
    refine (want_no l A c rb i w3 (Nat.le_of_lt hs.len) hs.le hs.small hs.rdr hs.row).mono ?_
    intro e w4 hg
    have HP := Lib.hid (show RPost l A c rb w (.one i) e w4 from .inr ⟨i, .no HK.out HNO.out, hg.bad (only_below HB2.out)⟩)
    obtain ⟨g, rfl, -⟩ := hg
    exact ⟨rfl, HP.out⟩
  | some k =>
    have hv : kind0V l i = .tuple #[.int .i8 k, .bool true] := by unfold kind0V; rw [hk]
    have hkr : k = 0 ∨ k = 1 ∨ k = 2 := by
      unfold Rd.atK at hk
      split at hk
      · injection hk with e; exact .inl e.symm
      · split at hk
        · injection hk with e; exact .inr (.inl e.symm)
        · split at hk
          · injection hk with e; exact .inr (.inr e.symm)
          · cases hk
    have hil := Rd.atK_lt hk
    rw [hv] at CK
    have HK := Lib.hid hk
    clear hv hk
    go_enter Tryd.func34, Tryd.ntmps34
    go_wp2_with fail
    refine (CS.out _ HB0.out).mono ?_
    rintro e w2 ⟨rfl, m, rfl⟩
    have HB1 := Lib.hid (below_drewN HB0.out m)
    have HX1 : Hid (((w.alloc (.cells #[.int .i8 0, .slice none 0 0] 29)).drewN m).heap[w.heap.size]? = _) := Lib.hid HX.out
    go_wp2_with fail
    refine (CK.out _ HB1.out).mono ?_
    rintro e w3 ⟨rfl, hb⟩
    have HB2 := Lib.hid (HB1.out.trans (hb.mono HB1.out.size))
    have HX2 := Lib.hid (heap_below hb (heap_lt HX1.out) HX1.out)
    clear hb
    go_wp2_with fail
    have hs := H.out.below HB2.out
    refine (want_yes A l.length c rb i w3 (by have := hs.len; omega) hs.rdr).mono ?_
    rintro e w4 ⟨rfl, hR, hg⟩
    have hne : w.heap.size ≠ rb := by have := heap_lt H.out.rdr; omega
    have hx4 := heap_grown hg hne HX2.out
    obtain ⟨x0, x1, f0, f1, xl⟩ := own2 hx4
    have HR := Lib.hid hR
    have HG := Lib.hid (only_trans (only_below HB2.out) hg)
    have hkb : -128 ≤ k ∧ k ≤ 127 := by omega
    clear hR hg hs hx4
    go_wp2_with fail
    refine bodyPost_ret (v := .agg #[.int .i8 k, .slice none 0 0]) (by simp [results, Tryd.results34, go_sem, *]) rfl (.inl ⟨k, .nil, i + 1, .word HK.out HNO.out, none, 0, 0, rfl, far_nil _ _ k hkb.1 hkb.2, ?_, only_setCell (only_setCell HG.out (.inr (Nat.le_refl _)) _) (.inr (Nat.le_refl _)) _⟩)
    have hr := HR.out
    unfold Rdr at hr ⊢
    rw [Below.heap_setCell _ _ _ _ (fun e => hne e.symm), Below.heap_setCell _ _ _ _ (fun e => hne e.symm)]
    exact hr
end Go.Proofs.YtkpdddlonmkebaaDoor
