/-
  parts.placed: a bare term, put where another one stands.
-/
import Derived.Test.YtfkbdpehdabepaaGreatDoorM15
namespace Go.Proofs.YtfkbdpehdabepaaGreatDoor
open Go.RowKit
theorem set11_at (w : World) (X o : Nat) (h : Hd) (p : Pl) : set11 w X o h p = (((((((((((w.setCell ⟨X, o, none⟩ (.int .i8 h.kind)).setCell ⟨X, o + 1, none⟩ (.string h.name)).setCell ⟨X, o + 2, none⟩ (.string h.arg)).setCell ⟨X, o + 3, none⟩ (.int .i64 h.num)).setCell ⟨X, o + 4, none⟩ (.int .i8 h.tk)).setCell ⟨X, o + 5, none⟩ (.slice p.TA p.tn p.tc)).setCell ⟨X, o + 6, none⟩ (.int .i8 h.uk)).setCell ⟨X, o + 7, none⟩ (.slice p.UA p.un p.uc)).setCell ⟨X, o + 8, none⟩ (.int .i64 h.label)).setCell ⟨X, o + 9, none⟩ (.int .i64 h.pos)).setCell ⟨X, o + 10, none⟩ (.slice p.A p.n p.c)) := rfl
/-- a term, put into memory between lo and hi -/
def PutAt (h : Hd) (kids : Tm) (lo hi : Nat) (w : World) (e : Ending) (w' : World) : Prop :=
  ∃ p, e = .returned (.agg #[.int .i8 h.kind, .string h.name, .string h.arg, .int .i64 h.num, .int .i8 h.tk, .slice p.TA p.tn p.tc, .int .i8 h.uk, .slice p.UA p.un p.uc, .int .i64 h.label, .int .i64 h.pos, .slice p.A p.n p.c]) ∧ Tm.SepK w' h kids p lo hi ∧ Apart lo hi w w'
/-- where a list's first element lies -/
theorem Tm.SepF.head {w : World} {g : Nat} {h : Hd} {kids r : Tm} {i lo hi : Nat} (e : SepF w g (.node h kids r) i lo hi) : ∃ p lo' hi', lo ≤ lo' ∧ lo' ≤ hi' ∧ hi' ≤ hi ∧ (g < lo' ∨ hi' ≤ g) ∧ (∀ j v, (h.cells p)[j]? = some v → w.cell? ⟨g, i * 11 + j, none⟩ = some v) ∧ SepK w h kids p lo' hi' ∧ SepF w g r (i + 1) hi' hi := by
  obtain ⟨p, lo', t, hi', a1, a2, a3, a4, a5, a6, a7, a8⟩ := e
  exact ⟨p, lo', hi', a1, by omega, SepF.le _ _ _ _ a8, a4, a5, ⟨t, a2, a3, a6, a7⟩, a8⟩
/-- the state of the loop over a term's kids: X, Y are boxes of the function's own -/
structure PutR (w0 w wr : World) (a : Hd) (pb : Pl) (A : Option Addr) (all : Tm) (n nk lo t hi g X Y i : Nat) (obX obY : Obj) (done rest : Tm) : Prop where
  eq : Tm.app done (Ca.plF rest) = all
  len : Tm.len done = i
  i_eq : i + Tm.len rest = n
  lies : Tm.Lies w0 rest A i
  sub : Tm.nodes rest ≤ nk
  apart : Apart lo hi w wr
  base : Below w0.heap.size w0 wr
  ty : Tm.Fit (mask (rng lo t) wr) a pb n
  froz : ∀ o, wr.frozen? ⟨g, o, none⟩ = false
  bx : wr.heap[X]? = some obX
  by' : wr.heap[Y]? = some obY
  mid : ∃ m, t ≤ m ∧ m ≤ hi ∧ Tm.SepF wr g done 0 t m ∧ Tm.SepF wr g (Tm.bF rest) i m hi
theorem PutR.step {w0 w wr wk w3 : World} {a : Hd} {pb : Pl} {A : Option Addr} {all : Tm} {n nk lo t hi g X Y i : Nat} {obX obY ok : Obj} {done r k1 : Tm} {h1 : Hd} {p2 : Pl} {m lo' hi' : Nat}
    (e : PutR w0 w wr a pb A all n nk lo t hi g X Y i obX obY done (.node h1 k1 r)) (hl : Tm.Lies w0 r A (i + 1)) (hm1 : t ≤ m) (hd : Tm.SepF wr g done 0 t m) (hr : Tm.SepF wr g (Tm.bF r) (i + 1) hi' hi) (h1' : m ≤ lo') (h2' : lo' ≤ hi') (h3' : hi' ≤ hi) (hgo : g < lo' ∨ hi' ≤ g)
    (hg : t ≤ g ∧ g < hi) (hlo : w0.heap.size ≤ lo) (hlt : lo ≤ t) (hhi : hi ≤ w.heap.size) (hX : w.heap.size ≤ X) (hY : w.heap.size ≤ Y)
    (hcell : ∀ j, j < 11 → ∃ v, wr.cell? ⟨g, i * 11 + j, none⟩ = some v) (hwk : wk = wr.alloc ok) (ha : Apart lo' hi' wk w3) (hs : Tm.SepK w3 (Ca.plH h1) (Ca.plF k1) p2 lo' hi') :
    PutR w0 w (set11 w3 g (i * 11) (Ca.plH h1) p2) a pb A all n nk lo t hi g X Y (i + 1) obX obY (Tm.app done (.node (Ca.plH h1) (Ca.plF k1) .nil)) r := by
  obtain ⟨e1, e2, e3, e4, e5, e6, e7, e8, e9, e10, e11, -⟩ := e
  simp only [Tm.len, Tm.nodes, Ca.plF] at e1 e3 e5
  have hks : wk.heap.size = wr.heap.size + 1 := by rw [hwk]; simp
  have hrs := e6.size
  have hkb : ∀ b, b < wr.heap.size → wk.heap[b]? = wr.heap[b]? := fun b hb => by rw [hwk]; exact Below.heap_alloc _ _ _ hb
  have h3k : ∀ b, b < wr.heap.size → b < lo' ∨ hi' ≤ b → w3.heap[b]? = wr.heap[b]? := fun b hb ho => (ha.block b (by omega) ho).trans (hkb b hb)
  have hfin : ∀ b, b < wr.heap.size → b < lo' ∨ hi' ≤ b → b ≠ g → (set11 w3 g (i * 11) (Ca.plH h1) p2).heap[b]? = wr.heap[b]? := fun b hb ho hne => (set11_heap _ _ _ _ _ b hne).trans (h3k b hb ho)
  have hap : Apart lo hi w w3 := (e6.trans (Apart.of_below (by rw [hwk]; exact (Below.refl _ _).alloc (Nat.le_refl _) _))).trans (ha.mono (by omega) h3')
  have hg3 : ∀ o, w3.cell? ⟨g, o, none⟩ = wr.cell? ⟨g, o, none⟩ := fun o => World.cell?_of_block (h3k g (by omega) hgo)
  have hbX : (set11 w3 g (i * 11) (Ca.plH h1) p2).heap[X]? = some obX := by rw [hfin X (heap_lt e10) (by omega) (by omega)]; exact e10
  have hbY : (set11 w3 g (i * 11) (Ca.plH h1) p2).heap[Y]? = some obY := by rw [hfin Y (heap_lt e11) (by omega) (by omega)]; exact e11
  have hnew := set11_cells w3 g (i * 11) (Ca.plH h1) p2 (fun j hj => (hcell j hj).elim fun v hv => ⟨v, by rw [hg3]; exact hv⟩)
  have hd' : Tm.SepF (set11 w3 g (i * 11) (Ca.plH h1) p2) g done 0 t m := by
    refine Tm.SepF.keep done g 0 t m (fun o v _ ho hv => ?_) (fun b q1 q2 q3 => hfin b (by omega) (by omega) q3) hd
    rw [set11_other _ _ _ _ _ _ _ (.inr (.inl (by omega))), hg3]; exact hv
  have hs' : Tm.SepK (set11 w3 g (i * 11) (Ca.plH h1) p2) (Ca.plH h1) (Ca.plF k1) p2 lo' hi' := hs.keep fun b q1 q2 => set11_heap _ _ _ _ _ b (by omega)
  refine ⟨by rw [Tm.app_snoc]; exact e1, by rw [Tm.len_snoc]; omega, by omega, hl, by omega, set11_apart hap (.inr (by omega)) _ _ _, ?_, ?_, fun o => ?_, hbX, hbY, hi', by omega, h3', ?_, ?_⟩
  · exact e7.trans ((set11_apart (a := wr) ((Apart.of_below (by rw [hwk]; exact (Below.refl _ _).alloc (Nat.le_refl _) _)).trans (ha.mono (lo2 := lo) (hi2 := hi) (by omega) h3')) (.inr (by omega)) _ _ _).below hlo (by omega))
  · exact e8.kept (rng_kept (Nat.le_refl _) (Nat.le_refl _) fun b q1 q2 => hfin b (by omega) (by omega) (by omega))
  · rw [set11_frozen, World.frozen?_of_block (h3k g (by omega) hgo)]; exact e9 o
  · refine Tm.SepF.snoc hgo hs' done 0 t m (fun j v hv => ?_) h1' hd'
    rw [Nat.zero_add, e2]
    exact hnew j v hv
  · refine Tm.SepF.keep _ g (i + 1) hi' hi (fun o v ho _ hv => ?_) (fun b q1 q2 q3 => hfin b (by omega) (by omega) q3) hr
    rw [set11_other _ _ _ _ _ _ _ (.inr (.inr (by omega))), hg3]; exact hv
/-- all are written -/
theorem PutR.fin {w0 w wr : World} {a : Hd} {pb : Pl} {A : Option Addr} {all : Tm} {n nk lo t hi g X Y i : Nat} {obX obY : Obj} {done : Tm} (e : PutR w0 w wr a pb A all n nk lo t hi g X Y i obX obY done .nil) (h1 : lo ≤ t) (h2 : t ≤ hi) (hn : Tm.len all = n) (hg : all ≠ .nil → pb.A = some ⟨g, 0, none⟩ ∧ t ≤ g ∧ g < hi) : Tm.SepK wr a all pb lo hi := by
  obtain ⟨e1, e2, e3, e4, e5, e6, e7, e8, e9, e10, e11, m, m1, m2, m3, m4⟩ := e
  simp only [Ca.plF] at e1
  rw [Tm.app_nil] at e1
  subst e1
  refine ⟨t, h1, h2, hn ▸ e8, ?_⟩
  cases done with
  | nil => exact .inl rfl
  | node _ _ _ =>
    obtain ⟨g1, g2, g3⟩ := hg (fun e => by cases e)
    exact .inr ⟨g, g1, g2, g3, e9, Tm.SepF.mono _ _ _ _ _ _ (Nat.le_refl _) m2 m3⟩
set_option maxHeartbeats 4000000 in
set_option maxRecDepth 100000 in
theorem placed_any (w0 : World) (K : Nat) : ∀ (h : Hd) (kids : Tm) (p pb : Pl) (lo hi : Nat) (w : World), Tm.nodes kids < K → Tm.Is w0 h kids p → Below w0.heap.size w0 w → w0.heap.size ≤ lo → hi ≤ w.heap.size → Tm.SepK w (Tm.cnt h) (Tm.bF kids) pb lo hi →
    Calls Tryz.prog 109 #[.agg #[.int .i8 (Tm.cnt h).kind, .string (Tm.cnt h).name, .string (Tm.cnt h).arg, .int .i64 (Tm.cnt h).num, .int .i8 (Tm.cnt h).tk, .slice pb.TA pb.tn pb.tc, .int .i8 (Tm.cnt h).uk, .slice pb.UA pb.un pb.uc, .int .i64 (Tm.cnt h).label, .int .i64 (Tm.cnt h).pos, .slice pb.A pb.n pb.c], .agg #[.int .i8 h.kind, .string h.name, .string h.arg, .int .i64 h.num, .int .i8 h.tk, .slice p.TA p.tn p.tc, .int .i8 h.uk, .slice p.UA p.un p.uc, .int .i64 h.label, .int .i64 h.pos, .slice p.A p.n p.c]] w (PutAt (Ca.plH h) (Ca.plF kids) lo hi w) := by
  induction K with
  | zero => intro _ _ _ _ _ _ _ hK; omega
  | succ K ih =>
    intro h kids p pb lo hi w hK hIs hb0 hlo hhi hsep
    have hB := below_n3 w (.cells #[.int .i8 (Tm.cnt h).kind, .string (Tm.cnt h).name, .string (Tm.cnt h).arg, .int .i64 (Tm.cnt h).num, .int .i8 (Tm.cnt h).tk, .slice pb.TA pb.tn pb.tc, .int .i8 (Tm.cnt h).uk, .slice pb.UA pb.un pb.uc, .int .i64 (Tm.cnt h).label, .int .i64 (Tm.cnt h).pos, .slice pb.A pb.n pb.c] 28) (.cells #[.int .i8 h.kind, .string h.name, .string h.arg, .int .i64 h.num, .int .i8 h.tk, .slice p.TA p.tn p.tc, .int .i8 h.uk, .slice p.UA p.un p.uc, .int .i64 h.label, .int .i64 h.pos, .slice p.A p.n p.c] 28) (.cells #[.int .i8 0, .string ⟨#[]⟩, .string ⟨#[]⟩, .int .i64 0, .int .i8 0, .slice none 0 0, .int .i8 0, .slice none 0 0, .int .i64 0, .int .i64 0, .slice none 0 0] 28)
    obtain ⟨h0, h1, h2⟩ := heap_n3 w (.cells #[.int .i8 (Tm.cnt h).kind, .string (Tm.cnt h).name, .string (Tm.cnt h).arg, .int .i64 (Tm.cnt h).num, .int .i8 (Tm.cnt h).tk, .slice pb.TA pb.tn pb.tc, .int .i8 (Tm.cnt h).uk, .slice pb.UA pb.un pb.uc, .int .i64 (Tm.cnt h).label, .int .i64 (Tm.cnt h).pos, .slice pb.A pb.n pb.c] 28) (.cells #[.int .i8 h.kind, .string h.name, .string h.arg, .int .i64 h.num, .int .i8 h.tk, .slice p.TA p.tn p.tc, .int .i8 h.uk, .slice p.UA p.un p.uc, .int .i64 h.label, .int .i64 h.pos, .slice p.A p.n p.c] 28) (.cells #[.int .i8 0, .string ⟨#[]⟩, .string ⟨#[]⟩, .int .i64 0, .int .i8 0, .slice none 0 0, .int .i8 0, .slice none 0 0, .int .i64 0, .int .i64 0, .slice none 0 0] 28)
    obtain ⟨w1, hw1⟩ : ∃ w1, w1 = ((w.alloc (.cells #[.int .i8 (Tm.cnt h).kind, .string (Tm.cnt h).name, .string (Tm.cnt h).arg, .int .i64 (Tm.cnt h).num, .int .i8 (Tm.cnt h).tk, .slice pb.TA pb.tn pb.tc, .int .i8 (Tm.cnt h).uk, .slice pb.UA pb.un pb.uc, .int .i64 (Tm.cnt h).label, .int .i64 (Tm.cnt h).pos, .slice pb.A pb.n pb.c] 28)).alloc (.cells #[.int .i8 h.kind, .string h.name, .string h.arg, .int .i64 h.num, .int .i8 h.tk, .slice p.TA p.tn p.tc, .int .i8 h.uk, .slice p.UA p.un p.uc, .int .i64 h.label, .int .i64 h.pos, .slice p.A p.n p.c] 28)).alloc (.cells #[.int .i8 0, .string ⟨#[]⟩, .string ⟨#[]⟩, .int .i64 0, .int .i8 0, .slice none 0 0, .int .i8 0, .slice none 0 0, .int .i64 0, .int .i64 0, .slice none 0 0] 28) := ⟨_, rfl⟩
    have hz1 : w1.heap.size = w.heap.size + 3 := by rw [hw1]; simp
    rw [← hw1] at hB h0 h1 h2
    have HW := Lib.hid hw1
    have HH0 := Lib.hid h0
    have HH1 := Lib.hid h1
    have HH2 := Lib.hid h2
    obtain ⟨q0, q1, q2, q3, q4, q5, q6, q7, q8, q9, q10, ql⟩ := own11 h0
    obtain ⟨r0, r1, r2, r3, r4, r5, r6, r7, r8, r9, r10, rl⟩ := own11 h1
    have f9 := froz_of h0 9
    clear h0 h1 h2 hw1
    have HIH := Lib.hid ih
    clear ih
    go_enter Tryz.func109, Tryz.ntmps109
    go_upto_region 1 with fail
    rw [← HW.out]
    clear HW
    go_wp2_with fail
    have h2X : (w1.setCell ⟨w.heap.size, 9, none⟩ (.int .i64 h.pos)).heap[w.heap.size]? = some (.cells #[.int .i8 (Ca.plH h).kind, .string (Ca.plH h).name, .string (Ca.plH h).arg, .int .i64 (Ca.plH h).num, .int .i8 (Ca.plH h).tk, .slice pb.TA pb.tn pb.tc, .int .i8 (Ca.plH h).uk, .slice pb.UA pb.un pb.uc, .int .i64 (Ca.plH h).label, .int .i64 (Ca.plH h).pos, .slice pb.A pb.n pb.c] 28 (0, 0)) := by
      simp [World.setCell, Array.getElem?_modify, HH0.out, Ca.plH]
    have h2R : (w1.setCell ⟨w.heap.size, 9, none⟩ (.int .i64 h.pos)).heap[w.heap.size + 1 + 1]? = some (.cells #[.int .i8 0, .string ⟨#[]⟩, .string ⟨#[]⟩, .int .i64 0, .int .i8 0, .slice none 0 0, .int .i8 0, .slice none 0 0, .int .i64 0, .int .i64 0, .slice none 0 0] 28 (0, 0)) := by
      rw [Below.heap_setCell _ _ _ _ (show w.heap.size + 1 + 1 ≠ w.heap.size by omega)]; exact HH2.out
    have hap : Apart lo hi w (w1.setCell ⟨w.heap.size, 9, none⟩ (.int .i64 h.pos)) := (Apart.of_below hB).set (.inl (Nat.le_refl _)) _
    have hbk : ∀ b, b < w.heap.size → (w1.setCell ⟨w.heap.size, 9, none⟩ (.int .i64 h.pos)).heap[b]? = w.heap[b]? := fun b hb => by
      rw [Below.heap_setCell _ _ _ b (show b ≠ w.heap.size by omega)]; exact hB.block b hb
    have hbw0 : Below w0.heap.size w0 (w1.setCell ⟨w.heap.size, 9, none⟩ (.int .i64 h.pos)) := hb0.trans (hap.below hlo (by have := hb0.size; omega))
    have hsep2 := hsep.keep (w' := w1.setCell ⟨w.heap.size, 9, none⟩ (.int .i64 h.pos)) fun b q1 q2 => hbk b (by omega)
    have hst : ∃ g t, (kids ≠ .nil → pb.A = some ⟨g, 0, none⟩ ∧ t ≤ g ∧ g < hi) ∧ lo ≤ t ∧ t ≤ hi ∧ PutR w0 w (w1.setCell ⟨w.heap.size, 9, none⟩ (.int .i64 h.pos)) (Ca.plH h) pb p.A (Ca.plF kids) p.n (Tm.nodes kids) lo t hi g w.heap.size (w.heap.size + 1 + 1) 0 (.cells #[.int .i8 (Ca.plH h).kind, .string (Ca.plH h).name, .string (Ca.plH h).arg, .int .i64 (Ca.plH h).num, .int .i8 (Ca.plH h).tk, .slice pb.TA pb.tn pb.tc, .int .i8 (Ca.plH h).uk, .slice pb.UA pb.un pb.uc, .int .i64 (Ca.plH h).label, .int .i64 (Ca.plH h).pos, .slice pb.A pb.n pb.c] 28 (0, 0)) (.cells #[.int .i8 0, .string ⟨#[]⟩, .string ⟨#[]⟩, .int .i64 0, .int .i8 0, .slice none 0 0, .int .i8 0, .slice none 0 0, .int .i64 0, .int .i64 0, .slice none 0 0] 28 (0, 0)) .nil kids := by
      obtain ⟨t, s1, s2, f, s3⟩ := hsep2
      have hn := hIs.fit.n_eq
      have hF : Tm.Fit (mask (rng lo t) (w1.setCell ⟨w.heap.size, 9, none⟩ (.int .i64 h.pos))) (Ca.plH h) pb p.n := ⟨f.ty, f.to, by rw [f.n_eq, Tm.len_bF, hn], f.n_le, f.c_le, f.klo, f.khi, f.llo, f.lhi, f.nm, f.ar⟩
      rcases s3 with s3 | ⟨g, g1, g2, g3, g4, g5⟩
      · have hk : kids = .nil := by cases kids with
          | nil => rfl
          | node _ _ _ => cases s3
        refine ⟨w.heap.size, t, fun e => (e hk).elim, s1, s2, ⟨rfl, rfl, by rw [hn]; omega, hIs.lies, Nat.le_refl _, hap, hbw0, hF, froz_of h2X, h2X, h2R, t, Nat.le_refl _, s2, Nat.le_refl _, ?_⟩⟩
        rw [s3]; exact s2
      · exact ⟨g, t, fun _ => ⟨g1, g2, g3⟩, s1, s2, ⟨rfl, rfl, by rw [hn]; omega, hIs.lies, Nat.le_refl _, hap, hbw0, hF, g4, h2X, h2R, t, Nat.le_refl _, s2, Nat.le_refl _, g5⟩⟩
    obtain ⟨g, t, hgA, ht1, ht2, hst⟩ := hst
    have HST0 := Lib.hid hst
    have HGA := Lib.hid hgA
    have hn := hIs.fit.n_eq
    have hpc := hIs.fit.c_le
    have hnc := hIs.fit.n_le
    have i5 : (p.n : Int) ≤ 9223372036854775807 := by unfold maxLen at hpc; omega
    have hbn : pb.n = p.n := by obtain ⟨_, _, _, f, _⟩ := hsep; rw [f.n_eq, Tm.len_bF, hn]
    have HBN := Lib.hid hbn
    have HN := Lib.hid hn
    have HKK := Lib.hid hK
    have HLO := Lib.hid hlo
    have HHI := Lib.hid hhi
    clear h2X h2R hap hbk hbw0 hsep2 hst hgA hsep hIs hn hnc hpc hK hb0 hB hbn
    clear q0 q1 q2 q3 q4 q5 q6 q7 q8 q9 q10 r0 r1 r2 r3 r4 r5 r6 r7 r8 r9 r10 f9
    generalize w1.setCell ⟨w.heap.size, 9, none⟩ (.int .i64 h.pos) = w2 at *
    go_loopw [13] (fun v wr => ∃ (i : Nat) (done rest : Tm), v = .int .i64 i ∧ PutR w0 w wr (Ca.plH h) pb p.A (Ca.plF kids) p.n (Tm.nodes kids) lo t hi g w.heap.size (w.heap.size + 1 + 1) i (.cells #[.int .i8 (Ca.plH h).kind, .string (Ca.plH h).name, .string (Ca.plH h).arg, .int .i64 (Ca.plH h).num, .int .i8 (Ca.plH h).tk, .slice pb.TA pb.tn pb.tc, .int .i8 (Ca.plH h).uk, .slice pb.UA pb.un pb.uc, .int .i64 (Ca.plH h).label, .int .i64 (Ca.plH h).pos, .slice pb.A pb.n pb.c] 28 (0, 0)) (.cells #[.int .i8 0, .string ⟨#[]⟩, .string ⟨#[]⟩, .int .i64 0, .int .i8 0, .slice none 0 0, .int .i8 0, .slice none 0 0, .int .i64 0, .int .i64 0, .slice none 0 0] 28 (0, 0)) done rest) (fun v _ => p.n - (intOf v).toNat)
    case atStart => exact ⟨0, .nil, kids, rfl, HST0.out⟩
    case round =>
      obtain ⟨i, done, rest, rfl, hR⟩ := hrel
      cases rest with
      | nil =>
        have hi2 : (i : Int) = p.n := by have := hR.i_eq; simp only [Tm.len] at this; omega
        have hlt : ¬ (i : Int) < p.n := by omega
        have HR := Lib.hid hR
        obtain ⟨q0, q1, q2, q3, q4, q5, q6, q7, q8, q9, q10, ql⟩ := own11 hR.bx
        obtain ⟨r0, r1, r2, r3, r4, r5, r6, r7, r8, r9, r10, rl⟩ := own11 hR.by'
        have f0 := froz_of hR.by' 0 ; have f1 := froz_of hR.by' 1 ; have f2 := froz_of hR.by' 2 ; have f3 := froz_of hR.by' 3 ; have f4 := froz_of hR.by' 4 ; have f5 := froz_of hR.by' 5 ; have f6 := froz_of hR.by' 6 ; have f7 := froz_of hR.by' 7 ; have f8 := froz_of hR.by' 8 ; have f9 := froz_of hR.by' 9 ; have f10 := froz_of hR.by' 10
        clear hR
        go_wp2_with fail
        refine bodyPost_ret (v := .agg #[.int .i8 (Ca.plH h).kind, .string (Ca.plH h).name, .string (Ca.plH h).arg, .int .i64 (Ca.plH h).num, .int .i8 (Ca.plH h).tk, .slice pb.TA pb.tn pb.tc, .int .i8 (Ca.plH h).uk, .slice pb.UA pb.un pb.uc, .int .i64 (Ca.plH h).label, .int .i64 (Ca.plH h).pos, .slice pb.A pb.n pb.c]) (by simp [results, Tryz.results109, go_sem, *]) rfl ⟨pb, rfl, ?_, ?_⟩
        · rw [← set11_zero]
          refine (HR.out.fin ht1 ht2 (by rw [Ca.len_pl, HN.out]) fun e => HGA.out fun q => e (by rw [q]; rfl)).keep fun b q1 q2 => set11_heap _ _ _ _ _ b (by have := HHI.out; omega)
        · rw [← set11_zero]
          exact set11_apart HR.out.apart (.inl (by omega)) _ _ _
      | node h1 k1 r =>
        have hi2 := hR.i_eq
        have hsub := hR.sub
        simp only [Tm.len, Tm.nodes] at hi2 hsub
        have hkn : kids ≠ .nil := fun e => by have := HN.out; rw [e] at this; simp only [Tm.len] at this; omega
        obtain ⟨hpA, hg1, hg2⟩ := HGA.out hkn
        obtain ⟨bb, oo, q, hA, hcs, hfit, hl3, hl4⟩ := hR.lies
        obtain ⟨m, hm1, hm2, hsd, hsr⟩ := hR.mid
        obtain ⟨pk, lo', hi', s1, s2, s3, s4, s5, s6, s7⟩ := Tm.SepF.head hsr
        have hbs := hR.base
        have hcs' : ∀ j v, (h1.cells q)[j]? = some v → wr.cell? ⟨bb, oo + i * 11 + j, none⟩ = some v := fun j v hv => by
          have := hcs j v hv
          rw [hbs.cell (p := ⟨bb, _, none⟩) (Ty.cell_lt this)]; exact this
        have hws := hR.apart.size
        have hlo := HLO.out
        have hhi := HHI.out
        obtain ⟨wk, hwk⟩ : ∃ wk, wk = wr.alloc (.cells #[.int .i8 h1.kind, .string h1.name, .string h1.arg, .int .i64 h1.num, .int .i8 h1.tk, .slice q.TA q.tn q.tc, .int .i8 h1.uk, .slice q.UA q.un q.uc, .int .i64 h1.label, .int .i64 h1.pos, .slice q.A q.n q.c] 28) := ⟨_, rfl⟩
        have hbk : Below wr.heap.size wr wk := by rw [hwk]; exact (Below.refl _ _).alloc (Nat.le_refl _) _
        have hks : wk.heap.size = wr.heap.size + 1 := by rw [hwk]; simp
        have BXK := Lib.hid (heap_below hbk (heap_lt hR.bx) hR.bx)
        have BZK := Lib.hid (show wk.heap[wr.heap.size]? = some (.cells #[.int .i8 h1.kind, .string h1.name, .string h1.arg, .int .i64 h1.num, .int .i8 h1.tk, .slice q.TA q.tn q.tc, .int .i8 h1.uk, .slice q.UA q.un q.uc, .int .i64 h1.label, .int .i64 h1.pos, .slice q.A q.n q.c] 28 (0, 0)) by rw [hwk]; exact heap_new _ _)
        have OX := Lib.hid (show w.heap.size < lo' ∨ hi' ≤ w.heap.size by omega)
        have OZ := Lib.hid (show wr.heap.size < lo' ∨ hi' ≤ wr.heap.size by omega)
        have GK := Lib.hid (show g < wk.heap.size by omega)
        have HGO := Lib.hid s4
        have HAB := Lib.hid hpA
        have CROW := Lib.hid (Tm.row (w := wk) (b := g) (o := i * 11) (h := Tm.cnt h1) (p := pk) fun j v hv => by
          have := s5 j v hv
          rw [hbk.cell (p := ⟨g, _, none⟩) (Ty.cell_lt this)]; exact this)
        have FRZ := Lib.hid (show ∀ o, wk.frozen? ⟨g, o, none⟩ = false from fun o => by rw [hbk.frozen (p := ⟨g, o, none⟩) (by show g < wr.heap.size; omega)]; exact hR.froz o)
        have hcell : ∀ j, j < 11 → ∃ v, wr.cell? ⟨g, i * 11 + j, none⟩ = some v := fun j hj => ⟨_, s5 j _ (List.getElem?_eq_getElem (show j < ((Tm.cnt h1).cells pk).length from hj))⟩
        have STEP := Lib.hid (fun (p2 : Pl) (w3 : World) (ha : Apart lo' hi' wk w3) (hs : Tm.SepK w3 (Ca.plH h1) (Ca.plF k1) p2 lo' hi') => PutR.step hR hl4 hm1 hsd s7 s1 s2 s3 s4 ⟨hg1, hg2⟩ hlo ht1 hhi (Nat.le_refl _) (by omega) hcell hwk ha hs)
        have CP := Lib.hid (fun (U : World) (hb : Below wk.heap.size wk U) => HIH.out h1 k1 q pk lo' hi' U (by have := HKK.out; omega) ⟨hfit, hl3⟩ (hbs.trans ((hbk.trans (hb.mono (by omega))).mono (by have := hbs.size; omega))) (by omega) (by have := hb.size; omega) (s6.keep fun b q1 q2 => (hb.block b (by omega)).trans (hbk.block b (by omega))))
        obtain ⟨d0, d1, d2, d3, d4, d5, d6, d7, d8, d9, d10⟩ := Tm.row hcs'
        have j1 : (i : Int) < p.n := by omega
        have j2 : (i : Int) < pb.n := by have := HBN.out; omega
        have HAA := Lib.hid hA
        have HWK := Lib.hid hwk
        obtain ⟨q0, q1, q2, q3, q4, q5, q6, q7, q8, q9, q10, ql⟩ := own11 hR.bx
        clear hR hl3 hl4 hcs hcs' hA hfit hsd hsr s5 s6 s7 hcell hwk hbk hbs
        rw [HAA.out]
        go_upto_region 5 with fail
        rw [← HWK.out]
        clear HWK d0 d1 d2 d3 d4 d5 d6 d7 d8 d9 d10 q0 q1 q2 q3 q4 q5 q6 q7 q8 q9 q10 ql
        refine Rg.region_inv_end2 31 rfl [18, 19, 20, 21, 22, 23, 24, 25, 26, 27, 28] (by kernel_rfl) (by kernel_rfl) (by kernel_rfl) (fun listed a' w' => a'.defers = [] ∧ a'.tmps.size = 31 ∧ (a'.eval (.tmp 2) = .pointer (some ⟨w.heap.size, 0, none⟩) ∧ a'.eval (.tmp 5) = .int .i64 i ∧ a'.eval (.tmp 6) = .pointer (some ⟨wr.heap.size, 0, none⟩)) ∧ ∃ p2, (listed[0]? = some true → a'.eval (.tmp 18) = .pointer (some ⟨w.heap.size, 10, none⟩)) ∧ (listed[1]? = some true → a'.eval (.tmp 19) = .slice (some ⟨g, 0, none⟩) pb.n pb.c ∧ listed[0]? = some true) ∧ (listed[2]? = some true → a'.eval (.tmp 20) = .int .i64 i) ∧ (listed[3]? = some true → a'.eval (.tmp 21) = .pointer (some ⟨w.heap.size, 10, none⟩)) ∧ (listed[4]? = some true → a'.eval (.tmp 22) = .slice (some ⟨g, 0, none⟩) pb.n pb.c ∧ listed[3]? = some true) ∧ (listed[5]? = some true → a'.eval (.tmp 23) = .int .i64 i) ∧ (listed[6]? = some true → a'.eval (.tmp 24) = .pointer (some ⟨g, i * 11, none⟩) ∧ listed[4]? = some true ∧ listed[5]? = some true) ∧ (listed[7]? = some true → a'.eval (.tmp 25) = .agg #[.int .i8 (Tm.cnt h1).kind, .string (Tm.cnt h1).name, .string (Tm.cnt h1).arg, .int .i64 (Tm.cnt h1).num, .int .i8 (Tm.cnt h1).tk, .slice pk.TA pk.tn pk.tc, .int .i8 (Tm.cnt h1).uk, .slice pk.UA pk.un pk.uc, .int .i64 (Tm.cnt h1).label, .int .i64 (Tm.cnt h1).pos, .slice pk.A pk.n pk.c] ∧ listed[6]? = some true) ∧ (listed[8]? = some true → a'.eval (.tmp 26) = .agg #[.int .i8 h1.kind, .string h1.name, .string h1.arg, .int .i64 h1.num, .int .i8 h1.tk, .slice q.TA q.tn q.tc, .int .i8 h1.uk, .slice q.UA q.un q.uc, .int .i64 h1.label, .int .i64 h1.pos, .slice q.A q.n q.c]) ∧ (listed[9]? = some true → a'.eval (.tmp 27) = .agg #[.int .i8 (Ca.plH h1).kind, .string (Ca.plH h1).name, .string (Ca.plH h1).arg, .int .i64 (Ca.plH h1).num, .int .i8 (Ca.plH h1).tk, .slice p2.TA p2.tn p2.tc, .int .i8 (Ca.plH h1).uk, .slice p2.UA p2.un p2.uc, .int .i64 (Ca.plH h1).label, .int .i64 (Ca.plH h1).pos, .slice p2.A p2.n p2.c] ∧ (listed[11]? = some false → Tm.SepK w' (Ca.plH h1) (Ca.plF k1) p2 lo' hi') ∧ listed[7]? = some true ∧ listed[8]? = some true) ∧ (listed[10]? = some true → a'.eval (.tmp 28) = .pointer (some ⟨g, i * 11, none⟩) ∧ listed[1]? = some true ∧ listed[2]? = some true) ∧ (listed[11]? = some true → (listed[0]? = some true ∧ listed[1]? = some true ∧ listed[2]? = some true ∧ listed[3]? = some true ∧ listed[4]? = some true ∧ listed[5]? = some true ∧ listed[6]? = some true ∧ listed[7]? = some true ∧ listed[8]? = some true ∧ listed[9]? = some true ∧ listed[10]? = some true) ∧ ∃ w3, Apart lo' hi' wk w3 ∧ Tm.SepK w3 (Ca.plH h1) (Ca.plF k1) p2 lo' hi' ∧ w' = set11 w3 g (i * 11) (Ca.plH h1) p2) ∧ (listed[9]? = some false → Below wk.heap.size wk w') ∧ (listed[11]? = some false → Apart lo' hi' wk w')) (fun _ _ _ h => h.1) ?_ ?_ ?_
        · exact ⟨rfl, rfl, ⟨rfl, rfl, rfl⟩, ⟨none, 0, 0, none, 0, 0, none, 0, 0⟩, Rg.FH, Rg.FH, Rg.FH, Rg.FH, Rg.FH, Rg.FH, Rg.FH, Rg.FH, Rg.FH, Rg.FH, Rg.FH, Rg.FH, fun _ => (Below.refl _ _).drew, fun _ => .of_below (Below.refl _ _).drew⟩
        · rintro listed a' w' i o ⟨hdf, hsz, hx, p2, y0, y1, y2, y3, y4, y5, y6, y7, y8, y9, y10, y11, hbw, hap⟩ hz hsz0 ho hi' hp
          have hi13 : i < 12 := by
            rcases Nat.lt_or_ge i 12 with q | q
            · exact q
            · rw [Array.getElem?_eq_none (by simpa using q)] at ho; cases ho
          rcases (by omega : i = 0 ∨ i = 1 ∨ i = 2 ∨ i = 3 ∨ i = 4 ∨ i = 5 ∨ i = 6 ∨ i = 7 ∨ i = 8 ∨ i = 9 ∨ i = 10 ∨ i = 11) with rfl | rfl | rfl | rfl | rfl | rfl | rfl | rfl | rfl | rfl | rfl | rfl
          · obtain rfl := Rg.SI ho
            have hS : listed[11]? = some false := Rg.nf (by rw [hz]; decide) (fun q => (y11 q).1.1) hi'
            have hA := hap hS
            have qX := hA.heap BXK.out OX.out
            have qZ := hA.heap BZK.out OZ.out
            obtain ⟨a0, a1, a2, a3, a4, a5, a6, a7, a8, a9, a10, al⟩ := own11 qX
            rw [HAB.out] at a10
            obtain ⟨b0, b1, b2, b3, b4, b5, b6, b7, b8, b9, b10, bl⟩ := own11 qZ
            have hgr : w'.heap[g]? = wk.heap[g]? := hA.block _ GK.out HGO.out
            have hgc : ∀ o, w'.cell? ⟨g, o, none⟩ = wk.cell? ⟨g, o, none⟩ := fun o => World.cell?_of_block hgr
            obtain ⟨c0, c1, c2, c3, c4, c5, c6, c7, c8, c9, c10⟩ := CROW.out
            rw [← hgc] at c0 c1 c2 c3 c4 c5 c6 c7 c8 c9 c10
            have hfz : ∀ o, w'.frozen? ⟨g, o, none⟩ = false := fun o => (World.frozen?_of_block hgr).trans (FRZ.out o)
            clear hgc hgr
            obtain ⟨hx2, hx5, hx6⟩ := hx
            refine Rg.wpOp_at' ho 18 ⟨Rg.pd hdf, Rg.ps hsz, ⟨Rg.pn hx2, Rg.pn hx5, Rg.pn hx6⟩, p2, fun _ => Rg.pS hsz, Rg.kF y1 fun q => ⟨Rg.pn q.1, Rg.set_keep q.2⟩, Rg.kF y2 fun q => Rg.pn q, Rg.kF y3 fun q => Rg.pn q, Rg.kF y4 fun q => ⟨Rg.pn q.1, Rg.set_keep q.2⟩, Rg.kF y5 fun q => Rg.pn q, Rg.kF y6 fun q => ⟨Rg.pn q.1, Rg.set_keep q.2.1, Rg.set_keep q.2.2⟩, Rg.kF y7 fun q => ⟨Rg.pn q.1, Rg.set_keep q.2⟩, Rg.kF y8 fun q => Rg.pn q, Rg.kF y9 fun q => ⟨Rg.pn q.1, Rg.kU q.2.1 fun q => q, Rg.set_keep q.2.2.1, Rg.set_keep q.2.2.2⟩, Rg.kF y10 fun q => ⟨Rg.pn q.1, Rg.set_keep q.2.1, Rg.set_keep q.2.2⟩, fun q => (Rg.no_yet hS q).elim, Rg.kU hbw fun q => q, Rg.kU hap fun q => q⟩ ?_
            clear hdf hp hz hsz hsz0 hi' hi13 hS hbw hap hA y0 y1 y2 y3 y4 y5 y6 y7 y8 y9 y10 y11
            obtain ⟨hcst, hfn⟩ := Rg.evc a'
            generalize a'.eval = ev at *
            go_simp
          · obtain rfl := Rg.SI ho
            have hS : listed[11]? = some false := Rg.nf (by rw [hz]; decide) (fun q => (y11 q).1.2.1) hi'
            have v0 := Rg.hpv hp 0 (by simp)
            have z0 := y0 v0
            have ww0 := z0
            have hA := hap hS
            have qX := hA.heap BXK.out OX.out
            have qZ := hA.heap BZK.out OZ.out
            obtain ⟨a0, a1, a2, a3, a4, a5, a6, a7, a8, a9, a10, al⟩ := own11 qX
            rw [HAB.out] at a10
            obtain ⟨b0, b1, b2, b3, b4, b5, b6, b7, b8, b9, b10, bl⟩ := own11 qZ
            have hgr : w'.heap[g]? = wk.heap[g]? := hA.block _ GK.out HGO.out
            have hgc : ∀ o, w'.cell? ⟨g, o, none⟩ = wk.cell? ⟨g, o, none⟩ := fun o => World.cell?_of_block hgr
            obtain ⟨c0, c1, c2, c3, c4, c5, c6, c7, c8, c9, c10⟩ := CROW.out
            rw [← hgc] at c0 c1 c2 c3 c4 c5 c6 c7 c8 c9 c10
            have hfz : ∀ o, w'.frozen? ⟨g, o, none⟩ = false := fun o => (World.frozen?_of_block hgr).trans (FRZ.out o)
            clear hgc hgr
            obtain ⟨hx2, hx5, hx6⟩ := hx
            refine Rg.wpOp_at' ho 19 ⟨Rg.pd hdf, Rg.ps hsz, ⟨Rg.pn hx2, Rg.pn hx5, Rg.pn hx6⟩, p2, Rg.kF y0 fun q => Rg.pn q, fun _ => ⟨Rg.pS hsz, Rg.set_keep v0⟩, Rg.kF y2 fun q => Rg.pn q, Rg.kF y3 fun q => Rg.pn q, Rg.kF y4 fun q => ⟨Rg.pn q.1, Rg.set_keep q.2⟩, Rg.kF y5 fun q => Rg.pn q, Rg.kF y6 fun q => ⟨Rg.pn q.1, Rg.set_keep q.2.1, Rg.set_keep q.2.2⟩, Rg.kF y7 fun q => ⟨Rg.pn q.1, Rg.set_keep q.2⟩, Rg.kF y8 fun q => Rg.pn q, Rg.kF y9 fun q => ⟨Rg.pn q.1, Rg.kU q.2.1 fun q => q, Rg.set_keep q.2.2.1, Rg.set_keep q.2.2.2⟩, Rg.kF y10 fun q => ⟨Rg.pn q.1, Rg.set_keep q.2.1, Rg.set_keep q.2.2⟩, fun q => (Rg.no_yet hS q).elim, Rg.kU hbw fun q => q, Rg.kU hap fun q => q⟩ ?_
            clear hdf hp hz hsz hsz0 hi' hi13 hS hbw hap hA y0 y1 y2 y3 y4 y5 y6 y7 y8 y9 y10 y11
            obtain ⟨hcst, hfn⟩ := Rg.evc a'
            generalize a'.eval = ev at *
            go_simp
          · obtain rfl := Rg.SI ho
            have hS : listed[11]? = some false := Rg.nf (by rw [hz]; decide) (fun q => (y11 q).1.2.2.1) hi'
            have hA := hap hS
            have qX := hA.heap BXK.out OX.out
            have qZ := hA.heap BZK.out OZ.out
            obtain ⟨a0, a1, a2, a3, a4, a5, a6, a7, a8, a9, a10, al⟩ := own11 qX
            rw [HAB.out] at a10
            obtain ⟨b0, b1, b2, b3, b4, b5, b6, b7, b8, b9, b10, bl⟩ := own11 qZ
            have hgr : w'.heap[g]? = wk.heap[g]? := hA.block _ GK.out HGO.out
            have hgc : ∀ o, w'.cell? ⟨g, o, none⟩ = wk.cell? ⟨g, o, none⟩ := fun o => World.cell?_of_block hgr
            obtain ⟨c0, c1, c2, c3, c4, c5, c6, c7, c8, c9, c10⟩ := CROW.out
            rw [← hgc] at c0 c1 c2 c3 c4 c5 c6 c7 c8 c9 c10
            have hfz : ∀ o, w'.frozen? ⟨g, o, none⟩ = false := fun o => (World.frozen?_of_block hgr).trans (FRZ.out o)
            clear hgc hgr
            obtain ⟨hx2, hx5, hx6⟩ := hx
            refine Rg.wpOp_at' ho 20 ⟨Rg.pd hdf, Rg.ps hsz, ⟨Rg.pn hx2, Rg.pn hx5, Rg.pn hx6⟩, p2, Rg.kF y0 fun q => Rg.pn q, Rg.kF y1 fun q => ⟨Rg.pn q.1, Rg.set_keep q.2⟩, fun _ => Rg.pS hsz, Rg.kF y3 fun q => Rg.pn q, Rg.kF y4 fun q => ⟨Rg.pn q.1, Rg.set_keep q.2⟩, Rg.kF y5 fun q => Rg.pn q, Rg.kF y6 fun q => ⟨Rg.pn q.1, Rg.set_keep q.2.1, Rg.set_keep q.2.2⟩, Rg.kF y7 fun q => ⟨Rg.pn q.1, Rg.set_keep q.2⟩, Rg.kF y8 fun q => Rg.pn q, Rg.kF y9 fun q => ⟨Rg.pn q.1, Rg.kU q.2.1 fun q => q, Rg.set_keep q.2.2.1, Rg.set_keep q.2.2.2⟩, Rg.kF y10 fun q => ⟨Rg.pn q.1, Rg.set_keep q.2.1, Rg.set_keep q.2.2⟩, fun q => (Rg.no_yet hS q).elim, Rg.kU hbw fun q => q, Rg.kU hap fun q => q⟩ ?_
            clear hdf hp hz hsz hsz0 hi' hi13 hS hbw hap hA y0 y1 y2 y3 y4 y5 y6 y7 y8 y9 y10 y11
            obtain ⟨hcst, hfn⟩ := Rg.evc a'
            generalize a'.eval = ev at *
            go_simp
          · obtain rfl := Rg.SI ho
            have hS : listed[11]? = some false := Rg.nf (by rw [hz]; decide) (fun q => (y11 q).1.2.2.2.1) hi'
            have hA := hap hS
            have qX := hA.heap BXK.out OX.out
            have qZ := hA.heap BZK.out OZ.out
            obtain ⟨a0, a1, a2, a3, a4, a5, a6, a7, a8, a9, a10, al⟩ := own11 qX
            rw [HAB.out] at a10
            obtain ⟨b0, b1, b2, b3, b4, b5, b6, b7, b8, b9, b10, bl⟩ := own11 qZ
            have hgr : w'.heap[g]? = wk.heap[g]? := hA.block _ GK.out HGO.out
            have hgc : ∀ o, w'.cell? ⟨g, o, none⟩ = wk.cell? ⟨g, o, none⟩ := fun o => World.cell?_of_block hgr
            obtain ⟨c0, c1, c2, c3, c4, c5, c6, c7, c8, c9, c10⟩ := CROW.out
            rw [← hgc] at c0 c1 c2 c3 c4 c5 c6 c7 c8 c9 c10
            have hfz : ∀ o, w'.frozen? ⟨g, o, none⟩ = false := fun o => (World.frozen?_of_block hgr).trans (FRZ.out o)
            clear hgc hgr
            obtain ⟨hx2, hx5, hx6⟩ := hx
            refine Rg.wpOp_at' ho 21 ⟨Rg.pd hdf, Rg.ps hsz, ⟨Rg.pn hx2, Rg.pn hx5, Rg.pn hx6⟩, p2, Rg.kF y0 fun q => Rg.pn q, Rg.kF y1 fun q => ⟨Rg.pn q.1, Rg.set_keep q.2⟩, Rg.kF y2 fun q => Rg.pn q, fun _ => Rg.pS hsz, Rg.kF y4 fun q => ⟨Rg.pn q.1, Rg.set_keep q.2⟩, Rg.kF y5 fun q => Rg.pn q, Rg.kF y6 fun q => ⟨Rg.pn q.1, Rg.set_keep q.2.1, Rg.set_keep q.2.2⟩, Rg.kF y7 fun q => ⟨Rg.pn q.1, Rg.set_keep q.2⟩, Rg.kF y8 fun q => Rg.pn q, Rg.kF y9 fun q => ⟨Rg.pn q.1, Rg.kU q.2.1 fun q => q, Rg.set_keep q.2.2.1, Rg.set_keep q.2.2.2⟩, Rg.kF y10 fun q => ⟨Rg.pn q.1, Rg.set_keep q.2.1, Rg.set_keep q.2.2⟩, fun q => (Rg.no_yet hS q).elim, Rg.kU hbw fun q => q, Rg.kU hap fun q => q⟩ ?_
            clear hdf hp hz hsz hsz0 hi' hi13 hS hbw hap hA y0 y1 y2 y3 y4 y5 y6 y7 y8 y9 y10 y11
            obtain ⟨hcst, hfn⟩ := Rg.evc a'
            generalize a'.eval = ev at *
            go_simp
          · obtain rfl := Rg.SI ho
            have hS : listed[11]? = some false := Rg.nf (by rw [hz]; decide) (fun q => (y11 q).1.2.2.2.2.1) hi'
            have v3 := Rg.hpv hp 3 (by simp)
            have z3 := y3 v3
            have ww3 := z3
            have hA := hap hS
            have qX := hA.heap BXK.out OX.out
            have qZ := hA.heap BZK.out OZ.out
            obtain ⟨a0, a1, a2, a3, a4, a5, a6, a7, a8, a9, a10, al⟩ := own11 qX
            rw [HAB.out] at a10
            obtain ⟨b0, b1, b2, b3, b4, b5, b6, b7, b8, b9, b10, bl⟩ := own11 qZ
            have hgr : w'.heap[g]? = wk.heap[g]? := hA.block _ GK.out HGO.out
            have hgc : ∀ o, w'.cell? ⟨g, o, none⟩ = wk.cell? ⟨g, o, none⟩ := fun o => World.cell?_of_block hgr
            obtain ⟨c0, c1, c2, c3, c4, c5, c6, c7, c8, c9, c10⟩ := CROW.out
            rw [← hgc] at c0 c1 c2 c3 c4 c5 c6 c7 c8 c9 c10
            have hfz : ∀ o, w'.frozen? ⟨g, o, none⟩ = false := fun o => (World.frozen?_of_block hgr).trans (FRZ.out o)
            clear hgc hgr
            obtain ⟨hx2, hx5, hx6⟩ := hx
            refine Rg.wpOp_at' ho 22 ⟨Rg.pd hdf, Rg.ps hsz, ⟨Rg.pn hx2, Rg.pn hx5, Rg.pn hx6⟩, p2, Rg.kF y0 fun q => Rg.pn q, Rg.kF y1 fun q => ⟨Rg.pn q.1, Rg.set_keep q.2⟩, Rg.kF y2 fun q => Rg.pn q, Rg.kF y3 fun q => Rg.pn q, fun _ => ⟨Rg.pS hsz, Rg.set_keep v3⟩, Rg.kF y5 fun q => Rg.pn q, Rg.kF y6 fun q => ⟨Rg.pn q.1, Rg.set_keep q.2.1, Rg.set_keep q.2.2⟩, Rg.kF y7 fun q => ⟨Rg.pn q.1, Rg.set_keep q.2⟩, Rg.kF y8 fun q => Rg.pn q, Rg.kF y9 fun q => ⟨Rg.pn q.1, Rg.kU q.2.1 fun q => q, Rg.set_keep q.2.2.1, Rg.set_keep q.2.2.2⟩, Rg.kF y10 fun q => ⟨Rg.pn q.1, Rg.set_keep q.2.1, Rg.set_keep q.2.2⟩, fun q => (Rg.no_yet hS q).elim, Rg.kU hbw fun q => q, Rg.kU hap fun q => q⟩ ?_
            clear hdf hp hz hsz hsz0 hi' hi13 hS hbw hap hA y0 y1 y2 y3 y4 y5 y6 y7 y8 y9 y10 y11
            obtain ⟨hcst, hfn⟩ := Rg.evc a'
            generalize a'.eval = ev at *
            go_simp
          · obtain rfl := Rg.SI ho
            have hS : listed[11]? = some false := Rg.nf (by rw [hz]; decide) (fun q => (y11 q).1.2.2.2.2.2.1) hi'
            have hA := hap hS
            have qX := hA.heap BXK.out OX.out
            have qZ := hA.heap BZK.out OZ.out
            obtain ⟨a0, a1, a2, a3, a4, a5, a6, a7, a8, a9, a10, al⟩ := own11 qX
            rw [HAB.out] at a10
            obtain ⟨b0, b1, b2, b3, b4, b5, b6, b7, b8, b9, b10, bl⟩ := own11 qZ
            have hgr : w'.heap[g]? = wk.heap[g]? := hA.block _ GK.out HGO.out
            have hgc : ∀ o, w'.cell? ⟨g, o, none⟩ = wk.cell? ⟨g, o, none⟩ := fun o => World.cell?_of_block hgr
            obtain ⟨c0, c1, c2, c3, c4, c5, c6, c7, c8, c9, c10⟩ := CROW.out
            rw [← hgc] at c0 c1 c2 c3 c4 c5 c6 c7 c8 c9 c10
            have hfz : ∀ o, w'.frozen? ⟨g, o, none⟩ = false := fun o => (World.frozen?_of_block hgr).trans (FRZ.out o)
            clear hgc hgr
            obtain ⟨hx2, hx5, hx6⟩ := hx
            refine Rg.wpOp_at' ho 23 ⟨Rg.pd hdf, Rg.ps hsz, ⟨Rg.pn hx2, Rg.pn hx5, Rg.pn hx6⟩, p2, Rg.kF y0 fun q => Rg.pn q, Rg.kF y1 fun q => ⟨Rg.pn q.1, Rg.set_keep q.2⟩, Rg.kF y2 fun q => Rg.pn q, Rg.kF y3 fun q => Rg.pn q, Rg.kF y4 fun q => ⟨Rg.pn q.1, Rg.set_keep q.2⟩, fun _ => Rg.pS hsz, Rg.kF y6 fun q => ⟨Rg.pn q.1, Rg.set_keep q.2.1, Rg.set_keep q.2.2⟩, Rg.kF y7 fun q => ⟨Rg.pn q.1, Rg.set_keep q.2⟩, Rg.kF y8 fun q => Rg.pn q, Rg.kF y9 fun q => ⟨Rg.pn q.1, Rg.kU q.2.1 fun q => q, Rg.set_keep q.2.2.1, Rg.set_keep q.2.2.2⟩, Rg.kF y10 fun q => ⟨Rg.pn q.1, Rg.set_keep q.2.1, Rg.set_keep q.2.2⟩, fun q => (Rg.no_yet hS q).elim, Rg.kU hbw fun q => q, Rg.kU hap fun q => q⟩ ?_
            clear hdf hp hz hsz hsz0 hi' hi13 hS hbw hap hA y0 y1 y2 y3 y4 y5 y6 y7 y8 y9 y10 y11
            obtain ⟨hcst, hfn⟩ := Rg.evc a'
            generalize a'.eval = ev at *
            go_simp
          · obtain rfl := Rg.SI ho
            have hS : listed[11]? = some false := Rg.nf (by rw [hz]; decide) (fun q => (y11 q).1.2.2.2.2.2.2.1) hi'
            have v4 := Rg.hpv hp 4 (by simp)
            have v5 := Rg.hpv hp 5 (by simp)
            have z4 := y4 v4
            have ww4 := z4.1
            have z5 := y5 v5
            have ww5 := z5
            have hA := hap hS
            have qX := hA.heap BXK.out OX.out
            have qZ := hA.heap BZK.out OZ.out
            obtain ⟨a0, a1, a2, a3, a4, a5, a6, a7, a8, a9, a10, al⟩ := own11 qX
            rw [HAB.out] at a10
            obtain ⟨b0, b1, b2, b3, b4, b5, b6, b7, b8, b9, b10, bl⟩ := own11 qZ
            have hgr : w'.heap[g]? = wk.heap[g]? := hA.block _ GK.out HGO.out
            have hgc : ∀ o, w'.cell? ⟨g, o, none⟩ = wk.cell? ⟨g, o, none⟩ := fun o => World.cell?_of_block hgr
            obtain ⟨c0, c1, c2, c3, c4, c5, c6, c7, c8, c9, c10⟩ := CROW.out
            rw [← hgc] at c0 c1 c2 c3 c4 c5 c6 c7 c8 c9 c10
            have hfz : ∀ o, w'.frozen? ⟨g, o, none⟩ = false := fun o => (World.frozen?_of_block hgr).trans (FRZ.out o)
            clear hgc hgr
            obtain ⟨hx2, hx5, hx6⟩ := hx
            refine Rg.wpOp_at' ho 24 ⟨Rg.pd hdf, Rg.ps hsz, ⟨Rg.pn hx2, Rg.pn hx5, Rg.pn hx6⟩, p2, Rg.kF y0 fun q => Rg.pn q, Rg.kF y1 fun q => ⟨Rg.pn q.1, Rg.set_keep q.2⟩, Rg.kF y2 fun q => Rg.pn q, Rg.kF y3 fun q => Rg.pn q, Rg.kF y4 fun q => ⟨Rg.pn q.1, Rg.set_keep q.2⟩, Rg.kF y5 fun q => Rg.pn q, fun _ => ⟨Rg.pS hsz, Rg.set_keep v4, Rg.set_keep v5⟩, Rg.kF y7 fun q => ⟨Rg.pn q.1, Rg.set_keep q.2⟩, Rg.kF y8 fun q => Rg.pn q, Rg.kF y9 fun q => ⟨Rg.pn q.1, Rg.kU q.2.1 fun q => q, Rg.set_keep q.2.2.1, Rg.set_keep q.2.2.2⟩, Rg.kF y10 fun q => ⟨Rg.pn q.1, Rg.set_keep q.2.1, Rg.set_keep q.2.2⟩, fun q => (Rg.no_yet hS q).elim, Rg.kU hbw fun q => q, Rg.kU hap fun q => q⟩ ?_
            clear hdf hp hz hsz hsz0 hi' hi13 hS hbw hap hA y0 y1 y2 y3 y4 y5 y6 y7 y8 y9 y10 y11
            obtain ⟨hcst, hfn⟩ := Rg.evc a'
            generalize a'.eval = ev at *
            go_simp
          · obtain rfl := Rg.SI ho
            have hS : listed[11]? = some false := Rg.nf (by rw [hz]; decide) (fun q => (y11 q).1.2.2.2.2.2.2.2.1) hi'
            have v6 := Rg.hpv hp 6 (by simp)
            have z6 := y6 v6
            have ww6 := z6.1
            have hA := hap hS
            have qX := hA.heap BXK.out OX.out
            have qZ := hA.heap BZK.out OZ.out
            obtain ⟨a0, a1, a2, a3, a4, a5, a6, a7, a8, a9, a10, al⟩ := own11 qX
            rw [HAB.out] at a10
            obtain ⟨b0, b1, b2, b3, b4, b5, b6, b7, b8, b9, b10, bl⟩ := own11 qZ
            have hgr : w'.heap[g]? = wk.heap[g]? := hA.block _ GK.out HGO.out
            have hgc : ∀ o, w'.cell? ⟨g, o, none⟩ = wk.cell? ⟨g, o, none⟩ := fun o => World.cell?_of_block hgr
            obtain ⟨c0, c1, c2, c3, c4, c5, c6, c7, c8, c9, c10⟩ := CROW.out
            rw [← hgc] at c0 c1 c2 c3 c4 c5 c6 c7 c8 c9 c10
            have hfz : ∀ o, w'.frozen? ⟨g, o, none⟩ = false := fun o => (World.frozen?_of_block hgr).trans (FRZ.out o)
            clear hgc hgr
            obtain ⟨hx2, hx5, hx6⟩ := hx
            refine Rg.wpOp_at' ho 25 ⟨Rg.pd hdf, Rg.ps hsz, ⟨Rg.pn hx2, Rg.pn hx5, Rg.pn hx6⟩, p2, Rg.kF y0 fun q => Rg.pn q, Rg.kF y1 fun q => ⟨Rg.pn q.1, Rg.set_keep q.2⟩, Rg.kF y2 fun q => Rg.pn q, Rg.kF y3 fun q => Rg.pn q, Rg.kF y4 fun q => ⟨Rg.pn q.1, Rg.set_keep q.2⟩, Rg.kF y5 fun q => Rg.pn q, Rg.kF y6 fun q => ⟨Rg.pn q.1, Rg.set_keep q.2.1, Rg.set_keep q.2.2⟩, fun _ => ⟨Rg.pS hsz, Rg.set_keep v6⟩, Rg.kF y8 fun q => Rg.pn q, Rg.kF y9 fun q => ⟨Rg.pn q.1, Rg.kU q.2.1 fun q => q, Rg.set_keep q.2.2.1, Rg.set_keep q.2.2.2⟩, Rg.kF y10 fun q => ⟨Rg.pn q.1, Rg.set_keep q.2.1, Rg.set_keep q.2.2⟩, fun q => (Rg.no_yet hS q).elim, Rg.kU hbw fun q => q, Rg.kU hap fun q => q⟩ ?_
            clear hdf hp hz hsz hsz0 hi' hi13 hS hbw hap hA y0 y1 y2 y3 y4 y5 y6 y7 y8 y9 y10 y11
            obtain ⟨hcst, hfn⟩ := Rg.evc a'
            generalize a'.eval = ev at *
            go_simp
          · obtain rfl := Rg.SI ho
            have hS : listed[11]? = some false := Rg.nf (by rw [hz]; decide) (fun q => (y11 q).1.2.2.2.2.2.2.2.2.1) hi'
            have hA := hap hS
            have qX := hA.heap BXK.out OX.out
            have qZ := hA.heap BZK.out OZ.out
            obtain ⟨a0, a1, a2, a3, a4, a5, a6, a7, a8, a9, a10, al⟩ := own11 qX
            rw [HAB.out] at a10
            obtain ⟨b0, b1, b2, b3, b4, b5, b6, b7, b8, b9, b10, bl⟩ := own11 qZ
            have hgr : w'.heap[g]? = wk.heap[g]? := hA.block _ GK.out HGO.out
            have hgc : ∀ o, w'.cell? ⟨g, o, none⟩ = wk.cell? ⟨g, o, none⟩ := fun o => World.cell?_of_block hgr
            obtain ⟨c0, c1, c2, c3, c4, c5, c6, c7, c8, c9, c10⟩ := CROW.out
            rw [← hgc] at c0 c1 c2 c3 c4 c5 c6 c7 c8 c9 c10
            have hfz : ∀ o, w'.frozen? ⟨g, o, none⟩ = false := fun o => (World.frozen?_of_block hgr).trans (FRZ.out o)
            clear hgc hgr
            obtain ⟨hx2, hx5, hx6⟩ := hx
            refine Rg.wpOp_at' ho 26 ⟨Rg.pd hdf, Rg.ps hsz, ⟨Rg.pn hx2, Rg.pn hx5, Rg.pn hx6⟩, p2, Rg.kF y0 fun q => Rg.pn q, Rg.kF y1 fun q => ⟨Rg.pn q.1, Rg.set_keep q.2⟩, Rg.kF y2 fun q => Rg.pn q, Rg.kF y3 fun q => Rg.pn q, Rg.kF y4 fun q => ⟨Rg.pn q.1, Rg.set_keep q.2⟩, Rg.kF y5 fun q => Rg.pn q, Rg.kF y6 fun q => ⟨Rg.pn q.1, Rg.set_keep q.2.1, Rg.set_keep q.2.2⟩, Rg.kF y7 fun q => ⟨Rg.pn q.1, Rg.set_keep q.2⟩, fun _ => Rg.pS hsz, Rg.kF y9 fun q => ⟨Rg.pn q.1, Rg.kU q.2.1 fun q => q, Rg.set_keep q.2.2.1, Rg.set_keep q.2.2.2⟩, Rg.kF y10 fun q => ⟨Rg.pn q.1, Rg.set_keep q.2.1, Rg.set_keep q.2.2⟩, fun q => (Rg.no_yet hS q).elim, Rg.kU hbw fun q => q, Rg.kU hap fun q => q⟩ ?_
            clear hdf hp hz hsz hsz0 hi' hi13 hS hbw hap hA y0 y1 y2 y3 y4 y5 y6 y7 y8 y9 y10 y11
            obtain ⟨hcst, hfn⟩ := Rg.evc a'
            generalize a'.eval = ev at *
            go_simp
          · obtain rfl := Rg.SI ho
            have hS : listed[11]? = some false := Rg.nf (by rw [hz]; decide) (fun q => (y11 q).1.2.2.2.2.2.2.2.2.2.1) hi'
            have v7 := Rg.hpv hp 7 (by simp)
            have v8 := Rg.hpv hp 8 (by simp)
            have z7 := y7 v7
            have ww7 := z7.1
            have z8 := y8 v8
            have ww8 := z8
            have hA := hap hS
            have qX := hA.heap BXK.out OX.out
            have qZ := hA.heap BZK.out OZ.out
            obtain ⟨a0, a1, a2, a3, a4, a5, a6, a7, a8, a9, a10, al⟩ := own11 qX
            rw [HAB.out] at a10
            obtain ⟨b0, b1, b2, b3, b4, b5, b6, b7, b8, b9, b10, bl⟩ := own11 qZ
            have hgr : w'.heap[g]? = wk.heap[g]? := hA.block _ GK.out HGO.out
            have hgc : ∀ o, w'.cell? ⟨g, o, none⟩ = wk.cell? ⟨g, o, none⟩ := fun o => World.cell?_of_block hgr
            obtain ⟨c0, c1, c2, c3, c4, c5, c6, c7, c8, c9, c10⟩ := CROW.out
            rw [← hgc] at c0 c1 c2 c3 c4 c5 c6 c7 c8 c9 c10
            have hfz : ∀ o, w'.frozen? ⟨g, o, none⟩ = false := fun o => (World.frozen?_of_block hgr).trans (FRZ.out o)
            clear hgc hgr
            obtain ⟨hx2, hx5, hx6⟩ := hx
            have hB := hbw hi'
            refine Rg.wpOp_call ho 27 (CP.out w' hB) (fun e u hg => ?_) ?_
            · obtain ⟨p3, rfl, hs3, hb⟩ := hg
              exact ⟨_, rfl, Rg.pd hdf, Rg.ps hsz, ⟨Rg.pn hx2, Rg.pn hx5, Rg.pn hx6⟩, p3, Rg.kF y0 fun q => Rg.pn q, Rg.kF y1 fun q => ⟨Rg.pn q.1, Rg.set_keep q.2⟩, Rg.kF y2 fun q => Rg.pn q, Rg.kF y3 fun q => Rg.pn q, Rg.kF y4 fun q => ⟨Rg.pn q.1, Rg.set_keep q.2⟩, Rg.kF y5 fun q => Rg.pn q, Rg.kF y6 fun q => ⟨Rg.pn q.1, Rg.set_keep q.2.1, Rg.set_keep q.2.2⟩, Rg.kF y7 fun q => ⟨Rg.pn q.1, Rg.set_keep q.2⟩, Rg.kF y8 fun q => Rg.pn q, fun _ => ⟨Rg.pS hsz, fun _ => hs3, Rg.set_keep v7, Rg.set_keep v8⟩, Rg.kF y10 fun q => ⟨Rg.pn q.1, Rg.set_keep q.2.1, Rg.set_keep q.2.2⟩, fun q => (Rg.no_yet hS q).elim, fun q => (Rg.set_self_false q).elim, fun _ => (Apart.of_below hB).trans hb⟩
            · clear hdf hp hz hsz hsz0 hi' hi13 hS hbw hap hA hB y0 y1 y2 y3 y4 y5 y6 y7 y8 y9 y10 y11
              obtain ⟨hcst, hfn⟩ := Rg.evc a'
              generalize a'.eval = ev at *
              go_simp
              try (first | rfl | exact ⟨rfl, rfl⟩ | exact ⟨rfl, rfl, rfl⟩)
          · obtain rfl := Rg.SI ho
            have hS : listed[11]? = some false := Rg.nf (by rw [hz]; decide) (fun q => (y11 q).1.2.2.2.2.2.2.2.2.2.2) hi'
            have v1 := Rg.hpv hp 1 (by simp)
            have v2 := Rg.hpv hp 2 (by simp)
            have z1 := y1 v1
            have ww1 := z1.1
            have z2 := y2 v2
            have ww2 := z2
            have hA := hap hS
            have qX := hA.heap BXK.out OX.out
            have qZ := hA.heap BZK.out OZ.out
            obtain ⟨a0, a1, a2, a3, a4, a5, a6, a7, a8, a9, a10, al⟩ := own11 qX
            rw [HAB.out] at a10
            obtain ⟨b0, b1, b2, b3, b4, b5, b6, b7, b8, b9, b10, bl⟩ := own11 qZ
            have hgr : w'.heap[g]? = wk.heap[g]? := hA.block _ GK.out HGO.out
            have hgc : ∀ o, w'.cell? ⟨g, o, none⟩ = wk.cell? ⟨g, o, none⟩ := fun o => World.cell?_of_block hgr
            obtain ⟨c0, c1, c2, c3, c4, c5, c6, c7, c8, c9, c10⟩ := CROW.out
            rw [← hgc] at c0 c1 c2 c3 c4 c5 c6 c7 c8 c9 c10
            have hfz : ∀ o, w'.frozen? ⟨g, o, none⟩ = false := fun o => (World.frozen?_of_block hgr).trans (FRZ.out o)
            clear hgc hgr
            obtain ⟨hx2, hx5, hx6⟩ := hx
            refine Rg.wpOp_at' ho 28 ⟨Rg.pd hdf, Rg.ps hsz, ⟨Rg.pn hx2, Rg.pn hx5, Rg.pn hx6⟩, p2, Rg.kF y0 fun q => Rg.pn q, Rg.kF y1 fun q => ⟨Rg.pn q.1, Rg.set_keep q.2⟩, Rg.kF y2 fun q => Rg.pn q, Rg.kF y3 fun q => Rg.pn q, Rg.kF y4 fun q => ⟨Rg.pn q.1, Rg.set_keep q.2⟩, Rg.kF y5 fun q => Rg.pn q, Rg.kF y6 fun q => ⟨Rg.pn q.1, Rg.set_keep q.2.1, Rg.set_keep q.2.2⟩, Rg.kF y7 fun q => ⟨Rg.pn q.1, Rg.set_keep q.2⟩, Rg.kF y8 fun q => Rg.pn q, Rg.kF y9 fun q => ⟨Rg.pn q.1, Rg.kU q.2.1 fun q => q, Rg.set_keep q.2.2.1, Rg.set_keep q.2.2.2⟩, fun _ => ⟨Rg.pS hsz, Rg.set_keep v1, Rg.set_keep v2⟩, fun q => (Rg.no_yet hS q).elim, Rg.kU hbw fun q => q, Rg.kU hap fun q => q⟩ ?_
            clear hdf hp hz hsz hsz0 hi' hi13 hS hbw hap hA y0 y1 y2 y3 y4 y5 y6 y7 y8 y9 y10 y11
            obtain ⟨hcst, hfn⟩ := Rg.evc a'
            generalize a'.eval = ev at *
            go_simp
          · obtain rfl := Rg.SI ho
            have v9 := Rg.hpv hp 9 (by simp)
            have v10 := Rg.hpv hp 10 (by simp)
            have z9 := y9 v9
            have ww9 := z9.1
            have z10 := y10 v10
            have ww10 := z10.1
            have v7 := z9.2.2.1
            have z7 := y7 v7
            have v8 := z9.2.2.2
            have z8 := y8 v8
            have v1 := z10.2.1
            have z1 := y1 v1
            have v2 := z10.2.2
            have z2 := y2 v2
            have v6 := z7.2
            have z6 := y6 v6
            have v0 := z1.2
            have z0 := y0 v0
            have v4 := z6.2.1
            have z4 := y4 v4
            have v5 := z6.2.2
            have z5 := y5 v5
            have v3 := z4.2
            have z3 := y3 v3
            have hA := hap hi'
            have qX := hA.heap BXK.out OX.out
            have qZ := hA.heap BZK.out OZ.out
            obtain ⟨a0, a1, a2, a3, a4, a5, a6, a7, a8, a9, a10, al⟩ := own11 qX
            rw [HAB.out] at a10
            obtain ⟨b0, b1, b2, b3, b4, b5, b6, b7, b8, b9, b10, bl⟩ := own11 qZ
            have hgr : w'.heap[g]? = wk.heap[g]? := hA.block _ GK.out HGO.out
            have hgc : ∀ o, w'.cell? ⟨g, o, none⟩ = wk.cell? ⟨g, o, none⟩ := fun o => World.cell?_of_block hgr
            obtain ⟨c0, c1, c2, c3, c4, c5, c6, c7, c8, c9, c10⟩ := CROW.out
            rw [← hgc] at c0 c1 c2 c3 c4 c5 c6 c7 c8 c9 c10
            have hfz : ∀ o, w'.frozen? ⟨g, o, none⟩ = false := fun o => (World.frozen?_of_block hgr).trans (FRZ.out o)
            clear hgc hgr
            obtain ⟨hx2, hx5, hx6⟩ := hx
            have f0 := hfz (i * 11)
            have f1 := hfz (i * 11 + 1)
            have f2 := hfz (i * 11 + 2)
            have f3 := hfz (i * 11 + 3)
            have f4 := hfz (i * 11 + 4)
            have f5 := hfz (i * 11 + 5)
            have f6 := hfz (i * 11 + 6)
            have f7 := hfz (i * 11 + 7)
            have f8 := hfz (i * 11 + 8)
            have f9 := hfz (i * 11 + 9)
            have f10 := hfz (i * 11 + 10)
            clear hfz
            refine Rg.wpOp_store ho (w2 := set11 w' g (i * 11) (Ca.plH h1) p2) ⟨hdf, hsz, ⟨hx2, hx5, hx6⟩, p2, Rg.kF y0 fun q => q, Rg.kF y1 fun q => ⟨q.1, Rg.set_keep q.2⟩, Rg.kF y2 fun q => q, Rg.kF y3 fun q => q, Rg.kF y4 fun q => ⟨q.1, Rg.set_keep q.2⟩, Rg.kF y5 fun q => q, Rg.kF y6 fun q => ⟨q.1, Rg.set_keep q.2.1, Rg.set_keep q.2.2⟩, Rg.kF y7 fun q => ⟨q.1, Rg.set_keep q.2⟩, Rg.kF y8 fun q => q, Rg.kF y9 fun q => ⟨q.1, fun e => (Rg.set_self_false e).elim, Rg.set_keep q.2.2.1, Rg.set_keep q.2.2.2⟩, Rg.kF y10 fun q => ⟨q.1, Rg.set_keep q.2.1, Rg.set_keep q.2.2⟩, fun _ => ⟨⟨Rg.set_keep v0, Rg.set_keep v1, Rg.set_keep v2, Rg.set_keep v3, Rg.set_keep v4, Rg.set_keep v5, Rg.set_keep v6, Rg.set_keep v7, Rg.set_keep v8, Rg.set_keep v9, Rg.set_keep v10⟩, w', hA, (y9 v9).2.1 hi', rfl⟩, fun q => (Rg.no_false (Rg.set_keep v9) q).elim, fun q => (Rg.set_self_false q).elim⟩ ?_
            clear hdf hp hz hsz hsz0 hi' hi13 hbw hap hA y0 y1 y2 y3 y4 y5 y6 y7 y8 y9 y10 y11
            obtain ⟨hcst, hfn⟩ := Rg.evc a'
            generalize a'.eval = ev at *
            go_simp
            exact (set11_at _ _ _ _ _).symm
        · rintro listed u w' t ht hu ⟨-, -, -, p2, y0, y1, y2, y3, y4, y5, y6, y7, y8, y9, y10, y11, hbw, hap⟩ hall
          obtain ⟨-, w3, hap3, hs3, hw3⟩ := y11 (hall 11 (by decide))
          have HST := Lib.hid (STEP.out p2 w3 hap3 hs3)
          rw [← hw3] at HST
          clear y0 y1 y2 y3 y4 y5 y6 y7 y8 y9 y10 y11 hbw hap hall hu hap3 hs3 hw3
          simp only [over, List.setIfInBounds_toArray, List.set_cons_succ, List.set_cons_zero] at ht
          subst ht
          go_wp2_with fail
          go_roundw
          case rel => exact ⟨i + 1, _, r, by go_num, HAA.out ▸ HST.out⟩
          case measure => simp [intOf]; omega

end Go.Proofs.YtfkbdpehdabepaaGreatDoor
