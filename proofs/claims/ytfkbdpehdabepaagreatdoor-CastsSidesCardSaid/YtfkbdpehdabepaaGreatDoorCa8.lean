/-
  casts.erased: a term without its casts, in its own memory.
-/
import Derived.Test.YtfkbdpehdabepaaGreatDoorCa5
namespace Go.Proofs.YtfkbdpehdabepaaGreatDoor
open Go.RowKit
namespace Ca
theorem least {S : Nat → Prop} (k : Nat) (hk : S k) : ∃ n, S n ∧ ∀ m, S m → n ≤ m := by
  induction k using Nat.strongRecOn with
  | _ k ih =>
    by_cases h : ∃ j, j < k ∧ S j
    · obtain ⟨j, hj, hS⟩ := h; exact ih j hj hS
    · exact ⟨k, hk, fun m hm => Nat.le_of_not_lt fun q => h ⟨m, q, hm⟩⟩
/-- each Cast has one kid -/
def c1F : Tm → Bool
  | .nil => true
  | .node h k r => (!(isC h) || Tm.len k == 1) && c1F k && c1F r
theorem c1_ok : ∀ f : Tm, Tm.okF f = true → c1F f = true
  | .nil, _ => rfl
  | .node h k r, ho => by
    simp only [Tm.okF, Bool.and_eq_true] at ho
    simp only [c1F, Bool.and_eq_true]
    refine ⟨⟨?_, c1_ok k ho.1.2⟩, c1_ok r ho.2⟩
    by_cases e : h.kind = 17
    · rw [(cast_ok e ho.1.1).1]; simp
    · rw [isC_no e]; rfl
theorem kid1c {h : Hd} {k : Tm} (e : h.kind = 17) (ho : (!(isC h) || Tm.len k == 1) = true) : ∃ h1 k1, k = .node h1 k1 .nil := len1 (by simpa [isC_of e] using ho)
/-- the first loop's state: some term within, casts alone being around it -/
def ErS (w : World) (lo hi X R : Nat) (eh : Hd) (ek : Tm) (nk : Nat) (wr : World) (n : Nat) : Prop :=
  ∃ (h' : Hd) (k' : Tm) (p' : Pl) (lo' hi' : Nat), wr.heap[X]? = some (.cells #[.int .i8 h'.kind, .string h'.name, .string h'.arg, .int .i64 h'.num, .int .i8 h'.tk, .slice p'.TA p'.tn p'.tc, .int .i8 h'.uk, .slice p'.UA p'.un p'.uc, .int .i64 h'.label, .int .i64 h'.pos, .slice p'.A p'.n p'.c] 28 (0, 0)) ∧ wr.heap[R]? = some (.cells #[.int .i8 0, .string ⟨#[]⟩, .string ⟨#[]⟩, .int .i64 0, .int .i8 0, .slice none 0 0, .int .i8 0, .slice none 0 0, .int .i64 0, .int .i64 0, .slice none 0 0] 28 (0, 0)) ∧ Tm.SepK wr h' k' p' lo' hi' ∧ lo ≤ lo' ∧ hi' ≤ hi ∧ Ca.c1F (.node h' k' .nil) = true ∧ erH h' k' = eh ∧ erK h' k' = ek ∧ Tm.nodes k' = n ∧ Tm.nodes k' ≤ nk ∧ Below w.heap.size w wr
theorem erH_no {h : Hd} {k : Tm} (e : ¬ h.kind = 17) : erH h k = h := by unfold erH; rw [if_neg e]
theorem erK_no {h : Hd} {k : Tm} (e : ¬ h.kind = 17) : erK h k = erF k := by unfold erK; rw [if_neg e]
theorem er_cast {h h1 : Hd} {k1 : Tm} (e : h.kind = 17) : erH h (.node h1 k1 .nil) = erH h1 k1 ∧ erK h (.node h1 k1 .nil) = erK h1 k1 := by
  constructor
  · rw [erH, if_pos e, erF_node]; rfl
  · rw [erK, if_pos e, erF_node]; rfl
end Ca
/-- the state of the loop over a term's kids: X, Y are boxes of the function's own -/
structure ErR (w wr : World) (a : Hd) (pb : Pl) (all : Tm) (n nk lo t hi g X Y i : Nat) (obX obY : Obj) (done rest : Tm) : Prop where
  eq : Tm.app done (Ca.erF rest) = all
  len : Tm.len done = i
  i_eq : i + Tm.len rest = n
  sub : Tm.nodes rest ≤ nk
  ok : Ca.c1F rest = true
  apart : Apart lo hi w wr
  ty : Tm.Fit (mask (rng lo t) wr) a pb n
  froz : ∀ o, wr.frozen? ⟨g, o, none⟩ = false
  bx : wr.heap[X]? = some obX
  by' : wr.heap[Y]? = some obY
  mid : ∃ m, t ≤ m ∧ m ≤ hi ∧ Tm.SepF wr g done 0 t m ∧ Tm.SepF wr g rest i m hi
theorem ErR.step {w wr wk w3 : World} {a : Hd} {pb : Pl} {all : Tm} {n nk lo t hi g X Y i : Nat} {obX obY ok : Obj} {done r k1 : Tm} {h1 : Hd} {p2 : Pl} {m lo' hi' : Nat}
    (e : ErR w wr a pb all n nk lo t hi g X Y i obX obY done (.node h1 k1 r)) (hm1 : t ≤ m) (hd : Tm.SepF wr g done 0 t m) (hr : Tm.SepF wr g r (i + 1) hi' hi) (h1' : m ≤ lo') (h2' : lo' ≤ hi') (h3' : hi' ≤ hi) (hgo : g < lo' ∨ hi' ≤ g)
    (hg : t ≤ g ∧ g < hi) (hlt : lo ≤ t) (hhi : hi ≤ w.heap.size) (hX : w.heap.size ≤ X) (hY : w.heap.size ≤ Y)
    (hcell : ∀ j, j < 11 → ∃ v, wr.cell? ⟨g, i * 11 + j, none⟩ = some v) (hwk : wk = wr.alloc ok) (ha : Apart lo' hi' wk w3) (hs : Tm.SepK w3 (Ca.erH h1 k1) (Ca.erK h1 k1) p2 lo' hi') :
    ErR w (set11 w3 g (i * 11) (Ca.erH h1 k1) p2) a pb all n nk lo t hi g X Y (i + 1) obX obY (Tm.app done (.node (Ca.erH h1 k1) (Ca.erK h1 k1) .nil)) r := by
  obtain ⟨e1, e2, e3, e5, eo, e6, e8, e9, e10, e11, -⟩ := e
  rw [Ca.erF_node] at e1
  simp only [Tm.len, Tm.nodes] at e3 e5
  simp only [Ca.c1F, Bool.and_eq_true] at eo
  have hks : wk.heap.size = wr.heap.size + 1 := by rw [hwk]; simp
  have hrs := e6.size
  have hkb : ∀ b, b < wr.heap.size → wk.heap[b]? = wr.heap[b]? := fun b hb => by rw [hwk]; exact Below.heap_alloc _ _ _ hb
  have h3k : ∀ b, b < wr.heap.size → b < lo' ∨ hi' ≤ b → w3.heap[b]? = wr.heap[b]? := fun b hb ho => (ha.block b (by omega) ho).trans (hkb b hb)
  have hfin : ∀ b, b < wr.heap.size → b < lo' ∨ hi' ≤ b → b ≠ g → (set11 w3 g (i * 11) (Ca.erH h1 k1) p2).heap[b]? = wr.heap[b]? := fun b hb ho hne => (set11_heap _ _ _ _ _ b hne).trans (h3k b hb ho)
  have hap : Apart lo hi w w3 := (e6.trans (Apart.of_below (by rw [hwk]; exact (Below.refl _ _).alloc (Nat.le_refl _) _))).trans (ha.mono (by omega) h3')
  have hg3 : ∀ o, w3.cell? ⟨g, o, none⟩ = wr.cell? ⟨g, o, none⟩ := fun o => World.cell?_of_block (h3k g (by omega) hgo)
  have hbX : (set11 w3 g (i * 11) (Ca.erH h1 k1) p2).heap[X]? = some obX := by rw [hfin X (heap_lt e10) (by omega) (by omega)]; exact e10
  have hbY : (set11 w3 g (i * 11) (Ca.erH h1 k1) p2).heap[Y]? = some obY := by rw [hfin Y (heap_lt e11) (by omega) (by omega)]; exact e11
  have hnew := set11_cells w3 g (i * 11) (Ca.erH h1 k1) p2 (fun j hj => (hcell j hj).elim fun v hv => ⟨v, by rw [hg3]; exact hv⟩)
  have hd' : Tm.SepF (set11 w3 g (i * 11) (Ca.erH h1 k1) p2) g done 0 t m := by
    refine Tm.SepF.keep done g 0 t m (fun o v _ ho hv => ?_) (fun b q1 q2 q3 => hfin b (by omega) (by omega) q3) hd
    rw [set11_other _ _ _ _ _ _ _ (.inr (.inl (by omega))), hg3]; exact hv
  have hs' : Tm.SepK (set11 w3 g (i * 11) (Ca.erH h1 k1) p2) (Ca.erH h1 k1) (Ca.erK h1 k1) p2 lo' hi' := hs.keep fun b q1 q2 => set11_heap _ _ _ _ _ b (by omega)
  refine ⟨by rw [Tm.app_snoc]; exact e1, by rw [Tm.len_snoc]; omega, by omega, by omega, eo.2, set11_apart hap (.inr (by omega)) _ _ _, ?_, fun o => ?_, hbX, hbY, hi', by omega, h3', ?_, ?_⟩
  · exact e8.kept (rng_kept (Nat.le_refl _) (Nat.le_refl _) fun b q1 q2 => hfin b (by omega) (by omega) (by omega))
  · rw [set11_frozen, World.frozen?_of_block (h3k g (by omega) hgo)]; exact e9 o
  · refine Tm.SepF.snoc hgo hs' done 0 t m (fun j v hv => ?_) h1' hd'
    rw [Nat.zero_add, e2]
    exact hnew j v hv
  · refine Tm.SepF.keep _ g (i + 1) hi' hi (fun o v ho _ hv => ?_) (fun b q1 q2 q3 => hfin b (by omega) (by omega) q3) hr
    rw [set11_other _ _ _ _ _ _ _ (.inr (.inr (by omega))), hg3]; exact hv
theorem ErR.fin {w wr : World} {a : Hd} {pb : Pl} {all : Tm} {n nk lo t hi g X Y i : Nat} {obX obY : Obj} {done : Tm} (e : ErR w wr a pb all n nk lo t hi g X Y i obX obY done .nil) (h1 : lo ≤ t) (h2 : t ≤ hi) (hn : Tm.len all = n) (hg : all ≠ .nil → pb.A = some ⟨g, 0, none⟩ ∧ t ≤ g ∧ g < hi) : Tm.SepK wr a all pb lo hi := by
  obtain ⟨e1, e2, e3, e5, eo, e6, e8, e9, e10, e11, m, m1, m2, m3, m4⟩ := e
  simp only [Ca.erF] at e1
  rw [Tm.app_nil] at e1
  subst e1
  refine ⟨t, h1, h2, hn ▸ e8, ?_⟩
  cases done with
  | nil => exact .inl rfl
  | node _ _ _ =>
    obtain ⟨g1, g2, g3⟩ := hg (fun e => by cases e)
    exact .inr ⟨g, g1, g2, g3, e9, Tm.SepF.mono _ _ _ _ _ _ (Nat.le_refl _) m2 m3⟩
set_option maxHeartbeats 4000000 in
set_option maxRecDepth 100000 in
theorem erased_any (K : Nat) : ∀ (h : Hd) (kids : Tm) (p : Pl) (lo hi : Nat) (w : World), Tm.nodes kids < K → Ca.c1F (.node h kids .nil) = true → hi ≤ w.heap.size → Tm.SepK w h kids p lo hi →
    Calls Tryz.prog 64 #[.agg #[.int .i8 h.kind, .string h.name, .string h.arg, .int .i64 h.num, .int .i8 h.tk, .slice p.TA p.tn p.tc, .int .i8 h.uk, .slice p.UA p.un p.uc, .int .i64 h.label, .int .i64 h.pos, .slice p.A p.n p.c]] w (PutAt (Ca.erH h kids) (Ca.erK h kids) lo hi w) := by
  induction K with
  | zero => intro _ _ _ _ _ _ hK; omega
  | succ K ih =>
    intro h kids p lo hi w hK hok hhi hsep
    have hB := below_n2 w (.cells #[.int .i8 h.kind, .string h.name, .string h.arg, .int .i64 h.num, .int .i8 h.tk, .slice p.TA p.tn p.tc, .int .i8 h.uk, .slice p.UA p.un p.uc, .int .i64 h.label, .int .i64 h.pos, .slice p.A p.n p.c] 28) (.cells #[.int .i8 0, .string ⟨#[]⟩, .string ⟨#[]⟩, .int .i64 0, .int .i8 0, .slice none 0 0, .int .i8 0, .slice none 0 0, .int .i64 0, .int .i64 0, .slice none 0 0] 28)
    obtain ⟨h0, h1⟩ := heap_n2 w (.cells #[.int .i8 h.kind, .string h.name, .string h.arg, .int .i64 h.num, .int .i8 h.tk, .slice p.TA p.tn p.tc, .int .i8 h.uk, .slice p.UA p.un p.uc, .int .i64 h.label, .int .i64 h.pos, .slice p.A p.n p.c] 28) (.cells #[.int .i8 0, .string ⟨#[]⟩, .string ⟨#[]⟩, .int .i64 0, .int .i8 0, .slice none 0 0, .int .i8 0, .slice none 0 0, .int .i64 0, .int .i64 0, .slice none 0 0] 28)
    obtain ⟨w1, hw1⟩ : ∃ w1, w1 = (w.alloc (.cells #[.int .i8 h.kind, .string h.name, .string h.arg, .int .i64 h.num, .int .i8 h.tk, .slice p.TA p.tn p.tc, .int .i8 h.uk, .slice p.UA p.un p.uc, .int .i64 h.label, .int .i64 h.pos, .slice p.A p.n p.c] 28)).alloc (.cells #[.int .i8 0, .string ⟨#[]⟩, .string ⟨#[]⟩, .int .i64 0, .int .i8 0, .slice none 0 0, .int .i8 0, .slice none 0 0, .int .i64 0, .int .i64 0, .slice none 0 0] 28) := ⟨_, rfl⟩
    rw [← hw1] at hB h0 h1
    obtain ⟨eh, heh⟩ : ∃ x, x = Ca.erH h kids := ⟨_, rfl⟩
    obtain ⟨ek, hek⟩ : ∃ x, x = Ca.erK h kids := ⟨_, rfl⟩
    have hS0 : Ca.ErS w lo hi w.heap.size (w.heap.size + 1) eh ek (Tm.nodes kids) w1 (Tm.nodes kids) :=
      ⟨h, kids, p, lo, hi, h0, h1, hsep.keep fun b q1 q2 => hB.block b (by omega), Nat.le_refl _, Nat.le_refl _, hok, heh.symm, hek.symm, rfl, Nat.le_refl _, hB⟩
    rw [← heh, ← hek]
    obtain ⟨mz, hmz⟩ : ∃ mz : World → Nat, ∀ wr, (∃ k, Ca.ErS w lo hi w.heap.size (w.heap.size + 1) eh ek (Tm.nodes kids) wr k) → Ca.ErS w lo hi w.heap.size (w.heap.size + 1) eh ek (Tm.nodes kids) wr (mz wr) ∧ ∀ m, Ca.ErS w lo hi w.heap.size (w.heap.size + 1) eh ek (Tm.nodes kids) wr m → mz wr ≤ m := by
      refine Classical.axiomOfChoice (r := fun wr n => (∃ k, Ca.ErS w lo hi w.heap.size (w.heap.size + 1) eh ek (Tm.nodes kids) wr k) → Ca.ErS w lo hi w.heap.size (w.heap.size + 1) eh ek (Tm.nodes kids) wr n ∧ ∀ m, Ca.ErS w lo hi w.heap.size (w.heap.size + 1) eh ek (Tm.nodes kids) wr m → n ≤ m) fun wr => ?_
      by_cases hk : ∃ k, Ca.ErS w lo hi w.heap.size (w.heap.size + 1) eh ek (Tm.nodes kids) wr k
      · obtain ⟨k, hk⟩ := hk
        obtain ⟨n, h1, h2⟩ := Ca.least k hk
        exact ⟨n, fun _ => ⟨h1, h2⟩⟩
      · exact ⟨0, fun q => (hk q).elim⟩
    have HW := Lib.hid hw1
    have HS0 := Lib.hid hS0
    have HIH := Lib.hid ih
    have HMZ := Lib.hid hmz
    have HKK := Lib.hid hK
    have HHI := Lib.hid hhi
    clear ih hS0 hmz hw1 h0 h1 hsep hok heh hek hB hK hhi
    go_enter Tryz.func64, Tryz.ntmps64
    go_wp2_with fail
    rw [← HW.out]
    clear HW
    go_loopw [7] (fun _ wr => ∃ n, Ca.ErS w lo hi w.heap.size (w.heap.size + 1) eh ek (Tm.nodes kids) wr n) (fun _ wr => mz wr)
    case atStart => exact ⟨_, HS0.out⟩
    case round =>
      obtain ⟨hm1, hm2⟩ := HMZ.out wr hrel
      obtain ⟨h', k', p', lo', hi', hx, hr, hsep, hlo, hhi', hok, heh, hek, hn, hnk, hap⟩ := hm1
      clear hrel
      obtain ⟨q0, q1, q2, q3, q4, q5, q6, q7, q8, q9, q10, ql⟩ := own11 hx
      have hX2 := heap_lt hr
      simp only [Ca.c1F, Bool.and_eq_true] at hok
      obtain ⟨t, s1, s2, f, s3⟩ := hsep
      have hws := hap.size
      have hhi0 := HHI.out
      by_cases hk : h'.kind = 17
      · obtain ⟨h1, k1, rfl⟩ := Ca.kid1c hk hok.1.1
        obtain ⟨-, hkok⟩ := hok.1
        simp only [Ca.c1F, Bool.and_eq_true] at hkok
        rcases s3 with s3 | ⟨g, hA, g1, g2, g3, g4⟩
        · cases s3
        obtain ⟨pk, lo2, hi2, u1, u2, u3, u4, u5, u6, u7⟩ := Tm.SepF.head g4
        obtain ⟨d0, d1, d2, d3, d4, d5, d6, d7, d8, d9, d10⟩ := Tm.row (w := wr) (b := g) (o := 0) (h := h1) (p := pk) fun j v hv => by have := u5 j v hv; rwa [Nat.zero_mul] at this
        have hnext : Ca.ErS w lo hi w.heap.size (w.heap.size + 1) eh ek (Tm.nodes kids) (set11 wr w.heap.size 0 h1 pk) (Tm.nodes k1) :=
          ⟨h1, k1, pk, lo2, hi2, set11_box hx h1 pk, by rw [set11_heap _ _ _ _ _ _ (show w.heap.size + 1 ≠ w.heap.size by omega)]; exact hr, u6.keep fun b q1 q2 => set11_heap _ _ _ _ _ b (by omega), by omega, by omega,
            by simp only [Ca.c1F, Bool.and_eq_true]; exact ⟨hkok.1, trivial⟩, (Ca.er_cast hk).1.symm.trans heh, (Ca.er_cast hk).2.symm.trans hek, rfl, by simp only [Tm.nodes] at hnk; omega, (set11_apart (a := w) (lo := w.heap.size) (hi := w.heap.size) (Apart.of_below hap) (.inl (Nat.le_refl _)) 0 h1 pk).below (Nat.le_refl _) (Nat.le_refl _)⟩
        have hms := (HMZ.out _ ⟨_, hnext⟩).2 _ hnext
        have hlt : mz (set11 wr w.heap.size 0 h1 pk) < mz wr := by simp only [Tm.nodes] at hn; omega
        rw [set11_zero] at hnext hlt
        have HNX := Lib.hid hnext
        have HLT := Lib.hid hlt
        have hpn := f.n_eq
        simp only [Tm.len] at hpn
        have e17 : (h'.kind == 17) = true := by simp [hk]
        have f0 := froz_of hx 0 ; have f1 := froz_of hx 1 ; have f2 := froz_of hx 2 ; have f3 := froz_of hx 3 ; have f4 := froz_of hx 4 ; have f5 := froz_of hx 5 ; have f6 := froz_of hx 6 ; have f7 := froz_of hx 7 ; have f8 := froz_of hx 8 ; have f9 := froz_of hx 9 ; have f10 := froz_of hx 10
        have HAA := Lib.hid hA
        rw [hA] at q10
        clear hnext hlt hms hx hr s1 s2 f g1 g2 g3 g4 u1 u2 u3 u4 u5 u6 u7 hap hok hkok heh hek hn hnk hm2 hk hA
        go_wp2_with fail
        go_roundw
        case rel => exact ⟨_, HNX.out⟩
        case measure => exact HLT.out
      · have e17 : (h'.kind == 17) = false := by simp [hk]
        rw [Ca.erH_no hk] at heh
        rw [Ca.erK_no hk] at hek
        subst heh
        subst hek
        have hF : Tm.Fit (mask (rng lo' t) wr) h' p' p'.n := ⟨f.ty, f.to, rfl, f.n_le, f.c_le, f.klo, f.khi, f.llo, f.lhi, f.nm, f.ar⟩
        have hpn := f.n_eq
        have hpc := f.c_le
        have hnc := f.n_le
        have i5 : (p'.n : Int) ≤ 9223372036854775807 := by unfold maxLen at hpc; omega
        have hst : ∃ g, (k' ≠ .nil → p'.A = some ⟨g, 0, none⟩ ∧ t ≤ g ∧ g < hi') ∧ ErR w wr h' p' (Ca.erF k') p'.n (Tm.nodes k') lo' t hi' g w.heap.size (w.heap.size + 1) 0 (.cells #[.int .i8 h'.kind, .string h'.name, .string h'.arg, .int .i64 h'.num, .int .i8 h'.tk, .slice p'.TA p'.tn p'.tc, .int .i8 h'.uk, .slice p'.UA p'.un p'.uc, .int .i64 h'.label, .int .i64 h'.pos, .slice p'.A p'.n p'.c] 28 (0, 0)) (.cells #[.int .i8 0, .string ⟨#[]⟩, .string ⟨#[]⟩, .int .i64 0, .int .i8 0, .slice none 0 0, .int .i8 0, .slice none 0 0, .int .i64 0, .int .i64 0, .slice none 0 0] 28 (0, 0)) .nil k' := by
          rcases s3 with s3 | ⟨g, g1, g2, g3, g4, g5⟩
          · exact ⟨w.heap.size, fun e => (e s3).elim, ⟨rfl, rfl, by rw [hpn]; omega, Nat.le_refl _, hok.1.2, Apart.of_below hap, hF, froz_of hx, hx, hr, t, Nat.le_refl _, s2, Nat.le_refl _, by rw [s3]; exact s2⟩⟩
          · exact ⟨g, fun _ => ⟨g1, g2, g3⟩, ⟨rfl, rfl, by rw [hpn]; omega, Nat.le_refl _, hok.1.2, Apart.of_below hap, hF, g4, hx, hr, t, Nat.le_refl _, s2, Nat.le_refl _, g5⟩⟩
        obtain ⟨g, hgA, hst⟩ := hst
        have HST0 := Lib.hid hst
        have HGA := Lib.hid hgA
        have HPN := Lib.hid hpn
        have HNK := Lib.hid hnk
        clear hst hgA s3 f hF hx hr hap hok hn hm2 hpn hpc hnc hk hX2
        go_wp2_with fail
        clear e17 q0 q1 q2 q3 q4 q5 q6 q7 q8 q9 q10 ql
        generalize wr = w2 at *
        go_loopw [15] (fun v wr => ∃ (i : Nat) (done rest : Tm), v = .int .i64 i ∧ ErR w wr h' p' (Ca.erF k') p'.n (Tm.nodes k') lo' t hi' g w.heap.size (w.heap.size + 1) i (.cells #[.int .i8 h'.kind, .string h'.name, .string h'.arg, .int .i64 h'.num, .int .i8 h'.tk, .slice p'.TA p'.tn p'.tc, .int .i8 h'.uk, .slice p'.UA p'.un p'.uc, .int .i64 h'.label, .int .i64 h'.pos, .slice p'.A p'.n p'.c] 28 (0, 0)) (.cells #[.int .i8 0, .string ⟨#[]⟩, .string ⟨#[]⟩, .int .i64 0, .int .i8 0, .slice none 0 0, .int .i8 0, .slice none 0 0, .int .i64 0, .int .i64 0, .slice none 0 0] 28 (0, 0)) done rest) (fun v _ => p'.n - (intOf v).toNat)
        case atStart => exact ⟨0, .nil, k', rfl, HST0.out⟩
        case round =>
          obtain ⟨i, done, rest, rfl, hR⟩ := hrel
          cases rest with
          | nil =>
            have hi2 : (i : Int) = p'.n := by have := hR.i_eq; simp only [Tm.len] at this; omega
            have hlt : ¬ (i : Int) < p'.n := by omega
            have HR := Lib.hid hR
            obtain ⟨q0, q1, q2, q3, q4, q5, q6, q7, q8, q9, q10, ql⟩ := own11 hR.bx
            obtain ⟨r0, r1, r2, r3, r4, r5, r6, r7, r8, r9, r10, rl⟩ := own11 hR.by'
            have f0 := froz_of hR.by' 0 ; have f1 := froz_of hR.by' 1 ; have f2 := froz_of hR.by' 2 ; have f3 := froz_of hR.by' 3 ; have f4 := froz_of hR.by' 4 ; have f5 := froz_of hR.by' 5 ; have f6 := froz_of hR.by' 6 ; have f7 := froz_of hR.by' 7 ; have f8 := froz_of hR.by' 8 ; have f9 := froz_of hR.by' 9 ; have f10 := froz_of hR.by' 10
            clear hR
            go_wp2_with fail
            refine bodyPost_ret (v := .agg #[.int .i8 h'.kind, .string h'.name, .string h'.arg, .int .i64 h'.num, .int .i8 h'.tk, .slice p'.TA p'.tn p'.tc, .int .i8 h'.uk, .slice p'.UA p'.un p'.uc, .int .i64 h'.label, .int .i64 h'.pos, .slice p'.A p'.n p'.c]) (by simp [results, Tryz.results64, go_sem, *]) rfl ⟨p', rfl, ?_, ?_⟩
            · rw [← set11_zero]
              exact ((HR.out.fin s1 s2 (by rw [Ca.len_er, HPN.out]) fun e => HGA.out fun q => e (by rw [q]; rfl)).keep fun b q1 q2 => set11_heap _ _ _ _ _ b (by omega)).mono hlo hhi'
            · rw [← set11_zero]
              exact set11_apart (HR.out.apart.mono hlo hhi') (.inl (by omega)) _ _ _
          | node h1 k1 r =>
            have hi2 := hR.i_eq
            have hsub := hR.sub
            simp only [Tm.len, Tm.nodes] at hi2 hsub
            have hkn : k' ≠ .nil := fun e => by have := HPN.out; rw [e] at this; simp only [Tm.len] at this; omega
            obtain ⟨hpA, hg1, hg2⟩ := HGA.out hkn
            obtain ⟨m, hm1, hm2, hsd, hsr⟩ := hR.mid
            obtain ⟨pk, lo2, hi2', u1, u2, u3, u4, u5, u6, u7⟩ := Tm.SepF.head hsr
            have hok1 := hR.ok
            simp only [Ca.c1F, Bool.and_eq_true] at hok1
            have hws := hR.apart.size
            obtain ⟨wk, hwk⟩ : ∃ wk, wk = wr.alloc (.cells #[.int .i8 h1.kind, .string h1.name, .string h1.arg, .int .i64 h1.num, .int .i8 h1.tk, .slice pk.TA pk.tn pk.tc, .int .i8 h1.uk, .slice pk.UA pk.un pk.uc, .int .i64 h1.label, .int .i64 h1.pos, .slice pk.A pk.n pk.c] 28) := ⟨_, rfl⟩
            have hbk : Below wr.heap.size wr wk := by rw [hwk]; exact (Below.refl _ _).alloc (Nat.le_refl _) _
            have hks : wk.heap.size = wr.heap.size + 1 := by rw [hwk]; simp
            have BXK := Lib.hid (heap_below hbk (heap_lt hR.bx) hR.bx)
            have BZK := Lib.hid (show wk.heap[wr.heap.size]? = some (.cells #[.int .i8 h1.kind, .string h1.name, .string h1.arg, .int .i64 h1.num, .int .i8 h1.tk, .slice pk.TA pk.tn pk.tc, .int .i8 h1.uk, .slice pk.UA pk.un pk.uc, .int .i64 h1.label, .int .i64 h1.pos, .slice pk.A pk.n pk.c] 28 (0, 0)) by rw [hwk]; exact heap_new _ _)
            have OX := Lib.hid (show w.heap.size < lo2 ∨ hi2' ≤ w.heap.size by omega)
            have OZ := Lib.hid (show wr.heap.size < lo2 ∨ hi2' ≤ wr.heap.size by omega)
            have GK := Lib.hid (show g < wk.heap.size by omega)
            have HGO := Lib.hid u4
            have HAB := Lib.hid hpA
            have hcs' : ∀ j v, (h1.cells pk)[j]? = some v → wr.cell? ⟨g, i * 11 + j, none⟩ = some v := u5
            have CROW := Lib.hid (Tm.row (w := wk) (b := g) (o := i * 11) (h := h1) (p := pk) fun j v hv => by
              have := u5 j v hv
              rw [hbk.cell (p := ⟨g, _, none⟩) (Ty.cell_lt this)]; exact this)
            have FRZ := Lib.hid (show ∀ o, wk.frozen? ⟨g, o, none⟩ = false from fun o => by rw [hbk.frozen (p := ⟨g, o, none⟩) (by show g < wr.heap.size; omega)]; exact hR.froz o)
            have hcell : ∀ j, j < 11 → ∃ v, wr.cell? ⟨g, i * 11 + j, none⟩ = some v := fun j hj => ⟨_, u5 j _ (List.getElem?_eq_getElem (show j < (h1.cells pk).length from hj))⟩
            have STEP := Lib.hid (fun (p2 : Pl) (w3 : World) (ha : Apart lo2 hi2' wk w3) (hs : Tm.SepK w3 (Ca.erH h1 k1) (Ca.erK h1 k1) p2 lo2 hi2') => ErR.step hR hm1 hsd u7 u1 u2 u3 u4 ⟨hg1, hg2⟩ s1 (by omega) (Nat.le_refl _) (by omega) hcell hwk ha hs)
            have CP := Lib.hid (fun (U : World) (hb : Below wk.heap.size wk U) => HIH.out h1 k1 pk lo2 hi2' U (by have := HKK.out; have := HNK.out; omega) (by simp only [Ca.c1F, Bool.and_eq_true]; exact ⟨hok1.1, trivial⟩) (by have := hb.size; omega) (u6.keep fun b q1 q2 => (hb.block b (by omega)).trans (hbk.block b (by omega))))
            obtain ⟨d0, d1, d2, d3, d4, d5, d6, d7, d8, d9, d10⟩ := Tm.row hcs'
            have j1 : (i : Int) < p'.n := by omega
            have HWK := Lib.hid hwk
            obtain ⟨q0, q1, q2, q3, q4, q5, q6, q7, q8, q9, q10, ql⟩ := own11 hR.bx
            clear hR hcs' hsd hsr u5 u6 u7 hcell hwk hbk
            rw [HAB.out]
            go_upto_region 6 with fail
            rw [← HWK.out]
            clear HWK d0 d1 d2 d3 d4 d5 d6 d7 d8 d9 d10 q0 q1 q2 q3 q4 q5 q6 q7 q8 q9 q10 ql
            refine Rg.region_inv_end2 28 rfl [20, 21, 22, 23, 24, 25] (by kernel_rfl) (by kernel_rfl) (by kernel_rfl) (fun listed a' w' => a'.defers = [] ∧ a'.tmps.size = 28 ∧ (a'.eval (.tmp 1) = .pointer (some ⟨w.heap.size, 0, none⟩) ∧ a'.eval (.tmp 3) = .int .i64 i ∧ a'.eval (.tmp 4) = .pointer (some ⟨wr.heap.size, 0, none⟩)) ∧ ∃ p2, (listed[0]? = some true → a'.eval (.tmp 20) = .pointer (some ⟨w.heap.size, 10, none⟩)) ∧ (listed[1]? = some true → a'.eval (.tmp 21) = .slice (some ⟨g, 0, none⟩) p'.n p'.c ∧ listed[0]? = some true) ∧ (listed[2]? = some true → a'.eval (.tmp 22) = .int .i64 i) ∧ (listed[3]? = some true → a'.eval (.tmp 23) = .agg #[.int .i8 h1.kind, .string h1.name, .string h1.arg, .int .i64 h1.num, .int .i8 h1.tk, .slice pk.TA pk.tn pk.tc, .int .i8 h1.uk, .slice pk.UA pk.un pk.uc, .int .i64 h1.label, .int .i64 h1.pos, .slice pk.A pk.n pk.c]) ∧ (listed[4]? = some true → a'.eval (.tmp 24) = .agg #[.int .i8 (Ca.erH h1 k1).kind, .string (Ca.erH h1 k1).name, .string (Ca.erH h1 k1).arg, .int .i64 (Ca.erH h1 k1).num, .int .i8 (Ca.erH h1 k1).tk, .slice p2.TA p2.tn p2.tc, .int .i8 (Ca.erH h1 k1).uk, .slice p2.UA p2.un p2.uc, .int .i64 (Ca.erH h1 k1).label, .int .i64 (Ca.erH h1 k1).pos, .slice p2.A p2.n p2.c] ∧ (listed[6]? = some false → Tm.SepK w' (Ca.erH h1 k1) (Ca.erK h1 k1) p2 lo2 hi2') ∧ listed[3]? = some true) ∧ (listed[5]? = some true → a'.eval (.tmp 25) = .pointer (some ⟨g, i * 11, none⟩) ∧ listed[1]? = some true ∧ listed[2]? = some true) ∧ (listed[6]? = some true → (listed[0]? = some true ∧ listed[1]? = some true ∧ listed[2]? = some true ∧ listed[3]? = some true ∧ listed[4]? = some true ∧ listed[5]? = some true) ∧ ∃ w3, Apart lo2 hi2' wk w3 ∧ Tm.SepK w3 (Ca.erH h1 k1) (Ca.erK h1 k1) p2 lo2 hi2' ∧ w' = set11 w3 g (i * 11) (Ca.erH h1 k1) p2) ∧ (listed[4]? = some false → Below wk.heap.size wk w') ∧ (listed[6]? = some false → Apart lo2 hi2' wk w')) (fun _ _ _ h => h.1) ?_ ?_ ?_
            · exact ⟨rfl, rfl, ⟨rfl, rfl, rfl⟩, ⟨none, 0, 0, none, 0, 0, none, 0, 0⟩, Rg.FH, Rg.FH, Rg.FH, Rg.FH, Rg.FH, Rg.FH, Rg.FH, fun _ => (Below.refl _ _).drew, fun _ => .of_below (Below.refl _ _).drew⟩
            · rintro listed a' w' i o ⟨hdf, hsz, hx, p2, y0, y1, y2, y3, y4, y5, y6, hbw, hap⟩ hz hsz0 ho hi' hp
              have hi13 : i < 7 := by
                rcases Nat.lt_or_ge i 7 with q | q
                · exact q
                · rw [Array.getElem?_eq_none (by simpa using q)] at ho; cases ho
              rcases (by omega : i = 0 ∨ i = 1 ∨ i = 2 ∨ i = 3 ∨ i = 4 ∨ i = 5 ∨ i = 6) with rfl | rfl | rfl | rfl | rfl | rfl | rfl
              · obtain rfl := Rg.SI ho
                have hS : listed[6]? = some false := Rg.nf (by rw [hz]; decide) (fun q => (y6 q).1.1) hi'
                have hA := hap hS
                have qX := hA.heap BXK.out OX.out
                have qZ := hA.heap BZK.out OZ.out
                obtain ⟨a0, a1, a2, a3, a4, a5, a6, a7, a8, a9, a10, al⟩ := own11 qX
                rw [HAB.out] at a10
                obtain ⟨b0, b1, b2, b3, b4, b5, b6, b7, b8, b9, b10, bl⟩ := own11 qZ
                have hgr : w'.heap[g]? = wk.heap[g]? := hA.block _ GK.out HGO.out
                have hgc : ∀ o, w'.cell? ⟨g, o, none⟩ = wk.cell? ⟨g, o, none⟩ := fun o => World.cell?_of_block hgr
                obtain ⟨c0, c1, c2, c3, c4, c5, c6, c7, c8, c9, c10⟩ := CROW.out
                rw [← hgc] at c0 c1 c2 c3 c4 c5 c6 c7 c8 c9 c10
                have hfz : ∀ o, w'.frozen? ⟨g, o, none⟩ = false := fun o => (World.frozen?_of_block hgr).trans (FRZ.out o)
                clear hgc hgr
                obtain ⟨hx1, hx3, hx4⟩ := hx
                refine Rg.wpOp_at' ho 20 ⟨Rg.pd hdf, Rg.ps hsz, ⟨Rg.pn hx1, Rg.pn hx3, Rg.pn hx4⟩, p2, fun _ => Rg.pS hsz, Rg.kF y1 fun q => ⟨Rg.pn q.1, Rg.set_keep q.2⟩, Rg.kF y2 fun q => Rg.pn q, Rg.kF y3 fun q => Rg.pn q, Rg.kF y4 fun q => ⟨Rg.pn q.1, Rg.kU q.2.1 fun q => q, Rg.set_keep q.2.2⟩, Rg.kF y5 fun q => ⟨Rg.pn q.1, Rg.set_keep q.2.1, Rg.set_keep q.2.2⟩, fun q => (Rg.no_yet hS q).elim, Rg.kU hbw fun q => q, Rg.kU hap fun q => q⟩ ?_
                clear hdf hp hz hsz hsz0 hi' hi13 hS hbw hap hA y0 y1 y2 y3 y4 y5 y6
                obtain ⟨hcst, hfn⟩ := Rg.evc a'
                generalize a'.eval = ev at *
                go_simp
              · obtain rfl := Rg.SI ho
                have hS : listed[6]? = some false := Rg.nf (by rw [hz]; decide) (fun q => (y6 q).1.2.1) hi'
                have v0 := Rg.hpv hp 0 (by simp)
                have z0 := y0 v0
                have ww0 := z0
                have hA := hap hS
                have qX := hA.heap BXK.out OX.out
                have qZ := hA.heap BZK.out OZ.out
                obtain ⟨a0, a1, a2, a3, a4, a5, a6, a7, a8, a9, a10, al⟩ := own11 qX
                rw [HAB.out] at a10
                obtain ⟨b0, b1, b2, b3, b4, b5, b6, b7, b8, b9, b10, bl⟩ := own11 qZ
                have hgr : w'.heap[g]? = wk.heap[g]? := hA.block _ GK.out HGO.out
                have hgc : ∀ o, w'.cell? ⟨g, o, none⟩ = wk.cell? ⟨g, o, none⟩ := fun o => World.cell?_of_block hgr
                obtain ⟨c0, c1, c2, c3, c4, c5, c6, c7, c8, c9, c10⟩ := CROW.out
                rw [← hgc] at c0 c1 c2 c3 c4 c5 c6 c7 c8 c9 c10
                have hfz : ∀ o, w'.frozen? ⟨g, o, none⟩ = false := fun o => (World.frozen?_of_block hgr).trans (FRZ.out o)
                clear hgc hgr
                obtain ⟨hx1, hx3, hx4⟩ := hx
                refine Rg.wpOp_at' ho 21 ⟨Rg.pd hdf, Rg.ps hsz, ⟨Rg.pn hx1, Rg.pn hx3, Rg.pn hx4⟩, p2, Rg.kF y0 fun q => Rg.pn q, fun _ => ⟨Rg.pS hsz, Rg.set_keep v0⟩, Rg.kF y2 fun q => Rg.pn q, Rg.kF y3 fun q => Rg.pn q, Rg.kF y4 fun q => ⟨Rg.pn q.1, Rg.kU q.2.1 fun q => q, Rg.set_keep q.2.2⟩, Rg.kF y5 fun q => ⟨Rg.pn q.1, Rg.set_keep q.2.1, Rg.set_keep q.2.2⟩, fun q => (Rg.no_yet hS q).elim, Rg.kU hbw fun q => q, Rg.kU hap fun q => q⟩ ?_
                clear hdf hp hz hsz hsz0 hi' hi13 hS hbw hap hA y0 y1 y2 y3 y4 y5 y6
                obtain ⟨hcst, hfn⟩ := Rg.evc a'
                generalize a'.eval = ev at *
                go_simp
              · obtain rfl := Rg.SI ho
                have hS : listed[6]? = some false := Rg.nf (by rw [hz]; decide) (fun q => (y6 q).1.2.2.1) hi'
                have hA := hap hS
                have qX := hA.heap BXK.out OX.out
                have qZ := hA.heap BZK.out OZ.out
                obtain ⟨a0, a1, a2, a3, a4, a5, a6, a7, a8, a9, a10, al⟩ := own11 qX
                rw [HAB.out] at a10
                obtain ⟨b0, b1, b2, b3, b4, b5, b6, b7, b8, b9, b10, bl⟩ := own11 qZ
                have hgr : w'.heap[g]? = wk.heap[g]? := hA.block _ GK.out HGO.out
                have hgc : ∀ o, w'.cell? ⟨g, o, none⟩ = wk.cell? ⟨g, o, none⟩ := fun o => World.cell?_of_block hgr
                obtain ⟨c0, c1, c2, c3, c4, c5, c6, c7, c8, c9, c10⟩ := CROW.out
                rw [← hgc] at c0 c1 c2 c3 c4 c5 c6 c7 c8 c9 c10
                have hfz : ∀ o, w'.frozen? ⟨g, o, none⟩ = false := fun o => (World.frozen?_of_block hgr).trans (FRZ.out o)
                clear hgc hgr
                obtain ⟨hx1, hx3, hx4⟩ := hx
                refine Rg.wpOp_at' ho 22 ⟨Rg.pd hdf, Rg.ps hsz, ⟨Rg.pn hx1, Rg.pn hx3, Rg.pn hx4⟩, p2, Rg.kF y0 fun q => Rg.pn q, Rg.kF y1 fun q => ⟨Rg.pn q.1, Rg.set_keep q.2⟩, fun _ => Rg.pS hsz, Rg.kF y3 fun q => Rg.pn q, Rg.kF y4 fun q => ⟨Rg.pn q.1, Rg.kU q.2.1 fun q => q, Rg.set_keep q.2.2⟩, Rg.kF y5 fun q => ⟨Rg.pn q.1, Rg.set_keep q.2.1, Rg.set_keep q.2.2⟩, fun q => (Rg.no_yet hS q).elim, Rg.kU hbw fun q => q, Rg.kU hap fun q => q⟩ ?_
                clear hdf hp hz hsz hsz0 hi' hi13 hS hbw hap hA y0 y1 y2 y3 y4 y5 y6
                obtain ⟨hcst, hfn⟩ := Rg.evc a'
                generalize a'.eval = ev at *
                go_simp
              · obtain rfl := Rg.SI ho
                have hS : listed[6]? = some false := Rg.nf (by rw [hz]; decide) (fun q => (y6 q).1.2.2.2.1) hi'
                have hA := hap hS
                have qX := hA.heap BXK.out OX.out
                have qZ := hA.heap BZK.out OZ.out
                obtain ⟨a0, a1, a2, a3, a4, a5, a6, a7, a8, a9, a10, al⟩ := own11 qX
                rw [HAB.out] at a10
                obtain ⟨b0, b1, b2, b3, b4, b5, b6, b7, b8, b9, b10, bl⟩ := own11 qZ
                have hgr : w'.heap[g]? = wk.heap[g]? := hA.block _ GK.out HGO.out
                have hgc : ∀ o, w'.cell? ⟨g, o, none⟩ = wk.cell? ⟨g, o, none⟩ := fun o => World.cell?_of_block hgr
                obtain ⟨c0, c1, c2, c3, c4, c5, c6, c7, c8, c9, c10⟩ := CROW.out
                rw [← hgc] at c0 c1 c2 c3 c4 c5 c6 c7 c8 c9 c10
                have hfz : ∀ o, w'.frozen? ⟨g, o, none⟩ = false := fun o => (World.frozen?_of_block hgr).trans (FRZ.out o)
                clear hgc hgr
                obtain ⟨hx1, hx3, hx4⟩ := hx
                refine Rg.wpOp_at' ho 23 ⟨Rg.pd hdf, Rg.ps hsz, ⟨Rg.pn hx1, Rg.pn hx3, Rg.pn hx4⟩, p2, Rg.kF y0 fun q => Rg.pn q, Rg.kF y1 fun q => ⟨Rg.pn q.1, Rg.set_keep q.2⟩, Rg.kF y2 fun q => Rg.pn q, fun _ => Rg.pS hsz, Rg.kF y4 fun q => ⟨Rg.pn q.1, Rg.kU q.2.1 fun q => q, Rg.set_keep q.2.2⟩, Rg.kF y5 fun q => ⟨Rg.pn q.1, Rg.set_keep q.2.1, Rg.set_keep q.2.2⟩, fun q => (Rg.no_yet hS q).elim, Rg.kU hbw fun q => q, Rg.kU hap fun q => q⟩ ?_
                clear hdf hp hz hsz hsz0 hi' hi13 hS hbw hap hA y0 y1 y2 y3 y4 y5 y6
                obtain ⟨hcst, hfn⟩ := Rg.evc a'
                generalize a'.eval = ev at *
                go_simp
              · obtain rfl := Rg.SI ho
                have hS : listed[6]? = some false := Rg.nf (by rw [hz]; decide) (fun q => (y6 q).1.2.2.2.2.1) hi'
                have v3 := Rg.hpv hp 3 (by simp)
                have z3 := y3 v3
                have ww3 := z3
                have hA := hap hS
                have qX := hA.heap BXK.out OX.out
                have qZ := hA.heap BZK.out OZ.out
                obtain ⟨a0, a1, a2, a3, a4, a5, a6, a7, a8, a9, a10, al⟩ := own11 qX
                rw [HAB.out] at a10
                obtain ⟨b0, b1, b2, b3, b4, b5, b6, b7, b8, b9, b10, bl⟩ := own11 qZ
                have hgr : w'.heap[g]? = wk.heap[g]? := hA.block _ GK.out HGO.out
                have hgc : ∀ o, w'.cell? ⟨g, o, none⟩ = wk.cell? ⟨g, o, none⟩ := fun o => World.cell?_of_block hgr
                obtain ⟨c0, c1, c2, c3, c4, c5, c6, c7, c8, c9, c10⟩ := CROW.out
                rw [← hgc] at c0 c1 c2 c3 c4 c5 c6 c7 c8 c9 c10
                have hfz : ∀ o, w'.frozen? ⟨g, o, none⟩ = false := fun o => (World.frozen?_of_block hgr).trans (FRZ.out o)
                clear hgc hgr
                obtain ⟨hx1, hx3, hx4⟩ := hx
                have hB := hbw hi'
                refine Rg.wpOp_call ho 24 (CP.out w' hB) (fun e u hg => ?_) ?_
                · obtain ⟨p3, rfl, hs3, hb⟩ := hg
                  exact ⟨_, rfl, Rg.pd hdf, Rg.ps hsz, ⟨Rg.pn hx1, Rg.pn hx3, Rg.pn hx4⟩, p3, Rg.kF y0 fun q => Rg.pn q, Rg.kF y1 fun q => ⟨Rg.pn q.1, Rg.set_keep q.2⟩, Rg.kF y2 fun q => Rg.pn q, Rg.kF y3 fun q => Rg.pn q, fun _ => ⟨Rg.pS hsz, fun _ => hs3, Rg.set_keep v3⟩, Rg.kF y5 fun q => ⟨Rg.pn q.1, Rg.set_keep q.2.1, Rg.set_keep q.2.2⟩, fun q => (Rg.no_yet hS q).elim, fun q => (Rg.set_self_false q).elim, fun _ => (Apart.of_below hB).trans hb⟩
                · clear hdf hp hz hsz hsz0 hi' hi13 hS hbw hap hA hB y0 y1 y2 y3 y4 y5 y6
                  obtain ⟨hcst, hfn⟩ := Rg.evc a'
                  generalize a'.eval = ev at *
                  go_simp
                  try (first | rfl | exact ⟨rfl, rfl⟩ | exact ⟨rfl, rfl, rfl⟩)
              · obtain rfl := Rg.SI ho
                have hS : listed[6]? = some false := Rg.nf (by rw [hz]; decide) (fun q => (y6 q).1.2.2.2.2.2) hi'
                have v1 := Rg.hpv hp 1 (by simp)
                have v2 := Rg.hpv hp 2 (by simp)
                have z1 := y1 v1
                have ww1 := z1.1
                have z2 := y2 v2
                have ww2 := z2
                have hA := hap hS
                have qX := hA.heap BXK.out OX.out
                have qZ := hA.heap BZK.out OZ.out
                obtain ⟨a0, a1, a2, a3, a4, a5, a6, a7, a8, a9, a10, al⟩ := own11 qX
                rw [HAB.out] at a10
                obtain ⟨b0, b1, b2, b3, b4, b5, b6, b7, b8, b9, b10, bl⟩ := own11 qZ
                have hgr : w'.heap[g]? = wk.heap[g]? := hA.block _ GK.out HGO.out
                have hgc : ∀ o, w'.cell? ⟨g, o, none⟩ = wk.cell? ⟨g, o, none⟩ := fun o => World.cell?_of_block hgr
                obtain ⟨c0, c1, c2, c3, c4, c5, c6, c7, c8, c9, c10⟩ := CROW.out
                rw [← hgc] at c0 c1 c2 c3 c4 c5 c6 c7 c8 c9 c10
                have hfz : ∀ o, w'.frozen? ⟨g, o, none⟩ = false := fun o => (World.frozen?_of_block hgr).trans (FRZ.out o)
                clear hgc hgr
                obtain ⟨hx1, hx3, hx4⟩ := hx
                refine Rg.wpOp_at' ho 25 ⟨Rg.pd hdf, Rg.ps hsz, ⟨Rg.pn hx1, Rg.pn hx3, Rg.pn hx4⟩, p2, Rg.kF y0 fun q => Rg.pn q, Rg.kF y1 fun q => ⟨Rg.pn q.1, Rg.set_keep q.2⟩, Rg.kF y2 fun q => Rg.pn q, Rg.kF y3 fun q => Rg.pn q, Rg.kF y4 fun q => ⟨Rg.pn q.1, Rg.kU q.2.1 fun q => q, Rg.set_keep q.2.2⟩, fun _ => ⟨Rg.pS hsz, Rg.set_keep v1, Rg.set_keep v2⟩, fun q => (Rg.no_yet hS q).elim, Rg.kU hbw fun q => q, Rg.kU hap fun q => q⟩ ?_
                clear hdf hp hz hsz hsz0 hi' hi13 hS hbw hap hA y0 y1 y2 y3 y4 y5 y6
                obtain ⟨hcst, hfn⟩ := Rg.evc a'
                generalize a'.eval = ev at *
                go_simp
              · obtain rfl := Rg.SI ho
                have v4 := Rg.hpv hp 4 (by simp)
                have v5 := Rg.hpv hp 5 (by simp)
                have z4 := y4 v4
                have ww4 := z4.1
                have z5 := y5 v5
                have ww5 := z5.1
                have v3 := z4.2.2
                have z3 := y3 v3
                have v1 := z5.2.1
                have z1 := y1 v1
                have v2 := z5.2.2
                have z2 := y2 v2
                have v0 := z1.2
                have z0 := y0 v0
                have hA := hap hi'
                have qX := hA.heap BXK.out OX.out
                have qZ := hA.heap BZK.out OZ.out
                obtain ⟨a0, a1, a2, a3, a4, a5, a6, a7, a8, a9, a10, al⟩ := own11 qX
                rw [HAB.out] at a10
                obtain ⟨b0, b1, b2, b3, b4, b5, b6, b7, b8, b9, b10, bl⟩ := own11 qZ
                have hgr : w'.heap[g]? = wk.heap[g]? := hA.block _ GK.out HGO.out
                have hgc : ∀ o, w'.cell? ⟨g, o, none⟩ = wk.cell? ⟨g, o, none⟩ := fun o => World.cell?_of_block hgr
                obtain ⟨c0, c1, c2, c3, c4, c5, c6, c7, c8, c9, c10⟩ := CROW.out
                rw [← hgc] at c0 c1 c2 c3 c4 c5 c6 c7 c8 c9 c10
                have hfz : ∀ o, w'.frozen? ⟨g, o, none⟩ = false := fun o => (World.frozen?_of_block hgr).trans (FRZ.out o)
                clear hgc hgr
                obtain ⟨hx1, hx3, hx4⟩ := hx
                have f0 := hfz (i * 11)
                have f1 := hfz (i * 11 + 1)
                have f2 := hfz (i * 11 + 2)
                have f3 := hfz (i * 11 + 3)
                have f4 := hfz (i * 11 + 4)
                have f5 := hfz (i * 11 + 5)
                have f6 := hfz (i * 11 + 6)
                have f7 := hfz (i * 11 + 7)
                have f8 := hfz (i * 11 + 8)
                have f9 := hfz (i * 11 + 9)
                have f10 := hfz (i * 11 + 10)
                clear hfz
                refine Rg.wpOp_store ho (w2 := set11 w' g (i * 11) (Ca.erH h1 k1) p2) ⟨hdf, hsz, ⟨hx1, hx3, hx4⟩, p2, Rg.kF y0 fun q => q, Rg.kF y1 fun q => ⟨q.1, Rg.set_keep q.2⟩, Rg.kF y2 fun q => q, Rg.kF y3 fun q => q, Rg.kF y4 fun q => ⟨q.1, fun e => (Rg.set_self_false e).elim, Rg.set_keep q.2.2⟩, Rg.kF y5 fun q => ⟨q.1, Rg.set_keep q.2.1, Rg.set_keep q.2.2⟩, fun _ => ⟨⟨Rg.set_keep v0, Rg.set_keep v1, Rg.set_keep v2, Rg.set_keep v3, Rg.set_keep v4, Rg.set_keep v5⟩, w', hA, (y4 v4).2.1 hi', rfl⟩, fun q => (Rg.no_false (Rg.set_keep v4) q).elim, fun q => (Rg.set_self_false q).elim⟩ ?_
                clear hdf hp hz hsz hsz0 hi' hi13 hbw hap hA y0 y1 y2 y3 y4 y5 y6
                obtain ⟨hcst, hfn⟩ := Rg.evc a'
                generalize a'.eval = ev at *
                go_simp
                exact (set11_at _ _ _ _ _).symm
            · rintro listed u w' t ht hu ⟨-, -, -, p2, y0, y1, y2, y3, y4, y5, y6, hbw, hap⟩ hall
              obtain ⟨-, w3, hap3, hs3, hw3⟩ := y6 (hall 6 (by decide))
              have HST := Lib.hid (STEP.out p2 w3 hap3 hs3)
              rw [← hw3] at HST
              clear y0 y1 y2 y3 y4 y5 y6 hbw hap hall hu hap3 hs3 hw3
              simp only [over, List.setIfInBounds_toArray, List.set_cons_succ, List.set_cons_zero] at ht
              subst ht
              go_wp2_with fail
              go_roundw
              case rel => exact ⟨i + 1, _, r, by go_num, HAB.out ▸ HST.out⟩
              case measure => simp [intOf]; omega

end Go.Proofs.YtfkbdpehdabepaaGreatDoor
