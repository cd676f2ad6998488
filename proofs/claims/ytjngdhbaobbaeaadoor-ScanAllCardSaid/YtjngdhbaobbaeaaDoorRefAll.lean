/-
  The reference's All: the same words, or the same fault, as scan.All.
-/
import Derived.Test.YtjngdhbaobbaeaaDoorRefWordAny
import Derived.Test.YtjngdhbaobbaeaaDoorAll
namespace Go.Proofs.YtjngdhbaobbaeaaDoor
open Go.RowKit

/-- a round's state -/
structure Sc.RSt (s : ByteArray) (w wr : World) (v4 v5 : Value) (at' : Nat) (done : List Sc.Wd) : Prop where
  res : wr.heap[w.heap.size]? = some (.cells #[.int .i64 0, .int .i64 0, .string ⟨#[]⟩] 29)
  own : wr.ownsRow (w.heap.size + 1) 37 4 v4 done.length (Sc.flat done)
  below : Below w.heap.size w wr
  at5 : v5 = .int .i64 at'
  at_le : at' ≤ s.size
  stop : at' < s.size → Sc.blan (Sc.byteAt s at') = false ∧ Sc.byteAt s at' ≠ 35
  tok : Sc.tk s 0 = (done ++ (Sc.tk s at').1, (Sc.tk s at').2)
  len : done.length ≤ at'

def Sc.RefPost (s : ByteArray) (w : World) (e : Ending) (w' : World) : Prop :=
  (∃ v, (Sc.tk s 0).2 = none ∧ e = .returned (.tuple #[v, .agg #[.int .i64 0, .int .i64 0, .string ⟨#[]⟩]]) ∧ w'.ownsRow (w.heap.size + 1) 37 4 v ((Sc.tk s 0).1.length + 1) (Sc.flat ((Sc.tk s 0).1 ++ [(0, ⟨#[]⟩, 0, s.size)])) ∧ Below w.heap.size w w') ∨
  (∃ f, (Sc.tk s 0).2 = some f ∧ e = .returned (.tuple #[.slice none 0 0, .agg #[.int .i64 f.1, .int .i64 f.2.1, .string f.2.2]]) ∧ Below w.heap.size w w')

theorem own3' {w : World} {b : Nat} {v0 v1 v2 : Value} {t : TypeId} (h : w.heap[b]? = some (.cells #[v0, v1, v2] t (0, 0))) :
    w.cell? ⟨b, 0, none⟩ = some v0 ∧ w.cell? ⟨b, 1, none⟩ = some v1 ∧ w.cell? ⟨b, 2, none⟩ = some v2 ∧
    w.frozen? ⟨b, 0, none⟩ = false ∧ w.frozen? ⟨b, 1, none⟩ = false ∧ w.frozen? ⟨b, 2, none⟩ = false ∧ b < w.heap.size := by
  refine ⟨?_, ?_, ?_, ?_, ?_, ?_, heap_lt h⟩ <;> simp [World.cell?, World.frozen?, h]

theorem heap_new3 (w : World) (o o' o'' : Obj) : (((w.alloc o).alloc o').alloc o'').heap[w.heap.size + 1 + 1]? = some o'' := by
  have := heap_new2 (w.alloc o) o' o''
  simpa using this

set_option maxHeartbeats 1000000 in
set_option maxRecDepth 100000 in
theorem ref_All (s : ByteArray) (hs : s.size ≤ 65536) (w : World) :
    Calls Tryd.prog 9 #[.string s] w (Sc.RefPost s w) := by
  have i1 : (s.size : Int) ≤ 65536 := by omega
  have hsk := fun (a : Nat) (ha : a ≤ s.size) => ref_skip s a hs ha
  have hsk0 := hsk 0 (Nat.zero_le _)
  go_enter Tryd.func9, Tryd.ntmps9
  go_wp2_with fail
  refine (hsk0 _).mono ?_
  rintro e w0 ⟨r0, _, hr0, htk0, hst0, rfl, rfl⟩
  have HT0 := Lib.hid htk0
  have HS0 := Lib.hid hst0
  clear hsk0 htk0 hst0
  go_wp2_with fail
  go_loopw [4, 5] (fun v4 v5 wr => ∃ (a : Nat) (done : List Sc.Wd), Sc.RSt s w wr v4 v5 a done) (fun _ v5 _ => s.size - (intOf v5).toNat)
  case atStart =>
    exact ⟨r0, [], ⟨heap_new w _, World.ownsRow_nil _ _ _ _, (Below.refl _ _).alloc (Nat.le_refl _) _, rfl, hr0, HS0.out, by rw [← HT0.out]; rfl, Nat.zero_le _⟩⟩
  case round =>
    obtain ⟨a, done, hst⟩ := hrel
    obtain ⟨hR, hO, hB, rfl, hal, hstop, htok, hlen⟩ := hst
    have HT := Lib.hid htok
    have HR := Lib.hid hR
    have hib := heap_lt hR
    clear htok hR hr0 HT0 HS0
    by_cases hlt : a < s.size
    · obtain ⟨sb, s35⟩ := hstop hlt
      have hw := rword_any s a hs hlt
      have hrr : 0 < (Sc.rest s a).size := by rw [Sc.rest_size]; omega
      have hn1 := Sc.fN_pos _ hrr
      have hn2 := Sc.fN_le _ hrr
      rw [Sc.rest_size] at hn2
      by_cases hE : Sc.fE (Sc.rest s a) = 0
      · have htk := Sc.tk_word s a hlt sb s35 hE
        unfold Sc.wordRes Sc.okRes at hw
        rw [if_pos hE] at hw
        unfold Sc.wordAt at htk
        generalize Sc.fK (Sc.rest s a) = kk at *
        generalize (Sc.rest s a).extract 0 (Sc.fN (Sc.rest s a)) = tt at *
        generalize Sc.fV (Sc.rest s a) = vv at *
        generalize Sc.fN (Sc.rest s a) = nn at *
        have hkl : a + nn ≤ s.size := by omega
        have hsk1 := hsk (a + nn) hkl
        have hza : a < a + nn := by omega
        generalize a + nn = zz at *
        have HTK := Lib.hid htk
        clear htk hsk hE sb s35 hrr hn1 hn2
        obtain ⟨i0, hi, hz0, hz1, hz2⟩ := info_parts info_Word
        go_wp2_with fail
        refine (hw _).mono ?_
        rintro e w2 ⟨rfl, hb2⟩
        have hO2 := ownsRow_below hO hb2
        have hB2 := hB.trans (hb2.mono hB.size)
        have HR2 := Lib.hid (heap_below hb2 hib HR.out)
        go_wp2_with (at_builtin; refine wpList_append_own _ rfl _ _ 22 rfl (w.heap.size + 1) 37 i0 (.agg #[.int .i8 0, .string ⟨#[]⟩, .int .i64 0, .int .i64 0]) 4 40 Tryd.underlying22 hi hz0 hz1 hz2 rfl (by decide) _ _ _ rfl (((hO2.alloc _).alloc _).alloc _) ⟨w2.heap.size + 1 + 1, 0, none⟩ 1 1 [.int .i8 kk, .string tt, .int .i64 vv, .int .i64 a] rfl rfl ?d1 ?d2 ?d3 ?d4 ?d5 ?_)
        case d1 => exact cells_of_heap (heap_new3 w2 _ _ _)
        case d2 =>
          intro u hu
          simp at hu
          rcases hu with rfl | rfl | rfl | rfl <;> rfl
        case d3 => unfold maxLen; omega
        case d4 => omega
        case d5 => have := hB2.size; have := heap_lt HR2.out; simp; omega
        intro v' w3 hown hgrow _
        have hBB := ((hB2.alloc hB2.size (.cells #[.int .i8 kk, .string tt, .int .i64 vv, .int .i64 a] 37)).alloc (by have := hB2.size; simp; omega) (.cells #[.int .i64 0, .int .i64 0, .string ⟨#[]⟩] 29)).alloc (by have := hB2.size; simp; omega) (.cells #[.int .i8 kk, .string tt, .int .i64 vv, .int .i64 a] 37)
        have hlto := hO2.lt
        have hB3 : Below w.heap.size w w3 := hBB.grown hgrow hBB.size fun k hk => by have := (hlto k hk).1; omega
        have hR3 : w3.heap[w.heap.size]? = some (.cells #[.int .i64 0, .int .i64 0, .string ⟨#[]⟩] 29) := by
          rw [hgrow.block w.heap.size (heap_lt (heap_old (heap_old (heap_old HR2.out _) _) _)) (fun hk => by have := (hlto _ hk.symm).1; omega)]
          exact heap_old (heap_old (heap_old HR2.out _) _) _
        have HR3 := Lib.hid hR3
        clear hR3
        go_wp2_with fail
        refine (hsk1 _).mono ?_
        rintro e w4 ⟨r, g1, g2, g3, g4, rfl, rfl⟩
        have HG3 := Lib.hid g3
        have HG4 := Lib.hid g4
        clear g3 g4 hsk1
        go_wp2_with fail
        go_roundw
        case rel =>
          refine ⟨r, done ++ [(kk, tt, vv, a)], ⟨HR3.out, ?_, hB3, rfl, g2, HG4.out, ?_, ?_⟩⟩
          · rw [Sc.flat_snoc, List.length_append]; exact hown
          · have := HT.out
            rw [HTK.out] at this
            rw [HG3.out, this]
            simp
          · rw [List.length_append]; simp; omega
        case measure => simp [intOf]; omega
      · -- a fault
        have htk := Sc.tk_fault s a hlt sb s35 hE
        unfold Sc.wordRes Sc.noRes at hw
        rw [if_neg hE] at hw
        unfold Sc.faultAt at htk
        have hE2 : (Sc.fE (Sc.rest s a) != 0) = true := by rw [bne_iff_ne]; exact hE
        generalize (Sc.rest s a).extract 0 (Sc.fN (Sc.rest s a)) = tt at *
        generalize Sc.fN (Sc.rest s a) = nn at *
        generalize Sc.fE (Sc.rest s a) = ee at *
        have hres : (Sc.tk s 0).2 = some (ee, a, tt) := by
          have := HT.out
          rw [htk] at this
          rw [this]
        have HRes := Lib.hid hres
        clear htk hres hE hsk hn1 hn2 hrr sb s35
        go_wp2_with fail
        refine (hw _).mono ?_
        rintro e w2 ⟨rfl, hb2⟩
        have hB2 := hB.trans (hb2.mono hB.size)
        obtain ⟨q0, q1, q2, f0, f1, f2, hz⟩ := own3' (heap_below hb2 hib HR.out)
        go_wp2_with fail
        go_region
        go_wp2_with fail
        refine bodyPost_ret (v := .tuple #[.slice none 0 0, .agg #[.int .i64 ee, .int .i64 a, .string tt]]) (by simp [results, Tryd.results9, go_sem, *]) rfl (.inr ⟨_, HRes.out, rfl, ?_⟩)
        exact (((((hB2.setCell (Nat.le_refl _) _).setCell (Nat.le_refl _) _).setCell (Nat.le_refl _) _).alloc (by have := hB2.size; simp; omega) _).alloc (by have := hB2.size; simp; omega) _).drew
    · -- the text's end
      have htk := Sc.tk_end s a (by omega)
      have hdone := HT.out
      rw [htk, List.append_nil] at hdone
      have HD := Lib.hid hdone
      have hlen2 : done.length ≤ s.size := by omega
      obtain ⟨q0, q1, q2, f0, f1, f2, hz⟩ := own3' HR.out
      clear htk hdone hlen hsk
      obtain ⟨i0, hi, hz0, hz1, hz2⟩ := info_parts info_Word
      go_wp2_with (at_builtin; refine wpList_append_own _ rfl _ _ 22 rfl (w.heap.size + 1) 37 i0 (.agg #[.int .i8 0, .string ⟨#[]⟩, .int .i64 0, .int .i64 0]) 4 40 Tryd.underlying22 hi hz0 hz1 hz2 rfl (by decide) _ _ _ rfl (hO.alloc _) ⟨wr.heap.size, 0, none⟩ 1 1 [.int .i8 0, .string ⟨#[]⟩, .int .i64 0, .int .i64 s.size] rfl rfl ?c1 ?c2 ?c3 ?c4 ?c5 ?_)
      case c2 => exact ⟨rfl, rfl, rfl, rfl⟩
      case c3 => unfold maxLen; omega
      case c4 => omega
      case c5 => exact Nat.le_of_lt hib
      intro v' w1 hown hgrow _
      have hb1 : Below w.heap.size w w1 := (hB.alloc hB.size _).grown hgrow (by simp; omega) fun k hk => by have := (hO.lt k hk).1; omega
      have hR1 : w1.heap[w.heap.size]? = some (.cells #[.int .i64 0, .int .i64 0, .string ⟨#[]⟩] 29) := by
        rw [hgrow.block w.heap.size (heap_lt (heap_old HR.out _)) (fun hk => by have := (hO.lt _ hk.symm).1; omega)]
        exact heap_old HR.out _
      obtain ⟨p0, p1, p2, g0, g1, g2, hz'⟩ := own3' hR1
      clear hR1 q0 q1 q2 f0 f1 f2
      go_wp2_with fail
      refine bodyPost_ret (v := .tuple #[v', .agg #[.int .i64 0, .int .i64 0, .string ⟨#[]⟩]]) (by simp [results, Tryd.results9, go_sem, *]) rfl (.inl ⟨v', by rw [HD.out], rfl, ?_, ?_⟩)
      · rw [HD.out, Sc.flat_snoc]
        exact ownsRow_setCell_below (ownsRow_setCell_below (ownsRow_setCell_below hown (Nat.lt_succ_self _) _) (Nat.lt_succ_self _) _) (Nat.lt_succ_self _) _
      · exact ((hb1.setCell (Nat.le_refl _) _).setCell (Nat.le_refl _) _).setCell (Nat.le_refl _) _

set_option maxHeartbeats 400000 in
set_option maxRecDepth 100000 in
theorem ref_All_long (s : ByteArray) (hs : (65536 : Int) < s.size) (w : World) :
    Calls Tryd.prog 9 #[.string s] w fun e w' => e = .returned (.tuple #[.slice none 0 0, .agg #[.int .i64 3, .int .i64 0, .string ⟨#[]⟩]]) ∧ Below w.heap.size w w' := by
  go_enter Tryd.func9, Tryd.ntmps9
  go_wp2_with fail
  refine bodyPost_ret (v := .tuple #[.slice none 0 0, .agg #[.int .i64 3, .int .i64 0, .string ⟨#[]⟩]]) (by simp [results, Tryd.results9, go_sem]) rfl ⟨rfl, ?_⟩
  exact (Below.refl _ _).alloc (Nat.le_refl _) _
end Go.Proofs.YtjngdhbaobbaeaaDoor
