/-
  scan.All: the words of a text, or its fault.
-/
import Derived.Test.YtjngdhbaobbaeaaDoorToks
import Derived.Lib.OthersKept
import Derived.Deep.DeepMust
namespace Go.Proofs.YtjngdhbaobbaeaaDoor
open Go.RowKit

/-- words as cells -/
def Sc.flat (l : List Sc.Wd) : List Value := l.flatMap fun x => [.int .i8 x.1, .string x.2.1, .int .i64 x.2.2.1, .int .i64 x.2.2.2]
theorem Sc.flat_length (l : List Sc.Wd) : (Sc.flat l).length = l.length * 4 := by
  induction l with
  | nil => rfl
  | cons a l ih => unfold Sc.flat at ih ⊢; rw [List.flatMap_cons, List.length_append, ih]; simp; omega
theorem Sc.flat_snoc (l : List Sc.Wd) (x : Sc.Wd) : Sc.flat (l ++ [x]) = Sc.flat l ++ [.int .i8 x.1, .string x.2.1, .int .i64 x.2.2.1, .int .i64 x.2.2.2] := by
  unfold Sc.flat; rw [List.flatMap_append]; simp

theorem ownsRow_below {w w1 : World} {base : Nat} {e : TypeId} {size : Nat} {v : Value} {n : Nat} {xs : List Value} (h : w.ownsRow base e size v n xs) (hb : Below w.heap.size w w1) : w1.ownsRow base e size v n xs := by
  refine h.kept (row := none) ⟨hb.os, hb.tape, hb.output, hb.size, fun k hk _ => hb.block k hk⟩ ?_
  cases hv : v.ownBlock with
  | none => exact .inl rfl
  | some g => exact .inr (by simp)

theorem remark_any (s : ByteArray) (w : World) :
    Calls Tryd.prog 17 #[.string s] w fun e w' => e = .returned (.int .i64 (Sc.spanN Sc.notNl s.data.toList)) ∧ Below w.heap.size w w' := by
  have hsp := span_notNl s
  generalize Sc.spanN Sc.notNl s.data.toList = n at *
  go_enter Tryd.func17, Tryd.ntmps17
  go_wp2_with (go_at_call 24; refine (hsp _).mono ?_; rintro e w' ⟨rfl, pos, rfl⟩)
  go_ret
  exact ⟨rfl, (Below.refl _ _).alloc (Nat.le_refl _) _⟩

theorem cells_of_heap {w : World} {b : Nat} {cs : Array Value} {t : TypeId} (h : w.heap[b]? = some (.cells cs t)) : ∀ j u, cs.toList[j]? = some u → w.cell? ((⟨b, 0, none⟩ : Addr).add j) = some u := by
  intro j u hj
  have e : (⟨b, 0, none⟩ : Addr).add j = ⟨b, j, none⟩ := by simp [Addr.add]; intro h; exact h.symm
  rw [e]
  rw [Array.getElem?_toList] at hj
  simp [World.cell?, h, hj]
theorem heap_new2 (w : World) (o o' : Obj) : ((w.alloc o).alloc o').heap[w.heap.size + 1]? = some o' := by
  have := heap_new (w.alloc o) o'
  simpa using this
theorem info_Word : (Tryd.prog.info? 37).map (fun i => (i.zero, i.size, i.bytes)) = some (some (.agg #[.int .i8 0, .string ⟨#[]⟩, .int .i64 0, .int .i64 0]), 4, 40) := by kernel_rfl

/-- a round's state: the iterator, the words so far, what the rest gives -/
structure Sc.St (s : ByteArray) (w wr : World) (v4 v5 : Value) (pos past : Nat) (done : List Sc.Wd) : Prop where
  iter : wr.heap[w.heap.size]? = some (.stringIter s pos)
  own : wr.ownsRow (w.heap.size + 1) 37 4 v4 done.length (Sc.flat done)
  below : Below w.heap.size w wr
  past5 : v5 = .int .i64 past
  pos_le : pos ≤ s.size
  past_le : past ≤ s.size
  land : Sc.lands s pos past ∨ past ≤ pos
  tok : Sc.tk s 0 = (done ++ (Sc.tk s (max pos past)).1, (Sc.tk s (max pos past)).2)
  len : done.length ≤ max pos past

/-- what scan.All leaves of a text that has no fault | of one that has -/
def Sc.AllPost (s : ByteArray) (w : World) (e : Ending) (w' : World) : Prop :=
  (∃ v, (Sc.tk s 0).2 = none ∧ e = .returned (.tuple #[v, .nilIface]) ∧ w'.ownsRow (w.heap.size + 1) 37 4 v ((Sc.tk s 0).1.length + 1) (Sc.flat ((Sc.tk s 0).1 ++ [(0, ⟨#[]⟩, 0, s.size)])) ∧ Below w.heap.size w w') ∨
  (∃ f N, (Sc.tk s 0).2 = some f ∧ e = .returned (.tuple #[.slice none 0 0, .iface 42 (.pointer (some ⟨N, 0, none⟩))]) ∧ w.heap.size ≤ N ∧ w'.heap[N]? = some (.cells #[.int .i64 f.1, .int .i64 f.2.1, .string f.2.2] 44) ∧ Below w.heap.size w w')

set_option maxHeartbeats 1000000 in
set_option maxRecDepth 100000 in
theorem all_loop (s : ByteArray) (hs : s.size ≤ 65536) (w : World) (tp : TypeId) (p : Value) (hvar : w.var? Tryd.prog "strconv.ErrRange" = some #[.iface tp p]) :
    Calls Tryd.prog 8 #[.string s] w (Sc.AllPost s w) := by
  have HV := Lib.hid hvar
  clear hvar
  have i1 : (s.size : Int) ≤ 65536 := by omega
  go_enter Tryd.func8, Tryd.ntmps8
  go_wp2_with fail
  go_loopw [4, 5] (fun v4 v5 wr => ∃ (pos past : Nat) (done : List Sc.Wd), Sc.St s w wr v4 v5 pos past done) (fun _ _ wr => s.size - wr.iterPos w.heap.size)
  case atStart =>
    refine ⟨0, 0, [], ⟨World.iter_heap _ _ _, World.ownsRow_nil _ _ _ _, (Below.refl _ _).alloc (Nat.le_refl _) _, rfl, Nat.zero_le _, Nat.zero_le _, .inr (Nat.le_refl _), rfl, Nat.zero_le _⟩⟩
  case round =>
    obtain ⟨pos, past, done, hst⟩ := hrel
    obtain ⟨hI, hO, hB, rfl, hps, hpl, hland, htok, hlen⟩ := hst
    have HT := Lib.hid htok
    clear htok
    have hmu : wr.iterPos w.heap.size = pos := by simp [World.iterPos, hI]
    have HM := Lib.hid hmu
    clear hmu
    have hib : w.heap.size < wr.heap.size := heap_lt hI
    by_cases hp : pos < s.size
    · have hnext : ∀ ty, (Instr.next (.pointer (some ⟨w.heap.size, 0, none⟩)) true ty).run Tryd.prog wr = _ := fun ty => Lib.run_next_any_at wr w.heap.size s pos ty hI hp
      have hI1 := Lib.iterAt_heap wr w.heap.size s pos (pos + (Utf8.decode s pos).2) hI
      have hO1 := ownsRow_iterAt hO (Nat.lt_succ_self _) s (pos + (Utf8.decode s pos).2)
      have hB1 := Lib.below_iterAt hB (Nat.le_refl _) s (pos + (Utf8.decode s pos).2)
      have hwl := decode_le s pos
      generalize wr.iterAt w.heap.size s (pos + (Utf8.decode s pos).2) = W1 at hnext hI1 hO1 hB1
      have hm1 : W1.iterPos w.heap.size = pos + (Utf8.decode s pos).2 := by simp [World.iterPos, hI1]
      have HM1 := Lib.hid hm1
      clear hm1
      have H1 := Lib.hid hI1
      clear hI1 hI
      by_cases hlt : pos < past
      · -- behind the last word's end: nothing
        have hl : Sc.lands s pos past := by rcases hland with h | h; exact h; omega
        have hl2 := Sc.lands_step s pos past hl hlt
        have hwd := Sc.width_pos s pos hp
        go_wp2_with fail
        go_roundw
        case rel =>
          refine ⟨_, past, done, ⟨H1.out, hO1, hB1, rfl, by have := hl2.1; omega, hpl, .inl hl2, ?_, ?_⟩⟩
          · rw [show max (pos + (Utf8.decode s pos).2) past = max pos past by have := hl2.1; omega]; exact HT.out
          · have := hl2.1; omega
        case measure =>
          rw [HM.out, HM1.out]; omega
      · have hge : past ≤ pos := by omega
        have hmax : max pos past = pos := by omega
        rw [hmax] at hlen
        have HMX := Lib.hid hmax
        clear hmax hland
        have hbk := scan_blank_any ((Utf8.decode s pos).1 : Int)
        rw [Sc.rune_blank s pos hp] at hbk
        have hh := Sc.rune_hash s pos hp
        cases hbl : Sc.blan (Sc.byteAt s pos)
        · rw [hbl] at hbk
          by_cases h35 : Sc.byteAt s pos = 35
          · -- a remark
            have hw1 := Sc.width_one s pos hp (by omega)
            have htk := Sc.tk_remark s pos hp h35
            have hln := Sc.lands_remark s pos hp h35
            have hk1 := Sc.skipN_pos s pos hp h35
            have hrm : ∀ w : World, Calls Tryd.prog 17 #[.string (s.extract pos s.size)] w fun e w' => e = .returned (.int .i64 (Sc.skipN s pos)) ∧ Below w.heap.size w w' := by
              intro w
              have := remark_any (Sc.rest s pos) w
              rw [Sc.rest_data] at this
              exact this
            rw [hw1] at HM1 H1
            have hh' : (((Utf8.decode s pos).1 : Int) == 35) = true := by rw [hh, h35]; rfl
            clear hh hw1 h35 hbl
            generalize Sc.skipN s pos = k at *
            have hkl : pos + k ≤ s.size := hln.2.1
            have HTK := Lib.hid htk
            clear htk
            go_wp2_with (first | (go_at_call 16; refine (hbk _).mono ?_; rintro e w' ⟨rfl, rfl⟩) | (go_at_call 17; refine (hrm _).mono ?_; rintro e w2 ⟨rfl, hb2⟩; have hI2 := Lib.hid (heap_below hb2 (heap_lt H1.out) H1.out); have hO2 := ownsRow_below hO1 hb2; have hB2 := hB1.trans (hb2.mono hB1.size)))
            go_roundw
            case rel =>
              refine ⟨pos + 1, pos + k, done, ⟨hI2.out, hO2, hB2, by go_num, by omega, hkl, .inl hln, ?_, by omega⟩⟩
              have := HT.out
              rw [HMX.out, HTK.out] at this
              rw [show max (pos + 1) (pos + k) = pos + k by omega]; exact this
            case measure =>
              have hm2 : w2.iterPos w.heap.size = pos + 1 := by simp [World.iterPos, hI2.out]
              rw [HM.out, hm2]; omega
          · -- a word, or its fault
            have hh' : (((Utf8.decode s pos).1 : Int) == 35) = false := by rw [hh]; simp [h35]
            have hrs : (Sc.rest s pos).size ≤ 281474976710656 := by rw [Sc.rest_size]; omega
            have hr0 : 0 < (Sc.rest s pos).size := by rw [Sc.rest_size]; omega
            have hfst : ∀ w1 : World, Below w.heap.size w w1 → Calls Tryd.prog 18 #[.string (s.extract pos s.size)] w1 fun e w' => e = .returned (.tuple #[.agg #[.int .i8 (Sc.fK (Sc.rest s pos)), .string ((Sc.rest s pos).extract 0 (Sc.fN (Sc.rest s pos))), .int .i64 (Sc.fV (Sc.rest s pos)), .int .i64 0], .int .i64 (Sc.fE (Sc.rest s pos))]) ∧ Below w1.heap.size w1 w' :=
              fun w1 hb => first_any (Sc.rest s pos) hrs hr0 w1 tp p (var_at hb HV.out)
            have hn1 := Sc.fN_pos _ hr0
            have hn2 := Sc.fN_le _ hr0
            rw [Sc.rest_size] at hn2
            have hts : ((Sc.rest s pos).extract 0 (Sc.fN (Sc.rest s pos))).size = Sc.fN (Sc.rest s pos) := by
              have := Sc.fN_le _ hr0
              simp; omega
            by_cases hE : Sc.fE (Sc.rest s pos) = 0
            · have hlw := Sc.lands_word s pos hp hE
              have hw1 := Sc.width_one s pos hp (by rw [Sc.byteAt_eq s pos hp]; have := hlw.2; omega)
              have htk := Sc.tk_word s pos hp hbl h35 hE
              rw [hE] at hfst
              rw [hw1] at HM1 H1
              unfold Sc.wordAt at htk
              generalize hkk : Sc.fK (Sc.rest s pos) = kk at *
              generalize (Sc.rest s pos).extract 0 (Sc.fN (Sc.rest s pos)) = tt at *
              generalize Sc.fV (Sc.rest s pos) = vv at *
              generalize Sc.fN (Sc.rest s pos) = nn at *
              have hln := hlw.1
              have hkl : pos + nn ≤ s.size := hln.2.1
              have HTK := Lib.hid htk
              have hts2 : (tt.size : Int) ≤ 65536 := by omega
              have HTS := Lib.hid hts
              clear htk hts hkk hh hw1 hlw hE h35 hbl hrs hr0
              obtain ⟨i0, hi, hz0, hz1, hz2⟩ := info_parts info_Word
              have hol := hO1.lt
              go_wp2_with (first | (go_at_call 16; refine (hbk _).mono ?_; rintro e w' ⟨rfl, rfl⟩) | (go_at_call 18; refine (hfst _ hB1).mono ?_; rintro e w2 ⟨rfl, hb2⟩; have hI2 := Lib.hid (heap_below hb2 (heap_lt H1.out) H1.out); have hO2 := ownsRow_below hO1 hb2; have hB2 := hB1.trans (hb2.mono hB1.size)) | (at_builtin; refine wpList_append_own _ rfl _ _ 22 rfl (w.heap.size + 1) 37 i0 (.agg #[.int .i8 0, .string ⟨#[]⟩, .int .i64 0, .int .i64 0]) 4 40 Tryd.underlying22 hi hz0 hz1 hz2 rfl (by decide) _ _ _ rfl ((hO2.alloc _).alloc _) ⟨w2.heap.size + 1, 0, none⟩ 1 1 [.int .i8 kk, .string tt, .int .i64 vv, .int .i64 pos] rfl rfl ?d1 ?d2 ?d3 ?d4 ?d5 ?_))
              case d1 => exact cells_of_heap (heap_new2 w2 _ _)
              case d2 =>
                intro u hu
                simp at hu
                rcases hu with rfl | rfl | rfl | rfl <;> rfl
              case d3 => unfold maxLen; omega
              case d4 => omega
              case d5 => have := hB2.size; simp; omega
              intro v' w3 hown hgrow _
              have hBB : Below w.heap.size w ((w2.alloc (.cells #[.int .i8 kk, .string tt, .int .i64 vv, .int .i64 pos] 37)).alloc (.cells #[.int .i8 kk, .string tt, .int .i64 vv, .int .i64 pos] 37)) := (hB2.alloc hB2.size _).alloc (by have := hB2.size; simp; omega) _
              have hlto := hO2.lt
              have hB3 : Below w.heap.size w w3 := hBB.grown hgrow hBB.size fun k hk => by have := (hlto k hk).1; omega
              have hI3 : w3.heap[w.heap.size]? = some (.stringIter s (pos + 1)) := by
                rw [hgrow.block w.heap.size (heap_lt (heap_old (heap_old hI2.out _) _)) (fun hk => by have := (hlto _ hk.symm).1; omega)]
                exact heap_old (heap_old hI2.out _) _
              have HI3 := Lib.hid hI3
              clear hI3
              go_wp2_with fail
              go_roundw
              case rel =>
                refine ⟨pos + 1, pos + nn, done ++ [(kk, tt, vv, pos)], ⟨HI3.out, ?_, hB3, ?_, by omega, hkl, .inl hln, ?_, ?_⟩⟩
                · rw [Sc.flat_snoc, List.length_append]; exact hown
                · rw [← HTS.out]; go_num
                · have := HT.out
                  rw [HMX.out, HTK.out] at this
                  rw [show max (pos + 1) (pos + nn) = pos + nn by omega, this]
                  simp
                · rw [List.length_append]; simp; omega
              case measure =>
                have hm3 : w3.iterPos w.heap.size = pos + 1 := by simp [World.iterPos, HI3.out]
                rw [HM.out, hm3]; omega
            · -- a fault
              have htk := Sc.tk_fault s pos hp hbl h35 hE
              unfold Sc.faultAt at htk
              have hE2 : (Sc.fE (Sc.rest s pos) != 0) = true := by rw [bne_iff_ne]; exact hE
              generalize hkk : Sc.fK (Sc.rest s pos) = kk at *
              generalize (Sc.rest s pos).extract 0 (Sc.fN (Sc.rest s pos)) = tt at *
              generalize Sc.fV (Sc.rest s pos) = vv at *
              generalize Sc.fN (Sc.rest s pos) = nn at *
              generalize Sc.fE (Sc.rest s pos) = ee at *
              have hres : (Sc.tk s 0).2 = some (ee, pos, tt) := by
                have := HT.out
                rw [HMX.out, htk] at this
                rw [this]
              have HR := Lib.hid hres
              clear htk hts hkk hh hE h35 hbl hrs hr0 hres hn1 hn2
              go_wp2_with (first | (go_at_call 16; refine (hbk _).mono ?_; rintro e w' ⟨rfl, rfl⟩) | (go_at_call 18; refine (hfst _ hB1).mono ?_; rintro e w2 ⟨rfl, hb2⟩; have hB2 := hB1.trans (hb2.mono hB1.size)))
              go_region
              go_wp2_with fail
              go_ret2
              refine .inr ⟨(ee, pos, tt), w2.heap.size + 1, HR.out, rfl, by have := hB2.size; omega, ?_, ?_⟩
              · exact heap_new2 w2 _ _
              · exact ((hB2.alloc hB2.size _).alloc (by have := hB2.size; simp; omega) _).drew
        · rw [hbl] at hbk
          have hw1 := Sc.width_one s pos hp (by have := hbl; simp [Sc.blan] at this; omega)
          have htk := Sc.tk_blank s pos hp hbl
          rw [hw1] at HM1 H1
          clear hh hw1
          have HTK := Lib.hid htk
          clear htk hbl
          go_wp2_with (go_at_call 16; refine (hbk _).mono ?_; rintro e w' ⟨rfl, rfl⟩)
          go_roundw
          case rel =>
            refine ⟨pos + 1, past, done, ⟨H1.out, hO1, hB1, rfl, by omega, hpl, .inr (by omega), ?_, by omega⟩⟩
            have := HT.out
            rw [HMX.out, HTK.out] at this
            rw [show max (pos + 1) past = pos + 1 by omega]; exact this
          case measure =>
            rw [HM.out, HM1.out]; omega
    · -- the text's end
      have hnext : ∀ ty, (Instr.next (.pointer (some ⟨w.heap.size, 0, none⟩)) true ty).run Tryd.prog wr = _ := fun ty => Lib.run_next_end_at wr w.heap.size s pos ty hI hp
      have htk := Sc.tk_end s (max pos past) (by omega)
      have hdone := HT.out
      rw [htk, List.append_nil] at hdone
      have HD := Lib.hid hdone
      have hlen2 : done.length ≤ s.size := by omega
      clear htk hdone hlen hland
      obtain ⟨i0, hi, hz0, hz1, hz2⟩ := info_parts info_Word
      go_wp2_with (first | (at_builtin; refine wpList_append_own _ rfl _ _ 22 rfl (w.heap.size + 1) 37 i0 (.agg #[.int .i8 0, .string ⟨#[]⟩, .int .i64 0, .int .i64 0]) 4 40 Tryd.underlying22 hi hz0 hz1 hz2 rfl (by decide) _ _ _ rfl (hO.alloc _) ⟨wr.heap.size, 0, none⟩ 1 1 [.int .i8 0, .string ⟨#[]⟩, .int .i64 0, .int .i64 s.size] rfl rfl ?c1 ?c2 ?c3 ?c4 ?c5 ?_))
      case c2 => exact ⟨rfl, rfl, rfl, rfl⟩
      case c3 => unfold maxLen; omega
      case c4 => omega
      case c5 => exact Nat.le_of_lt hib
      intro v' w1 hown hgrow _
      have hb1 : Below w.heap.size w w1 := (hB.alloc hB.size _).grown hgrow (by simp; omega) fun k hk => by have := (hO.lt k hk).1; omega
      go_wp2_with fail
      go_ret2
      refine .inl ⟨v', by rw [HD.out], rfl, ?_, hb1⟩
      rw [HD.out, Sc.flat_snoc]
      exact hown

set_option maxHeartbeats 400000 in
set_option maxRecDepth 100000 in
theorem all_long (s : ByteArray) (hs : (65536 : Int) < s.size) (w : World) :
    Calls Tryd.prog 8 #[.string s] w fun e w' => ∃ N, e = .returned (.tuple #[.slice none 0 0, .iface 42 (.pointer (some ⟨N, 0, none⟩))]) ∧ w.heap.size ≤ N ∧ w'.heap[N]? = some (.cells #[.int .i64 3, .int .i64 0, .string ⟨#[]⟩] 44) ∧ Below w.heap.size w w' := by
  go_enter Tryd.func8, Tryd.ntmps8
  go_wp2_with fail
  go_ret2
  exact ⟨w.heap.size, rfl, Nat.le_refl _, heap_new w _, (Below.refl _ _).alloc (Nat.le_refl _) _⟩
end Go.Proofs.YtjngdhbaobbaeaaDoor
