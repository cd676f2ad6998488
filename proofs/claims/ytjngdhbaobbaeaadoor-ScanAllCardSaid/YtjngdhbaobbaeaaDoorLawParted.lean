/-
  P1.3: words stand where they say; the same words again, with blanks between. The law's walk.
-/
import Derived.Test.YtjngdhbaobbaeaaDoorParted
import Derived.Test.YtjngdhbaobbaeaaDoorLawAhead
namespace Go.Proofs.YtjngdhbaobbaeaaDoor
open Go.RowKit

theorem Sc.HasWords.keep {w w1 : World} {g n : Nat} {l : List Sc.Wd} (h : Sc.HasWords w g l n) (hg : g < w.heap.size) (hb : Below w.heap.size w w1) : Sc.HasWords w1 g l n := by
  intro k x hk hx
  obtain ⟨a0, a1, a2, a3⟩ := h k x hk hx
  exact ⟨by rw [hb.cell (p := ⟨g, _, none⟩) hg, a0], by rw [hb.cell (p := ⟨g, _, none⟩) hg, a1], by rw [hb.cell (p := ⟨g, _, none⟩) hg, a2], by rw [hb.cell (p := ⟨g, _, none⟩) hg, a3]⟩

/-- what scan.All hands out: a row of words, one of the kind WordEnd behind them -/
def Sc.Row (w : World) (g m cap : Nat) (l : List Sc.Wd) (size : Nat) : Prop :=
  m = l.length + 1 ∧ m ≤ cap ∧ cap ≤ maxLen ∧ g < w.heap.size ∧ Sc.HasWords w g l l.length ∧ w.cell? ⟨g, l.length * 4, none⟩ = some (.int .i8 0) ∧ w.cell? ⟨g, l.length * 4 + 3, none⟩ = some (.int .i64 size)

theorem all_row (s : ByteArray) (hs : s.size ≤ 65536) (h : (Sc.tk s 0).2 = none) (w : World) (tp : TypeId) (p : Value) (hvar : w.var? Tryd.prog "strconv.ErrRange" = some #[.iface tp p]) :
    Calls Tryd.prog 8 #[.string s] w fun e w' => ∃ g m cap, e = .returned (.tuple #[.slice (some ⟨g, 0, none⟩) m cap, .nilIface]) ∧ Sc.Row w' g m cap (Sc.tk s 0).1 s.size ∧ Below w.heap.size w w' := by
  refine (all_words s hs h w tp p hvar).mono fun e w' h1 => ?_
  obtain ⟨g, cap, rfl, ho, h3, h4, hb⟩ := h1
  refine ⟨g, _, cap, rfl, ⟨rfl, h3, h4, (ho.lt g rfl).2, ?_, ?_, ?_⟩, hb⟩
  · exact Sc.hasWords_of (X := Sc.flat [(0, ⟨#[]⟩, 0, s.size)]) (by have := ho; unfold Sc.flat at this ⊢; rwa [List.flatMap_append] at this) (by omega)
  · rw [ho.cellAt _ (by omega), Sc.flat_snoc, List.getElem?_append_right (by rw [Sc.flat_length]; omega), Sc.flat_length]
    simp
  · rw [ho.cellAt _ (by omega), Sc.flat_snoc, List.getElem?_append_right (by rw [Sc.flat_length]; omega), Sc.flat_length]
    simp

set_option maxHeartbeats 400000 in
set_option maxRecDepth 100000 in
theorem law_ScanParted_fails (s : ByteArray) (h : s.size ≤ 65536 → (Sc.tk s 0).2 ≠ none) (w : World) (tp : TypeId) (p : Value) (hvar : w.var? Tryd.prog "strconv.ErrRange" = some #[.iface tp p]) :
    Calls Tryd.prog 6 #[.string s] w fun e w' => e = .returned (.bool true) ∧ Below w.heap.size w w' := by
  have h2 := all_fails s h w tp p hvar
  clear hvar h
  go_enter Tryd.func6, Tryd.ntmps6
  go_wp2_with fail
  refine h2.mono ?_
  rintro e w2 ⟨N, rfl, hb2⟩
  go_wp2_with fail
  go_ret
  exact ⟨rfl, hb2⟩

theorem Sc.ofL_app (A : List UInt8) (t : ByteArray) : Sc.ofL A ++ (t ++ (⟨#[32]⟩ : ByteArray)) = Sc.ofL (A ++ (t.data.toList ++ [32])) := by
  apply ByteArray.ext
  simp [Sc.ofL]

theorem Sc.ne_empty (t : ByteArray) (h : 0 < t.size) : t.toList.isEmpty = false ∧ (t.toList == []) = false := by
  have := Sc.data_ne t h
  rw [Lib.toList_data]
  cases hq : t.data.toList with
  | nil => exact absurd hq this
  | cons a l => exact ⟨rfl, rfl⟩

set_option maxHeartbeats 2000000 in
set_option maxRecDepth 100000 in
theorem law_ScanParted_takes (s : ByteArray) (hs : s.size ≤ 65536) (ws : List Sc.Wd) (N : Nat) (hN : N = ws.length) (hl : N ≤ 65536) (hc : Sc.Chain s 0 ws) (w : World) (tp : TypeId) (p : Value) (hvar : w.var? Tryd.prog "strconv.ErrRange" = some #[.iface tp p])
    (h1 : ∀ w : World, w.var? Tryd.prog "strconv.ErrRange" = some #[.iface tp p] → Calls Tryd.prog 8 #[.string s] w fun e w' => ∃ g m cap, e = .returned (.tuple #[.slice (some ⟨g, 0, none⟩) m cap, .nilIface]) ∧ Sc.Row w' g m cap ws s.size ∧ Below w.heap.size w w')
    (h2a : 65536 < (Sc.ofL (Sc.J ws)).size → ∀ w : World, Calls Tryd.prog 8 #[.string (Sc.ofL (Sc.J ws))] w fun e w' => ∃ M, e = .returned (.tuple #[.slice none 0 0, .iface 42 (.pointer (some ⟨M, 0, none⟩))]) ∧ Below w.heap.size w w')
    (h2b : (Sc.ofL (Sc.J ws)).size ≤ 65536 → ∀ w : World, w.var? Tryd.prog "strconv.ErrRange" = some #[.iface tp p] → Calls Tryd.prog 8 #[.string (Sc.ofL (Sc.J ws))] w fun e w' => ∃ g m cap ws2 size, e = .returned (.tuple #[.slice (some ⟨g, 0, none⟩) m cap, .nilIface]) ∧ Sc.Row w' g m cap ws2 size ∧ ws2.map Sc.core = ws.map Sc.core ∧ Below w.heap.size w w') :
    Calls Tryd.prog 6 #[.string s] w fun e w' => e = .returned (.bool true) ∧ Below w.heap.size w w' := by
  have HV := Lib.hid hvar
  have HC := Lib.hid hc
  have HN := Lib.hid hN
  have HA := Lib.hid h2a
  have HBB := Lib.hid h2b
  clear hvar hc hN h2a h2b
  go_enter Tryd.func6, Tryd.ntmps6
  go_wp2_with fail
  refine (h1 _ HV.out).mono ?_
  rintro e w1 ⟨g1, m, c1, rfl, ⟨e1, d1, d2, hg1, HW0, t0, t3⟩, hb1⟩
  rw [← HN.out] at e1 HW0 t0 t3
  have HW := Lib.hid HW0
  clear HW0
  have hw1 := len_sub m (by omega) (by omega)
  have k1 : (0 : Int) ≤ (m : Int) - 1 := by omega
  have k2 : ((m : Int) - 1).toNat = N := by omega
  have k4 : 0 < m := by omega
  have k5 : (m : Int) - 1 = N := by omega
  have k6 : (m == 0) = false := by simp; omega
  have k7 : ((m : Int) == 0) = false := by simp; omega
  have HE1 := Lib.hid e1
  clear e1
  go_wp2_with fail
  go_loopw [5, 6, 53] (fun v5 v6 v53 wr => ∃ (n lo : Nat) (jn : ByteArray), n ≤ N ∧ v53 = .int .i64 n ∧ v5 = .int .i64 lo ∧ lo ≤ 65536 ∧ Sc.Chain s lo (ws.drop n) ∧ v6 = .string jn ∧ jn = Sc.ofL (Sc.J (ws.take n)) ∧ jn.size ≤ lo + n ∧ Below w1.heap.size w1 wr)
    (fun _ _ v53 _ => N - (intOf v53).toNat)
  case atStart => exact ⟨0, 0, ⟨#[]⟩, Nat.zero_le _, rfl, rfl, Nat.zero_le _, HC.out, rfl, rfl, Nat.zero_le _, Below.refl _ _⟩
  case round =>
    obtain ⟨n, lo, jn, hn, rfl, rfl, hlo, hch, rfl, hj, hjs, hB⟩ := hrel
    have HJ := Lib.hid hj
    clear hj
    have hwx : Sc.HasWords wr g1 ws N := HW.out.keep hg1 hB
    have HX := Lib.hid hwx
    have HCH := Lib.hid hch
    clear hwx hch t0 t3
    by_cases hlt : n < N
    · obtain ⟨x, hx⟩ : ∃ x, ws[n]? = some x := ⟨ws[n]'(by rw [← HN.out]; exact hlt), List.getElem?_eq_getElem (by rw [← HN.out]; exact hlt)⟩
      obtain ⟨a0, a1, a2, a3⟩ := HX.out n x hlt hx
      have hdr : ws.drop n = x :: ws.drop (n + 1) := by
        have hq : n < ws.length := by rw [← HN.out]; exact hlt
        rw [List.getElem?_eq_getElem hq] at hx
        rw [List.drop_eq_getElem_cons hq]
        injection hx with hx; rw [hx]
      have htk : ws.take (n + 1) = ws.take n ++ [x] := by
        rw [List.take_add_one, hx]; rfl
      have hcc := HCH.out
      rw [hdr] at hcc
      obtain ⟨x0, x1, x2, x3⟩ := x
      obtain ⟨c1', c2', c3', c4', c5'⟩ := hcc
      simp only at c1' c2' c3' c5' a0 a1 a2 a3
      have hpos : 0 < x1.size := c4'.pos
      obtain ⟨ne1, ne2⟩ := Sc.ne_empty x1 hpos
      have HTK := Lib.hid htk
      have HC5 := Lib.hid c5'
      clear hx hdr htk c5' c4'
      have q1 : (lo : Int) ≤ x3 := by omega
      have q2 : IntKind.i64.wrap ((s.size : Int) - x1.size) = (s.size : Int) - x1.size := IntWalk.i64_in _ (by omega)
      have q3 : IntKind.i64.wrap ((x3 : Int) + x1.size) = (x3 : Int) + x1.size := IntWalk.i64_in _ (by omega)
      have q4 : ((x3 : Int) + x1.size).toNat = x3 + x1.size := by omega
      have q5 : (x3 : Int) ≤ (s.size : Int) - x1.size := by omega
      have q6 : (0 : Int) ≤ (x3 : Int) + x1.size := by omega
      have q7 : (x3 : Int) + x1.size ≤ s.size := by omega
      have q8 : (x3 : Int) ≤ (x3 : Int) + x1.size := by omega
      have j1 : (n : Int) < N := by omega
      go_wp2_with fail
      go_quiet (fail)
      go_wp2_with fail
      go_roundw
      case rel =>
        refine ⟨n + 1, x3 + x1.size, jn ++ (x1 ++ ⟨#[32]⟩), by omega, by go_num, by go_num, by omega, HC5.out, rfl, ?_, ?_, ?_⟩
        · rw [HTK.out, Sc.J_snoc, HJ.out]; exact Sc.ofL_app _ x1
        · rw [ByteArray.size_append, ByteArray.size_append]
          have : (⟨#[32]⟩ : ByteArray).size = 1 := rfl
          omega
        · exact below_drwr (hB.alloc hB.size _) _
      case measure => simp [intOf]; omega
    · obtain rfl : n = N := by omega
      have hjall : jn = Sc.ofL (Sc.J ws) := by rw [HJ.out, HN.out, List.take_length]
      have h2a := HA.out
      have h2b := HBB.out
      rw [← hjall] at h2a h2b
      clear hjall HJ HA HBB HCH
      have hBw := hb1.trans (hB.mono hb1.size)
      by_cases hlong : 65536 < jn.size
      · have h2 := h2a hlong
        have hlong' : (65536 : Int) < jn.size := by omega
        clear h2a h2b
        go_wp2_with fail
        refine (h2 _).mono ?_
        rintro e w3 ⟨M, rfl, hb3⟩
        go_wp2_with fail
        go_ret
        exact ⟨rfl, hBw.trans (hb3.mono hBw.size)⟩
      · have h2 := h2b (by omega)
        have hlong' : (jn.size : Int) ≤ 65536 := by omega
        clear h2a h2b
        go_wp2_with fail
        refine (h2 _ (var_at hBw HV.out)).mono ?_
        rintro e w3 ⟨g2, m2, c2, ws2, z2, rfl, ⟨e2, d3, d4, hg2, HW2, _, _⟩, hcore, hb3⟩
        have hl2 : ws2.length = ws.length := by have := congrArg List.length hcore; simpa using this
        rw [hl2, ← HN.out] at e2 HW2
        obtain rfl : m2 = m := by rw [e2, HE1.out]
        have HW2' := Lib.hid HW2
        have HCO := Lib.hid hcore
        have HX3 := Lib.hid (HX.out.keep (by have := hB.size; omega) hb3)
        have hg13 : g1 < w3.heap.size := by have := hB.size; have := hb3.size; omega
        have hBw3 := hBw.trans (hb3.mono hBw.size)
        have HE2 := Lib.hid e2
        have HL2 := Lib.hid hl2
        clear HW2 hcore e2 hl2 HX
        go_wp2_with fail
        go_loopw [129] (fun v129 wq => ∃ n2 : Nat, n2 ≤ n ∧ v129 = .int .i64 n2 ∧ Below w3.heap.size w3 wq) (fun v129 _ => n - (intOf v129).toNat)
        case atStart => exact ⟨0, Nat.zero_le _, rfl, Below.refl _ _⟩
        case round =>
          obtain ⟨n2, hn2, rfl, hB3⟩ := hrel
          by_cases hlt2 : n2 < n
          · obtain ⟨x, hx⟩ : ∃ x, ws[n2]? = some x := ⟨ws[n2]'(by rw [← HN.out]; exact hlt2), List.getElem?_eq_getElem (by rw [← HN.out]; exact hlt2)⟩
            obtain ⟨y, hy⟩ : ∃ y, ws2[n2]? = some y := ⟨ws2[n2]'(by rw [HL2.out, ← HN.out]; exact hlt2), List.getElem?_eq_getElem (by rw [HL2.out, ← HN.out]; exact hlt2)⟩
            have hxy : Sc.core y = Sc.core x := by
              have := congrArg (fun l => l[n2]?) HCO.out
              simpa [hx, hy] using this
            obtain ⟨a0, a1, a2, a3⟩ := (HX3.out.keep hg13 hB3) n2 x hlt2 hx
            obtain ⟨b0, b1, b2, b3⟩ := (HW2'.out.keep hg2 hB3) n2 y hlt2 hy
            clear hx hy
            obtain ⟨x0, x1, x2, x3⟩ := x
            obtain ⟨y0, y1, y2, y3⟩ := y
            unfold Sc.core at hxy
            simp only [Prod.mk.injEq] at hxy a0 a1 a2 a3 b0 b1 b2 b3
            obtain ⟨rfl, rfl, rfl⟩ := hxy
            have f1 : g1 < wr.heap.size := by have := hB3.size; omega
            have f2 : g2 < wr.heap.size := by have := hB3.size; omega
            have j1 : (n2 : Int) < n := by omega
            have j2 : (n2 : Int) < m2 := by omega
            go_wp2_with fail
            go_quiet (fail)
            go_wp2_with fail
            go_roundw
            case rel => exact ⟨n2 + 1, by omega, by go_num, below_drwr (hB3.alloc hB3.size _) _⟩
            case measure => simp [intOf]; omega
          · go_wp2_with fail
            go_ret
            exact ⟨rfl, hBw3.trans (hB3.mono hBw3.size)⟩

theorem law_ScanParted (s : ByteArray) (w : World) (tp : TypeId) (p : Value) (hvar : w.var? Tryd.prog "strconv.ErrRange" = some #[.iface tp p]) :
    Calls Tryd.prog 6 #[.string s] w fun e w' => e = .returned (.bool true) ∧ Below w.heap.size w w' := by
  by_cases hf : s.size ≤ 65536 ∧ (Sc.tk s 0).2 = none
  · obtain ⟨hs, h2⟩ := hf
    have hch := Sc.chain_of s (s.size + 1) 0 rfl h2
    have len2 := Sc.toks_len s (s.size + 1) 0
    obtain ⟨r1, r2⟩ := Sc.rejoin (Sc.ofL (Sc.J (Sc.tk s 0).1)) (Sc.tk s 0).1 [] rfl (Sc.chain_ok hch)
    refine law_ScanParted_takes s hs (Sc.tk s 0).1 _ rfl (by unfold Sc.tk; omega) hch w tp p hvar (fun w hv => all_row s hs h2 w tp p hv) (fun hl w => ?_) (fun hl w hv => ?_)
    · refine (all_long _ (by omega) w).mono fun e w' h => ?_
      obtain ⟨M, h1, _, _, h4⟩ := h
      exact ⟨M, h1, h4⟩
    · refine (all_row _ hl r1 w tp p hv).mono fun e w' h => ?_
      obtain ⟨g, m, cap, h1, h2, h3⟩ := h
      exact ⟨g, m, cap, _, _, h1, h2, r2, h3⟩
  · exact law_ScanParted_fails s (fun h1 h2 => hf ⟨h1, h2⟩) w tp p hvar
end Go.Proofs.YtjngdhbaobbaeaaDoor
