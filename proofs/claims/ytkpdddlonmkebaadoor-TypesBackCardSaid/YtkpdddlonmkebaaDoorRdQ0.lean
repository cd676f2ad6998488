/-
  The document's reader: its word at hand; it goes on, or tells the first fault.
-/
import Derived.Test.YtkpdddlonmkebaaDoorRd4
namespace Go.Proofs.YtkpdddlonmkebaaDoor
open Go.RowKit Rd

/-- the document's reader's block: where it is, and the first fault -/
def QRd (w : World) (rb : Nat) (A : Option Addr) (n c i : Nat) (E a : Int) (s : ByteArray) : Prop := w.heap[rb]? = some (.cells #[.slice A n c, .int .i64 i, .int .i64 E, .int .i64 a, .string s] 63 (0, 0))
theorem own5 {w : World} {b : Nat} {v0 v1 v2 v3 v4 : Value} {t : TypeId} (h : w.heap[b]? = some (.cells #[v0, v1, v2, v3, v4] t (0, 0))) :
    w.cell? ⟨b, 0, none⟩ = some v0 ∧ w.cell? ⟨b, 1, none⟩ = some v1 ∧ w.cell? ⟨b, 2, none⟩ = some v2 ∧ w.cell? ⟨b, 3, none⟩ = some v3 ∧ w.cell? ⟨b, 4, none⟩ = some v4 ∧ w.frozen? ⟨b, 1, none⟩ = false ∧ w.frozen? ⟨b, 2, none⟩ = false ∧ w.frozen? ⟨b, 3, none⟩ = false ∧ w.frozen? ⟨b, 4, none⟩ = false ∧ b < w.heap.size := by
  refine ⟨?_, ?_, ?_, ?_, ?_, ?_, ?_, ?_, ?_, heap_lt h⟩ <;> simp [World.cell?, World.frozen?, h]

set_option maxHeartbeats 4000000 in
set_option maxRecDepth 100000 in
theorem qis_any (l : List W4) (A : Option Addr) (c rb i : Nat) (k : Int) (s : ByteArray) (E a : Int) (sf : ByteArray) (w : World) (hl : l.length ≤ maxLen) (hi : i ≤ l.length) (hR : QRd w rb A l.length c i E a sf) (hW : WRow w A l) :
    Calls Tryd.prog 63 #[.pointer (some ⟨rb, 0, none⟩), .int .i8 k, .string s] w fun e w' => e = .returned (.bool (Rd.sees l i k s.toList)) ∧ ∃ m, w' = w.drewN m := by
  obtain ⟨r0, r1, -, -, -, -, -, -, -, hrl⟩ := own5 hR
  obtain ⟨n, hn⟩ : ∃ n, n = l.length := ⟨_, rfl⟩
  rw [← hn] at hl hi r0
  have i5 : (n : Int) ≤ 9223372036854775807 := by unfold maxLen at hl; omega
  by_cases hin : i < n
  · obtain ⟨x, hx⟩ : ∃ x, l[i]? = some x := ⟨l[i]'(by omega), List.getElem?_eq_getElem _⟩
    obtain ⟨g, o, hA, h0, h1, -, -⟩ := hW i x hx
    have hs : Rd.sees l i k s.toList = (x.kind == k && x.text.toList == s.toList) := by unfold Rd.sees; rw [hx]
    rw [hs]
    have j1 : (i : Int) < n := by omega
    have j2 : (0 : Int) ≤ i ∧ (i : Int) < n := by omega
    clear hs hx hW hR hn
    obtain rfl := hA
    cases hk : (x.kind == k)
    · go_enter Tryd.func63, Tryd.ntmps63
      go_wp2_with fail
      go_quiet (fail)
      go_wp2_with fail
      go_ret
      exact ⟨rfl, nq, rfl⟩
    · cases ht : (x.text.toList == s.toList)
      all_goals
        go_enter Tryd.func63, Tryd.ntmps63
        go_wp2_with fail
        go_quiet (fail)
        go_wp2_with fail
        go_ret
        exact ⟨rfl, nq, rfl⟩
  · have hs : Rd.sees l i k s.toList = false := by unfold Rd.sees; rw [List.getElem?_eq_none (by omega)]
    rw [hs]
    have hz : decide ((i : Int) < n) = false := by simp; omega
    clear hs hW hR hn
    go_enter Tryd.func63, Tryd.ntmps63
    go_wp2_with fail
    go_quiet (fail)
    go_wp2_with fail
    go_ret
    exact ⟨rfl, nq, rfl⟩

/-- the document's reader stands at the i-th word; E, a, s: the first fault -/
structure QdS (l : List W4) (A : Option Addr) (c rb : Nat) (w : World) (i : Nat) (E a : Int) (s : ByteArray) : Prop where
  rdr : QRd w rb A l.length c i E a s
  row : WRow w A l
  ne : ∀ g o, A = some ⟨g, o, none⟩ → l ≠ [] → g ≠ rb
  le : i ≤ l.length
  len : l.length < maxLen
theorem QdS.step {l : List W4} {A : Option Addr} {c rb i j : Nat} {E a E' a' : Int} {s s' : ByteArray} {w w' : World} (h : QdS l A c rb w i E a s) (hg : w.grownBy w' (some rb)) (hR : QRd w' rb A l.length c j E' a' s') (hj : j ≤ l.length) : QdS l A c rb w' j E' a' s' :=
  ⟨hR, h.row.grown h.ne hg, h.ne, hj, h.len⟩
theorem QdS.below {l : List W4} {A : Option Addr} {c rb i : Nat} {E a : Int} {s : ByteArray} {w w' : World} (h : QdS l A c rb w i E a s) (hb : Below w.heap.size w w') : QdS l A c rb w' i E a s :=
  ⟨heap_below hb (heap_lt h.rdr) h.rdr, h.row.below hb, h.ne, h.le, h.len⟩
/-- what such a step leaves: the reader at j -/
def QGo (l : List W4) (A : Option Addr) (c rb : Nat) (w : World) (j : Nat) (E a : Int) (s : ByteArray) (w' : World) : Prop := QRd w' rb A l.length c j E a s ∧ w.grownBy w' (some rb)
theorem qrd_set {w : World} {rb n c i : Nat} {A : Option Addr} {E a : Int} {s : ByteArray} (h : QRd w rb A n c i E a s) (j : Nat) : QRd (w.setCell ⟨rb, 1, none⟩ (.int .i64 j)) rb A n c j E a s := by
  unfold QRd at h ⊢
  simp [World.setCell, Array.getElem?_modify, h]

set_option maxHeartbeats 4000000 in
set_option maxRecDepth 100000 in
theorem sign_flt (l : List W4) (A : Option Addr) (c rb i : Nat) (E a : Int) (sf : ByteArray) (s : ByteArray) (w : World) (h : QdS l A c rb w i E a sf) (hE : E ≠ 0) :
    Calls Tryd.prog 38 #[.pointer (some ⟨rb, 0, none⟩), .string s] w fun e w' => e = .returned (.bool false) ∧ w' = w := by
  obtain ⟨r0, r1, r2, -, -, -, -, -, -, hrl⟩ := own5 h.rdr
  have e1 : (E == 0) = false := by simp [hE]
  clear h hE
  go_enter Tryd.func38, Tryd.ntmps38
  go_wp2_with fail
  go_ret
  exact ⟨rfl, rfl⟩
set_option maxHeartbeats 4000000 in
set_option maxRecDepth 100000 in
theorem key_flt (l : List W4) (A : Option Addr) (c rb i : Nat) (E a : Int) (sf : ByteArray) (s : ByteArray) (w : World) (h : QdS l A c rb w i E a sf) (hE : E ≠ 0) :
    Calls Tryd.prog 87 #[.pointer (some ⟨rb, 0, none⟩), .string s] w fun e w' => e = .returned (.bool false) ∧ w' = w := by
  obtain ⟨r0, r1, r2, -, -, -, -, -, -, hrl⟩ := own5 h.rdr
  have e1 : (E == 0) = false := by simp [hE]
  clear h hE
  go_enter Tryd.func87, Tryd.ntmps87
  go_wp2_with fail
  go_ret
  exact ⟨rfl, rfl⟩

set_option maxHeartbeats 4000000 in
set_option maxRecDepth 100000 in
theorem sign_no (l : List W4) (A : Option Addr) (c rb i : Nat) (a : Int) (sf : ByteArray) (s : ByteArray) (w : World) (h : QdS l A c rb w i 0 a sf) (hs : Rd.sees l i 4 s.toList = false) :
    Calls Tryd.prog 38 #[.pointer (some ⟨rb, 0, none⟩), .string s] w fun e w' => e = .returned (.bool false) ∧ ∃ m, w' = w.drewN m := by
  obtain ⟨r0, r1, r2, -, -, -, -, -, -, hrl⟩ := own5 h.rdr
  have CI := qis_any l A c rb i 4 s 0 a sf w (Nat.le_of_lt h.len) h.le h.rdr h.row
  rw [hs] at CI
  have CI := Lib.hid CI
  clear h hs
  go_enter Tryd.func38, Tryd.ntmps38
  go_wp2_with fail
  refine CI.out.mono ?_
  rintro e w2 ⟨rfl, m, rfl⟩
  go_wp2_with fail
  go_ret
  exact ⟨rfl, m, rfl⟩
set_option maxHeartbeats 4000000 in
set_option maxRecDepth 100000 in
theorem key_no (l : List W4) (A : Option Addr) (c rb i : Nat) (a : Int) (sf : ByteArray) (s : ByteArray) (w : World) (h : QdS l A c rb w i 0 a sf) (hs : Rd.sees l i 3 s.toList = false) :
    Calls Tryd.prog 87 #[.pointer (some ⟨rb, 0, none⟩), .string s] w fun e w' => e = .returned (.bool false) ∧ ∃ m, w' = w.drewN m := by
  obtain ⟨r0, r1, r2, -, -, -, -, -, -, hrl⟩ := own5 h.rdr
  have CI := qis_any l A c rb i 3 s 0 a sf w (Nat.le_of_lt h.len) h.le h.rdr h.row
  rw [hs] at CI
  have CI := Lib.hid CI
  clear h hs
  go_enter Tryd.func87, Tryd.ntmps87
  go_wp2_with fail
  refine CI.out.mono ?_
  rintro e w2 ⟨rfl, m, rfl⟩
  go_wp2_with fail
  go_ret
  exact ⟨rfl, m, rfl⟩

set_option maxHeartbeats 4000000 in
set_option maxRecDepth 100000 in
theorem sign_yes (l : List W4) (A : Option Addr) (c rb i : Nat) (a : Int) (sf : ByteArray) (s : ByteArray) (w : World) (h : QdS l A c rb w i 0 a sf) (hs : Rd.sees l i 4 s.toList = true) :
    Calls Tryd.prog 38 #[.pointer (some ⟨rb, 0, none⟩), .string s] w fun e w' => e = .returned (.bool true) ∧ QGo l A c rb w (i + 1) 0 a sf w' := by
  have H := Lib.hid h
  obtain ⟨r0, r1, r2, -, -, -, -, -, -, hrl⟩ := own5 h.rdr
  have j1 : (i : Int) + 1 ≤ 9223372036854775807 := by have := Rd.sees_lt hs; have := h.len; unfold maxLen at *; omega
  have CI := qis_any l A c rb i 4 s 0 a sf w (Nat.le_of_lt h.len) h.le h.rdr h.row
  rw [hs] at CI
  have CI := Lib.hid CI
  clear h hs
  go_enter Tryd.func38, Tryd.ntmps38
  go_wp2_with fail
  refine CI.out.mono ?_
  rintro e w2 ⟨rfl, m, rfl⟩
  have HB := Lib.hid (below_drewN (Below.refl w.heap.size w) m)
  have HS := Lib.hid (H.out.below HB.out)
  clear r0 r1 r2 hrl
  generalize w.drewN m = w2 at *
  obtain ⟨r0, r1, r2, -, -, f1, -, -, -, hrl⟩ := own5 HS.out.rdr
  go_wp2_with fail
  go_ret
  refine ⟨rfl, ?_, only_setCell (only_below HB.out) (.inl rfl) _⟩
  have q := qrd_set HS.out.rdr (i + 1)
  rw [show ((i + 1 : Nat) : Int) = (i : Int) + 1 by omega] at q
  exact q
set_option maxHeartbeats 4000000 in
set_option maxRecDepth 100000 in
theorem key_yes (l : List W4) (A : Option Addr) (c rb i : Nat) (a : Int) (sf : ByteArray) (s : ByteArray) (w : World) (h : QdS l A c rb w i 0 a sf) (hs : Rd.sees l i 3 s.toList = true) :
    Calls Tryd.prog 87 #[.pointer (some ⟨rb, 0, none⟩), .string s] w fun e w' => e = .returned (.bool true) ∧ QGo l A c rb w (i + 1) 0 a sf w' := by
  have H := Lib.hid h
  obtain ⟨r0, r1, r2, -, -, -, -, -, -, hrl⟩ := own5 h.rdr
  have j1 : (i : Int) + 1 ≤ 9223372036854775807 := by have := Rd.sees_lt hs; have := h.len; unfold maxLen at *; omega
  have CI := qis_any l A c rb i 3 s 0 a sf w (Nat.le_of_lt h.len) h.le h.rdr h.row
  rw [hs] at CI
  have CI := Lib.hid CI
  clear h hs
  go_enter Tryd.func87, Tryd.ntmps87
  go_wp2_with fail
  refine CI.out.mono ?_
  rintro e w2 ⟨rfl, m, rfl⟩
  have HB := Lib.hid (below_drewN (Below.refl w.heap.size w) m)
  have HS := Lib.hid (H.out.below HB.out)
  clear r0 r1 r2 hrl
  generalize w.drewN m = w2 at *
  obtain ⟨r0, r1, r2, -, -, f1, -, -, -, hrl⟩ := own5 HS.out.rdr
  go_wp2_with fail
  go_ret
  refine ⟨rfl, ?_, only_setCell (only_below HB.out) (.inl rfl) _⟩
  have q := qrd_set HS.out.rdr (i + 1)
  rw [show ((i + 1 : Nat) : Int) = (i : Int) + 1 by omega] at q
  exact q
end Go.Proofs.YtkpdddlonmkebaaDoor
