/-
  types.write: any type. types.Text.
-/
import Derived.Test.YtdeomggkhbdkaaaGreatDoorWriteP
namespace Go.Proofs.YtdeomggkhbdkaaaGreatDoor
open Go.RowKit

set_option maxHeartbeats 2000000 in
set_option maxRecDepth 100000 in
theorem write_any (w0 : World) (b : Nat) (hb : w0.heap.size ≤ b) (hS : Shapes w0) (K : Nat) : ∀ (k : Int) (kids : Fo) (A : Option Addr) (n c : Nat) (least : Int) (l : List UInt8) (w : World), Ty.nodes kids < K → Ty.Is w0 k kids A n c → Ty.okT k kids = true → Below w0.heap.size w0 w → Bld w0.heap.size b l w → l.length + (Ty.txt k kids least).length ≤ 1000000000 →
    Calls Tryz.prog 77 #[.pointer (some ⟨b, 0, none⟩), .agg #[.int .i8 k, .slice A n c], .int .i64 least] w (WroteTxt w0.heap.size b l (Ty.txt k kids least) w) := by
  induction K with
  | zero => intro _ _ _ _ _ _ _ _ h; omega
  | succ K ih =>
    intro k kids A n c least l w hK hIs hok hB hBl hlen
    have hsz := hB.size
    have hR0 := heap_new w (.cells #[.int .i8 k, .slice A n c] 25)
    have HIH := Lib.hid ih
    have HIs := Lib.hid hIs
    clear ih hIs
    obtain ⟨hs1, hs2⟩ := hS.below hB
    by_cases hleaf : k = 0 ∨ k = 1 ∨ k = 2
    · obtain rfl := okT_leaf hok hleaf
      have s1 := hs2 1 _ rfl
      have s5 := hs2 5 _ rfl
      have s9 := hs2 9 _ rfl
      have s2 := hs2 2 _ rfl
      have s6 := hs2 6 _ rfl
      have s10 := hs2 10 _ rfl
      have s0 := hs2 0 _ rfl
      have s4 := hs2 4 _ rfl
      have s8 := hs2 8 _ rfl
      have s3 := hs2 3 _ rfl
      have s7 := hs2 7 _ rfl
      have s11 := hs2 11 _ rfl
      clear hs2
      rcases hleaf with rfl | rfl | rfl
      all_goals
        have HB2 := Lib.hid hBl
        have HLen := Lib.hid hlen
        clear hBl hlen
        go_enter_defers Tryz.func77, Tryz.ntmps77
        go_wp2_with fail
        refine (write_str _ _ _ _ _ ((HB2.out.alloc _).alloc _) ?_ (by simp; omega)).mono ?_
        · have h1 := HLen.out
          simp [Ty.txt, Ty.txtOne, Ty.word] at h1
          have e1 : (ByteArray.size ⟨#[63]⟩) = 1 := rfl
          have e2 : (ByteArray.size ⟨#[105, 110, 116]⟩) = 3 := rfl
          have e3 : (ByteArray.size ⟨#[98, 111, 111, 108]⟩) = 4 := rfl
          first | rw [e1] | rw [e2] | rw [e3]
          omega
        rintro e w3 ⟨rfl, h2, h3⟩
        have HH := Lib.hid (And.intro h2 h3)
        clear h2 h3
        go_wp2_with fail
        refine ⟨_, results_none rfl _ _ _, rfl, HH.out.1, ?_⟩
        exact (((Wrote.refl _ _ _).alloc (by omega) _).alloc (by simp; omega) _).trans HH.out.2
    · have hpair : k = 3 ∨ k = 4 ∨ k = 5 := by have := Ty.okT_range hok; omega
      obtain ⟨a1, b1, k1, kids1, a2, b2, k2, kids2, rfl, ho1, ho2⟩ := okT_pair hok hpair
      have HS := Lib.hid (fun W (hb : Below w0.heap.size w0 W) => hS.below hb)
      have hL := HIs.out.lies
      have hneq := HIs.out.n_eq
      simp only [Ty.len] at hneq
      obtain ⟨bb, oo, A1, c1, rfl, ⟨p1, p2⟩, q1, q2, q3, q4, q5, q6⟩ := hL
      obtain ⟨bb', oo', A2, c2, hAA, ⟨r1, r2⟩, t1, t2, t3, t4, t5, -⟩ := q6
      injection hAA with hAA
      injection hAA with e1 e2
      subst e1 e2
      have I1 := Lib.hid (show Ty.Is w0 k1 kids1 A1 (Ty.len kids1) c1 from ⟨q5, rfl, q3, q4, p1, p2⟩)
      have I2 := Lib.hid (show Ty.Is w0 k2 kids2 A2 (Ty.len kids2) c2 from ⟨t5, rfl, t3, t4, r1, r2⟩)
      have hbb := Ty.cell_lt q1
      have hkid := Lib.hid (fun W (hb : Below w0.heap.size w0 W) => kid_cells hb q1 q2 t1 t2)
      simp only [Ty.nodes] at hK
      have HB2 := Lib.hid hBl
      have HLen := Lib.hid hlen
      clear hBl hlen q1 q2 q3 q4 q5 t1 t2 t3 t4 t5 hleaf
      obtain rfl : n = 2 := by omega
      by_cases hbr : Ty.binds k < least
      · have htx : Ty.txt k (.node a1 b1 k1 kids1 (.node a2 b2 k2 kids2 .nil)) least = 40 :: ((Ty.txt k1 kids1 (Ty.need k true) ++ (32 :: (Ty.word k ++ (32 :: Ty.txt k2 kids2 (Ty.need k false))))) ++ [41]) := by
          unfold Ty.txt Ty.txtOne
          rw [if_neg (by omega), if_pos hbr]
          rw [Ty.txt_two k a1 b1 a2 b2 k1 kids1 k2 kids2]
          rfl
        have hln := HLen.out
        rw [htx] at hln ⊢
        have H1 : KidW w0 b k1 kids1 A1 c1 (Ty.need k true) := fun W l hW hBl hl => HIH.out k1 kids1 A1 _ c1 _ l W (by omega) I1.out ho1 hW hBl hl
        have H2 : KidW w0 b k2 kids2 A2 c2 (Ty.need k false) := fun W l hW hBl hl => HIH.out k2 kids2 A2 _ c2 _ l W (by omega) I2.out ho2 hW hBl hl
        rcases hpair with rfl | rfl | rfl
        · exact write_3_br w0 b hb hS k1 kids1 A1 c1 k2 kids2 A2 c2 bb oo c least l w H1 H2 (fun W hW => hkid.out W hW) hB HB2.out (by simpa [Ty.binds] using hbr) hln
        · exact write_4_br w0 b hb hS k1 kids1 A1 c1 k2 kids2 A2 c2 bb oo c least l w H1 H2 (fun W hW => hkid.out W hW) hB HB2.out (by simpa [Ty.binds] using hbr) hln
        · exact write_5_br w0 b hb hS k1 kids1 A1 c1 k2 kids2 A2 c2 bb oo c least l w H1 H2 (fun W hW => hkid.out W hW) hB HB2.out (by simpa [Ty.binds] using hbr) hln
      · have htx : Ty.txt k (.node a1 b1 k1 kids1 (.node a2 b2 k2 kids2 .nil)) least = Ty.txt k1 kids1 (Ty.need k true) ++ (32 :: (Ty.word k ++ (32 :: Ty.txt k2 kids2 (Ty.need k false)))) := by
          unfold Ty.txt Ty.txtOne
          rw [if_neg (by omega), if_neg hbr]
          exact Ty.txt_two k a1 b1 a2 b2 k1 kids1 k2 kids2
        have hln := HLen.out
        rw [htx] at hln ⊢
        have H1 : KidW w0 b k1 kids1 A1 c1 (Ty.need k true) := fun W l hW hBl hl => HIH.out k1 kids1 A1 _ c1 _ l W (by omega) I1.out ho1 hW hBl hl
        have H2 : KidW w0 b k2 kids2 A2 c2 (Ty.need k false) := fun W l hW hBl hl => HIH.out k2 kids2 A2 _ c2 _ l W (by omega) I2.out ho2 hW hBl hl
        rcases hpair with rfl | rfl | rfl
        · exact write_3_no w0 b hb hS k1 kids1 A1 c1 k2 kids2 A2 c2 bb oo c least l w H1 H2 (fun W hW => hkid.out W hW) hB HB2.out (by simpa [Ty.binds] using hbr) hln
        · exact write_4_no w0 b hb hS k1 kids1 A1 c1 k2 kids2 A2 c2 bb oo c least l w H1 H2 (fun W hW => hkid.out W hW) hB HB2.out (by simpa [Ty.binds] using hbr) hln
        · exact write_5_no w0 b hb hS k1 kids1 A1 c1 k2 kids2 A2 c2 bb oo c least l w H1 H2 (fun W hW => hkid.out W hW) hB HB2.out (by simpa [Ty.binds] using hbr) hln
end Go.Proofs.YtdeomggkhbdkaaaGreatDoor
namespace Go.Proofs.YtdeomggkhbdkaaaGreatDoor
open Go.RowKit

namespace Ty
/-- the text of a type, if it is one -/
def textT (k : Int) (kids : Fo) : ByteArray := if chk k kids = 0 then ⟨(txt k kids 1).toArray⟩ else ⟨#[]⟩
end Ty

set_option maxHeartbeats 1000000 in
set_option maxRecDepth 100000 in
theorem text_any (k : Int) (kids : Fo) (A : Option Addr) (n c : Nat) (w : World) (hIs : Ty.Is w k kids A n c) (hS : Shapes w) :
    Calls Tryz.prog 65 #[.agg #[.int .i8 k, .slice A n c]] w fun e w' => e = .returned (.tuple #[.string (Ty.textT k kids), .int .i64 (Ty.chk k kids)]) ∧ Below w.heap.size w w' := by
  have hB0 := (Below.refl w.heap.size w).alloc (Nat.le_refl _) (.cells #[.int .i8 k, .slice A n c] 25)
  have HM := Lib.hid (fun (W : World) (hb : Below w.heap.size w W) => check_any k kids A n c W (hIs.below hb) (hS.below hb))
  have hR0 := heap_new w (.cells #[.int .i8 k, .slice A n c] 25)
  by_cases h0 : Ty.chk k kids = 0
  · have hok := Ty.chk_ok h0
    have htl := Ty.txt_len k kids 1
    have hwr := fun (b : Nat) (hb : w.heap.size ≤ b) (W : World) (hW : Below w.heap.size w W) (hBl : Bld w.heap.size b [] W) => write_any w b hb hS (Ty.nodes kids + 1) k kids A n c 1 [] W (by omega) hIs hok.1 hW hBl (by simp; omega)
    have HW := Lib.hid hwr
    have e1 : Ty.textT k kids = ⟨(Ty.txt k kids 1).toArray⟩ := by unfold Ty.textT; rw [if_pos h0]
    rw [h0] at HM
    rw [h0, e1]
    generalize Ty.txt k kids 1 = T at *
    have R0 := Lib.hid hR0
    clear hIs hS hok htl hwr e1 h0 hR0
    go_enter Tryz.func65, Tryz.ntmps65
    go_wp2_with fail
    refine (HM.out _ hB0).mono ?_
    rintro e w3 ⟨rfl, hb⟩
    have hB1 := hB0.trans (hb.mono hB0.size)
    have R1 := Lib.hid (heap_below hb (heap_lt R0.out) R0.out)
    obtain ⟨b0, b1, _, _, hlt⟩ := own2 R1.out
    clear hb
    go_wp2_with fail
    refine (HW.out _ hB1.size _ (hB1.alloc hB1.size _) ?_).mono ?_
    · have := Lib.IsBuilderF.of (Lib.fresh_isBuilder 37 5 w3)
      exact bld_low this hB1.size
    rintro e w4 ⟨rfl, hbl, hw⟩
    have hB4 := (hB1.alloc hB1.size _).trans hw.below
    have HBl := Lib.hid hbl
    clear hbl hw
    go_wp2_with fail
    refine (Tryz.Builder_String_any_k w.heap.size _ T _ HBl.out hB4.size).mono ?_
    rintro e w5 ⟨rfl, -, hb5, -⟩
    go_wp2_with fail
    go_ret2
    exact ⟨rfl, hB4.trans hb5⟩
  · have e1 : Ty.textT k kids = ⟨#[]⟩ := by unfold Ty.textT; rw [if_neg h0]
    have hc : (((Ty.chk k kids : Nat) : Int) != 0) = true := by simp; omega
    rw [e1]
    generalize Ty.chk k kids = C at *
    clear hIs hS e1 h0 hR0
    go_enter Tryz.func65, Tryz.ntmps65
    go_wp2_with fail
    refine (HM.out _ hB0).mono ?_
    rintro e w3 ⟨rfl, hb⟩
    go_wp2_with fail
    go_ret2
    exact ⟨rfl, hB0.trans (hb.mono hB0.size)⟩
end Go.Proofs.YtdeomggkhbdkaaaGreatDoor
