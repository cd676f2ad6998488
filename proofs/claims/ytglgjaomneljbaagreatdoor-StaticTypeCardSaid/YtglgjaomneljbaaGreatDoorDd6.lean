import Derived.Laws.StructEq
import Derived.Maps.AppendAt
import Derived.Deep.RegionLaw
import Derived.Deep.RegionHeld3
import Derived.Deep.DrawnRows
import Derived.ArgAppend
import Derived.Deep.DeepCutAuto
import Derived.Deep.QuietTactic
import Derived.BigQuiet
import Derived.WalkSmall
import Derived.Laws.EntriesVeiled
import Derived.WalkKit
import Derived.ChangeSame
import Derived.Deep.Trees
import Derived.Deep.Slices
import Derived.Below
import Derived.Lib.Hide
import Derived.StillTailTactics
import Derived.WalkSpells
import Derived.WalkLawsBesides
import Derived.RegionTactic
import Derived.BigRegion
import Derived.Defers
import Derived.Recover
import Derived.Deep.LoopGhost
import Derived.OwnWalk
import Derived.Laws.AppendOwn
import Derived.Deep.AppendLies
import Derived.Lib.ParseIntB
import Derived.Deep.OwnRows
import Derived.Orders
import Derived.Laws.Cover4
import Derived.Test.YtglgjaomneljbaaGreatDoorRows
import Derived.IntWalk
import Derived.Shelf.Small.Utf8
import Derived.Shelf.Small.Strs
import Derived.Shelf.LaysM
import Derived.Shelf.Strconv.Clone
import Derived.Shelf.LaysC
import Derived.Shelf.Strconv.Lower
import Derived.Shelf.Strconv.ParseUint10
import Derived.Shelf.Strconv.ParseUint10Empty
import Derived.Shelf.Strconv.ParseUint10Any
import Derived.Shelf.Strconv.ParseInt10
import Derived.Shelf.Strconv.RangeError
import Derived.Shelf.Strconv.ParseUintEmpty
import Derived.Shelf.Strconv.ParseInt10At64
import Derived.Shelf.Strconv.ParseInt10All
import Derived.Shelf.Strconv.ParseIntPublic10
import Derived.Shelf.Strconv.ErrVarParseInt
import Derived.Shelf.Strings.Search1
import Derived.Shelf.Strings.Prefix
import Derived.Shelf.Strings.Runes
import Derived.Deep.RegionWith
import Derived.Lib.DecodeN
import Derived.Lib.Strings
import Derived.Laws.RangeAny
namespace Go.Proofs.YtglgjaomneljbaaGreatDoor
open Go.RowKit
theorem zG1 {P : Prop} (h : P := by
 clear hb q0 q1 q2 q3 q4 q5 q6 q7 q8 q9 q10 ql;cases d
 all_goals
  go_wp2_with (first | (go_at_call 53; refine (hHT _).mono ?_; rintro e w9 ⟨rfl, rfl⟩) | (go_at_call 55; refine (hHU _).mono ?_; rintro e w9 ⟨rfl, rfl⟩))
  go_ret
  exact ⟨qQ (by rw [← hR]; rfl), HB.out.trans (HB4.out.mono HB.out.size)⟩) : P := h
theorem zFt {P : Prop} (h : P := by
 obtain ⟨k0, k1, -, -, -⟩ := zF z1;obtain ⟨k2, -, -⟩ := vF z2
 exact ⟨.tuple #[.agg #[.int .i8 0, .slice none 0 0], (.iface 53 (.pointer (some ⟨g, 0, none⟩)))], by simp [results, Tryz.results12, go_sem, k0, k1, k2], g, rfl, hff.out, hgw, HB9.out⟩) : P := h
theorem zFs {P : Prop} (h : P := by
 go_wp2_with (first | (go_at_call 53; refine (hHT _).mono ?_; rintro e w9 ⟨rfl, rfl⟩) | (go_at_call 55; refine (hHU _).mono ?_; rintro e w9 ⟨rfl, rfl⟩))
 go_ret
 exact ⟨qQ (by rw [← hR]; rfl), HB.out.trans (HB3.out.mono HB.out.size)⟩) : P := h
end Go.Proofs.YtglgjaomneljbaaGreatDoor
