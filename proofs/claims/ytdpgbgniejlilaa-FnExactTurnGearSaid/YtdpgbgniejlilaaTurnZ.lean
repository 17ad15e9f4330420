/- TurnGear, both. -/
import Derived.Test.YtdpgbgniejlilaaTurnY
import Derived.Test.YtdpgbgniejlilaaTurnJ
namespace Go.Proofs.Ytdpgbgniejlilaa
open Go.ChangeShapes Go.WideShapes Go.ChangeAt Go.RowKit Go.Joins Go.Deep
set_option linter.unusedSimpArgs false
set_option linter.unusedVariables false
set_option maxRecDepth 100000
theorem spec_TurnGear (R C : Int) (A : Option Addr) (cap : Nat) (l : List (Int × Int)) (i j : Int) (w : World) (hn : l.length ≤ 1048576) (hr : Rd w w.heap.size A (flat l)) : Calls Try.prog 15 #[.agg #[.int .i64 R, .int .i64 C, .slice A l.length cap], .int .i64 i, .int .i64 j] w (PostB w (selI (okT R C l i j) R) (selI (okT R C l i j) C) (turnG R C l i j) (okT R C l i j)) := by
  rcases Bool.eq_false_or_eq_true (hasB R C l i j) with hh | hh
  · rcases Bool.eq_false_or_eq_true (gearK l (atI C i j)) with hk | hk
    · exact (spec_TurnGear_yes R C A cap l i j w hh hk hn hr).mono fun e w' h => turnG_post (ok := true) (by unfold okT; rw [hh, hk]; rfl) h
    · exact (spec_TurnGear_bad R C A cap l i j w hh hk hn hr).mono fun e w' h => turnG_post (ok := false) (by unfold okT; rw [hk, Bool.and_false]) h
  · exact (spec_TurnGear_has R C A cap l i j w hh hn hr).mono fun e w' h => turnG_post (ok := false) (by unfold okT; rw [hh, Bool.false_and]) h
theorem impl_TurnGear (R C : Int) (A : Option Addr) (cap : Nat) (l : List (Int × Int)) (i j : Int) (w : World) (hn : l.length ≤ 1048576) (hr : Rd w w.heap.size A (flat l)) : Calls Try.prog 16 #[.agg #[.int .i64 R, .int .i64 C, .slice A l.length cap], .int .i64 i, .int .i64 j] w (PostB w (selI (okT R C l i j) R) (selI (okT R C l i j) C) (turnG R C l i j) (okT R C l i j)) := by
  rcases Bool.eq_false_or_eq_true (okT R C l i j) with hk | hk
  · exact (impl_TurnGear_yes R C A cap l i j w hk hn hr).mono fun e w' h => turnG_post (ok := true) hk h
  · rcases Bool.eq_false_or_eq_true (okJ R C l i j) with hh | hh
    · exact (impl_TurnGear_cog R C A cap l i j w hh hk hn hr).mono fun e w' h => turnG_post (ok := false) hk h
    · exact (impl_TurnGear_not R C A cap l i j w hh hn hr).mono fun e w' h => turnG_post (ok := false) hk h
end Go.Proofs.Ytdpgbgniejlilaa
