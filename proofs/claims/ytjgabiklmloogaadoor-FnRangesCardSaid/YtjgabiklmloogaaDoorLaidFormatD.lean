/-
  What the listed variables of the row on FormatInt give: the table of powers of ten.
-/
import Derived.Test.YtjgabiklmloogaaDoorIFmtRgs
import Derived.LaidMore
import Derived.LaidLaws
import Derived.Lib.LaidTab
import Derived.Stop.LaidErr
namespace Go.Proofs.YtjgabiklmloogaaDoor
open Go.RowKit Go.Deep Go.Proofs.YtjgabiklmloogaaDoor.Num

theorem tPow : (Tryd.prog.globals[1]?).map (·.type) = some 100 := by kernel_rfl
theorem cPow : Tryd.prog.cellsOf 100 = 20 := by kernel_rfl
theorem cU64 : Tryd.prog.cellsOf 93 = 1 := by kernel_rfl
theorem pow_of_laid {W : World} (h : laidMetH Tryd.prog Rows.fnExactFormatRangesRow.laid W) : Pow W := by
  rw [MakeChecks.laidMetH_plain _ _ _ (by kernel_rfl)] at h
  have h2 : laidMet Tryd.prog [(powName, Lib.tabData .u64 Lib.pow10Tab)] W := h.tail.tail
  exact Lib.tabIs_of_head gPow tPow Tryd.underlying100 Tryd.underlying93 cU64 cPow h2
end Go.Proofs.YtjgabiklmloogaaDoor
