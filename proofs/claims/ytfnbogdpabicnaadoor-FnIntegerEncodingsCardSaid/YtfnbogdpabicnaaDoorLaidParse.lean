/-
  What the listed variables of the row on ParseInt give: the table of powers of ten, and the two sentinels.
-/
import Derived.Test.YtfnbogdpabicnaaDoorLParse
import Derived.Test.YtfnbogdpabicnaaDoorLaidFormat
namespace Go.Proofs.YtfnbogdpabicnaaDoor
open Go.RowKit Go.Deep Go.Proofs.YtfnbogdpabicnaaDoor.Num

/-- The name of the sentinels' type, as the given rows have it. -/
def nmES : String := match (Rows.laid_strconv_ErrRange : DataW Unit) with
  | .iface n _ => n
  | _ => default
/-- The names of the sentinels, as the given rows have them. -/
def nmSyn : String := (Rows.fnExactParseIntRow.named).headD default
def nmRng : String := (Rows.fnExactParseIntRow.named.tail).headD default
theorem gSyn : Tryd.prog.globalNamed nmSyn = some 0 := by kernel_rfl
theorem gRng : Tryd.prog.globalNamed nmRng = some 1 := by kernel_rfl
theorem tSyn : (Tryd.prog.globals[0]?).map (·.type) = some 49 := by kernel_rfl
theorem tRng : (Tryd.prog.globals[1]?).map (·.type) = some 49 := by kernel_rfl
theorem cES : Tryd.prog.cellsOf 85 = 1 := by kernel_rfl
theorem cStr : Tryd.prog.cellsOf 9 = 1 := by kernel_rfl
/-- The one type of that name. -/
theorem rowES (u : TypeId) (h : Tryd.prog.typeName? 3 u = some nmES) : u = 83 :=
  typeName_ptr_named (nm := "errors.errorString") (by kernel_rfl) (by kernel_rfl) (by decide) u (h.trans (congrArg some (by decide)))

theorem all_of_laid {W : World} (h : laidMetH Tryd.prog Rows.fnExactParseIntRow.laid W) : Sent W ∧ Pow W := by
  rw [MakeChecks.laidMetH_plain _ _ _ (by kernel_rfl)] at h
  have h2 : laidMet Tryd.prog ((powName, Lib.tabData .u64 Lib.pow10Tab) :: (nmRng, Rows.laid_strconv_ErrRange) :: (nmSyn, Rows.laid_strconv_ErrSyntax) :: []) W := h.tail.tail
  obtain ⟨a0, s0, hv0, -, -, -⟩ := laid_sentinel (n := nmRng) (nm := nmES) h2.tail gRng tRng Tryd.underlying49 rowES Tryd.underlying83 Tryd.underlying85 rfl rfl Tryd.underlying9 cES cStr
  obtain ⟨a1, s1, hv1, -, -, -⟩ := laid_sentinel (n := nmSyn) (nm := nmES) h2.tail.tail gSyn tSyn Tryd.underlying49 rowES Tryd.underlying83 Tryd.underlying85 rfl rfl Tryd.underlying9 cES cStr
  have c0 : W.cell? ⟨0, 0, none⟩ = some (.iface 83 (.pointer (some a1))) := by
    have h0 := World.var?_cell gSyn hv1 0
    simpa using h0
  have c1 : W.cell? ⟨1, 0, none⟩ = some (.iface 83 (.pointer (some a0))) := by
    have h0 := World.var?_cell gRng hv0 0
    simpa using h0
  exact ⟨⟨⟨_, _, c0⟩, ⟨_, _, c1⟩⟩, Lib.tabIs_of_head gPow tPow Tryd.underlying77 Tryd.underlying65 cU64 cPow h2⟩
end Go.Proofs.YtfnbogdpabicnaaDoor
