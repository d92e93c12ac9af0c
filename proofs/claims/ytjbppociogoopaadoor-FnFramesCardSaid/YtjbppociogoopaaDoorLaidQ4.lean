/-
  What the listed variable of the rows of this chapter gives: the table of forms.
-/
import Derived.Test.YtjbppociogoopaaDoorForms
import Derived.Test.YtjbppociogoopaaDoorRows
import Derived.LaidMore
import Derived.LaidLaws
import Derived.Lib.LaidTab
import Derived.ChangeArms
import Derived.Stop.LaidErr
namespace Go.Proofs.YtjbppociogoopaaDoor
open Go.RowKit Go.Deep Go.Proofs.YtjbppociogoopaaDoor.Num

theorem wf_range {a : Int} (h : (Lit.int .i64 a).wf = true) : -9223372036854775808 ≤ a ∧ a ≤ 9223372036854775807 := by
  simp [Lit.wf, IntKind.min, IntKind.max, IntKind.signed, IntKind.bits] at h
  omega
theorem gForms : Tryd.prog.globalNamed ((Rows.fnFramesRow.named).headD default) = some 0 := by kernel_rfl
theorem tForms : (Tryd.prog.globals[0]?).map (·.type) = some 117 := by kernel_rfl
theorem cForm : Tryd.prog.cellsOf 109 = 3 := by kernel_rfl
theorem cByte : Tryd.prog.cellsOf 5 = 1 := by kernel_rfl
theorem cInt : Tryd.prog.cellsOf 3 = 1 := by kernel_rfl

/-- The cells of one form, by how it reads. -/
theorem form_cells {w : World} {sp : Nat → Bool} {held : Bool} {fuel : Nat} {cs : List Value} {a b c : Int} {p : List MemPlace}
    (h : DataW.trod (fun _ => ()) Tryd.prog w 0 sp held fuel 109 cs = some (.agg [.lit (.int .u8 a), .lit (.int .i64 b), .lit (.int .i64 c)], p)) :
    cs[0]? = some (.int .u8 a) ∧ cs[1]? = some (.int .i64 b) ∧ cs[2]? = some (.int .i64 c) := by
  obtain ⟨xs, n, rfl, hx, _, _, hall⟩ := DataW.trod_struct Tryd.underlying109 h
  have hx3 : xs.map (·.1) = [.lit (.int .u8 a), .lit (.int .i64 b), .lit (.int .i64 c)] := by
    have := congrArg Prod.fst hx
    simpa using this.symm
  obtain ⟨x0, x1, x2, rfl⟩ : ∃ x0 x1 x2, xs = [x0, x1, x2] := by
    match xs, hx3 with
    | [x0, x1, x2], _ => exact ⟨x0, x1, x2, rfl⟩
  simp only [List.map_cons, List.map_nil, List.cons.injEq, and_true] at hx3
  obtain ⟨e0, e1, e2⟩ := hx3
  have f0 := hall 0 _ rfl
  have f1 := hall 1 _ rfl
  have f2 := hall 2 _ rfl
  change DataW.trod _ _ _ _ _ _ _ 5 ((cs.drop 0).take (Tryd.prog.cellsOf 5)) = some x0 at f0
  change DataW.trod _ _ _ _ _ _ _ 3 ((cs.drop 1).take (Tryd.prog.cellsOf 3)) = some x1 at f1
  change DataW.trod _ _ _ _ _ _ _ 3 ((cs.drop 2).take (Tryd.prog.cellsOf 3)) = some x2 at f2
  rw [cByte] at f0
  rw [cInt] at f1 f2
  obtain ⟨z0, h0, r0, _⟩ := DataW.trod_int Tryd.underlying5 f0
  obtain ⟨z1, h1, r1, _⟩ := DataW.trod_int Tryd.underlying3 f1
  obtain ⟨z2, h2, r2, _⟩ := DataW.trod_int Tryd.underlying3 f2
  rw [r0] at e0
  rw [r1] at e1
  rw [r2] at e2
  cases e0
  cases e1
  cases e2
  have g0 := congrArg (·[0]?) h0
  have g1 := congrArg (·[0]?) h1
  have g2 := congrArg (·[0]?) h2
  simp only [List.getElem?_take, List.getElem?_drop] at g0 g1 g2
  exact ⟨by simpa using g0, by simpa using g1, by simpa using g2⟩

theorem forms_of_laid {W : World} (h : laidMetH Tryd.prog Rows.fnFramesRow.laid W) : Forms W := by
  rw [MakeChecks.laidMetH_plain _ _ _ (by kernel_rfl)] at h
  obtain ⟨ps, ⟨g', t', cs, fuel, p, q, hg', ht', hvar, hd, _, _⟩, _⟩ := h
  obtain rfl := Option.some.inj (gForms.symm.trans hg')
  obtain rfl := Option.some.inj (tForms.symm.trans ht')
  have hat : ∀ i, i < 4 → ∃ fuel' d r, ([.agg [.lit (.int .u8 0), .lit (.int .i64 1), .lit (.int .i64 63)], .agg [.lit (.int .u8 64), .lit (.int .i64 2), .lit (.int .i64 16383)], .agg [.lit (.int .u8 128), .lit (.int .i64 4), .lit (.int .i64 1073741823)], .agg [.lit (.int .u8 192), .lit (.int .i64 8), .lit (.int .i64 4611686018427387903)]] : List (DataW Unit))[i]? = some d ∧ DataW.trod (fun _ => ()) Tryd.prog W 0 (fun _ => true) false fuel' 109 ((cs.toList.drop (i * 3)).take 3) = some (d, r) := by
    intro i hi
    cases fuel with
    | zero => simp [DataW.trod] at hd
    | succ fuel =>
      simp only [DataW.trod, Tryd.underlying117, cForm] at hd
      split at hd
      · obtain ⟨xs, hm, hx⟩ := Option.map_eq_some_iff.1 hd
        obtain ⟨b, hb, hf⟩ := Lib.mapM_at hm i i (by simp [hi])
        have hds := congrArg Prod.fst hx
        simp only [Rows.laid_loop_example_g01633_impl_quicForms, DataW.agg.injEq] at hds
        exact ⟨fuel, b.1, b.2, by rw [← hds]; simp [hb], hf⟩
      · cases hd
  have hv := World.var?_cell gForms hvar
  have k0 : cs[0]? = formVals[0]? ∧ cs[1]? = formVals[1]? ∧ cs[2]? = formVals[2]? := by
    obtain ⟨f, d, r, he, ht⟩ := hat 0 (by decide)
    obtain rfl := Option.some.inj he
    have hc := form_cells ht
    simp only [List.getElem?_take, List.getElem?_drop] at hc
    simpa [formVals] using hc
  have k1 : cs[3]? = formVals[3]? ∧ cs[4]? = formVals[4]? ∧ cs[5]? = formVals[5]? := by
    obtain ⟨f, d, r, he, ht⟩ := hat 1 (by decide)
    obtain rfl := Option.some.inj he
    have hc := form_cells ht
    simp only [List.getElem?_take, List.getElem?_drop] at hc
    simpa [formVals] using hc
  have k2 : cs[6]? = formVals[6]? ∧ cs[7]? = formVals[7]? ∧ cs[8]? = formVals[8]? := by
    obtain ⟨f, d, r, he, ht⟩ := hat 2 (by decide)
    obtain rfl := Option.some.inj he
    have hc := form_cells ht
    simp only [List.getElem?_take, List.getElem?_drop] at hc
    simpa [formVals] using hc
  have k3 : cs[9]? = formVals[9]? ∧ cs[10]? = formVals[10]? ∧ cs[11]? = formVals[11]? := by
    obtain ⟨f, d, r, he, ht⟩ := hat 3 (by decide)
    obtain rfl := Option.some.inj he
    have hc := form_cells ht
    simp only [List.getElem?_take, List.getElem?_drop] at hc
    simpa [formVals] using hc
  have hc : ∀ j, j < 12 → W.cell? ⟨0, j, none⟩ = formVals[j]? := fun j hj => by
    rw [hv j]
    match j, hj with
    | 0, _ => exact k0.1
    | 1, _ => exact k0.2.1
    | 2, _ => exact k0.2.2
    | 3, _ => exact k1.1
    | 4, _ => exact k1.2.1
    | 5, _ => exact k1.2.2
    | 6, _ => exact k2.1
    | 7, _ => exact k2.2.1
    | 8, _ => exact k2.2.2
    | 9, _ => exact k3.1
    | 10, _ => exact k3.2.1
    | 11, _ => exact k3.2.2
    | j + 12, h => exact absurd h (by omega)
  exact ⟨block_lt_of_cell ((hc 0 (by decide)).trans (rfl : formVals[0]? = some (.int .u8 0))), hc⟩
end Go.Proofs.YtjbppociogoopaaDoor
