/-
  The table of forms, as the program's text lays it, and what impl.shortestForm returns.
-/
import Derived.Test.YtjbppociogoopaaDoorSDecQ
namespace Go.Proofs.YtjbppociogoopaaDoor
open Go.RowKit Go.Deep Go.Proofs.YtjbppociogoopaaDoor.Num

/-- The cells of the table of forms. -/
def formVals : Array Value := #[.int .u8 0, .int .i64 1, .int .i64 63, .int .u8 64, .int .i64 2, .int .i64 16383, .int .u8 128, .int .i64 4, .int .i64 1073741823, .int .u8 192, .int .i64 8, .int .i64 4611686018427387903]
/-- The table of forms lies where the program's text lays it. -/
def Forms (w : World) : Prop := 0 < w.heap.size ∧ ∀ j, j < 12 → w.cell? ⟨0, j, none⟩ = formVals[j]?
theorem Forms.keep {w w' : World} (h : Forms w) {K : Nat} (hK : w.heap.size ≤ K) (hb : Below K w w') : Forms w' :=
  ⟨Nat.lt_of_lt_of_le h.1 hb.size, fun j hj => (World.cell?_of_block (w := w) (hb.block _ (Nat.lt_of_lt_of_le h.1 hK))).trans (h.2 j hj)⟩
theorem Forms.alloc {w : World} (h : Forms w) (o : Obj) : Forms (w.alloc o) :=
  h.keep (Nat.le_refl _) ((Below.refl _ w).alloc (Nat.le_refl _) o)
/-- Block g holds one form. -/
def Holds (w : World) (g : Nat) (cs : Array Value) : Prop := w.heap[g]? = some (.cells cs 109 (0, 0))
theorem Holds.keep {w w' : World} {g : Nat} {cs : Array Value} (h : Holds w g cs) (hb : w'.heap[g]? = w.heap[g]?) : Holds w' g cs := hb.trans h
theorem Holds.free {w : World} {g : Nat} {cs : Array Value} (h : Holds w g cs) (k : Nat) : w.frozen? ⟨g, k, none⟩ = false := by
  simp [World.frozen?, show w.heap[g]? = _ from h]
theorem Holds.cell {w : World} {g : Nat} {cs : Array Value} (h : Holds w g cs) (k : Nat) : w.cell? ⟨g, k, none⟩ = cs[k]? := cell_of_row w g k _ _ _ h
theorem Holds.set3 {w : World} {g : Nat} {a b c : Value} (h : Holds w g #[a, b, c]) (o : Obj) (a' b' c' : Value) :
    Holds ((((w.setCell ⟨g, 0, none⟩ a').setCell ⟨g, 1, none⟩ b').setCell ⟨g, 2, none⟩ c').alloc o) g #[a', b', c'] := by
  have hlt : g < w.heap.size := (Array.getElem?_eq_some_iff.1 h).1
  refine (Below.heap_alloc _ _ _ (by simpa [World.setCell] using hlt)).trans ?_
  simp [World.setCell, Array.getElem?_modify, show w.heap[g]? = _ from h]
theorem Holds.set {w : World} {g : Nat} {a b c : Value} (h : Holds w g #[a, b, c]) (a' b' c' : Value) :
    Holds (((w.setCell ⟨g, 0, none⟩ a').setCell ⟨g, 1, none⟩ b').setCell ⟨g, 2, none⟩ c') g #[a', b', c'] := by
  unfold Holds
  simp [World.setCell, Array.getElem?_modify, show w.heap[g]? = _ from h]
theorem sizeForm : (Tryd.prog.info? 109).map (·.size) = some 3 := by kernel_rfl
/-- The forms of the table, by their place. -/
theorem ix0 (W : World) : (Instr.index 117 (.agg #[.int .u8 0, .int .i64 1, .int .i64 63, .int .u8 64, .int .i64 2, .int .i64 16383, .int .u8 128, .int .i64 4, .int .i64 1073741823, .int .u8 192, .int .i64 8, .int .i64 4611686018427387903]) (.int .i64 0)).run Tryd.prog W = .ok (.agg #[.int .u8 0, .int .i64 1, .int .i64 63]) W := by
  simp [Instr.index, run_underlying Tryd.underlying117, asIntOf, part, Tryd.isAgg109, Tryd.sizeOf109, go_sem]
theorem ix1 (W : World) : (Instr.index 117 (.agg #[.int .u8 0, .int .i64 1, .int .i64 63, .int .u8 64, .int .i64 2, .int .i64 16383, .int .u8 128, .int .i64 4, .int .i64 1073741823, .int .u8 192, .int .i64 8, .int .i64 4611686018427387903]) (.int .i64 1)).run Tryd.prog W = .ok (.agg #[.int .u8 64, .int .i64 2, .int .i64 16383]) W := by
  simp [Instr.index, run_underlying Tryd.underlying117, asIntOf, part, Tryd.isAgg109, Tryd.sizeOf109, go_sem]
theorem ix2 (W : World) : (Instr.index 117 (.agg #[.int .u8 0, .int .i64 1, .int .i64 63, .int .u8 64, .int .i64 2, .int .i64 16383, .int .u8 128, .int .i64 4, .int .i64 1073741823, .int .u8 192, .int .i64 8, .int .i64 4611686018427387903]) (.int .i64 2)).run Tryd.prog W = .ok (.agg #[.int .u8 128, .int .i64 4, .int .i64 1073741823]) W := by
  simp [Instr.index, run_underlying Tryd.underlying117, asIntOf, part, Tryd.isAgg109, Tryd.sizeOf109, go_sem]
theorem ix3 (W : World) : (Instr.index 117 (.agg #[.int .u8 0, .int .i64 1, .int .i64 63, .int .u8 64, .int .i64 2, .int .i64 16383, .int .u8 128, .int .i64 4, .int .i64 1073741823, .int .u8 192, .int .i64 8, .int .i64 4611686018427387903]) (.int .i64 3)).run Tryd.prog W = .ok (.agg #[.int .u8 192, .int .i64 8, .int .i64 4611686018427387903]) W := by
  simp [Instr.index, run_underlying Tryd.underlying117, asIntOf, part, Tryd.isAgg109, Tryd.sizeOf109, go_sem]
/-- The form of k bytes; the zero form, if there is none. -/
def formV (k : Nat) : Value :=
  if k = 1 then .agg #[.int .u8 0, .int .i64 1, .int .i64 63] else if k = 2 then .agg #[.int .u8 64, .int .i64 2, .int .i64 16383]
  else if k = 4 then .agg #[.int .u8 128, .int .i64 4, .int .i64 1073741823] else if k = 8 then .agg #[.int .u8 192, .int .i64 8, .int .i64 4611686018427387903]
  else .agg #[.int .u8 0, .int .i64 0, .int .i64 0]

set_option maxRecDepth 100000 in
/-- impl.shortestForm -/
theorem ishort (n : Int) (w : World) (hF : Forms w) :
    Calls Tryd.prog 83 #[.int .i64 n] w fun e w' => e = .returned (formV (qsz n)) ∧ Below w.heap.size w w' := by
  by_cases hn : n < 0
  · have hz : formV (qsz n) = .agg #[.int .u8 0, .int .i64 0, .int .i64 0] := by
      rw [(qsz_zero n).2 (Or.inl hn)]; rfl
    rw [hz]
    go_enter Tryd.func83, Tryd.ntmps83
    go_wp2
    (try simp only [Exit.inBlock, Exit.then])
    refine bodyPost_ret (results_cell_row rfl _ _ w.heap.size _ _ _ _ rfl (heap_alloc_new w _) Tryd.underlying109 rfl sizeForm) rfl ?_
    exact ⟨rfl, (Below.refl _ _).alloc (Nat.le_refl _) _⟩
  · have ha : ∀ o : Obj, Forms (w.alloc o) := fun o => hF.alloc o
    have c0 : ∀ o : Obj, (w.alloc o).cell? ⟨0, 0, none⟩ = some (.int .u8 0) := fun o => (ha o).2 0 (by decide)
    have c1 : ∀ o : Obj, (w.alloc o).cell? ⟨0, 1, none⟩ = some (.int .i64 1) := fun o => (ha o).2 1 (by decide)
    have c2 : ∀ o : Obj, (w.alloc o).cell? ⟨0, 2, none⟩ = some (.int .i64 63) := fun o => (ha o).2 2 (by decide)
    have c3 : ∀ o : Obj, (w.alloc o).cell? ⟨0, 3, none⟩ = some (.int .u8 64) := fun o => (ha o).2 3 (by decide)
    have c4 : ∀ o : Obj, (w.alloc o).cell? ⟨0, 4, none⟩ = some (.int .i64 2) := fun o => (ha o).2 4 (by decide)
    have c5 : ∀ o : Obj, (w.alloc o).cell? ⟨0, 5, none⟩ = some (.int .i64 16383) := fun o => (ha o).2 5 (by decide)
    have c6 : ∀ o : Obj, (w.alloc o).cell? ⟨0, 6, none⟩ = some (.int .u8 128) := fun o => (ha o).2 6 (by decide)
    have c7 : ∀ o : Obj, (w.alloc o).cell? ⟨0, 7, none⟩ = some (.int .i64 4) := fun o => (ha o).2 7 (by decide)
    have c8 : ∀ o : Obj, (w.alloc o).cell? ⟨0, 8, none⟩ = some (.int .i64 1073741823) := fun o => (ha o).2 8 (by decide)
    have c9 : ∀ o : Obj, (w.alloc o).cell? ⟨0, 9, none⟩ = some (.int .u8 192) := fun o => (ha o).2 9 (by decide)
    have c10 : ∀ o : Obj, (w.alloc o).cell? ⟨0, 10, none⟩ = some (.int .i64 8) := fun o => (ha o).2 10 (by decide)
    have c11 : ∀ o : Obj, (w.alloc o).cell? ⟨0, 11, none⟩ = some (.int .i64 4611686018427387903) := fun o => (ha o).2 11 (by decide)
    clear ha hF
    go_enter Tryd.func83, Tryd.ntmps83
    go_wp2
    clear c0 c1 c2 c3 c4 c5 c6 c7 c8 c9 c10 c11
    go_loopw [9] (fun i wr => ∃ j : Nat, i = .int .i64 (j : Int) ∧ (j = 0 ∨ (j = 1 ∧ 63 < n) ∨ (j = 2 ∧ 16383 < n) ∨ (j = 3 ∧ 1073741823 < n) ∨ (j = 4 ∧ 4611686018427387903 < n)) ∧ Holds wr w.heap.size #[.int .u8 0, .int .i64 0, .int .i64 0] ∧ Below w.heap.size w wr) (fun i _ => 5 - (intOf i).toNat)
    case atStart => exact ⟨0, rfl, Or.inl rfl, heap_alloc_new w _, (Below.refl _ _).alloc (Nat.le_refl _) _⟩
    case round =>
      obtain ⟨j, rfl, hj, hH, hb⟩ := hrel
      have hlt : w.heap.size < wr.heap.size := (Array.getElem?_eq_some_iff.1 hH).1
      have hfz := hH.free
      have k0 := hH.cell 0
      have k1 := hH.cell 1
      have k2 := hH.cell 2
      simp at k0 k1 k2
      have x0 := ix0
      have x1 := ix1
      have x2 := ix2
      have x3 := ix3
      have HH := Lib.hid hH
      have HB := Lib.hid hb
      clear hH hb
      rcases hj with rfl | ⟨rfl, hm⟩ | ⟨rfl, hm⟩ | ⟨rfl, hm⟩ | ⟨rfl, hm⟩
      · by_cases hle : n ≤ 63
        · have hz : qsz n = 1 := by rcases qsz_cases n with h | h | h | h | h <;> omega
          have HZ := Lib.hid hz
          clear hz
          go_wp2
          (try simp only [Exit.inBlock, Exit.then])
          refine bodyPost_ret (results_cell_row rfl _ _ w.heap.size _ _ _ _ rfl (HH.out.set3 _ _ _ _) Tryd.underlying109 rfl sizeForm) rfl ?_
          exact ⟨by rw [HZ.out]; rfl, (((HB.out.setCell (p := ⟨_, _, _⟩) (Nat.le_refl _) _).setCell (p := ⟨_, _, _⟩) (Nat.le_refl _) _).setCell (p := ⟨_, _, _⟩) (Nat.le_refl _) _).alloc (by simpa [World.setCell] using HB.out.size) _⟩
        · go_wp2
          go_roundw
          case rel => exact ⟨1, rfl, by omega, HH.out.keep (Below.heap_alloc _ _ _ hlt), HB.out.alloc HB.out.size _⟩
          case measure => simp [intOf]
      · by_cases hle : n ≤ 16383
        · have hz : qsz n = 2 := by rcases qsz_cases n with h | h | h | h | h <;> omega
          have HZ := Lib.hid hz
          clear hz
          go_wp2
          (try simp only [Exit.inBlock, Exit.then])
          refine bodyPost_ret (results_cell_row rfl _ _ w.heap.size _ _ _ _ rfl (HH.out.set3 _ _ _ _) Tryd.underlying109 rfl sizeForm) rfl ?_
          exact ⟨by rw [HZ.out]; rfl, (((HB.out.setCell (p := ⟨_, _, _⟩) (Nat.le_refl _) _).setCell (p := ⟨_, _, _⟩) (Nat.le_refl _) _).setCell (p := ⟨_, _, _⟩) (Nat.le_refl _) _).alloc (by simpa [World.setCell] using HB.out.size) _⟩
        · go_wp2
          go_roundw
          case rel => exact ⟨2, rfl, by omega, HH.out.keep (Below.heap_alloc _ _ _ hlt), HB.out.alloc HB.out.size _⟩
          case measure => simp [intOf]
      · by_cases hle : n ≤ 1073741823
        · have hz : qsz n = 4 := by rcases qsz_cases n with h | h | h | h | h <;> omega
          have HZ := Lib.hid hz
          clear hz
          go_wp2
          (try simp only [Exit.inBlock, Exit.then])
          refine bodyPost_ret (results_cell_row rfl _ _ w.heap.size _ _ _ _ rfl (HH.out.set3 _ _ _ _) Tryd.underlying109 rfl sizeForm) rfl ?_
          exact ⟨by rw [HZ.out]; rfl, (((HB.out.setCell (p := ⟨_, _, _⟩) (Nat.le_refl _) _).setCell (p := ⟨_, _, _⟩) (Nat.le_refl _) _).setCell (p := ⟨_, _, _⟩) (Nat.le_refl _) _).alloc (by simpa [World.setCell] using HB.out.size) _⟩
        · go_wp2
          go_roundw
          case rel => exact ⟨3, rfl, by omega, HH.out.keep (Below.heap_alloc _ _ _ hlt), HB.out.alloc HB.out.size _⟩
          case measure => simp [intOf]
      · by_cases hle : n ≤ 4611686018427387903
        · have hz : qsz n = 8 := by rcases qsz_cases n with h | h | h | h | h <;> omega
          have HZ := Lib.hid hz
          clear hz
          go_wp2
          (try simp only [Exit.inBlock, Exit.then])
          refine bodyPost_ret (results_cell_row rfl _ _ w.heap.size _ _ _ _ rfl (HH.out.set3 _ _ _ _) Tryd.underlying109 rfl sizeForm) rfl ?_
          exact ⟨by rw [HZ.out]; rfl, (((HB.out.setCell (p := ⟨_, _, _⟩) (Nat.le_refl _) _).setCell (p := ⟨_, _, _⟩) (Nat.le_refl _) _).setCell (p := ⟨_, _, _⟩) (Nat.le_refl _) _).alloc (by simpa [World.setCell] using HB.out.size) _⟩
        · go_wp2
          go_roundw
          case rel => exact ⟨4, rfl, by omega, HH.out.keep (Below.heap_alloc _ _ _ hlt), HB.out.alloc HB.out.size _⟩
          case measure => simp [intOf]
      · have hz : qsz n = 0 := (qsz_zero n).2 (Or.inr hm)
        have HZ := Lib.hid hz
        clear hz
        go_wp2
        (try simp only [Exit.inBlock, Exit.then])
        refine bodyPost_ret (results_cell_row rfl _ _ w.heap.size _ _ _ _ rfl (HH.out.set _ _ _) Tryd.underlying109 rfl sizeForm) rfl ?_
        exact ⟨by rw [HZ.out]; rfl, ((HB.out.setCell (p := ⟨_, _, _⟩) (Nat.le_refl _) _).setCell (p := ⟨_, _, _⟩) (Nat.le_refl _) _).setCell (p := ⟨_, _, _⟩) (Nat.le_refl _) _⟩
end Go.Proofs.YtjbppociogoopaaDoor
