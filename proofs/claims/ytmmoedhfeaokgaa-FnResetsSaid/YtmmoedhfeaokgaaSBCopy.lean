/-
  What spec.l6Copy returns.
-/
import Derived.Test.YtmmoedhfeaokgaaLBuf
namespace Go.Proofs.Ytmmoedhfeaokgaa
open Go.RowKit Go.Deep Go.Proofs.Ytmmoedhfeaokgaa.Num

/-- An append of nothing, as one step of a region that draws. -/
theorem step_append_chno {ops : Array Oper} {o : Oper} {a : Act} {K : Act → World → Prop} {Q : Exit → Act → World → Prop} {E : Prop} (W : World) (hgd : o.guard = none) (s x : Operand)
    (ho : o.op = .call { callee := .builtin .append, args := #[s, x], argTypes := #[24, 24] })
    (A A' : Option Addr) (n c c' : Nat) (hs : a.eval s = .slice A n c) (hc : n ≤ c) (hx : a.eval x = .slice A' 0 c')
    (h : K (a.put o.dst (.slice A n c)) W) : if Region.wanted o (yielded ops a.tmps) = true then Oper.wp Try.prog o a W K Q else E := by
  obtain ⟨i0, hi, _, hz1, _⟩ := info_parts infoC
  have hw : Region.wanted o (yielded ops a.tmps) = true := by simp [Region.wanted, hgd]
  rw [if_pos hw]
  have hr : (Builtin.append_ #[24, 24] o.type #[.slice A n c, .slice A' 0 c']).run Try.prog W = .ok (.slice A n c) W := by
    cases A <;> cases A' <;> simp [Builtin.append_, run_underlying Try.underlying24, sizeOf, typeInfo, hi, Builtin.lenOf, Builtin.firstCells, hc, storeCells, loadCells, loadCellsFrom]
  unfold Oper.wp execOp
  simp only [ho, resolve, invoke, builtin, Sem.run_bind, Sem.run_pure, Result.andThen_ok, List.map_toArray, List.map_cons, List.map_nil, hs, hx, hr]
  exact h
theorem ownc_weaken {w : World} {base base' : Nat} {v : Value} {l : List Ch} (h : OwnC w base v l) (hb : base' ≤ base) : OwnC w base' v l := by
  obtain ⟨h0, h⟩ := h
  refine ⟨h0, ?_⟩
  rcases h with h | ⟨g, cap, cur, h1, h2, h3⟩
  · exact .inl h
  · exact .inr ⟨g, cap, cur, h1, by omega, h3⟩

set_option maxRecDepth 100000 in
set_option maxHeartbeats 1000000 in
/-- spec.l6Copy: a copy, in new blocks. -/
theorem scopyb (n : Int) (l : List Ch) (A : Option Addr) (cap B : Nat) (w : World) (hB : B ≤ w.heap.size) (hr : Chs w B A l) (hn : l.length ≤ 1000000000) :
    Calls Try.prog 74 #[bfV n (.slice A l.length cap)] w fun e w' => ∃ v, e = .returned (bfV n v) ∧ OwnC w' w.heap.size v l ∧ Below w.heap.size w w' := by
  have s1 : ∀ o1, (w.alloc o1).heap.size = w.heap.size + 1 := fun _ => by simp
  have s2 : ∀ o1 o2, ((w.alloc o1).alloc o2).heap.size = w.heap.size + 1 + 1 := fun _ _ => by simp
  have HB2 := Lib.hid (((Below.refl w.heap.size w).alloc (Nat.le_refl _) (.cells #[.int .i64 n, .slice A l.length cap] 26)).alloc (by simp) (.cells #[.int .i64 0, .slice none 0 0] 26))
  have X1 := (BoxB.new w n (.slice A l.length cap)).alloc (.cells #[.int .i64 0, .slice none 0 0] 26)
  have X2 := BoxB.new (w.alloc (.cells #[.int .i64 n, .slice A l.length cap] 26)) 0 (.slice none 0 0)
  rw [s1] at X2
  have HS2 := Lib.hid (s2 (.cells #[.int .i64 n, .slice A l.length cap] 26) (.cells #[.int .i64 0, .slice none 0 0] 26))
  have HR2 := Lib.hid (hr.below hB HB2.out)
  have hr0 := hr
  have HX1 := Lib.hid X1
  have HX2 := Lib.hid X2
  clear X1 X2 s1 s2 hr
  go_enter Try.func74, Try.ntmps74
  go_upto_region 1 with fail
  generalize (w.alloc (.cells #[.int .i64 n, .slice A l.length cap] 26)).alloc (.cells #[.int .i64 0, .slice none 0 0] 26) = w2 at *
  obtain ⟨a0, a1⟩ := HX1.out.cells
  obtain ⟨q0, q1⟩ := HX2.out.cells
  have f2 := HX2.out.free
  have hs2 : w2.heap.size = w.heap.size + 1 + 1 := HS2.out
  by_cases h0 : l = []
  · subst h0
    have hSS : ∀ W, Below w2.heap.size w2 W → BoxB W w.heap.size n (.slice A 0 cap) ∧ BoxB W (w.heap.size + 1) 0 (.slice none 0 0) := fun W h => ⟨HX1.out.below h (by omega), HX2.out.below h (by omega)⟩
    have hle0 : w2.heap.size ≤ w2.heap.size := Nat.le_refl _
    have HZZ := Lib.hid (((HX1.out.other (w.heap.size + 1) 0 (.int .i64 n) (by omega)).other (w.heap.size + 1) 1 (.slice (some ⟨w.heap.size + 1 + 1, 0, none⟩) 0 0) (by omega)).alloc (.cells #[] 93)).cells
    have HYY := Lib.hid (hSS _ ((Below.refl _ _).drew.alloc hle0 (.cells #[] 93)))
    go_region_held3 (fun W => W.cell? ⟨w.heap.size, 0, none⟩ = some (.int .i64 n) ∧ W.cell? ⟨w.heap.size, 1, none⟩ = some (.slice A 0 cap)) (first | exact (hSS _ (Below.refl _ _).drew).1.cells | exact HYY.out.1.cells | exact HZZ.out) (first | (refine step_append_chno _ rfl _ _ rfl _ A 0 0 cap rfl (Nat.le_refl _) rfl ?_))
    all_goals (
      go_wp2
      refine bodyPost_ret (results_cell_row rfl _ _ (w.heap.size + 1) _ _ _ _ rfl (((HX2.out.set0 n).set1 _).alloc _) Try.underlying26 rfl (by kernel_rfl)) rfl ?_
      refine ⟨_, rfl, OwnC.litAt _ w.heap.size (w.heap.size + 1 + 1) (by simp [World.setCell]; exact hs2.symm) (by simp [World.setCell]; omega), ?_⟩
      exact ((((HB2.out.setCell (p := ⟨_, _, _⟩) (by show w.heap.size ≤ w.heap.size + 1; omega) _).setCell (p := ⟨_, _, _⟩) (by show w.heap.size ≤ w.heap.size + 1; omega) _).alloc (by simp [World.setCell]; omega) _).drew))
  · obtain ⟨b, off, rfl, hb, _, _⟩ := hr0.cells 0 (by cases l with | nil => exact absurd rfl h0 | cons x l => exact Nat.zero_lt_succ _)
    have HRA := Lib.hid (HR2.out.below hB ((Below.refl w.heap.size w2).drew.alloc (by show w.heap.size ≤ w2.heap.size; omega) (.cells #[] 93)))
    have hO := OwnC.litAt w2.drew (w.heap.size + 1 + 1) (w.heap.size + 1 + 1) hs2.symm (by show _ ≤ w2.heap.size; omega)
    have HO := Lib.hid hO
    have HBA := Lib.hid (HB2.out.drew.alloc (by show w.heap.size ≤ w2.heap.size; omega) (.cells #[] 93))
    have hle : w.heap.size + 1 + 1 ≤ (w2.drew.alloc (.cells #[] 93)).heap.size := by simp; omega
    have hll : ([] : List Ch).length + l.length ≤ 100000000000 := by simp; omega
    clear hO
    have HXA : Hid (BoxB (w2.drew.alloc (.cells #[] 93)) w.heap.size n (.slice (some ⟨b, off, none⟩) l.length cap) ∧ BoxB (w2.drew.alloc (.cells #[] 93)) (w.heap.size + 1) 0 (.slice none 0 0)) := Lib.hid ⟨BoxB.alloc (w := w2.drew) HX1.out _, BoxB.alloc (w := w2.drew) HX2.out _⟩
    have hSS : ∀ W, Below w2.heap.size w2 W → BoxB W w.heap.size n (.slice (some ⟨b, off, none⟩) l.length cap) ∧ BoxB W (w.heap.size + 1) 0 (.slice none 0 0) := fun W h => ⟨HX1.out.below h (by omega), HX2.out.below h (by omega)⟩
    have hle0 : w2.heap.size ≤ w2.heap.size := Nat.le_refl _
    go_region_held3 (fun W => W.cell? ⟨w.heap.size, 0, none⟩ = some (.int .i64 n) ∧ W.cell? ⟨w.heap.size, 1, none⟩ = some (.slice (some ⟨b, off, none⟩) l.length cap)) (first | exact (hSS _ (Below.refl _ _).drew).1.cells | exact (hSS _ ((Below.refl _ _).drew.alloc hle0 _)).1.cells | exact HY1.out.cells | exact (HY1.out.other _ _ _ (by omega)).cells | exact ((HY1.out.other _ _ _ (by omega)).other _ _ _ (by omega)).cells) (first | (refine step_append_ch _ rfl _ _ rfl (w.heap.size + 1 + 1) _ [] rfl HO.out b off l.length cap B l rfl rfl HRA.out hll hle ?_; intro v' w' hown' hbel; obtain ⟨A1, cap1, rfl, _, _⟩ := hown'.frs; have HOW := Lib.hid hown'; have HBL := Lib.hid hbel; have HY1 := Lib.hid ((HXA.out.1).below hbel (by omega)); have HY2 := Lib.hid ((HXA.out.2).below hbel (by omega)); obtain ⟨q2, q3⟩ := HY2.out.cells; have f3 := HY2.out.free; clear hown' hbel))
    go_wp2
    refine bodyPost_ret (results_cell_row rfl _ _ (w.heap.size + 1) _ _ _ _ rfl ((HY2.out.set0 n).set1 _) Try.underlying26 rfl (by kernel_rfl)) rfl ?_
    exact ⟨_, rfl, ownc_weaken ((HOW.out.put (w.heap.size + 1) 0 _ (by omega)).put (w.heap.size + 1) 1 _ (by omega)) (by omega), ((HBA.out.trans (HBL.out.mono (by omega))).setCell (p := ⟨_, _, _⟩) (by show w.heap.size ≤ w.heap.size + 1; omega) _).setCell (p := ⟨_, _, _⟩) (by show w.heap.size ≤ w.heap.size + 1; omega) _⟩
end Go.Proofs.Ytmmoedhfeaokgaa
