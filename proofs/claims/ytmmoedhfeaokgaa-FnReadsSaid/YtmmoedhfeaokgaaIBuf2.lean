/-
  What slices.Clone and slices.Equal of chunks, impl.cloneBuffer and EqualBuffers return.
-/
import Derived.Test.YtmmoedhfeaokgaaIBuf1
import Derived.Test.YtmmoedhfeaokgaaSBRng
import Derived.Laws.OwnMore
import Derived.Laws.Cover3
namespace Go.Proofs.Ytmmoedhfeaokgaa
open Go.RowKit Go.Deep Go.Proofs.Ytmmoedhfeaokgaa.Num

/-- An append of nothing. -/
theorem wpList_append_chno {ops : Array Oper} {rest : List Oper} {o : Oper} {a : Act} {Q : Exit → Act → World → Prop} (W : World) (hgd : o.guard = none) (s x : Operand)
    (ho : o.op = .call { callee := .builtin .append, args := #[s, x], argTypes := #[24, 24] })
    (A A' : Option Addr) (n c c' : Nat) (hs : a.eval s = .slice A n c) (hc : n ≤ c) (hx : a.eval x = .slice A' 0 c')
    (h : wpList Try.prog ops Q rest (a.put o.dst (.slice A n c)) W) : wpList Try.prog ops Q (o :: rest) a W := by
  obtain ⟨i0, hi, _, hz1, _⟩ := info_parts infoC
  have hr : (Builtin.append_ #[24, 24] o.type #[.slice A n c, .slice A' 0 c']).run Try.prog W = .ok (.slice A n c) W := by
    cases A <;> cases A' <;> simp [Builtin.append_, run_underlying Try.underlying24, sizeOf, typeInfo, hi, Builtin.lenOf, Builtin.firstCells, hc, storeCells, loadCells, loadCellsFrom]
  refine wpList_plain hgd fun K hK => ?_
  unfold Oper.wp execOp
  simp only [ho, resolve, invoke, builtin, Sem.run_bind, Sem.run_pure, Result.andThen_ok, List.map_toArray, List.map_cons, List.map_nil, hs, hx, hr]
  exact hK _ _ h
theorem eql_nilC (A : Option Addr) (n c : Nat) (w : World) : (binOp .eql 24 (.slice A n c) (.slice none 0 0)).run Try.prog w = .ok (.bool A.isNone) w := by
  simp [binOp, run_equal_slice_nil w 24 93 A n c Try.underlying24]

set_option maxRecDepth 100000 in
/-- slices.Clone -/
theorem iclonec (l : List Ch) (A : Option Addr) (cap B : Nat) (w : World) (hB : B ≤ w.heap.size) (hr : Chs w B A l) (hn : l.length ≤ 1000000000) :
    Calls Try.prog 92 #[.slice A l.length cap] w fun e w' => ∃ v, e = .returned v ∧ OwnC w' w.heap.size v l ∧ Below w.heap.size w w' := by
  cases A with
  | none =>
    obtain rfl : l = [] := by
      cases l with
      | nil => rfl
      | cons x l => obtain ⟨b, off, hA, _⟩ := hr 0 (by simp); cases hA
    clear hr
    have hq := fun W => eql_nilC none 0 cap W
    simp only [Option.isNone] at hq
    go_enter Try.func92, Try.ntmps92
    go_wp2
    go_ret
    exact ⟨_, rfl, OwnC.empty, Below.refl _ _⟩
  | some x =>
    by_cases h0 : l = []
    · subst h0
      clear hr
      have hq := fun W => eql_nilC (some x) 0 cap W
      simp only [Option.isNone] at hq
      have HO := Lib.hid (OwnC.lit w w.heap.size 0 #[] (Nat.le_refl _) (by decide) rfl)
      have HB := Lib.hid ((Below.refl w.heap.size w).alloc (Nat.le_refl _) (.cells #[] 93))
      go_enter Try.func92, Try.ntmps92
      go_wp2_with (at_builtin; refine wpList_append_chno _ rfl _ _ rfl _ (some x) 0 0 cap rfl (Nat.le_refl _) rfl ?_)
      go_ret
      exact ⟨_, rfl, HO.out, HB.out⟩
    · obtain ⟨b, off, hA, hb, h1⟩ := hr 0 (by cases l with | nil => exact absurd rfl h0 | cons x l => exact Nat.zero_lt_succ _)
      injection hA with hA
      subst hA
      have HR := Lib.hid (hr.keep (w' := w.alloc (.cells #[] 93)) fun k hk => heap_alloc_old w _ (by omega))
      have HO := Lib.hid (OwnC.lit w w.heap.size 0 #[] (Nat.le_refl _) (by decide) rfl)
      have HB := Lib.hid ((Below.refl w.heap.size w).alloc (Nat.le_refl _) (.cells #[] 93))
      have hq := fun W => eql_nilC (some ⟨b, off, none⟩) l.length cap W
      simp only [Option.isNone] at hq
      clear h1 hr
      go_enter Try.func92, Try.ntmps92
      go_wp2_with (at_builtin; refine wpList_append_ch _ rfl _ _ rfl w.heap.size _ [] rfl HO.out b off l.length cap B l rfl rfl HR.out (by simp; omega) (by simp) ?_; intro v' w' hown' hbel)
      go_ret
      exact ⟨_, rfl, hown', HB.out.trans hbel⟩
set_option maxRecDepth 100000 in
/-- slices.Equal -/
theorem ieqc (l m : List Ch) (A A' : Option Addr) (cap cap' B : Nat) (w : World) (hB : B ≤ w.heap.size) (hr : Chs w B A l) (hr' : Chs w B A' m) (hn : l.length ≤ 1000000000) (hm : m.length ≤ 1000000000) :
    Calls Try.prog 89 #[.slice A l.length cap, .slice A' m.length cap'] w fun e w' => e = .returned (.bool (decide (l = m))) ∧ Below w.heap.size w w' := by
  have HR := Lib.hid hr
  have HR' := Lib.hid hr'
  clear hr hr'
  by_cases hl : l.length = m.length
  · have hd : ((l.length : Int) == (m.length : Int)) = true := by simp [hl]
    have HL := Lib.hid hl
    clear hl
    go_enter Try.func89, Try.ntmps89
    go_wp2
    go_loopw [13] (fun i wr => ∃ j : Nat, j ≤ l.length ∧ i = .int .i64 j ∧ l.take j = m.take j ∧ Below w.heap.size w wr) (fun i _ => l.length - (intOf i).toNat)
    case atStart => exact ⟨0, Nat.zero_le _, rfl, rfl, Below.refl _ _⟩
    case round =>
      obtain ⟨j, hj, rfl, hp, hb⟩ := hrel
      have HP := Lib.hid hp
      have HB := Lib.hid hb
      clear hp hb
      by_cases hlt : j < l.length
      · have hlt' : j < m.length := by have := HL.out; omega
        have HRW := Lib.hid (HR.out.below hB HB.out)
        have HRW' := Lib.hid (HR'.out.below hB HB.out)
        obtain ⟨b, off, rfl, hbB, c1, c2⟩ := HRW.out.cells j hlt
        obtain ⟨b', off', rfl, hbB', c1', c2'⟩ := HRW'.out.cells j hlt'
        have HT : Hid (l.take (j + 1) = l.take j ++ [l[j]] ∧ m.take (j + 1) = m.take j ++ [m[j]]) := Lib.hid ⟨List.take_succ_eq_append_getElem hlt, List.take_succ_eq_append_getElem hlt'⟩
        by_cases he : l[j] = m[j]
        · have HE : Hid (l.take (j + 1) = m.take (j + 1)) := Lib.hid (by rw [HT.out.1, HT.out.2, HP.out, he])
          rw [he] at c1 c2
          generalize m[j] = x at *
          have hq : ∀ W, (Op.equalIn 10000 93 (chV x) (chV x)).run Try.prog W = .ok true W := fun W => eqC_yes x W
          clear he
          go_wp2
          go_quiet (fail)
          go_wp2
          go_roundw
          case rel => exact ⟨j + 1, hlt, by go_num, HE.out, belowB_drewN HB.out _⟩
          case measure => simp [intOf]; omega
        · have HE : Hid (l ≠ m) := Lib.hid (fun e => by subst e; exact he rfl)
          have hq : ∀ W, (Op.equalIn 10000 93 (chV l[j]) (chV m[j])).run Try.prog W = .ok false W := fun W => eqC_no _ _ he W
          generalize l[j] = x at *
          generalize m[j] = y at *
          clear he
          go_wp2
          go_quiet (fail)
          go_wp2
          go_ret
          exact ⟨by rw [decide_eq_false HE.out]; rfl, belowB_drewN HB.out _⟩
      · obtain rfl : j = l.length := by omega
        have HE : Hid (l = m) := Lib.hid (by
          have h := HP.out
          rw [List.take_of_length_le (Nat.le_refl _), HL.out, List.take_of_length_le (Nat.le_refl _)] at h
          exact h)
        go_wp2
        go_ret
        exact ⟨by rw [decide_eq_true HE.out]; rfl, HB.out⟩
  · have hd : ((l.length : Int) == (m.length : Int)) = false := by simp; omega
    have HE : Hid (l ≠ m) := Lib.hid (fun e => hl (by rw [e]))
    clear hl
    go_enter Try.func89, Try.ntmps89
    go_wp2
    go_ret
    exact ⟨by rw [decide_eq_false HE.out]; rfl, Below.refl _ _⟩


set_option maxRecDepth 100000 in
set_option maxHeartbeats 1000000 in
/-- impl.cloneBuffer: a copy, in new blocks. -/
theorem icloneb (n : Int) (l : List Ch) (A : Option Addr) (cap B : Nat) (w : World) (hB : B ≤ w.heap.size) (hr : Chs w B A l) (hn : l.length ≤ 1000000000) :
    Calls Try.prog 73 #[bfV n (.slice A l.length cap)] w fun e w' => ∃ v, e = .returned (bfV n v) ∧ OwnC w' w.heap.size v l ∧ Below w.heap.size w w' := by
  have s1 : ∀ o1, (w.alloc o1).heap.size = w.heap.size + 1 := fun _ => by simp
  have s2 : ∀ o1 o2, ((w.alloc o1).alloc o2).heap.size = w.heap.size + 1 + 1 := fun _ _ => by simp
  have HB2 := Lib.hid (((Below.refl w.heap.size w).alloc (Nat.le_refl _) (.cells #[.int .i64 n, .slice A l.length cap] 26)).alloc (by simp) (.cells #[.int .i64 0, .slice none 0 0] 26))
  have X1 := (BoxB.new w n (.slice A l.length cap)).alloc (.cells #[.int .i64 0, .slice none 0 0] 26)
  have X2 := BoxB.new (w.alloc (.cells #[.int .i64 n, .slice A l.length cap] 26)) 0 (.slice none 0 0)
  rw [s1] at X2
  have HS2 := Lib.hid (s2 (.cells #[.int .i64 n, .slice A l.length cap] 26) (.cells #[.int .i64 0, .slice none 0 0] 26))
  have HR2 := Lib.hid (hr.below hB HB2.out)
  have HX1 := Lib.hid X1
  have HX2 := Lib.hid X2
  clear X1 X2 s1 s2 hr
  go_enter Try.func73, Try.ntmps73
  go_upto_region 1 with fail
  generalize (w.alloc (.cells #[.int .i64 n, .slice A l.length cap] 26)).alloc (.cells #[.int .i64 0, .slice none 0 0] 26) = w2 at *
  obtain ⟨a0, a1⟩ := HX1.out.cells
  have hs2 : w2.heap.size = w.heap.size + 1 + 1 := HS2.out
  have HC := Lib.hid (iclonec l A cap B w2.drew (by show B ≤ w2.heap.size; omega) (by exact HR2.out) hn)
  have HK0 : Hid (w2.drew.cell? ⟨w.heap.size, 0, none⟩ = some (.int .i64 n) ∧ w2.drew.cell? ⟨w.heap.size, 1, none⟩ = some (.slice A l.length cap)) := Lib.hid HX1.out.cells
  have HXd1 := Lib.hid (show BoxB w2.drew w.heap.size n (.slice A l.length cap) from HX1.out)
  have HXd2 := Lib.hid (show BoxB w2.drew (w.heap.size + 1) 0 (.slice none 0 0) from HX2.out)
  go_region_held3 (fun W => W.cell? ⟨w.heap.size, 0, none⟩ = some (.int .i64 n) ∧ W.cell? ⟨w.heap.size, 1, none⟩ = some (.slice A l.length cap)) (first | with_reducible exact HK0.out | with_reducible exact HK1.out | with_reducible exact HK2.out) (first | (go_at_call 92; refine HC.out.mono ?_; rintro e w3 ⟨v, rfl, ho, hb⟩; obtain ⟨A1, cap1, rfl, _, _⟩ := ho.frs; have HOW := Lib.hid ho; have HBL := Lib.hid hb; have HY1 := Lib.hid (HXd1.out.below hb (by show _ < w2.heap.size; omega)); have HY2 := Lib.hid (HXd2.out.below hb (by show _ < w2.heap.size; omega)); obtain ⟨q2, q3⟩ := HY2.out.cells; have f3 := HY2.out.free; have HK1 := Lib.hid HY1.out.cells; have HK2 := Lib.hid ((HY1.out.other (w.heap.size + 1) 0 (.int .i64 n) (by omega)).other (w.heap.size + 1) 1 (.slice A1 l.length cap1) (by omega)).cells; clear ho hb))
  all_goals (
    go_wp2
    refine bodyPost_ret (results_cell_row rfl _ _ (w.heap.size + 1) _ _ _ _ rfl ((HY2.out.set0 n).set1 _) Try.underlying26 rfl (by kernel_rfl)) rfl ?_
    exact ⟨_, rfl, ownc_weaken ((OwnC.put (base := w2.heap.size) HOW.out (w.heap.size + 1) 0 _ (by omega)).put (w.heap.size + 1) 1 _ (by omega)) (by omega), ((HB2.out.drew.trans (HBL.out.mono (by show _ ≤ w2.heap.size; omega))).setCell (p := ⟨_, _, _⟩) (by show w.heap.size ≤ w.heap.size + 1; omega) _).setCell (p := ⟨_, _, _⟩) (by show w.heap.size ≤ w.heap.size + 1; omega) _⟩)

set_option maxRecDepth 100000 in
/-- impl.EqualBuffers -/
theorem iequal (n m : Int) (l r : List Ch) (A A' : Option Addr) (cap cap' B : Nat) (w : World) (hB : B ≤ w.heap.size) (hr : Chs w B A l) (hr' : Chs w B A' r) (hn : l.length ≤ 1000000000) (hn' : r.length ≤ 1000000000) :
    Calls Try.prog 69 #[bfV n (.slice A l.length cap), bfV m (.slice A' r.length cap')] w fun e w' => e = .returned (.bool (decide (n = m ∧ l = r))) ∧ Below w.heap.size w w' := by
  have H0 := Lib.hid (HeldB2.start w n (.slice A l.length cap) m (.slice A' r.length cap'))
  by_cases h1 : n = m
  · have hd1 : (n == m) = true := by simpa using h1
    have HV : Hid (decide (n = m ∧ l = r) = decide (l = r)) := Lib.hid (decide_eq_decide.2 ⟨fun h => h.2, fun h => ⟨h1, h⟩⟩)
    have HC := Lib.hid (ieqc l r A A' cap cap' B _ (Nat.le_trans hB H0.out.2.2.size) (hr.below hB H0.out.2.2) (hr'.below hB H0.out.2.2) hn hn')
    clear h1 hr hr'
    go_enter Try.func69, Try.ntmps69
    go_wp2_with fail
    refine HC.out.mono ?_
    rintro e w1 ⟨rfl, hb1⟩
    have HB1 := Lib.hid (H0.out.2.2.trans (hb1.mono H0.out.2.2.size))
    clear hb1 HC
    go_wp2
    go_ret
    exact ⟨by rw [HV.out]; rfl, HB1.out⟩
  · have hd1 : (n == m) = false := by simpa using h1
    have HV : Hid (decide (n = m ∧ l = r) = false) := Lib.hid (decide_eq_false fun h => h1 h.1)
    clear h1 hr hr'
    go_enter Try.func69, Try.ntmps69
    go_wp2
    go_ret
    exact ⟨by rw [HV.out]; rfl, H0.out.2.2⟩

end Go.Proofs.Ytmmoedhfeaokgaa
