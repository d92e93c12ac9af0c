/-
  What slices.Clone of ints, impl.cloneRing and impl.storeCells return.
-/
import Derived.Test.YtkhekbfakloaoaaSRn1
import Derived.Test.YtkhekbfakloaoaaIRnN
import Derived.Laws.Cover3
import Derived.Laws.CopyRow
import Derived.Laws.CopyOwn
import Derived.Deep.RegionLaw
namespace Go.Proofs.Ytkhekbfakloaoaa
open Go.RowKit Go.Deep Go.Proofs.Ytkhekbfakloaoaa.Num

set_option maxRecDepth 100000 in
/-- An append of ints to a slice of the call's own. -/
theorem wpList_append_ints {ops : Array Oper} {rest : List Oper} {o : Oper} {a : Act} {Q : Exit → Act → World → Prop} (W : World) (hgd : o.guard = none) (s x : Operand)
    (ho : o.op = .call { callee := .builtin .append, args := #[s, x], argTypes := #[24, 24] })
    (base : Nat) (v : Value) (l : List Int) (hs : a.eval s = v) (hown : OwnI W base v l)
    (b off m c B : Nat) (r : List Int) (hx : a.eval x = .slice (some ⟨b, off, none⟩) m c) (hm : r.length = m) (hr : Ints W B (some ⟨b, off, none⟩) r)
    (hlen : l.length + m ≤ 1000000000000) (hbase : base ≤ W.heap.size)
    (h : ∀ v' w', OwnI w' base v' (l ++ r) → Below base W w' → wpList Try.prog ops Q rest (a.put o.dst v') w') : wpList Try.prog ops Q (o :: rest) a W := by
  obtain ⟨i0, hi, hz0, hz1, hz2⟩ := info_parts infoI
  subst hm
  refine wpList_append_own W hgd s x 24 ho base 3 i0 (.int .i64 0) 1 8 Try.underlying24 hi hz0 hz1 hz2 rfl (by decide) v l.length (valsI l) hs hown ⟨b, off, none⟩ r.length c (valsI r) hx (by rw [valsI_len]; omega) ?_ ?_ (by unfold maxLen; omega) (by omega) hbase ?_
  · intro j u hu
    have hj : j < r.length := by
      have := (List.getElem?_eq_some_iff.1 hu).1
      simpa [valsI] using this
    obtain ⟨b2, off2, e, _, hc⟩ := hr j hj
    injection e with e
    injection e with e1 e2
    subst e1 e2
    have e3 : (⟨b, off, none⟩ : Addr).add j = ⟨b, off + j, none⟩ := by simp [Addr.add]
    rw [e3, hc]
    rw [← hu]
    simp only [valsI, List.getElem?_map, List.getElem?_eq_getElem hj, Option.map_some]
  · intro u hu
    simp only [valsI, List.mem_map] at hu
    obtain ⟨q, _, rfl⟩ := hu
    rfl
  · intro v' w' h1 h2 _
    refine h v' w' ?_ ((Below.refl _ _).grown h2 hbase (fun k hk => (World.ownsRow.lt hown k hk).1))
    have e : valsI (l ++ r) = valsI l ++ valsI r := by simp [valsI]
    unfold OwnI
    rw [e, List.length_append]
    exact h1

theorem eqi_nil (A : Option Addr) (n c : Nat) (w : World) : (binOp .eql 24 (.slice A n c) (.slice none 0 0)).run Try.prog w = .ok (.bool A.isNone) w := by
  simp [binOp, run_equal_slice_nil w 24 3 A n c Try.underlying24]

set_option maxRecDepth 100000 in
/-- slices.Clone -/
theorem iclonei (l : List Int) (A : Option Addr) (cap B : Nat) (w : World) (hB : B ≤ w.heap.size) (hr : Ints w B A l) (hn : l.length ≤ 1000000000) :
    Calls Try.prog 63 #[.slice A l.length cap] w fun e w' => ∃ v, e = .returned v ∧ OwnI w' w.heap.size v l ∧ Below w.heap.size w w' := by
  cases A with
  | none =>
    obtain rfl : l = [] := by
      cases l with
      | nil => rfl
      | cons x l => obtain ⟨b, off, hA, _⟩ := hr 0 (by simp); cases hA
    clear hr
    have hq := fun W => eqi_nil none 0 cap W
    simp only [Option.isNone] at hq
    go_enter Try.func63, Try.ntmps63
    go_wp2
    go_ret
    exact ⟨_, rfl, OwnI.empty, Below.refl _ _⟩
  | some x =>
    by_cases h0 : l = []
    · subst h0
      clear hr
      have hq := fun W => eqi_nil (some x) 0 cap W
      simp only [Option.isNone] at hq
      have HO := Lib.hid (OwnI.lit w w.heap.size 0 #[] (Nat.le_refl _) (by decide) rfl)
      have HB := Lib.hid ((Below.refl w.heap.size w).alloc (Nat.le_refl _) (.cells #[] 3))
      go_enter Try.func63, Try.ntmps63
      go_wp2_with (at_builtin; refine wpList_append_no _ rfl _ _ rfl _ (some x) 0 0 cap rfl (Nat.le_refl _) rfl ?_)
      go_ret
      exact ⟨_, rfl, HO.out, HB.out⟩
    · obtain ⟨b, off, hA, hb, h1⟩ := hr 0 (by cases l with | nil => exact absurd rfl h0 | cons x l => exact Nat.zero_lt_succ _)
      injection hA with hA
      subst hA
      have HR := Lib.hid (hr.keep (w' := w.alloc (.cells #[] 3)) fun k hk => heap_alloc_old w _ (by omega))
      have HO := Lib.hid (OwnI.lit w w.heap.size 0 #[] (Nat.le_refl _) (by decide) rfl)
      have HB := Lib.hid ((Below.refl w.heap.size w).alloc (Nat.le_refl _) (.cells #[] 3))
      have hq := fun W => eqi_nil (some ⟨b, off, none⟩) l.length cap W
      simp only [Option.isNone] at hq
      clear h1 hr
      go_enter Try.func63, Try.ntmps63
      go_wp2_with (at_builtin; refine wpList_append_ints _ rfl _ _ rfl w.heap.size _ [] rfl HO.out b off l.length cap B l rfl rfl HR.out (by simp; omega) (by simp) ?_; intro v' w' hown' hbel)
      go_ret
      exact ⟨_, rfl, hown', HB.out.trans hbel⟩

set_option maxRecDepth 100000 in
set_option maxHeartbeats 1000000 in
/-- impl.cloneRing -/
theorem iclonern (r : Rn) (A : Option Addr) (cap B : Nat) (w : World) (hB : B ≤ w.heap.size) (hr : Ints w B A r.cs) (hn : r.cs.length ≤ 1000000000) :
    Calls Try.prog 39 #[rnV r (.slice A r.cs.length cap)] w fun e w' => ∃ v, e = .returned (rnV r v) ∧ OwnK w' w.heap.size v r.cs ∧ Below w.heap.size w w' := by
  have HH := Lib.hid (IrN.start w r (.slice A r.cs.length cap))
  have HCL : Hid (∀ W, Below w.heap.size w W → Calls Try.prog 63 #[.slice A r.cs.length cap] W fun e w' => ∃ v, e = .returned v ∧ OwnI w' W.heap.size v r.cs ∧ Below W.heap.size W w') := Lib.hid fun W h => iclonei r.cs A cap B W (Nat.le_trans hB h.size) (hr.below hB h) hn
  clear hr hn
  go_enter Try.func39, Try.ntmps39
  go_upto_region 1 with fail
  generalize (w.alloc (.cells (rnC r.size r.base r.en (.slice A r.cs.length cap)) 26)).alloc (.cells (rnC 0 0 0 (.slice none 0 0)) 26) = w2 at *
  obtain ⟨a0, a1, a2, a3⟩ := HH.out.b.cells
  have af := HH.out.b.free
  go_wp2_with fail
  refine (HCL.out _ HH.out.bl).mono ?_
  rintro e w3 ⟨v, rfl, ho, hb⟩
  have HH3 := Lib.hid (HH.out.next hb)
  obtain ⟨A3, c3, rfl, _, _⟩ := ho.ints
  have HO3 : Hid (OwnK w3 (w.heap.size + 2) (.slice A3 r.cs.length c3) r.cs) := Lib.hid (ho.k.weaken HH.out.o.lt)
  clear ho hb a0 a1 a2 a3 af HH HCL
  obtain ⟨a0, a1, a2, a3⟩ := HH3.out.b.cells
  have af := HH3.out.b.free
  go_upto_region 2 with fail
  have HH4 := Lib.hid (HH3.out.put3 r.cs (.slice A3 r.cs.length c3))
  have HO4 := Lib.hid (HO3.out.apart w.heap.size 3 (.slice A3 r.cs.length c3) (by omega))
  clear a0 a1 a2 a3 af HH3 HO3
  generalize w3.setCell ⟨w.heap.size, 3, none⟩ (.slice A3 r.cs.length c3) = w4 at *
  obtain ⟨a0, a1, a2, a3⟩ := HH4.out.b.cells
  obtain ⟨q0, q1, q2, q3⟩ := HH4.out.o.cells
  have qf := HH4.out.o.free
  go_wp2
  have X := HH4.out.out r.size r.base r.en _ r.cs HO4.out
  refine bodyPost_ret (results_cell_row rfl _ _ (w.heap.size + 1) _ _ _ _ rfl X.1 Try.underlying26 rfl (by kernel_rfl)) rfl ?_
  exact ⟨_, rfl, X.2.1, X.2.2⟩

/-- A store's cells: its mutex's, its size and 64 cells. -/
def stC (u sz : Int) (l : List Int) : Array Value := ((Value.int .i32 u) :: (Value.int .u32 0) :: (Value.int .i64 sz) :: valsI l).toArray
theorem stC_size (u sz : Int) (l : List Int) : (stC u sz l).size = l.length + 3 := by simp [stC, valsI_len]
/-- Block g holds a store. -/
def StM (w : World) (g : Nat) (u sz : Int) (l : List Int) : Prop := w.heap[g]? = some (.cells (stC u sz l) 89 (0, 0)) ∧ l.length = 64
theorem StM.lt {w : World} {g : Nat} {u sz : Int} {l : List Int} (x : StM w g u sz l) : g < w.heap.size := (Array.getElem?_eq_some_iff.1 x.1).1
theorem StM.free {w : World} {g : Nat} {u sz : Int} {l : List Int} (x : StM w g u sz l) (k : Nat) : w.frozen? ⟨g, k, none⟩ = false := by
  simp [World.frozen?, x.1]
theorem StM.c0 {w : World} {g : Nat} {u sz : Int} {l : List Int} (x : StM w g u sz l) : w.cell? ⟨g, 0, none⟩ = some (.int .i32 u) := cell_of_row w g 0 _ _ _ x.1
theorem StM.c2 {w : World} {g : Nat} {u sz : Int} {l : List Int} (x : StM w g u sz l) : w.cell? ⟨g, 2, none⟩ = some (.int .i64 sz) := cell_of_row w g 2 _ _ _ x.1
theorem StM.at {w : World} {g : Nat} {u sz : Int} {l : List Int} (x : StM w g u sz l) (k : Nat) (hk : k < l.length) : w.cell? ⟨g, 3 + k, none⟩ = some (.int .i64 l[k]) :=
  (cell_of_row w g (3 + k) _ _ _ x.1).trans (by simp [stC, valsI, Nat.add_comm 3 k, hk])
theorem StM.below {w w' : World} {K g : Nat} {u sz : Int} {l : List Int} (x : StM w g u sz l) (hb : Below K w w') (hg : g < K) : StM w' g u sz l := ⟨(hb.block g hg).trans x.1, x.2⟩
theorem StM.lock {w : World} {g : Nat} {u sz : Int} {l : List Int} (x : StM w g u sz l) (v : Int) : StM (w.setCell ⟨g, 0, none⟩ (.int .i32 v)) g v sz l := by
  refine ⟨?_, x.2⟩
  have := x.1
  simp [World.setCell, Array.getElem?_modify, this, stC]
theorem StM.set {w : World} {g : Nat} {u sz : Int} {l : List Int} (x : StM w g u sz l) (k : Nat) (v : Int) : StM (w.setCell ⟨g, 3 + k, none⟩ (.int .i64 v)) g u sz (l.set k v) := by
  refine ⟨?_, by rw [List.length_set]; exact x.2⟩
  have := x.1
  simp [World.setCell, Array.getElem?_modify, this, stC, Nat.add_comm 3 k, valsI, List.map_set]
theorem StM.copied {u sz : Int} (r : List Int) : ((stC u sz (List.replicate 64 0)).toList.take 3 ++ valsI r ++ (stC u sz (List.replicate 64 0)).toList.drop (3 + (valsI r).length)).toArray = stC u sz (padR r) := by
  have e : 3 + (valsI r).length = ((valsI r).length + 1 + 1 + 1) := by omega
  have e2 : ∀ n, (valsI (List.replicate 64 0)).drop n = valsI (List.replicate (64 - n) 0) := fun n => by
    unfold valsI
    rw [← List.map_drop, List.drop_replicate]
  unfold stC padR
  rw [e, List.take_succ_cons, List.take_succ_cons, List.take_succ_cons, List.take_zero, List.drop_succ_cons, List.drop_succ_cons, List.drop_succ_cons, e2, valsI_len]
  simp only [valsI, List.map_append, List.cons_append, List.nil_append]

set_option maxRecDepth 100000 in
/-- 'copy(s.cells[:], cells)' as one step of a region that draws. -/
theorem step_copyI {ops : Array Oper} {o : Oper} {a : Act} {w : World} {K : Act → World → Prop} {Q : Exit → Act → World → Prop} {E : Prop}
    (hgd : o.guard = none) (d x : Operand) (ho : o.op = .call { callee := .builtin .copy, args := #[d, x], argTypes := #[24, 24] })
    (g : Nat) (u sz : Int) (hd : a.eval d = .slice (some ⟨g, 3, none⟩) 64 64) (r : List Int) (B : Nat) (A : Option Addr) (c : Nat) (h0 : 0 < r.length) (h1 : r.length ≤ 64)
    (hx : a.eval x = .slice A r.length c) (hr : Ints w B A r) (hg : StM w g u sz (List.replicate 64 0))
    (h : ∀ w', StM w' g u sz (padR r) → Below g w w' → K (a.put o.dst (goInt r.length)) w') :
    if Region.wanted o (yielded ops a.tmps) = true then Oper.wp Try.prog o a w K Q else E := by
  have hw : Region.wanted o (yielded ops a.tmps) = true := by simp [Region.wanted, hgd]
  rw [if_pos hw]
  obtain ⟨b, off, rfl, _, _⟩ := hr 0 h0
  have hrun := run_copy_row (P := Try.prog) w 24 24 o.type 3 g 3 64 64 ⟨b, off, none⟩ r.length c (stC u sz (List.replicate 64 0)) _ (valsI r) Try.underlying24 (by
      obtain ⟨i0, hi, _, hz1, _⟩ := info_parts infoI
      rw [hi]; exact congrArg some hz1) hg.1 (by rw [valsI_len]; exact (Nat.min_eq_left h1).symm) (by
    intro j v hv
    have hj : j < r.length := by
      have := (List.getElem?_eq_some_iff.1 hv).1
      simpa [valsI] using this
    obtain ⟨b2, off2, e, _, hc⟩ := hr j hj
    injection e with e
    injection e with e1 e2
    subst e1 e2
    have e3 : (⟨b, off, none⟩ : Addr).add j = ⟨b, off + j, none⟩ := by simp [Addr.add]
    rw [e3, hc, ← hv]
    simp only [valsI, List.getElem?_map, List.getElem?_eq_getElem hj, Option.map_some]) (by rw [stC_size, valsI_len, List.length_replicate]; omega) (by
    intro v hv
    simp only [valsI, List.mem_map] at hv
    obtain ⟨q, _, rfl⟩ := hv
    rfl)
  rw [StM.copied r, valsI_len] at hrun
  unfold Oper.wp
  simp [execOp, ho, resolve, invoke, builtin, hd, hx, hrun, Result.andThen]
  exact h _ ⟨setRow_heap w g _ _ _ _ hg.1, padR_len h1⟩ (below_setRow (Below.refl g w) (Nat.le_refl _) _)
end Go.Proofs.Ytkhekbfakloaoaa
