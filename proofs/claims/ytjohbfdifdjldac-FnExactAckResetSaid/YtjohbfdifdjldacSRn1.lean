/-
  What spec.l8Power, l8Copy return; an append of ints as one step of a region that draws; a ring that is worked on.
-/
import Derived.Test.YtjohbfdifdjldacRnV
import Derived.Deep.DeepCutAuto
import Derived.Deep.CutBlock
import Derived.BigQuiet
import Derived.Deep.QuietTactic
import Derived.Deep.RegionHeld3
import Derived.Deep.RegionLaw
import Derived.RegionTactic
namespace Go.Proofs.Ytjohbfdifdjldac
open Go.RowKit Go.Deep Go.Proofs.Ytjohbfdifdjldac.Num

/-- A result that lies in a cell and one that lies in a slot. -/
theorem results_ct {P : Program} {fn : Func} {p u : Tmp} {ty : TypeId} (h : fn.results = #[.cell p ty, .tmp u]) (tmps : Array Value) (w : World) (g : Nat) (t : TypeId) (cs : Array Value) (fr : Nat × Nat) (d : TypeDesc)
    (hp : tmps.getD p undef = .pointer (some ⟨g, 0, none⟩)) (hg : w.heap[g]? = some (.cells cs t fr))
    (hu : P.underlying ty = some d) (hd : (match d with | .struct _ | .array _ _ => true | _ => false) = true) (hi : (P.info? ty).map (·.size) = some cs.size) :
    (results fn tmps).run P w = .ok (.tuple #[.agg cs, tmps.getD u undef]) w := by
  have hp' : tmps[p]?.getD undef = .pointer (some ⟨g, 0, none⟩) := by simpa using hp
  simp [results, h, hp', asAddr, run_loadVar_row w g t ty cs fr d hg hu hd hi]
set_option maxRecDepth 100000 in
/-- An append of ints to a slice of the call's own, as one step of a region that draws. -/
theorem step_append_ints {ops : Array Oper} {o : Oper} {a : Act} {K : Act → World → Prop} {Q : Exit → Act → World → Prop} {E : Prop} (W : World) (hgd : o.guard = none) (s x : Operand)
    (ho : o.op = .call { callee := .builtin .append, args := #[s, x], argTypes := #[22, 22] })
    (base : Nat) (A : Option Addr) (n c : Nat) (l : List Int) (hn : l.length = n) (hs : a.eval s = .slice A n c) (hown : OwnI W base (.slice A n c) l)
    (A' : Option Addr) (m c' B : Nat) (r : List Int) (hm : r.length = m) (hx : a.eval x = .slice A' m c') (hr : Ints W B A' r)
    (hlen : l.length + r.length ≤ 100000000000) (hbase : base ≤ W.heap.size)
    (h : ∀ v' w', OwnI w' base v' (l ++ r) → Below base W w' → K (a.put o.dst v') w') :
    if Region.wanted o (yielded ops a.tmps) = true then Oper.wp Try.prog o a W K Q else E := by
  obtain ⟨i0, hi, hz0, hz1, hz2⟩ := info_parts infoI
  have hw : Region.wanted o (yielded ops a.tmps) = true := by simp [Region.wanted, hgd]
  rw [if_pos hw]
  subst hn
  subst hm
  cases r with
  | nil =>
    have hc : l.length ≤ c := by
      obtain ⟨A2, c2, e, hle, _⟩ := hown.ints
      injection e with e1 e2 e3
      omega
    have hrun : (Builtin.append_ #[22, 22] o.type #[.slice A l.length c, .slice A' 0 c']).run Try.prog W = .ok (.slice A l.length c) W := by
      cases A <;> cases A' <;> simp [Builtin.append_, run_underlying Try.underlying22, sizeOf, typeInfo, hi, Builtin.lenOf, Builtin.firstCells, hc, storeCells, loadCells, loadCellsFrom]
    have h2 := h _ W (by rw [List.append_nil]; exact hown) (Below.refl _ _)
    have hx' : a.eval x = .slice A' 0 c' := hx
    unfold Oper.wp execOp
    simp only [ho, resolve, invoke, builtin, Sem.run_bind, Sem.run_pure, Result.andThen_ok, List.map_toArray, List.map_cons, List.map_nil, hs, hx', hrun]
    exact h2
  | cons z r =>
    obtain ⟨b, off, rfl, hb, hc0⟩ := hr 0 (Nat.zero_lt_succ _)
    refine wp_append_own W s x 22 ho base 3 i0 (.int .i64 0) 1 8 Try.underlying22 hi hz0 hz1 hz2 rfl (by decide) _ l.length (valsI l) hs hown ⟨b, off, none⟩ (z :: r).length c' (valsI (z :: r)) hx (by rw [valsI_len]; omega) ?_ ?_ (by unfold maxLen; omega) (by omega) hbase ?_
    · intro j u hu
      have hj : j < (z :: r).length := by
        have := (List.getElem?_eq_some_iff.1 hu).1
        simpa [valsI] using this
      obtain ⟨b2, off2, e, _, hc⟩ := hr j hj
      injection e with e
      injection e with e1 e2
      subst e1 e2
      have e3 : (⟨b, off, none⟩ : Addr).add j = ⟨b, off + j, none⟩ := by simp [Addr.add]
      rw [e3, hc]
      rw [← hu]
      simp only [valsI, List.getElem?_map, List.getElem?_eq_getElem hj, Option.map_some]
    · intro u hu
      simp only [valsI, List.mem_map] at hu
      obtain ⟨q, _, rfl⟩ := hu
      rfl
    · intro v' w' h1 h2 _
      refine h v' w' ?_ ((Below.refl _ _).grown h2 hbase (fun k hk => (World.ownsRow.lt hown k hk).1))
      have e : valsI (l ++ z :: r) = valsI l ++ valsI (z :: r) := by simp [valsI]
      unfold OwnI
      rw [e, List.length_append]
      exact h1

/-- The parameter's block holds x (its cells' slice is u), the result's cell lies behind it, as it was made. -/
structure IrN (w : World) (x : Rn) (u : Value) (W : World) : Prop where
  b : BoxN W w.heap.size x.size x.base x.en u
  o : BoxN W (w.heap.size + 1) 0 0 0 (.slice none 0 0)
  bl : Below w.heap.size w W
theorem IrN.start (w : World) (r : Rn) (v : Value) : IrN w r v ((w.alloc (.cells (rnC r.size r.base r.en v) 32)).alloc (.cells (rnC 0 0 0 (.slice none 0 0)) 32)) := by
  have h1 : ∀ o1, (w.alloc o1).heap.size = w.heap.size + 1 := fun _ => by simp
  refine ⟨(BoxN.new w _ _ _ _).alloc _, ?_, ((Below.refl _ _).alloc (Nat.le_refl _) _).alloc (by rw [h1]; exact Nat.le_succ _) _⟩
  have h := BoxN.new (w.alloc (.cells (rnC r.size r.base r.en v) 32)) 0 0 0 (.slice none 0 0)
  rw [h1] at h
  exact h
theorem IrN.next {w : World} {x : Rn} {u : Value} {W W' : World} (h : IrN w x u W) (hb : Below W.heap.size W W') : IrN w x u W' :=
  ⟨h.b.below hb h.b.lt, h.o.below hb h.o.lt, h.bl.trans (hb.mono h.bl.size)⟩
theorem IrN.up {w : World} {x : Rn} {u : Value} {W W' : World} (h : IrN w x u W) (hb : Below (w.heap.size + 2) W W') : IrN w x u W' :=
  ⟨h.b.below hb (by omega), h.o.below hb (by omega), h.bl.trans (hb.mono (by omega))⟩
theorem IrN.alloc {w : World} {x : Rn} {u : Value} {W : World} (h : IrN w x u W) (o : Obj) : IrN w x u (W.alloc o) := h.next ((Below.refl _ _).alloc (Nat.le_refl _) _)
theorem IrN.drew {w : World} {x : Rn} {u : Value} {W : World} (h : IrN w x u W) : IrN w x u W.drew := h.next (Below.refl _ _).drew
theorem IrN.put {w : World} {x x' : Rn} {u u' : Value} {W : World} (h : IrN w x u W) (k : Nat) (y : Value) (hb : BoxN (W.setCell ⟨w.heap.size, k, none⟩ y) w.heap.size x'.size x'.base x'.en u') : IrN w x' u' (W.setCell ⟨w.heap.size, k, none⟩ y) :=
  ⟨hb, h.o.other w.heap.size k y (by omega), h.bl.setCell (p := ⟨w.heap.size, k, none⟩) (Nat.le_refl _) y⟩
theorem IrN.put1 {w : World} {x : Rn} {u : Value} {W : World} (h : IrN w x u W) (y : Int) : IrN w ⟨x.size, y, x.en, x.cs⟩ u (W.setCell ⟨w.heap.size, 1, none⟩ (.int .i64 y)) := h.put 1 _ (h.b.set1 y)
theorem IrN.put2 {w : World} {x : Rn} {u : Value} {W : World} (h : IrN w x u W) (y : Int) : IrN w ⟨x.size, x.base, y, x.cs⟩ u (W.setCell ⟨w.heap.size, 2, none⟩ (.int .i64 y)) := h.put 2 _ (h.b.set2 y)
theorem IrN.put3 {w : World} {x : Rn} {u : Value} {W : World} (h : IrN w x u W) (l : List Int) (v : Value) : IrN w ⟨x.size, x.base, x.en, l⟩ v (W.setCell ⟨w.heap.size, 3, none⟩ v) := h.put (x' := ⟨x.size, x.base, x.en, l⟩) 3 _ (h.b.set3 v)
/-- Something of the call's own is laid into the result's cell. -/
theorem IrN.out {w : World} {x : Rn} {u : Value} {W : World} (h : IrN w x u W) (s b e : Int) (v : Value) (l : List Int) (ho : OwnK W (w.heap.size + 2) v l) :
    BoxN ((((W.setCell ⟨w.heap.size + 1, 0, none⟩ (.int .i64 s)).setCell ⟨w.heap.size + 1, 1, none⟩ (.int .i64 b)).setCell ⟨w.heap.size + 1, 2, none⟩ (.int .i64 e)).setCell ⟨w.heap.size + 1, 3, none⟩ v) (w.heap.size + 1) s b e v
    ∧ OwnK ((((W.setCell ⟨w.heap.size + 1, 0, none⟩ (.int .i64 s)).setCell ⟨w.heap.size + 1, 1, none⟩ (.int .i64 b)).setCell ⟨w.heap.size + 1, 2, none⟩ (.int .i64 e)).setCell ⟨w.heap.size + 1, 3, none⟩ v) w.heap.size v l
    ∧ Below w.heap.size w ((((W.setCell ⟨w.heap.size + 1, 0, none⟩ (.int .i64 s)).setCell ⟨w.heap.size + 1, 1, none⟩ (.int .i64 b)).setCell ⟨w.heap.size + 1, 2, none⟩ (.int .i64 e)).setCell ⟨w.heap.size + 1, 3, none⟩ v) := by
  have hq : w.heap.size ≤ w.heap.size + 1 := Nat.le_succ _
  have hg : w.heap.size + 1 < w.heap.size + 2 := Nat.lt_succ_self _
  exact ⟨(((h.o.set0 _).set1 _).set2 _).set3 _, ((((ho.apart _ 0 _ hg).apart _ 1 _ hg).apart _ 2 _ hg).apart _ 3 _ hg).weaken (by omega), (((h.bl.setCell (p := ⟨_, _, _⟩) hq _).setCell (p := ⟨_, _, _⟩) hq _).setCell (p := ⟨_, _, _⟩) hq _).setCell (p := ⟨_, _, _⟩) hq _⟩

theorem pow_and : ∀ k : Fin 65, 0 < k.val → (bits .and .i64 (k.val : Int) ((k.val : Int) - 1) == 0) = decide (powR (k.val : Int)) := by decide
theorem pow_bits {n : Int} (h0 : 0 < n) (h1 : n ≤ 64) : (bits .and .i64 n (n - 1) == 0) = decide (powR n) := by
  obtain ⟨k, rfl⟩ := Int.eq_ofNat_of_zero_le (show 0 ≤ n by omega)
  exact pow_and ⟨k, by omega⟩ (show 0 < k by omega)
set_option maxRecDepth 100000 in
/-- spec.l8Power -/
theorem spower (n : Int) (w : World) :
    Calls Try.prog 83 #[.int .i64 n] w fun e w' => e = .returned (.bool (decide (powR n))) ∧ w' = w := by
  by_cases h0 : 0 < n
  · have d0 : decide (0 < n) = true := decide_eq_true h0
    by_cases h1 : n ≤ 64
    · have d1 : decide (n ≤ 64) = true := decide_eq_true h1
      obtain ⟨m, hm⟩ : ∃ m, n - 1 = m := ⟨_, rfl⟩
      have hw : wrap64 (n - 1) = m := by rw [← hm]; unfold wrap64; omega
      have HV := Lib.hid (pow_bits h0 h1)
      rw [hm] at HV
      clear h0 h1 hm
      go_enter Try.func83, Try.ntmps83
      go_wp2
      go_ret
      exact ⟨by rw [← HV.out]; rfl, rfl⟩
    · have d1 : decide (n ≤ 64) = false := decide_eq_false h1
      rw [decide_eq_false (show ¬ powR n from fun h => h1 h.lo.2)]
      clear h0 h1
      go_enter Try.func83, Try.ntmps83
      go_wp2
      go_ret
      exact ⟨rfl, rfl⟩
  · have d0 : decide (0 < n) = false := decide_eq_false h0
    rw [decide_eq_false (show ¬ powR n from fun h => by have := h.lo.1; omega)]
    clear h0
    go_enter Try.func83, Try.ntmps83
    go_wp2
    go_ret
    exact ⟨rfl, rfl⟩

set_option maxRecDepth 100000 in
set_option maxHeartbeats 1000000 in
/-- spec.l8Copy: a copy, in new blocks. -/
theorem scopyn (r : Rn) (A : Option Addr) (cap B : Nat) (w : World) (hB : B ≤ w.heap.size) (hr : Ints w B A r.cs) (hn : r.cs.length ≤ 1000000000) :
    Calls Try.prog 53 #[rnV r (.slice A r.cs.length cap)] w fun e w' => ∃ v, e = .returned (rnV r v) ∧ OwnK w' w.heap.size v r.cs ∧ Below w.heap.size w w' := by
  have HH := Lib.hid (IrN.start w r (.slice A r.cs.length cap))
  have HR := Lib.hid hr
  have hs2 : ((w.alloc (.cells (rnC r.size r.base r.en (.slice A r.cs.length cap)) 32)).alloc (.cells (rnC 0 0 0 (.slice none 0 0)) 32)).heap.size = w.heap.size + 2 := by simp
  have HS2 := Lib.hid hs2
  clear hr hs2
  go_enter Try.func53, Try.ntmps53
  go_upto_region 1 with fail
  generalize (w.alloc (.cells (rnC r.size r.base r.en (.slice A r.cs.length cap)) 32)).alloc (.cells (rnC 0 0 0 (.slice none 0 0)) 32) = w2 at *
  have HC : Hid (∀ W, IrN w r (.slice A r.cs.length cap) W → W.cell? ⟨w.heap.size, 0, none⟩ = some (.int .i64 r.size) ∧ W.cell? ⟨w.heap.size, 1, none⟩ = some (.int .i64 r.base) ∧ W.cell? ⟨w.heap.size, 2, none⟩ = some (.int .i64 r.en) ∧ W.cell? ⟨w.heap.size, 3, none⟩ = some (.slice A r.cs.length cap)) := Lib.hid fun W h => h.b.cells
  have HCZ : Hid (∀ W, Cell4 W w.heap.size r.size r.base r.en (.slice A r.cs.length cap) → W.cell? ⟨w.heap.size, 0, none⟩ = some (.int .i64 r.size) ∧ W.cell? ⟨w.heap.size, 1, none⟩ = some (.int .i64 r.base) ∧ W.cell? ⟨w.heap.size, 2, none⟩ = some (.int .i64 r.en) ∧ W.cell? ⟨w.heap.size, 3, none⟩ = some (.slice A r.cs.length cap)) := Lib.hid fun W h => h
  have HH1 := Lib.hid (HH.out.alloc (.cells #[] 3)).drew
  have HK1 := Lib.hid (HC.out _ HH.out.drew)
  have HK1b := Lib.hid (HC.out _ HH1.out)
  have HO1 : Hid (OwnI (w2.alloc (.cells #[] 3)).drew (w.heap.size + 2) (.slice (some ⟨w2.heap.size, 0, none⟩) 0 0) []) := Lib.hid (OwnI.lit w2 (w.heap.size + 2) 0 #[] (by rw [HS2.out]; exact Nat.le_refl _) (by unfold maxLen; omega) rfl)
  have HRA := Lib.hid (HR.out.below hB HH1.out.bl)
  have HLE : Hid (w.heap.size + 2 ≤ (w2.alloc (.cells #[] 3)).drew.heap.size) := Lib.hid (by have h := HS2.out; show _ ≤ (w2.alloc (.cells #[] 3)).heap.size; simp; omega)
  have HLN : Hid (([] : List Int).length + r.cs.length ≤ 100000000000) := Lib.hid (by simp; omega)
  obtain ⟨a0, a1, a2, a3⟩ := HH.out.b.cells
  obtain ⟨q0, q1, q2, q3⟩ := HH.out.o.cells
  have qf := HH.out.o.free
  go_region_held3 (fun W => W.cell? ⟨w.heap.size, 0, none⟩ = some (.int .i64 r.size) ∧ W.cell? ⟨w.heap.size, 1, none⟩ = some (.int .i64 r.base) ∧ W.cell? ⟨w.heap.size, 2, none⟩ = some (.int .i64 r.en) ∧ W.cell? ⟨w.heap.size, 3, none⟩ = some (.slice A r.cs.length cap)) (first | with_reducible exact HK1.out | with_reducible exact HK1b.out | with_reducible exact HK2.out | with_reducible exact HK3.out) (first | (refine step_append_ints _ rfl _ _ rfl (w.heap.size + 2) _ 0 0 [] rfl rfl HO1.out A r.cs.length cap B r.cs rfl rfl HRA.out HLN.out HLE.out ?_; intro v' w' hown' hbel; obtain ⟨A3, c3, rfl, _, _⟩ := hown'.ints; have HOW := Lib.hid hown'; have HH2 := Lib.hid (HH1.out.up hbel); have HK2 := Lib.hid (HC.out _ HH2.out); have HK3 := Lib.hid (HCZ.out _ (((((HH2.out.b.other (w.heap.size + 1) 0 (.int .i64 r.size) (by omega)).other (w.heap.size + 1) 1 (.int .i64 r.base) (by omega)).other (w.heap.size + 1) 2 (.int .i64 r.en) (by omega)).other (w.heap.size + 1) 3 (.slice A3 r.cs.length c3) (by omega)).cells)); obtain ⟨t0, t1, t2, t3⟩ := HH2.out.o.cells; have tf := HH2.out.o.free; clear hown' hbel))
  all_goals (
    go_wp2
    have X := HH2.out.out r.size r.base r.en _ r.cs HOW.out.k
    refine bodyPost_ret (results_cell_row rfl _ _ (w.heap.size + 1) _ _ _ _ rfl X.1 Try.underlying32 rfl (by kernel_rfl)) rfl ?_
    exact ⟨_, rfl, X.2.1, X.2.2⟩)
end Go.Proofs.Ytjohbfdifdjldac
