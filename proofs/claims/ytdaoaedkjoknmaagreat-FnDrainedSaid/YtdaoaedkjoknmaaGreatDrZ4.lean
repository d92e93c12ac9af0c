/-
  Contracts and lemmas for the law on draining.
-/
import Derived.Test.YtdaoaedkjoknmaaGreatDrZ0
import Derived.Test.YtdaoaedkjoknmaaGreatDrZ1
import Derived.Deep.DeepCutAuto
import Derived.Deep.CutBlock
import Derived.BigQuiet
import Derived.Deep.QuietTactic
import Derived.Deep.RegionHeld3
import Derived.Deep.RegionLaw
import Derived.RegionTactic
set_option maxRecDepth 1000000
set_option maxHeartbeats 8000000
namespace Go.Proofs.YtdaoaedkjoknmaaGreat
open Go.RowKit Go.Deep Go.Proofs.YtdaoaedkjoknmaaGreat.Num

theorem results_ct {P : Program} {fn : Func} {p u : Tmp} {ty : TypeId} (h : fn.results = #[.cell p ty, .tmp u]) (tmps : Array Value) (w : World) (g : Nat) (t : TypeId) (cs : Array Value) (fr : Nat × Nat) (d : TypeDesc)
    (hp : tmps.getD p undef = .pointer (some ⟨g, 0, none⟩)) (hg : w.heap[g]? = some (.cells cs t fr))
    (hu : P.underlying ty = some d) (hd : (match d with | .struct _ | .array _ _ => true | _ => false) = true) (hi : (P.info? ty).map (·.size) = some cs.size) :
    (results fn tmps).run P w = .ok (.tuple #[.agg cs, tmps.getD u undef]) w := by
  have hp' : tmps[p]?.getD undef = .pointer (some ⟨g, 0, none⟩) := by simpa using hp
  simp [results, h, hp', asAddr, run_loadVar_row w g t ty cs fr d hg hu hd hi]
theorem step_append_ints {ops : Array Oper} {o : Oper} {a : Act} {K : Act → World → Prop} {Q : Exit → Act → World → Prop} {E : Prop} (W : World) (hgd : o.guard = none) (s x : Operand)
    (ho : o.op = .call { callee := .builtin .append, args := #[s, x], argTypes := #[24, 24] })
    (base : Nat) (A : Option Addr) (n c : Nat) (l : List Int) (hn : l.length = n) (hs : a.eval s = .slice A n c) (hown : OwnI W base (.slice A n c) l)
    (A' : Option Addr) (m c' B : Nat) (r : List Int) (hm : r.length = m) (hx : a.eval x = .slice A' m c') (hr : Ints W B A' r)
    (hlen : l.length + r.length ≤ 100000000000) (hbase : base ≤ W.heap.size)
    (h : ∀ v' w', OwnI w' base v' (l ++ r) → Below base W w' → K (a.put o.dst v') w') :
    if Region.wanted o (yielded ops a.tmps) = true then Oper.wp Tryz.prog o a W K Q else E := by
  obtain ⟨i0, hi, hz0, hz1, hz2⟩ := info_parts infoI
  have hw : Region.wanted o (yielded ops a.tmps) = true := by simp [Region.wanted, hgd]
  rw [if_pos hw]
  subst hn
  subst hm
  cases r with
  | nil =>
    have hc : l.length ≤ c := by
      obtain ⟨A2, c2, e, hle, _⟩ := hown.ints
      injection e with e1 e2 e3
      omega
    have hrun : (Builtin.append_ #[24, 24] o.type #[.slice A l.length c, .slice A' 0 c']).run Tryz.prog W = .ok (.slice A l.length c) W := by
      cases A <;> cases A' <;> simp [Builtin.append_, run_underlying Tryz.underlying24, sizeOf, typeInfo, hi, Builtin.lenOf, Builtin.firstCells, hc, storeCells, loadCells, loadCellsFrom]
    have h2 := h _ W (by rw [List.append_nil]; exact hown) (Below.refl _ _)
    have hx' : a.eval x = .slice A' 0 c' := hx
    unfold Oper.wp execOp
    simp only [ho, resolve, invoke, builtin, Sem.run_bind, Sem.run_pure, Result.andThen_ok, List.map_toArray, List.map_cons, List.map_nil, hs, hx', hrun]
    exact h2
  | cons z r =>
    obtain ⟨b, off, rfl, hb, hc0⟩ := hr 0 (Nat.zero_lt_succ _)
    refine wp_append_own W s x 24 ho base 3 i0 (.int .i64 0) 1 8 Tryz.underlying24 hi hz0 hz1 hz2 rfl (by decide) _ l.length (valsI l) hs hown ⟨b, off, none⟩ (z :: r).length c' (valsI (z :: r)) hx (by rw [valsI_len]; omega) ?_ ?_ (by unfold maxLen; omega) (by omega) hbase ?_
    · intro j u hu
      have hj : j < (z :: r).length := by
        have := (List.getElem?_eq_some_iff.1 hu).1
        simpa [valsI] using this
      obtain ⟨b2, off2, e, _, hc⟩ := hr j hj
      injection e with e
      injection e with e1 e2
      subst e1 e2
      have e3 : (⟨b, off, none⟩ : Addr).add j = ⟨b, off + j, none⟩ := by simp [Addr.add]
      rw [e3, hc]
      rw [← hu]
      simp only [valsI, List.getElem?_map, List.getElem?_eq_getElem hj, Option.map_some]
    · intro u hu
      simp only [valsI, List.mem_map] at hu
      obtain ⟨q, _, rfl⟩ := hu
      rfl
    · intro v' w' h1 h2 _
      refine h v' w' ?_ ((Below.refl _ _).grown h2 hbase (fun k hk => (World.ownsRow.lt hown k hk).1))
      have e : valsI (l ++ z :: r) = valsI l ++ valsI (z :: r) := by simp [valsI]
      unfold OwnI
      rw [e, List.length_append]
      exact h1

structure IrN (w : World) (x : Rn) (u : Value) (W : World) : Prop where
  b : BoxN W w.heap.size x.size x.base x.en u
  o : BoxN W (w.heap.size + 1) 0 0 0 (.slice none 0 0)
  bl : Below w.heap.size w W
theorem IrN.start (w : World) (r : Rn) (v : Value) : IrN w r v ((w.alloc (.cells (rnC r.size r.base r.en v) 26)).alloc (.cells (rnC 0 0 0 (.slice none 0 0)) 26)) := by
  have h1 : ∀ o1, (w.alloc o1).heap.size = w.heap.size + 1 := fun _ => by simp
  refine ⟨(BoxN.new w _ _ _ _).alloc _, ?_, ((Below.refl _ _).alloc (Nat.le_refl _) _).alloc (by rw [h1]; exact Nat.le_succ _) _⟩
  have h := BoxN.new (w.alloc (.cells (rnC r.size r.base r.en v) 26)) 0 0 0 (.slice none 0 0)
  rw [h1] at h
  exact h
theorem IrN.next {w : World} {x : Rn} {u : Value} {W W' : World} (h : IrN w x u W) (hb : Below W.heap.size W W') : IrN w x u W' :=
  ⟨h.b.below hb h.b.lt, h.o.below hb h.o.lt, h.bl.trans (hb.mono h.bl.size)⟩
theorem IrN.up {w : World} {x : Rn} {u : Value} {W W' : World} (h : IrN w x u W) (hb : Below (w.heap.size + 2) W W') : IrN w x u W' :=
  ⟨h.b.below hb (by omega), h.o.below hb (by omega), h.bl.trans (hb.mono (by omega))⟩
theorem IrN.alloc {w : World} {x : Rn} {u : Value} {W : World} (h : IrN w x u W) (o : Obj) : IrN w x u (W.alloc o) := h.next ((Below.refl _ _).alloc (Nat.le_refl _) _)
theorem IrN.drew {w : World} {x : Rn} {u : Value} {W : World} (h : IrN w x u W) : IrN w x u W.drew := h.next (Below.refl _ _).drew
theorem IrN.put {w : World} {x x' : Rn} {u u' : Value} {W : World} (h : IrN w x u W) (k : Nat) (y : Value) (hb : BoxN (W.setCell ⟨w.heap.size, k, none⟩ y) w.heap.size x'.size x'.base x'.en u') : IrN w x' u' (W.setCell ⟨w.heap.size, k, none⟩ y) :=
  ⟨hb, h.o.other w.heap.size k y (by omega), h.bl.setCell (p := ⟨w.heap.size, k, none⟩) (Nat.le_refl _) y⟩
theorem IrN.put1 {w : World} {x : Rn} {u : Value} {W : World} (h : IrN w x u W) (y : Int) : IrN w ⟨x.size, y, x.en, x.cs⟩ u (W.setCell ⟨w.heap.size, 1, none⟩ (.int .i64 y)) := h.put 1 _ (h.b.set1 y)
theorem IrN.put2 {w : World} {x : Rn} {u : Value} {W : World} (h : IrN w x u W) (y : Int) : IrN w ⟨x.size, x.base, y, x.cs⟩ u (W.setCell ⟨w.heap.size, 2, none⟩ (.int .i64 y)) := h.put 2 _ (h.b.set2 y)
theorem IrN.put3 {w : World} {x : Rn} {u : Value} {W : World} (h : IrN w x u W) (l : List Int) (v : Value) : IrN w ⟨x.size, x.base, x.en, l⟩ v (W.setCell ⟨w.heap.size, 3, none⟩ v) := h.put (x' := ⟨x.size, x.base, x.en, l⟩) 3 _ (h.b.set3 v)
theorem IrN.out {w : World} {x : Rn} {u : Value} {W : World} (h : IrN w x u W) (s b e : Int) (v : Value) (l : List Int) (ho : OwnK W (w.heap.size + 2) v l) :
    BoxN ((((W.setCell ⟨w.heap.size + 1, 0, none⟩ (.int .i64 s)).setCell ⟨w.heap.size + 1, 1, none⟩ (.int .i64 b)).setCell ⟨w.heap.size + 1, 2, none⟩ (.int .i64 e)).setCell ⟨w.heap.size + 1, 3, none⟩ v) (w.heap.size + 1) s b e v
    ∧ OwnK ((((W.setCell ⟨w.heap.size + 1, 0, none⟩ (.int .i64 s)).setCell ⟨w.heap.size + 1, 1, none⟩ (.int .i64 b)).setCell ⟨w.heap.size + 1, 2, none⟩ (.int .i64 e)).setCell ⟨w.heap.size + 1, 3, none⟩ v) w.heap.size v l
    ∧ Below w.heap.size w ((((W.setCell ⟨w.heap.size + 1, 0, none⟩ (.int .i64 s)).setCell ⟨w.heap.size + 1, 1, none⟩ (.int .i64 b)).setCell ⟨w.heap.size + 1, 2, none⟩ (.int .i64 e)).setCell ⟨w.heap.size + 1, 3, none⟩ v) := by
  have hq : w.heap.size ≤ w.heap.size + 1 := Nat.le_succ _
  have hg : w.heap.size + 1 < w.heap.size + 2 := Nat.lt_succ_self _
  exact ⟨(((h.o.set0 _).set1 _).set2 _).set3 _, ((((ho.apart _ 0 _ hg).apart _ 1 _ hg).apart _ 2 _ hg).apart _ 3 _ hg).weaken (by omega), (((h.bl.setCell (p := ⟨_, _, _⟩) hq _).setCell (p := ⟨_, _, _⟩) hq _).setCell (p := ⟨_, _, _⟩) hq _).setCell (p := ⟨_, _, _⟩) hq _⟩

theorem pow_and : ∀ k : Fin 65, 0 < k.val → (bits .and .i64 (k.val : Int) ((k.val : Int) - 1) == 0) = decide (powR (k.val : Int)) := by decide
theorem pow_bits {n : Int} (h0 : 0 < n) (h1 : n ≤ 64) : (bits .and .i64 n (n - 1) == 0) = decide (powR n) := by
  obtain ⟨k, rfl⟩ := Int.eq_ofNat_of_zero_le (show 0 ≤ n by omega)
  exact pow_and ⟨k, by omega⟩ (show 0 < k by omega)
theorem spower (n : Int) (w : World) :
    Calls Tryz.prog 92 #[.int .i64 n] w fun e w' => e = .returned (.bool (decide (powR n))) ∧ w' = w := by
  by_cases h0 : 0 < n
  · have d0 : decide (0 < n) = true := decide_eq_true h0
    by_cases h1 : n ≤ 64
    · have d1 : decide (n ≤ 64) = true := decide_eq_true h1
      obtain ⟨m, hm⟩ : ∃ m, n - 1 = m := ⟨_, rfl⟩
      have hw : wrap64 (n - 1) = m := by rw [← hm]; unfold wrap64; omega
      have HV := LH (pow_bits h0 h1)
      rw [hm] at HV
      clear h0 h1 hm
      go_enter Tryz.func92, Tryz.ntmps92
      go_wp2
      go_ret
      exact ⟨by rw [← HV.out]; rfl, rfl⟩
    · have d1 : decide (n ≤ 64) = false := decide_eq_false h1
      rw [decide_eq_false (show ¬ powR n from fun h => h1 h.lo.2)]
      clear h0 h1
      go_enter Tryz.func92, Tryz.ntmps92
      go_wp2
      go_ret
      exact ⟨rfl, rfl⟩
  · have d0 : decide (0 < n) = false := decide_eq_false h0
    rw [decide_eq_false (show ¬ powR n from fun h => by have := h.lo.1; omega)]
    clear h0
    go_enter Tryz.func92, Tryz.ntmps92
    go_wp2
    go_ret
    exact ⟨rfl, rfl⟩

theorem scopyn (r : Rn) (A : Option Addr) (cap B : Nat) (w : World) (hB : B ≤ w.heap.size) (hr : Ints w B A r.cs) (hn : r.cs.length ≤ 1000000000) :
    Calls Tryz.prog 93 #[rnV r (.slice A r.cs.length cap)] w fun e w' => ∃ v, e = .returned (rnV r v) ∧ OwnK w' w.heap.size v r.cs ∧ Below w.heap.size w w' := by
  have HH := LH (IrN.start w r (.slice A r.cs.length cap))
  have HR := LH hr
  have hs2 : ((w.alloc (.cells (rnC r.size r.base r.en (.slice A r.cs.length cap)) 26)).alloc (.cells (rnC 0 0 0 (.slice none 0 0)) 26)).heap.size = w.heap.size + 2 := by simp
  have HS2 := LH hs2
  clear hr hs2
  go_enter Tryz.func93, Tryz.ntmps93
  go_upto_region 1 with fail
  generalize (w.alloc (.cells (rnC r.size r.base r.en (.slice A r.cs.length cap)) 26)).alloc (.cells (rnC 0 0 0 (.slice none 0 0)) 26) = w2 at *
  have HC : Hid (∀ W, IrN w r (.slice A r.cs.length cap) W → W.cell? ⟨w.heap.size, 0, none⟩ = some (.int .i64 r.size) ∧ W.cell? ⟨w.heap.size, 1, none⟩ = some (.int .i64 r.base) ∧ W.cell? ⟨w.heap.size, 2, none⟩ = some (.int .i64 r.en) ∧ W.cell? ⟨w.heap.size, 3, none⟩ = some (.slice A r.cs.length cap)) := LH fun W h => h.b.cells
  have HCZ : Hid (∀ W, Cell4 W w.heap.size r.size r.base r.en (.slice A r.cs.length cap) → W.cell? ⟨w.heap.size, 0, none⟩ = some (.int .i64 r.size) ∧ W.cell? ⟨w.heap.size, 1, none⟩ = some (.int .i64 r.base) ∧ W.cell? ⟨w.heap.size, 2, none⟩ = some (.int .i64 r.en) ∧ W.cell? ⟨w.heap.size, 3, none⟩ = some (.slice A r.cs.length cap)) := LH fun W h => h
  have HH1 := LH (HH.out.alloc (.cells #[] 3)).drew
  have HK1 := LH (HC.out _ HH.out.drew)
  have HK1b := LH (HC.out _ HH1.out)
  have HO1 : Hid (OwnI (w2.alloc (.cells #[] 3)).drew (w.heap.size + 2) (.slice (some ⟨w2.heap.size, 0, none⟩) 0 0) []) := LH (OwnI.lit w2 (w.heap.size + 2) 0 #[] (by rw [HS2.out]; exact Nat.le_refl _) (by unfold maxLen; omega) rfl)
  have HRA := LH (HR.out.below hB HH1.out.bl)
  have HLE : Hid (w.heap.size + 2 ≤ (w2.alloc (.cells #[] 3)).drew.heap.size) := LH (by have h := HS2.out; show _ ≤ (w2.alloc (.cells #[] 3)).heap.size; simp; omega)
  have HLN : Hid (([] : List Int).length + r.cs.length ≤ 100000000000) := LH (by simp; omega)
  obtain ⟨a0, a1, a2, a3⟩ := HH.out.b.cells
  obtain ⟨q0, q1, q2, q3⟩ := HH.out.o.cells
  have qf := HH.out.o.free
  go_region_held3 (fun W => W.cell? ⟨w.heap.size, 0, none⟩ = some (.int .i64 r.size) ∧ W.cell? ⟨w.heap.size, 1, none⟩ = some (.int .i64 r.base) ∧ W.cell? ⟨w.heap.size, 2, none⟩ = some (.int .i64 r.en) ∧ W.cell? ⟨w.heap.size, 3, none⟩ = some (.slice A r.cs.length cap)) (first | with_reducible exact HK1.out | with_reducible exact HK1b.out | with_reducible exact HK2.out | with_reducible exact HK3.out) (first | (refine step_append_ints _ rfl _ _ rfl (w.heap.size + 2) _ 0 0 [] rfl rfl HO1.out A r.cs.length cap B r.cs rfl rfl HRA.out HLN.out HLE.out ?_; intro v' w' hown' hbel; obtain ⟨A3, c3, rfl, _, _⟩ := hown'.ints; have HOW := LH hown'; have HH2 := LH (HH1.out.up hbel); have HK2 := LH (HC.out _ HH2.out); have HK3 := LH (HCZ.out _ (((((HH2.out.b.other (w.heap.size + 1) 0 (.int .i64 r.size) (by omega)).other (w.heap.size + 1) 1 (.int .i64 r.base) (by omega)).other (w.heap.size + 1) 2 (.int .i64 r.en) (by omega)).other (w.heap.size + 1) 3 (.slice A3 r.cs.length c3) (by omega)).cells)); obtain ⟨t0, t1, t2, t3⟩ := HH2.out.o.cells; have tf := HH2.out.o.free; clear hown' hbel))
  all_goals (
    go_wp2
    have X := HH2.out.out r.size r.base r.en _ r.cs HOW.out.k
    refine bodyPost_ret (results_cell_row rfl _ _ (w.heap.size + 1) _ _ _ _ rfl X.1 Tryz.underlying26 rfl (by kernel_rfl)) rfl ?_
    exact ⟨_, rfl, X.2.1, X.2.2⟩)
end Go.Proofs.YtdaoaedkjoknmaaGreat
