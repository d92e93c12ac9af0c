/-
  What impl.DropRing and PeekRing return.
-/
import Derived.Test.YtkhekbfakloaoaaIRn7
namespace Go.Proofs.Ytkhekbfakloaoaa
open Go.RowKit Go.Deep Go.Proofs.Ytkhekbfakloaoaa.Num

set_option maxRecDepth 100000 in
set_option maxHeartbeats 4000000 in
/-- impl.DropRing -/
theorem idropr (r : Rn) (t : Int) (A : Option Addr) (cap B : Nat) (w : World) (hB : B ≤ w.heap.size) (hr : Ints w B A r.cs) (hn : r.cs.length ≤ 1000000000) (hx : inRn r) :
    Calls Try.prog 24 #[rnV r (.slice A r.cs.length cap), .int .i64 t] w fun e w' => ∃ v, e = .returned (.tuple #[rnV (drR r t) v, .bool (decide (canD r t))]) ∧ OwnK w' w.heap.size v (drR r t).cs ∧ Below w.heap.size w w' := by
  have HH := Lib.hid (IrN.start w r (.slice A r.cs.length cap))
  have HIR : Hid (∀ W, Below w.heap.size w W → Calls Try.prog 16 #[rnV r (.slice A r.cs.length cap)] W fun e w' => e = .returned (.bool (decide (okRn r))) ∧ Below W.heap.size W w') := Lib.hid fun W h => iisrn r A cap B W (Nat.le_trans hB h.size) (hr.below hB h) hn hx
  have HRE := Lib.hid fun W => ireach r t (.slice A r.cs.length cap) W
  have HCL : Hid (∀ W, Below w.heap.size w W → Calls Try.prog 39 #[rnV r (.slice A r.cs.length cap)] W fun e w' => ∃ v, e = .returned (rnV r v) ∧ OwnK w' W.heap.size v r.cs ∧ Below W.heap.size W w') := Lib.hid fun W h => iclonern r A cap B W (Nat.le_trans hB h.size) (hr.below hB h) hn
  by_cases hok : okRn r
  rotate_left
  · have hno : ¬ canD r t := fun h => hok h.1
    rw [show drR r t = r from if_neg hno, decide_eq_false hno]
    rw [decide_eq_false hok] at HIR
    clear hok hno hr hn hx HRE
    go_enter Try.func24, Try.ntmps24
    obtain ⟨a0, a1, a2, a3⟩ := HH.out.b.cells
    go_wp2_with fail
    refine (HIR.out _ HH.out.bl).mono ?_
    rintro e w3 ⟨rfl, hb⟩
    have HH3 := Lib.hid (HH.out.next hb)
    clear hb a0 a1 a2 a3 HH
    obtain ⟨a0, a1, a2, a3⟩ := HH3.out.b.cells
    go_wp2_with fail
    refine (HCL.out _ HH3.out.bl).mono ?_
    rintro e w4 ⟨v, rfl, ho, hb⟩
    have HH4 := Lib.hid (HH3.out.next hb)
    have HO4 := Lib.hid (ho.weaken HH3.out.o.lt)
    obtain ⟨A3, c3, rfl, _, _⟩ := ho.frs
    clear ho hb a0 a1 a2 a3 HH3 HCL
    obtain ⟨q0, q1, q2, q3⟩ := HH4.out.o.cells
    have qf := HH4.out.o.free
    go_wp2
    have X := HH4.out.out r.size r.base r.en (.slice A3 r.cs.length c3) _ HO4.out
    refine bodyPost_ret (results_ct rfl _ _ (w.heap.size + 1) _ _ _ _ rfl X.1 Try.underlying26 rfl (by kernel_rfl)) rfl ?_
    exact ⟨_, rfl, X.2.1, X.2.2⟩
  rw [decide_eq_true hok] at HIR
  by_cases h0 : r.base ≤ t ∧ t ≤ r.en
  rotate_left
  · have hno : ¬ canD r t := fun h => h0 h.2
    rw [show drR r t = r from if_neg hno, decide_eq_false hno]
    rw [decide_eq_false h0] at HRE
    clear hok hno hr hn hx h0
    go_enter Try.func24, Try.ntmps24
    obtain ⟨a0, a1, a2, a3⟩ := HH.out.b.cells
    go_wp2_with fail
    refine (HIR.out _ HH.out.bl).mono ?_
    rintro e w3 ⟨rfl, hb⟩
    have HH3 := Lib.hid (HH.out.next hb)
    clear hb a0 a1 a2 a3 HH
    obtain ⟨a0, a1, a2, a3⟩ := HH3.out.b.cells
    go_wp2_with fail
    refine (HRE.out _).mono ?_
    rintro e w3' ⟨rfl, hb⟩
    have HH3 := Lib.hid (HH3.out.next hb)
    clear hb a0 a1 a2 a3
    obtain ⟨a0, a1, a2, a3⟩ := HH3.out.b.cells
    go_wp2_with fail
    refine (HCL.out _ HH3.out.bl).mono ?_
    rintro e w4 ⟨v, rfl, ho, hb⟩
    have HH4 := Lib.hid (HH3.out.next hb)
    have HO4 := Lib.hid (ho.weaken HH3.out.o.lt)
    obtain ⟨A3, c3, rfl, _, _⟩ := ho.frs
    clear ho hb a0 a1 a2 a3 HH3 HCL
    obtain ⟨q0, q1, q2, q3⟩ := HH4.out.o.cells
    have qf := HH4.out.o.free
    go_wp2
    have X := HH4.out.out r.size r.base r.en (.slice A3 r.cs.length c3) _ HO4.out
    refine bodyPost_ret (results_ct rfl _ _ (w.heap.size + 1) _ _ _ _ rfl X.1 Try.underlying26 rfl (by kernel_rfl)) rfl ?_
    exact ⟨_, rfl, X.2.1, X.2.2⟩
  rw [decide_eq_true h0] at HRE
  have hyes : canD r t := ⟨hok, h0.1, h0.2⟩
  obtain ⟨n, hnn⟩ : ∃ n : Nat, (t - r.base).toNat = n := ⟨_, rfl⟩
  rw [show drR r t = ⟨r.size, t, r.en, zerR r.size r.base r.cs (t - r.base).toNat⟩ from if_pos hyes, decide_eq_true hyes, hnn]
  obtain rfl : t = r.base + (n : Int) := by omega
  have hz1 := hok.1.lo
  have hz2 := hok.2.1
  have hz3 := hok.2.2.1
  have hz4 := hok.2.2.2.2.2.1
  have hz5 := h0.2
  have HST : Hid (∀ W, Below w.heap.size w W → Calls Try.prog 40 #[rnV r (.slice A r.cs.length cap)] W fun e w' => ∃ g, e = .returned (.pointer (some ⟨g, 0, none⟩)) ∧ W.heap.size ≤ g ∧ StM w' g 0 r.size (padR r.cs) ∧ Below W.heap.size W w') := Lib.hid fun W h => istore r A cap B W (Nat.le_trans hB h.size) (hr.below hB h) (by omega) (by omega)
  have hpp := zerR_pad (e := r.base) hz1.1 hz2 n
  clear hok hyes hr hn hx hnn h0 HCL
  go_enter Try.func24, Try.ntmps24
  obtain ⟨a0, a1, a2, a3⟩ := HH.out.b.cells
  go_wp2_with fail
  refine (HIR.out _ HH.out.bl).mono ?_
  rintro e w3 ⟨rfl, hb⟩
  have HH3 := Lib.hid (HH.out.next hb)
  clear hb a0 a1 a2 a3 HH
  obtain ⟨a0, a1, a2, a3⟩ := HH3.out.b.cells
  go_wp2_with fail
  refine (HRE.out _).mono ?_
  rintro e w3' ⟨rfl, hb⟩
  have HH3 := Lib.hid (HH3.out.next hb)
  clear hb a0 a1 a2 a3
  obtain ⟨a0, a1, a2, a3⟩ := HH3.out.b.cells
  go_wp2_with fail
  refine (HST.out _ HH3.out.bl).mono ?_
  rintro e w4 ⟨g, rfl, hg, hst, hb⟩
  have HH4 := Lib.hid (HH3.out.next hb)
  have HGG : Hid (w.heap.size + 2 ≤ g) := Lib.hid (Nat.le_trans HH3.out.o.lt hg)
  have HS4 := Lib.hid hst
  clear hst hb hg a0 a1 a2 a3 HH3 HST
  have HCW := Lib.hid (iwipe g r.size r.base n (padR r.cs) w4 HS4.out hz1.1 hz1.2 hz3 (by omega))
  obtain ⟨a0, a1, a2, a3⟩ := HH4.out.b.cells
  go_wp2_with fail
  refine HCW.out.mono ?_
  rintro e w5 ⟨rfl, hst, hgr⟩
  have HH5 := Lib.hid (HH4.out.grown hgr HGG.out)
  have HLI := Lib.hid (ilist g r.cs.length (zerR r.size r.base (padR r.cs) n) w5 (by rw [hz2]; exact hst) (by omega))
  rw [hpp] at HLI
  clear a0 a1 a2 a3 HH4 HCW hst hgr
  obtain ⟨a0, a1, a2, a3⟩ := HH5.out.b.cells
  have af := HH5.out.b.free
  go_wp2_with fail
  refine HLI.out.mono ?_
  rintro e w6 ⟨v, rfl, ho, hgr⟩
  have HH6 := Lib.hid (HH5.out.grown hgr HGG.out)
  have HO6 := Lib.hid (ho.weaken HH5.out.o.lt)
  obtain ⟨A3, c3, rfl, _, _⟩ := ho.frs
  clear ho hgr a0 a1 a2 a3 af HLI HH5
  obtain ⟨a0, a1, a2, a3⟩ := HH6.out.b.cells
  have af := HH6.out.b.free
  go_upto_region 6 with fail
  have HH7 := Lib.hid (HH6.out.put3 (zerR r.size r.base r.cs n) (.slice A3 (zerR r.size r.base r.cs n).length c3))
  have HO7 := Lib.hid (HO6.out.apart w.heap.size 3 (.slice A3 (zerR r.size r.base r.cs n).length c3) (by omega))
  clear a0 a1 a2 a3 af HH6 HO6
  generalize w6.setCell ⟨w.heap.size, 3, none⟩ (.slice A3 (zerR r.size r.base r.cs n).length c3) = w7 at *
  obtain ⟨a0, a1, a2, a3⟩ := HH7.out.b.cells
  have af := HH7.out.b.free
  go_upto_region 7 with fail
  have HH8 := Lib.hid (HH7.out.put1 (r.base + (n : Int)))
  have HO8 := Lib.hid (HO7.out.apart w.heap.size 1 (.int .i64 (r.base + (n : Int))) (by omega))
  clear a0 a1 a2 a3 af HH7 HO7
  generalize w7.setCell ⟨w.heap.size, 1, none⟩ (.int .i64 (r.base + (n : Int))) = w8 at *
  obtain ⟨a0, a1, a2, a3⟩ := HH8.out.b.cells
  simp only at a0 a1 a2 a3
  obtain ⟨q0, q1, q2, q3⟩ := HH8.out.o.cells
  have qf := HH8.out.o.free
  go_wp2
  have X := HH8.out.out r.size (r.base + (n : Int)) r.en _ _ HO8.out
  refine bodyPost_ret (results_ct rfl _ _ (w.heap.size + 1) _ _ _ _ rfl X.1 Try.underlying26 rfl (by kernel_rfl)) rfl ?_
  exact ⟨_, rfl, X.2.1, X.2.2⟩

set_option maxRecDepth 100000 in
set_option maxHeartbeats 4000000 in
/-- impl.PeekRing -/
theorem ipeekr (r : Rn) (o n : Int) (A : Option Addr) (cap B : Nat) (w : World) (hB : B ≤ w.heap.size) (hr : Ints w B A r.cs) (hn : r.cs.length ≤ 1000000000) (hx : inRn r) :
    Calls Try.prog 20 #[rnV r (.slice A r.cs.length cap), .int .i64 o, .int .i64 n] w fun e w' => e = .returned (.tuple #[.string (pkR r o n), .bool (decide (canP r o n))]) ∧ Below w.heap.size w w' := by
  have HH := Lib.hid (InRn.start w r A cap 26 (hr.up hB))
  have HIR : Hid (∀ W, InRn w w.heap.size r A cap W → Calls Try.prog 16 #[rnV r (.slice A r.cs.length cap)] W fun e w' => e = .returned (.bool (decide (okRn r))) ∧ Below W.heap.size W w') := Lib.hid fun W h => iisrn r A cap w.heap.size W (Nat.le_of_lt h.2.2.1) h.2.1 hn hx
  have HRE := Lib.hid fun W => ireach r o (.slice A r.cs.length cap) W
  by_cases hok : okRn r
  rotate_left
  · have hno : ¬ canP r o n := fun h => hok h.1
    have HV : Hid (Value.tuple #[.string (pkR r o n), .bool (decide (canP r o n))] = .tuple #[.string ⟨#[]⟩, .bool false]) := Lib.hid (by unfold pkR; rw [if_neg hno, decide_eq_false hno])
    rw [decide_eq_false hok] at HIR
    clear hok hno hr hn hx HRE
    go_enter Try.func20, Try.ntmps20
    obtain ⟨a0, a1, a2, a3⟩ := HH.out.1
    go_wp2_with fail
    refine (HIR.out _ HH.out).mono ?_
    rintro e w1 ⟨rfl, hb1⟩
    have HH := Lib.hid (HH.out.next hb1)
    clear hb1 a0 a1 a2 a3
    obtain ⟨a0, a1, a2, a3⟩ := HH.out.1
    go_wp2
    go_ret2
    exact ⟨by rw [HV.out]; rfl, HH.out.2.2.2⟩
  rw [decide_eq_true hok] at HIR
  by_cases h0 : r.base ≤ o ∧ o ≤ r.en
  rotate_left
  · have hno : ¬ canP r o n := fun h => h0 ⟨h.2.1, h.2.2.2.1⟩
    have HV : Hid (Value.tuple #[.string (pkR r o n), .bool (decide (canP r o n))] = .tuple #[.string ⟨#[]⟩, .bool false]) := Lib.hid (by unfold pkR; rw [if_neg hno, decide_eq_false hno])
    rw [decide_eq_false h0] at HRE
    clear hok hno hr hn hx h0
    go_enter Try.func20, Try.ntmps20
    obtain ⟨a0, a1, a2, a3⟩ := HH.out.1
    go_wp2_with fail
    refine (HIR.out _ HH.out).mono ?_
    rintro e w1 ⟨rfl, hb1⟩
    have HH := Lib.hid (HH.out.next hb1)
    clear hb1 a0 a1 a2 a3
    obtain ⟨a0, a1, a2, a3⟩ := HH.out.1
    go_wp2_with fail
    refine (HRE.out _).mono ?_
    rintro e w1 ⟨rfl, hb1⟩
    have HH := Lib.hid (HH.out.next hb1)
    clear hb1 a0 a1 a2 a3
    obtain ⟨a0, a1, a2, a3⟩ := HH.out.1
    go_wp2
    go_ret2
    exact ⟨by rw [HV.out]; rfl, HH.out.2.2.2⟩
  rw [decide_eq_true h0] at HRE
  by_cases h1 : n < 0
  · have hno : ¬ canP r o n := fun h => by have := h.2.2.1; omega
    have HV : Hid (Value.tuple #[.string (pkR r o n), .bool (decide (canP r o n))] = .tuple #[.string ⟨#[]⟩, .bool false]) := Lib.hid (by unfold pkR; rw [if_neg hno, decide_eq_false hno])
    have d1 : decide (n < 0) = true := decide_eq_true h1
    clear hok hno hr hn hx h0 h1
    go_enter Try.func20, Try.ntmps20
    obtain ⟨a0, a1, a2, a3⟩ := HH.out.1
    go_wp2_with fail
    refine (HIR.out _ HH.out).mono ?_
    rintro e w1 ⟨rfl, hb1⟩
    have HH := Lib.hid (HH.out.next hb1)
    clear hb1 a0 a1 a2 a3
    obtain ⟨a0, a1, a2, a3⟩ := HH.out.1
    go_wp2_with fail
    refine (HRE.out _).mono ?_
    rintro e w1 ⟨rfl, hb1⟩
    have HH := Lib.hid (HH.out.next hb1)
    clear hb1 a0 a1 a2 a3
    obtain ⟨a0, a1, a2, a3⟩ := HH.out.1
    go_wp2
    go_ret2
    exact ⟨by rw [HV.out]; rfl, HH.out.2.2.2⟩
  have d1 : decide (n < 0) = false := decide_eq_false h1
  obtain ⟨q, hq⟩ : ∃ q, r.en - o = q := ⟨_, rfl⟩
  have hb0 := hok.2.2.1
  have hw : wrap64 (r.en - o) = q := by have h9 := hx.2.2; rw [← hq]; clear hx; unfold wrap64; omega
  by_cases h3 : q < n
  · have hno : ¬ canP r o n := fun h => by have := h.2.2.2.2; omega
    have HV : Hid (Value.tuple #[.string (pkR r o n), .bool (decide (canP r o n))] = .tuple #[.string ⟨#[]⟩, .bool false]) := Lib.hid (by unfold pkR; rw [if_neg hno, decide_eq_false hno])
    have d3 : decide (q < n) = true := decide_eq_true h3
    clear hok hno hr hn hx h0 h1 h3 hq hb0
    go_enter Try.func20, Try.ntmps20
    obtain ⟨a0, a1, a2, a3⟩ := HH.out.1
    go_wp2_with fail
    refine (HIR.out _ HH.out).mono ?_
    rintro e w1 ⟨rfl, hb1⟩
    have HH := Lib.hid (HH.out.next hb1)
    clear hb1 a0 a1 a2 a3
    obtain ⟨a0, a1, a2, a3⟩ := HH.out.1
    go_wp2_with fail
    refine (HRE.out _).mono ?_
    rintro e w1 ⟨rfl, hb1⟩
    have HH := Lib.hid (HH.out.next hb1)
    clear hb1 a0 a1 a2 a3
    obtain ⟨a0, a1, a2, a3⟩ := HH.out.1
    go_wp2
    go_ret2
    exact ⟨by rw [HV.out]; rfl, HH.out.2.2.2⟩
  have d3 : decide (q < n) = false := decide_eq_false h3
  have hyes : canP r o n := ⟨hok, h0.1, by omega, h0.2, by omega⟩
  obtain ⟨N, rfl⟩ := Int.eq_ofNat_of_zero_le (show 0 ≤ n by omega)
  have HV : Hid (Value.tuple #[.string (pkR r o (N : Int)), .bool (decide (canP r o (N : Int)))] = .tuple #[.string ⟨(peekL r.size o r.cs N).toArray⟩, .bool true]) := Lib.hid (by unfold pkR; rw [if_pos hyes, decide_eq_true hyes, Int.toNat_natCast])
  have hz1 := hok.1.lo
  have hz2 := hok.2.1
  have hN64 : N ≤ 64 := by have := hok.2.2.2.2.1; omega
  have ho0 : 0 ≤ o := by omega
  have hoN : o + (N : Int) ≤ 4611686018427387903 := by have := hok.2.2.2.2.2.1; omega
  have hby : ∀ z ∈ padR r.cs, 0 ≤ z ∧ z ≤ 255 := fun z hz => by
    rcases List.mem_append.1 hz with h | h
    · exact hok.2.2.2.2.2.2 z h
    · rw [List.eq_of_mem_replicate h]; omega
  have HST : Hid (∀ W, InRn w w.heap.size r A cap W → Calls Try.prog 40 #[rnV r (.slice A r.cs.length cap)] W fun e w' => ∃ g, e = .returned (.pointer (some ⟨g, 0, none⟩)) ∧ W.heap.size ≤ g ∧ StM w' g 0 r.size (padR r.cs) ∧ Below W.heap.size W w') := Lib.hid fun W h => istore r A cap w.heap.size W (Nat.le_of_lt h.2.2.1) h.2.1 (by omega) (by omega)
  have hpp := peekL_pad (o := o) hz1.1 hz2 N
  clear hok hyes hr hn hx h0 h1 h3 hq hb0
  go_enter Try.func20, Try.ntmps20
  obtain ⟨a0, a1, a2, a3⟩ := HH.out.1
  go_wp2_with fail
  refine (HIR.out _ HH.out).mono ?_
  rintro e w1 ⟨rfl, hb1⟩
  have HH := Lib.hid (HH.out.next hb1)
  clear hb1 a0 a1 a2 a3
  obtain ⟨a0, a1, a2, a3⟩ := HH.out.1
  go_wp2_with fail
  refine (HRE.out _).mono ?_
  rintro e w1 ⟨rfl, hb1⟩
  have HH := Lib.hid (HH.out.next hb1)
  clear hb1 a0 a1 a2 a3
  obtain ⟨a0, a1, a2, a3⟩ := HH.out.1
  go_wp2_with fail
  refine (HST.out _ HH.out).mono ?_
  rintro e w4 ⟨g, rfl, hg, hst, hb⟩
  have HB4 := Lib.hid ((HH.out.next hb).2.2.2)
  have HG4 : Hid (w.heap.size ≤ g) := Lib.hid (Nat.le_trans (Nat.le_of_lt HH.out.2.2.1) hg)
  have HRD := Lib.hid (iread g r.size o N (padR r.cs) w4 hst hz1.1 hz1.2 ho0 hoN hN64 hby)
  rw [hpp] at HRD
  clear hst hb hg a0 a1 a2 a3 HST hby
  go_wp2_with fail
  refine HRD.out.mono ?_
  rintro e w5 ⟨rfl, hgr⟩
  have HB5 : Hid (Below w.heap.size w w5) := Lib.hid (HB4.out.grown hgr (by exact HB4.out.size) (fun k hk => by injection hk with hk; have := HG4.out; omega))
  clear hgr
  go_wp2
  go_ret2
  exact ⟨by rw [HV.out]; rfl, HB5.out⟩
end Go.Proofs.Ytkhekbfakloaoaa
