/-
  What impl.WriteRing returns.
-/
import Derived.Test.YtkhekbfakloaoaaIRn6
import Derived.Test.YtkhekbfakloaoaaIRn1
namespace Go.Proofs.Ytkhekbfakloaoaa
open Go.RowKit Go.Deep Go.Proofs.Ytkhekbfakloaoaa.Num

theorem putR_congr {sz e : Int} {d d' : ByteArray} (l : List Int) (n : Nat) (h : ∀ k, k < n → byt8 d k = byt8 d' k) : putR sz e d l n = putR sz e d' l n := by
  induction n with
  | zero => rfl
  | succ n ih =>
    show (putR sz e d l n).set _ (byt8 d n) = (putR sz e d' l n).set _ (byt8 d' n)
    rw [ih (fun k hk => h k (by omega)), h n (Nat.lt_succ_self n)]
theorem ext_size {d : ByteArray} {n : Nat} (h : n ≤ d.size) : (d.extract 0 n).size = n := by rw [ByteArray.size_extract]; omega
theorem putR_ext {sz e : Int} {d : ByteArray} (l : List Int) {n : Nat} (h : n ≤ d.size) : putR sz e (d.extract 0 n) l n = putR sz e d l n := by
  refine putR_congr l n fun k hk => ?_
  have h1 : k < (d.extract 0 n).size := by rw [ext_size h]; exact hk
  rw [byt8_at _ k h1, byt8_at d k (by omega)]
  simp [ByteArray.getElem_extract]
theorem wrR_zero {r : Rn} {d : ByteArray} (h : cntW r d = 0) : wrR r d = r := by
  unfold wrR
  rw [h]
  show (⟨r.size, r.base, r.en + 0, r.cs⟩ : Rn) = r
  rw [Int.add_zero]
theorem IrN.grown {w : World} {x : Rn} {u : Value} {W W' : World} {g : Nat} (h : IrN w x u W) (hg : W.grownBy W' (some g)) (h2 : w.heap.size + 2 ≤ g) : IrN w x u W' :=
  h.up ((Below.refl (w.heap.size + 2) W).grown hg (Nat.lt_of_lt_of_le h.o.lt (Nat.le_refl _)) (fun k hk => by injection hk with hk; omega))

set_option maxRecDepth 100000 in
set_option maxHeartbeats 4000000 in
/-- impl.WriteRing -/
theorem iwriter (r : Rn) (d : ByteArray) (A : Option Addr) (cap B : Nat) (w : World) (hB : B ≤ w.heap.size) (hr : Ints w B A r.cs) (hn : r.cs.length ≤ 1000000000) (hx : inRn r) (hd : d.size ≤ 1000000000) :
    Calls Try.prog 13 #[rnV r (.slice A r.cs.length cap), .string d] w fun e w' => ∃ v, e = .returned (.tuple #[rnV (wrR r d) v, .int .i64 (cntW r d : Nat)]) ∧ OwnK w' w.heap.size v (wrR r d).cs ∧ Below w.heap.size w w' := by
  have HH := Lib.hid (IrN.start w r (.slice A r.cs.length cap))
  have HRO : Hid (∀ W, Below w.heap.size w W → Calls Try.prog 18 #[rnV r (.slice A r.cs.length cap)] W fun e w' => e = .returned (.int .i64 (roomR r)) ∧ Below W.heap.size W w') := Lib.hid fun W h => iroom r A cap B W (Nat.le_trans hB h.size) (hr.below hB h) hn hx
  have hcn := cntW_in r d
  have hmin : (if (d.size : Int) < roomR r then (d.size : Int) else roomR r) = (cntW r d : Int) := by rw [hcn]; split <;> omega
  have HMN := Lib.hid hmin
  have hcd : cntW r d ≤ d.size := by omega
  by_cases h0 : cntW r d = 0
  · have HCL : Hid (∀ W, Below w.heap.size w W → Calls Try.prog 39 #[rnV r (.slice A r.cs.length cap)] W fun e w' => ∃ v, e = .returned (rnV r v) ∧ OwnK w' W.heap.size v r.cs ∧ Below W.heap.size W w') := Lib.hid fun W h => iclonern r A cap B W (Nat.le_trans hB h.size) (hr.below hB h) hn
    rw [wrR_zero h0, h0]
    rw [h0] at HMN
    clear hr hn hx hcn hmin hcd h0
    go_enter Try.func13, Try.ntmps13
    obtain ⟨a0, a1, a2, a3⟩ := HH.out.b.cells
    go_wp2_with fail
    refine (HRO.out _ HH.out.bl).mono ?_
    rintro e w3 ⟨rfl, hb⟩
    have HH3 := Lib.hid (HH.out.next hb)
    clear hb a0 a1 a2 a3 HH
    go_upto_region 2 with fail
    rw [HMN.out]
    generalize roomR r = rm at *
    clear HMN HRO
    obtain ⟨a0, a1, a2, a3⟩ := HH3.out.b.cells
    go_wp2_with fail
    refine (HCL.out _ HH3.out.bl).mono ?_
    rintro e w4 ⟨v, rfl, ho, hb⟩
    have HH4 := Lib.hid (HH3.out.next hb)
    have HO4 := Lib.hid (ho.weaken HH3.out.o.lt)
    obtain ⟨A3, c3, rfl, _, _⟩ := ho.frs
    clear ho hb a0 a1 a2 a3 HH3 HCL
    obtain ⟨q0, q1, q2, q3⟩ := HH4.out.o.cells
    have qf := HH4.out.o.free
    go_wp2
    have X := HH4.out.out r.size r.base r.en (.slice A3 r.cs.length c3) _ HO4.out
    refine bodyPost_ret (results_ct rfl _ _ (w.heap.size + 1) _ _ _ _ rfl X.1 Try.underlying26 rfl (by kernel_rfl)) rfl ?_
    exact ⟨_, rfl, X.2.1, X.2.2⟩
  have hok : okRn r := by
    refine Classical.byContradiction fun h => h0 (cntW_bad d h)
  have hwo := wrR_ok d hok
  have hen4 : r.en + (cntW r d : Int) ≤ 4611686018427387903 := hwo.2.2.2.2.2.1
  have hz1 := hok.1.lo
  have hz2 := hok.2.1
  have hz3 : 0 ≤ r.en := by have := hok.2.2.1; have := hok.2.2.2.1; omega
  have HST : Hid (∀ W, Below w.heap.size w W → Calls Try.prog 40 #[rnV r (.slice A r.cs.length cap)] W fun e w' => ∃ g, e = .returned (.pointer (some ⟨g, 0, none⟩)) ∧ W.heap.size ≤ g ∧ StM w' g 0 r.size (padR r.cs) ∧ Below W.heap.size W w') := Lib.hid fun W h => istore r A cap B W (Nat.le_trans hB h.size) (hr.below hB h) (by omega) (by omega)
  have hen : wrap64 (r.en + (cntW r d : Int)) = r.en + (cntW r d : Int) := by clear hx; unfold wrap64; omega
  have HEN := Lib.hid hen
  have hpp := putR_pad (e := r.en) d hz1.1 hz2 (cntW r d)
  have HPX : Hid (putR r.size r.en (d.extract 0 (cntW r d)) (padR r.cs) (d.extract 0 (cntW r d)).size = putR r.size r.en d (padR r.cs) (cntW r d)) := Lib.hid (by rw [ext_size hcd, putR_ext _ hcd])
  have hxs : (d.extract 0 (cntW r d)).size = cntW r d := ext_size hcd
  unfold wrR
  generalize cntW r d = n at *
  have d0 : ((n : Int) == 0) = false := by
    have : (n : Int) ≠ 0 := by omega
    simpa using this
  have hk0 : (0 : Int) ≤ (n : Int) := by omega
  have hk1 : (n : Int) ≤ (d.size : Int) := by omega
  clear hr hn hx hcn hmin hen hok hwo
  go_enter Try.func13, Try.ntmps13
  obtain ⟨a0, a1, a2, a3⟩ := HH.out.b.cells
  go_wp2_with fail
  refine (HRO.out _ HH.out.bl).mono ?_
  rintro e w3 ⟨rfl, hb⟩
  have HH3 := Lib.hid (HH.out.next hb)
  clear hb a0 a1 a2 a3 HH
  go_upto_region 2 with fail
  rw [HMN.out]
  generalize roomR r = rm at *
  clear HMN HRO
  obtain ⟨a0, a1, a2, a3⟩ := HH3.out.b.cells
  go_wp2_with fail
  refine (HST.out _ HH3.out.bl).mono ?_
  rintro e w4 ⟨g, rfl, hg, hst, hb⟩
  have HH4 := Lib.hid (HH3.out.next hb)
  have HGG : Hid (w.heap.size + 2 ≤ g) := Lib.hid (Nat.le_trans HH3.out.o.lt hg)
  have HS4 := Lib.hid hst
  clear hst hb hg a0 a1 a2 a3 HH3 HST
  have HCW : Hid (∀ W, Below w4.heap.size w4 W → Calls Try.prog 41 #[.pointer (some ⟨g, 0, none⟩), .int .i64 r.en, .string (d.extract 0 n)] W fun e w' => e = .returned (.tuple #[]) ∧ StM w' g 0 r.size (putR r.size r.en (d.extract 0 n) (padR r.cs) (d.extract 0 n).size) ∧ W.grownBy w' (some g)) := Lib.hid fun W h => iwrite g r.size r.en (d.extract 0 n) (padR r.cs) W (HS4.out.below h HS4.out.lt) hz1.1 hz1.2 hz3 (by rw [hxs]; exact hen4)
  obtain ⟨a0, a1, a2, a3⟩ := HH4.out.b.cells
  go_upto_region 5 with fail
  go_region_with (first | (go_at_call 41; refine (HCW.out _ (Below.refl w4.heap.size w4).drew).mono ?_; rintro e w5 ⟨rfl, hst, hgr⟩; have HS5 := Lib.hid hst; have HG5 := Lib.hid hgr; clear hst hgr))
  all_goals (
    have HH5 := Lib.hid (HH4.out.drew.grown HG5.out HGG.out)
    rw [HPX.out] at HS5
    have HLI := Lib.hid (ilist g r.cs.length (putR r.size r.en d (padR r.cs) n) w5 (by rw [hz2]; exact HS5.out) (by omega))
    rw [hpp] at HLI
    clear a0 a1 a2 a3 HH4 HCW HG5
    obtain ⟨a0, a1, a2, a3⟩ := HH5.out.b.cells
    have af := HH5.out.b.free
    go_wp2_with fail
    refine HLI.out.mono ?_
    rintro e w6 ⟨v, rfl, ho, hgr⟩
    have HH6 := Lib.hid (HH5.out.grown hgr HGG.out)
    have HO6 := Lib.hid (ho.weaken HH5.out.o.lt)
    obtain ⟨A3, c3, rfl, _, _⟩ := ho.frs
    clear ho hgr a0 a1 a2 a3 af HLI HS5 HH5
    obtain ⟨a0, a1, a2, a3⟩ := HH6.out.b.cells
    have af := HH6.out.b.free
    go_upto_region 7 with fail
    have HH7 := Lib.hid (HH6.out.put3 (putR r.size r.en d r.cs n) (.slice A3 (putR r.size r.en d r.cs n).length c3))
    have HO7 := Lib.hid (HO6.out.apart w.heap.size 3 (.slice A3 (putR r.size r.en d r.cs n).length c3) (by omega))
    clear a0 a1 a2 a3 af HH6 HO6
    generalize w6.setCell ⟨w.heap.size, 3, none⟩ (.slice A3 (putR r.size r.en d r.cs n).length c3) = w7 at *
    obtain ⟨a0, a1, a2, a3⟩ := HH7.out.b.cells
    have af := HH7.out.b.free
    have hen := HEN.out
    go_upto_region 8 with fail
    have HH8 := Lib.hid (HH7.out.put2 (r.en + (n : Int)))
    have HO8 := Lib.hid (HO7.out.apart w.heap.size 2 (.int .i64 (r.en + (n : Int))) (by omega))
    clear a0 a1 a2 a3 af HH7 HO7 hen
    generalize w7.setCell ⟨w.heap.size, 2, none⟩ (.int .i64 (r.en + (n : Int))) = w8 at *
    obtain ⟨a0, a1, a2, a3⟩ := HH8.out.b.cells
    simp only at a0 a1 a2 a3
    obtain ⟨q0, q1, q2, q3⟩ := HH8.out.o.cells
    have qf := HH8.out.o.free
    go_wp2
    have X := HH8.out.out r.size r.base (r.en + (n : Int)) _ _ HO8.out
    refine bodyPost_ret (results_ct rfl _ _ (w.heap.size + 1) _ _ _ _ rfl X.1 Try.underlying26 rfl (by kernel_rfl)) rfl ?_
    exact ⟨_, rfl, X.2.1, X.2.2⟩)
end Go.Proofs.Ytkhekbfakloaoaa
