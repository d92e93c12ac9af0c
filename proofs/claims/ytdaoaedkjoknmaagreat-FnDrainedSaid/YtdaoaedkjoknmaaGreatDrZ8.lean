/-
  Contracts and lemmas for the law on draining.
-/
import Derived.Test.YtdaoaedkjoknmaaGreatDrZ0
import Derived.Test.YtdaoaedkjoknmaaGreatDrZ4
import Derived.Test.YtdaoaedkjoknmaaGreatDrZ1
set_option maxRecDepth 1000000
set_option maxHeartbeats 8000000
namespace Go.Proofs.YtdaoaedkjoknmaaGreat
open Go.RowKit Go.Deep Go.Proofs.YtdaoaedkjoknmaaGreat.Num

theorem sisrn (r : Rn) (A : Option Addr) (cap B : Nat) (w : World) (hB : B ≤ w.heap.size) (hr : Ints w B A r.cs) (hn : r.cs.length ≤ 1000000000) (hx : inRn r) :
    Calls Tryz.prog 67 #[rnV r (.slice A r.cs.length cap)] w fun e w' => e = .returned (.bool (decide (okRn r))) ∧ Below w.heap.size w w' := by
  have HH := LH (InRn.start w r A cap 26 (hr.up hB))
  have HPW := LH fun W => spower r.size W
  have HR := LH (hr.up hB)
  by_cases h0 : powR r.size
  rotate_left
  · have HV : Hid (decide (okRn r) = false) := LH (decide_eq_false (fun h => h0 h.1))
    rw [decide_eq_false h0] at HPW
    clear hr hn hx h0
    go_enter Tryz.func67, Tryz.ntmps67
    obtain ⟨a0, a1, a2, a3⟩ := HH.out.1
    go_wp2_with fail
    refine (HPW.out _).mono ?_
    rintro e w1 ⟨rfl, rfl⟩
    clear a0 a1 a2 a3
    obtain ⟨a0, a1, a2, a3⟩ := HH.out.1
    go_wp2
    go_ret
    exact ⟨by rw [HV.out]; rfl, HH.out.2.2.2⟩
  rw [decide_eq_true h0] at HPW
  by_cases h1 : (r.cs.length : Int) = r.size
  rotate_left
  · have HV : Hid (decide (okRn r) = false) := LH (decide_eq_false (fun h => h1 h.2.1))
    have d1 : ((r.cs.length : Int) != r.size) = true := by simpa using h1
    clear hr hn hx h0 h1
    go_enter Tryz.func67, Tryz.ntmps67
    obtain ⟨a0, a1, a2, a3⟩ := HH.out.1
    go_wp2_with fail
    refine (HPW.out _).mono ?_
    rintro e w1 ⟨rfl, rfl⟩
    clear a0 a1 a2 a3
    obtain ⟨a0, a1, a2, a3⟩ := HH.out.1
    go_wp2
    go_ret
    exact ⟨by rw [HV.out]; rfl, HH.out.2.2.2⟩
  have d1 : ((r.cs.length : Int) != r.size) = false := by simpa using h1
  by_cases h2 : r.base < 0
  · have HV : Hid (decide (okRn r) = false) := LH (decide_eq_false (fun h => by have := h.2.2.1; omega))
    have d2 : decide (r.base < 0) = true := decide_eq_true h2
    clear hr hn hx h0 h1 h2
    go_enter Tryz.func67, Tryz.ntmps67
    obtain ⟨a0, a1, a2, a3⟩ := HH.out.1
    go_wp2_with fail
    refine (HPW.out _).mono ?_
    rintro e w1 ⟨rfl, rfl⟩
    clear a0 a1 a2 a3
    obtain ⟨a0, a1, a2, a3⟩ := HH.out.1
    go_wp2
    go_ret
    exact ⟨by rw [HV.out]; rfl, HH.out.2.2.2⟩
  have d2 : decide (r.base < 0) = false := decide_eq_false h2
  by_cases h3 : r.en < r.base
  · have HV : Hid (decide (okRn r) = false) := LH (decide_eq_false (fun h => by have := h.2.2.2.1; omega))
    have d3 : decide (r.en < r.base) = true := decide_eq_true h3
    clear hr hn hx h0 h1 h2 h3
    go_enter Tryz.func67, Tryz.ntmps67
    obtain ⟨a0, a1, a2, a3⟩ := HH.out.1
    go_wp2_with fail
    refine (HPW.out _).mono ?_
    rintro e w1 ⟨rfl, rfl⟩
    clear a0 a1 a2 a3
    obtain ⟨a0, a1, a2, a3⟩ := HH.out.1
    go_wp2
    go_ret
    exact ⟨by rw [HV.out]; rfl, HH.out.2.2.2⟩
  have d3 : decide (r.en < r.base) = false := decide_eq_false h3
  obtain ⟨q, hq⟩ : ∃ q, r.en - r.base = q := ⟨_, rfl⟩
  have hw : wrap64 (r.en - r.base) = q := by
    have hx3 := hx.2.2
    rw [← hq]
    unfold wrap64
    clear hx
    omega
  by_cases h4 : r.size < q
  · have HV : Hid (decide (okRn r) = false) := LH (decide_eq_false (fun h => by have := h.2.2.2.2.1; omega))
    have d4 : decide (r.size < q) = true := decide_eq_true h4
    clear hr hn hx h0 h1 h2 h3 h4 hq
    go_enter Tryz.func67, Tryz.ntmps67
    obtain ⟨a0, a1, a2, a3⟩ := HH.out.1
    go_wp2_with fail
    refine (HPW.out _).mono ?_
    rintro e w1 ⟨rfl, rfl⟩
    clear a0 a1 a2 a3
    obtain ⟨a0, a1, a2, a3⟩ := HH.out.1
    go_wp2
    go_ret
    exact ⟨by rw [HV.out]; rfl, HH.out.2.2.2⟩
  have d4 : decide (r.size < q) = false := decide_eq_false h4
  by_cases h5 : 4611686018427387903 < r.en
  · have HV : Hid (decide (okRn r) = false) := LH (decide_eq_false (fun h => by have := h.2.2.2.2.2.1; omega))
    have d5 : decide (4611686018427387903 < r.en) = true := decide_eq_true h5
    clear hr hn hx h0 h1 h2 h3 h4 h5 hq
    go_enter Tryz.func67, Tryz.ntmps67
    obtain ⟨a0, a1, a2, a3⟩ := HH.out.1
    go_wp2_with fail
    refine (HPW.out _).mono ?_
    rintro e w1 ⟨rfl, rfl⟩
    clear a0 a1 a2 a3
    obtain ⟨a0, a1, a2, a3⟩ := HH.out.1
    go_wp2
    go_ret
    exact ⟨by rw [HV.out]; rfl, HH.out.2.2.2⟩
  have d5 : decide (4611686018427387903 < r.en) = false := decide_eq_false h5
  have HOK : Hid ((∀ z ∈ r.cs, 0 ≤ z ∧ z ≤ 255) ↔ okRn r) := LH ⟨fun h => ⟨h0, h1, by omega, by omega, by omega, by omega, h⟩, fun h => h.2.2.2.2.2.2⟩
  have hln : r.cs.length ≤ 1000000000 := hn
  clear hr hx hn h0 h1 h2 h3 h4 h5 hq
  go_enter Tryz.func67, Tryz.ntmps67
  obtain ⟨a0, a1, a2, a3⟩ := HH.out.1
  go_wp2_with fail
  refine (HPW.out _).mono ?_
  rintro e w1 ⟨rfl, rfl⟩
  clear a0 a1 a2 a3
  obtain ⟨a0, a1, a2, a3⟩ := HH.out.1
  go_wp2
  clear a0 a1 a2 a3
  clear d1 d2 d3 d4 d5 hw
  go_loopw [3] (fun i wr => ∃ j : Nat, j ≤ r.cs.length ∧ i = .int .i64 j ∧ (∀ z ∈ r.cs.take j, 0 ≤ z ∧ z ≤ 255) ∧ InRn w w.heap.size r A cap wr) (fun i _ => r.cs.length - (intOf i).toNat)
  case atStart => exact ⟨0, Nat.zero_le _, rfl, fun z hz => by simp at hz, HH.out⟩
  case round =>
    obtain ⟨j, hj, rfl, ht, hh⟩ := hrel
    have HH := LH hh
    have HT := LH ht
    clear ht hh
    obtain ⟨a0, a1, a2, a3⟩ := HH.out.1
    by_cases hlt : j < r.cs.length
    · obtain ⟨b, off, rfl, hbB, hc⟩ := HH.out.2.1 j hlt
      have HTK : Hid (∀ z, z ∈ r.cs.take (j + 1) → z ∈ r.cs.take j ∨ z = r.cs[j]) := LH (fun z hz => by
        rw [List.take_succ_eq_append_getElem hlt] at hz
        rcases List.mem_append.1 hz with h | h
        · exact .inl h
        · exact .inr (List.mem_singleton.1 h))
      have HM : Hid (r.cs[j] ∈ r.cs) := LH (List.getElem_mem hlt)
      generalize r.cs[j] = z at *
      by_cases hz : 0 ≤ z ∧ z ≤ 255
      · have HI := LH fun W => in_yes z 0 255 W hz.1 hz.2
        have HZ := LH hz
        clear hz
        go_wp2_with fail
        refine (HI.out _).mono ?_
        rintro e w1 ⟨rfl, rfl⟩
        go_wp2
        go_roundw
        case rel => exact ⟨j + 1, hlt, by go_num, fun y hy => (HTK.out y hy).elim (fun h => HT.out y h) (fun h => by rw [h]; exact HZ.out), HH.out⟩
        case measure => simp [intOf]; omega
      · have HI := LH fun W => in_no z 0 255 W (by omega)
        have HV : Hid (decide (okRn r) = false) := LH (decide_eq_false (fun h => hz (h.2.2.2.2.2.2 z HM.out)))
        clear hz
        go_wp2_with fail
        refine (HI.out _).mono ?_
        rintro e w1 ⟨rfl, rfl⟩
        go_wp2
        go_ret
        exact ⟨by rw [HV.out]; rfl, HH.out.2.2.2⟩
    · obtain rfl : j = r.cs.length := by omega
      have HV : Hid (decide (okRn r) = true) := LH (decide_eq_true (HOK.out.1 (by have h := HT.out; rwa [List.take_length] at h)))
      go_wp2
      go_ret
      exact ⟨by rw [HV.out]; rfl, HH.out.2.2.2⟩
theorem sroom (r : Rn) (A : Option Addr) (cap B : Nat) (w : World) (hB : B ≤ w.heap.size) (hr : Ints w B A r.cs) (hn : r.cs.length ≤ 1000000000) (hx : inRn r) :
    Calls Tryz.prog 95 #[rnV r (.slice A r.cs.length cap)] w fun e w' => e = .returned (.int .i64 (roomR r)) ∧ Below w.heap.size w w' := by
  have HH := LH (InRn.start w r A cap 26 (hr.up hB))
  have HIR : Hid (∀ W, InRn w w.heap.size r A cap W → Calls Tryz.prog 67 #[rnV r (.slice A r.cs.length cap)] W fun e w' => e = .returned (.bool (decide (okRn r))) ∧ Below W.heap.size W w') := LH fun W h => sisrn r A cap w.heap.size W (Nat.le_of_lt h.2.2.1) h.2.1 hn hx
  by_cases h0 : okRn r
  rotate_left
  · have HV : Hid (roomR r = 0) := LH (if_neg h0)
    rw [decide_eq_false h0] at HIR
    clear hr hn hx h0
    go_enter Tryz.func95, Tryz.ntmps95
    obtain ⟨a0, a1, a2, a3⟩ := HH.out.1
    go_wp2_with fail
    refine (HIR.out _ HH.out).mono ?_
    rintro e w1 ⟨rfl, hb1⟩
    have HH := LH (HH.out.next hb1)
    clear hb1 a0 a1 a2 a3
    obtain ⟨a0, a1, a2, a3⟩ := HH.out.1
    go_wp2
    go_ret
    exact ⟨by rw [HV.out]; rfl, HH.out.2.2.2⟩
  rw [decide_eq_true h0] at HIR
  obtain ⟨p, hp⟩ : ∃ p, r.en - r.base = p := ⟨_, rfl⟩
  obtain ⟨q, hq⟩ : ∃ q, r.size - p = q := ⟨_, rfl⟩
  obtain ⟨t, ht⟩ : ∃ t, 4611686018427387903 - r.en = t := ⟨_, rfl⟩
  have HV : Hid (roomR r = min q t) := LH (by unfold roomR; rw [if_pos h0, hp, hq, ht])
  have hl := h0.1.lo
  obtain ⟨_, _, g1, g2, g3, g4, _⟩ := h0
  have hw1 : wrap64 (r.en - r.base) = p := by clear hx; unfold wrap64; omega
  have hw2 : wrap64 (r.size - p) = q := by clear hx; unfold wrap64; omega
  have hw3 : wrap64 (4611686018427387903 - r.en) = t := by clear hx; unfold wrap64; omega
  clear hr hn hx hl g1 g2 g3 g4 hp hq ht
  go_enter Tryz.func95, Tryz.ntmps95
  obtain ⟨a0, a1, a2, a3⟩ := HH.out.1
  go_wp2_with fail
  refine (HIR.out _ HH.out).mono ?_
  rintro e w1 ⟨rfl, hb1⟩
  have HH := LH (HH.out.next hb1)
  clear hb1 a0 a1 a2 a3
  obtain ⟨a0, a1, a2, a3⟩ := HH.out.1
  go_wp2
  all_goals go_ret
  all_goals (
    refine ⟨?_, HH.out.2.2.2⟩
    rw [HV.out]
    refine congrArg (fun z => Ending.returned (.int .i64 z)) ?_
    omega)
def InRn2 (w : World) (r : Rn) (A : Option Addr) (cap : Nat) (s : Rn) (A' : Option Addr) (cap' : Nat) (W : World) : Prop :=
  InRn w w.heap.size r A cap W ∧ InRn (w.alloc (.cells (rnC r.size r.base r.en (.slice A r.cs.length cap)) 26)) (w.heap.size + 1) s A' cap' W
theorem snewrn (n : Int) (w : World) :
    Calls Tryz.prog 32 #[.int .i64 n] w fun e w' => ∃ v, e = .returned (.tuple #[rnV (nwR n) v, .bool (decide (powR n))]) ∧ OwnK w' w.heap.size v (nwR n).cs ∧ Below w.heap.size w w' := by
  have X := LH (BoxN.new w 0 0 0 (.slice none 0 0))
  have HB := LH ((Below.refl w.heap.size w).alloc (Nat.le_refl _) (.cells (rnC 0 0 0 (.slice none 0 0)) 26))
  have hz : (w.alloc (.cells (rnC 0 0 0 (.slice none 0 0)) 26)).heap.size = w.heap.size + 1 := by simp
  have HZ := LH hz
  have HPW := LH fun W => spower n W
  clear hz
  by_cases h : powR n
  · have hv : nwR n = ⟨n, 0, 0, List.replicate n.toNat 0⟩ := if_pos h
    rw [hv, decide_eq_true h]
    rw [decide_eq_true h] at HPW
    have hl := h.lo
    clear h hv
    obtain ⟨k, rfl⟩ := Int.eq_ofNat_of_zero_le (show 0 ≤ n by omega)
    have hmk := make_ints k (by omega)
    rw [Int.toNat_natCast]
    clear hl
    go_enter Tryz.func32, Tryz.ntmps32
    go_upto_region 1 with fail
    generalize w.alloc (.cells (rnC 0 0 0 (.slice none 0 0)) 26) = w1 at *
    go_wp2_with fail
    refine (HPW.out _).mono ?_
    rintro e w2 ⟨rfl, rfl⟩
    have X2 := LH (X.out.alloc (.cells (cellsI (List.replicate k 0)) 3))
    have HO : Hid (OwnK (w2.alloc (.cells (cellsI (List.replicate k 0)) 3)) (w.heap.size + 1) (.slice (some ⟨w2.heap.size, 0, none⟩) (List.replicate k (0 : Int)).length k) (List.replicate k 0)) := LH (OwnK.row (Nat.le_of_eq HZ.out.symm) 3 (heap_alloc_new w2 _) (by simp))
    rw [List.length_replicate] at HO
    have HB2 := LH (HB.out.alloc HB.out.size (.cells (cellsI (List.replicate k 0)) 3))
    obtain ⟨a0, a1, a2, a3⟩ := X2.out.cells
    have af := X2.out.free
    go_wp2
    have hg : w.heap.size < w.heap.size + 1 := Nat.lt_succ_self _
    have hq := Nat.le_refl w.heap.size
    refine bodyPost_ret (results_ct rfl _ _ w.heap.size _ _ _ _ rfl ((((X2.out.set0 _).set1 _).set2 _).set3 _) Tryz.underlying26 rfl (by kernel_rfl)) rfl ?_
    exact ⟨_, rfl, ((((HO.out.apart _ 0 _ hg).apart _ 1 _ hg).apart _ 2 _ hg).apart _ 3 _ hg).weaken (Nat.le_succ _), (((HB2.out.setCell (p := ⟨_, _, _⟩) hq _).setCell (p := ⟨_, _, _⟩) hq _).setCell (p := ⟨_, _, _⟩) hq _).setCell (p := ⟨_, _, _⟩) hq _⟩
  · have hv : nwR n = ⟨0, 0, 0, []⟩ := if_neg h
    rw [hv, decide_eq_false h]
    rw [decide_eq_false h] at HPW
    clear h hv
    go_enter Tryz.func32, Tryz.ntmps32
    go_upto_region 1 with fail
    generalize w.alloc (.cells (rnC 0 0 0 (.slice none 0 0)) 26) = w1 at *
    go_wp2_with fail
    refine (HPW.out _).mono ?_
    rintro e w2 ⟨rfl, rfl⟩
    obtain ⟨a0, a1, a2, a3⟩ := X.out.cells
    have af := X.out.free
    go_wp2
    have hq := Nat.le_refl w.heap.size
    refine bodyPost_ret (results_ct rfl _ _ w.heap.size _ _ _ _ rfl ((((X.out.set0 _).set1 _).set2 _).set3 _) Tryz.underlying26 rfl (by kernel_rfl)) rfl ?_
    exact ⟨_, rfl, OwnK.empty, (((HB.out.setCell (p := ⟨_, _, _⟩) hq _).setCell (p := ⟨_, _, _⟩) hq _).setCell (p := ⟨_, _, _⟩) hq _).setCell (p := ⟨_, _, _⟩) hq _⟩
end Go.Proofs.YtdaoaedkjoknmaaGreat
