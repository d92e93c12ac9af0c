/-
  What spec's functions on credits return.
-/
import Derived.Test.YtdaoaedkjoknmabCrV
import Derived.Test.YtdaoaedkjoknmabIn
import Derived.Deep.DeepCutAuto
namespace Go.Proofs.Ytdaoaedkjoknmab
open Go.RowKit Go.Deep Go.Proofs.Ytdaoaedkjoknmab.Num

theorem sin_any (x lo hi : Int) (w : World) :
    Calls Try.prog 14 #[.int .i64 x, .int .i64 lo, .int .i64 hi] w fun e w' => e = .returned (.bool (decide (lo ≤ x ∧ x ≤ hi))) ∧ w = w' := by
  by_cases h : lo ≤ x ∧ x ≤ hi
  · rw [decide_eq_true h]
    exact in_yes x lo hi w h.1 h.2
  · rw [decide_eq_false h]
    exact in_no x lo hi w (by omega)
set_option maxRecDepth 100000 in
/-- spec.l4Quic -/
theorem squi (n : Int) (w : World) :
    Calls Try.prog 13 #[.int .i64 n] w fun e w' => e = .returned (.bool (decide (okL n))) ∧ w = w' := by
  have HI := Lib.hid fun W => sin_any n 0 4611686018427387903 W
  have e : decide (0 ≤ n ∧ n ≤ 4611686018427387903) = decide (okL n) := rfl
  rw [e] at HI
  clear e
  generalize decide (okL n) = q at *
  go_enter Try.func13, Try.ntmps13
  go_wp2_with fail
  refine (HI.out _).mono ?_
  rintro e w1 ⟨rfl, rfl⟩
  go_wp2
  go_ret
  exact ⟨rfl, rfl⟩
set_option maxRecDepth 100000 in
set_option maxHeartbeats 1600000 in
/-- spec.IsCredit -/
theorem sisc (c : Cr) (w : World) :
    Calls Try.prog 11 #[crV c] w fun e w' => e = .returned (.bool (decide (okCr c))) ∧ Below w.heap.size w w' := by
  have HB := Lib.hid (BoxC.new w 25 c.lim c.used c.bl c.told)
  have HL := Lib.hid ((Below.refl w.heap.size w).alloc (Nat.le_refl _) (.cells (crC c.lim c.used c.bl c.told) 25))
  have H0 := Lib.hid (fun W => squi c.lim W)
  have H1 := Lib.hid (fun W => sin_any c.used 0 c.lim W)
  have H2 := Lib.hid (fun W => sin_any c.bl (-1) c.lim W)
  have H3 := Lib.hid (fun W => sin_any c.told (-1) c.lim W)
  by_cases h0 : okL c.lim
  rotate_left
  · have HV : Hid (decide (okCr c) = false) := Lib.hid (decide_eq_false (fun h => h0 h.1))
    rw [decide_eq_false h0] at H0
    clear h0
    go_enter Try.func11, Try.ntmps11
    obtain ⟨a0, a1, a2, a3⟩ := HB.out.cells
    go_wp2_with fail
    refine (H0.out _).mono ?_
    rintro e w1 ⟨rfl, rfl⟩
    go_wp2
    go_ret
    exact ⟨by rw [HV.out]; rfl, HL.out⟩
  rw [decide_eq_true h0] at H0
  by_cases h1 : 0 ≤ c.used ∧ c.used ≤ c.lim
  rotate_left
  · have HV : Hid (decide (okCr c) = false) := Lib.hid (decide_eq_false (fun h => h1 h.2.1))
    rw [decide_eq_false h1] at H1
    clear h0 h1
    go_enter Try.func11, Try.ntmps11
    obtain ⟨a0, a1, a2, a3⟩ := HB.out.cells
    go_wp2_with fail
    refine (H0.out _).mono ?_
    rintro e w1 ⟨rfl, rfl⟩
    go_wp2_with fail
    refine (H1.out _).mono ?_
    rintro e w2 ⟨rfl, rfl⟩
    go_wp2
    go_ret
    exact ⟨by rw [HV.out]; rfl, HL.out⟩
  rw [decide_eq_true h1] at H1
  by_cases h2 : -1 ≤ c.bl ∧ c.bl ≤ c.lim
  rotate_left
  · have HV : Hid (decide (okCr c) = false) := Lib.hid (decide_eq_false (fun h => h2 h.2.2.1))
    rw [decide_eq_false h2] at H2
    clear h0 h1 h2
    go_enter Try.func11, Try.ntmps11
    obtain ⟨a0, a1, a2, a3⟩ := HB.out.cells
    go_wp2_with fail
    refine (H0.out _).mono ?_
    rintro e w1 ⟨rfl, rfl⟩
    go_wp2_with fail
    refine (H1.out _).mono ?_
    rintro e w2 ⟨rfl, rfl⟩
    go_wp2_with fail
    refine (H2.out _).mono ?_
    rintro e w3 ⟨rfl, rfl⟩
    go_wp2
    go_ret
    exact ⟨by rw [HV.out]; rfl, HL.out⟩
  rw [decide_eq_true h2] at H2
  by_cases h3 : -1 ≤ c.told ∧ c.told ≤ c.lim
  rotate_left
  · have HV : Hid (decide (okCr c) = false) := Lib.hid (decide_eq_false (fun h => h3 h.2.2.2))
    rw [decide_eq_false h3] at H3
    clear h0 h1 h2 h3
    go_enter Try.func11, Try.ntmps11
    obtain ⟨a0, a1, a2, a3⟩ := HB.out.cells
    go_wp2_with fail
    refine (H0.out _).mono ?_
    rintro e w1 ⟨rfl, rfl⟩
    go_wp2_with fail
    refine (H1.out _).mono ?_
    rintro e w2 ⟨rfl, rfl⟩
    go_wp2_with fail
    refine (H2.out _).mono ?_
    rintro e w3 ⟨rfl, rfl⟩
    go_wp2_with fail
    refine (H3.out _).mono ?_
    rintro e w4 ⟨rfl, rfl⟩
    go_wp2
    go_ret
    exact ⟨by rw [HV.out]; rfl, HL.out⟩
  rw [decide_eq_true h3] at H3
  have HV : Hid (decide (okCr c) = true) := Lib.hid (decide_eq_true (show okCr c by unfold okCr okL; exact ⟨h0, h1, h2, h3⟩))
  clear h0 h1 h2 h3
  go_enter Try.func11, Try.ntmps11
  obtain ⟨a0, a1, a2, a3⟩ := HB.out.cells
  go_wp2_with fail
  refine (H0.out _).mono ?_
  rintro e w1 ⟨rfl, rfl⟩
  go_wp2_with fail
  refine (H1.out _).mono ?_
  rintro e w2 ⟨rfl, rfl⟩
  go_wp2_with fail
  refine (H2.out _).mono ?_
  rintro e w3 ⟨rfl, rfl⟩
  go_wp2_with fail
  refine (H3.out _).mono ?_
  rintro e w4 ⟨rfl, rfl⟩
  go_wp2
  go_ret
  exact ⟨by rw [HV.out]; rfl, HL.out⟩
set_option maxRecDepth 100000 in
set_option maxHeartbeats 1600000 in
/-- spec.MustTell -/
theorem smust (c : Cr) (w : World) :
    Calls Try.prog 5 #[crV c] w fun e w' => e = .returned (.bool (decide (mustCr c))) ∧ Below w.heap.size w w' := by
  have HB := Lib.hid (BoxC.new w 25 c.lim c.used c.bl c.told)
  have HL := Lib.hid ((Below.refl w.heap.size w).alloc (Nat.le_refl _) (.cells (crC c.lim c.used c.bl c.told) 25))
  have HIS := Lib.hid fun W => sisc c W
  by_cases hk : okCr c
  rotate_left
  · have HV : Hid (decide (mustCr c) = false) := Lib.hid (decide_eq_false fun h => hk h.1)
    rw [decide_eq_false hk] at HIS
    clear hk
    go_enter Try.func5, Try.ntmps5
    obtain ⟨a0, a1, a2, a3⟩ := HB.out.cells
    go_wp2_with fail
    refine (HIS.out _).mono ?_
    rintro e w3 ⟨rfl, hb⟩
    have HB := Lib.hid (HB.out.next hb)
    have HL := Lib.hid (HL.out.trans (hb.mono HL.out.size))
    clear hb a0 a1 a2 a3
    obtain ⟨a0, a1, a2, a3⟩ := HB.out.cells
    go_wp2
    go_ret
    exact ⟨by rw [HV.out]; rfl, HL.out⟩
  rw [decide_eq_true hk] at HIS
  by_cases h0 : c.bl = c.lim
  rotate_left
  · have HV : Hid (decide (mustCr c) = false) := Lib.hid (decide_eq_false fun h => h0 h.2)
    have d0 : (c.bl == c.lim) = false := by simpa using h0
    clear hk h0
    go_enter Try.func5, Try.ntmps5
    obtain ⟨a0, a1, a2, a3⟩ := HB.out.cells
    go_wp2_with fail
    refine (HIS.out _).mono ?_
    rintro e w3 ⟨rfl, hb⟩
    have HB := Lib.hid (HB.out.next hb)
    have HL := Lib.hid (HL.out.trans (hb.mono HL.out.size))
    clear hb a0 a1 a2 a3
    obtain ⟨a0, a1, a2, a3⟩ := HB.out.cells
    go_wp2
    go_ret
    exact ⟨by rw [HV.out]; rfl, HL.out⟩
  have HV : Hid (decide (mustCr c) = true) := Lib.hid (decide_eq_true ⟨hk, h0⟩)
  have d0 : (c.bl == c.lim) = true := by simpa using h0
  clear hk h0
  go_enter Try.func5, Try.ntmps5
  obtain ⟨a0, a1, a2, a3⟩ := HB.out.cells
  go_wp2_with fail
  refine (HIS.out _).mono ?_
  rintro e w3 ⟨rfl, hb⟩
  have HB := Lib.hid (HB.out.next hb)
  have HL := Lib.hid (HL.out.trans (hb.mono HL.out.size))
  clear hb a0 a1 a2 a3
  obtain ⟨a0, a1, a2, a3⟩ := HB.out.cells
  go_wp2
  go_ret
  exact ⟨by rw [HV.out]; rfl, HL.out⟩
set_option maxRecDepth 100000 in
set_option maxHeartbeats 1600000 in
/-- spec.ClearBlocked -/
theorem sclear (c : Cr) (w : World) :
    Calls Try.prog 8 #[crV c] w fun e w' => e = .returned (crV (clearCr c)) ∧ Below w.heap.size w w' := by
  have HH := Lib.hid (IrC.start w c)
  have HIS := Lib.hid fun W => sisc c W
  by_cases hk : okCr c
  rotate_left
  · have HV : Hid (clearCr c = c) := Lib.hid (if_neg (fun h => hk h.1))
    rw [decide_eq_false hk] at HIS
    clear hk
    go_enter Try.func8, Try.ntmps8
    go_upto_region 1 with fail
    generalize (w.alloc (.cells (crC c.lim c.used c.bl c.told) 25)).alloc (.cells (crC 0 0 0 0) 25) = w2 at *
    obtain ⟨a0, a1, a2, a3⟩ := HH.out.b.cells
    go_wp2_with fail
    refine (HIS.out _).mono ?_
    rintro e w3 ⟨rfl, hb⟩
    have HH := Lib.hid (HH.out.next hb)
    clear hb a0 a1 a2 a3
    obtain ⟨a0, a1, a2, a3⟩ := HH.out.b.cells
    obtain ⟨q0, q1, q2, q3⟩ := HH.out.o.cells
    have qf := HH.out.o.free
    have pf := HH.out.b.free
    go_wp2
    have X := HH.out.out (c)
    refine bodyPost_ret (results_cell_row rfl _ _ (w.heap.size + 1) _ _ _ _ rfl X.1 Try.underlying25 rfl (by kernel_rfl)) rfl ?_
    exact ⟨by rw [HV.out], X.2⟩
  rw [decide_eq_true hk] at HIS
  by_cases h0 : ¬ c.bl = -1
  rotate_left
  · have HV : Hid (clearCr c = c) := Lib.hid (if_neg (fun h => h0 h.2))
    have d0 : (c.bl != -1) = false := by simpa using h0
    clear hk h0
    go_enter Try.func8, Try.ntmps8
    go_upto_region 1 with fail
    generalize (w.alloc (.cells (crC c.lim c.used c.bl c.told) 25)).alloc (.cells (crC 0 0 0 0) 25) = w2 at *
    obtain ⟨a0, a1, a2, a3⟩ := HH.out.b.cells
    go_wp2_with fail
    refine (HIS.out _).mono ?_
    rintro e w3 ⟨rfl, hb⟩
    have HH := Lib.hid (HH.out.next hb)
    clear hb a0 a1 a2 a3
    obtain ⟨a0, a1, a2, a3⟩ := HH.out.b.cells
    obtain ⟨q0, q1, q2, q3⟩ := HH.out.o.cells
    have qf := HH.out.o.free
    have pf := HH.out.b.free
    go_wp2
    have X := HH.out.out (c)
    refine bodyPost_ret (results_cell_row rfl _ _ (w.heap.size + 1) _ _ _ _ rfl X.1 Try.underlying25 rfl (by kernel_rfl)) rfl ?_
    exact ⟨by rw [HV.out], X.2⟩
  have d0 : (c.bl != -1) = true := by simpa using h0
  have HV : Hid (clearCr c = ⟨c.lim, c.used, -1, c.bl⟩) := Lib.hid (if_pos ⟨hk, h0⟩)
  clear hk h0
  go_enter Try.func8, Try.ntmps8
  go_upto_region 1 with fail
  generalize (w.alloc (.cells (crC c.lim c.used c.bl c.told) 25)).alloc (.cells (crC 0 0 0 0) 25) = w2 at *
  obtain ⟨a0, a1, a2, a3⟩ := HH.out.b.cells
  go_wp2_with fail
  refine (HIS.out _).mono ?_
  rintro e w3 ⟨rfl, hb⟩
  have HH := Lib.hid (HH.out.next hb)
  clear hb a0 a1 a2 a3
  obtain ⟨a0, a1, a2, a3⟩ := HH.out.b.cells
  obtain ⟨q0, q1, q2, q3⟩ := HH.out.o.cells
  have qf := HH.out.o.free
  have pf := HH.out.b.free
  go_upto_region 3 with fail
  have HN := Lib.hid (HH.out.put3 (c.bl))
  clear a0 a1 a2 a3 q0 q1 q2 q3 qf pf HH
  generalize w3.setCell ⟨w.heap.size, 3, none⟩ (.int .i64 (c.bl)) = w4 at *
  have HH := HN
  clear HN
  obtain ⟨a0, a1, a2, a3⟩ := HH.out.b.cells
  obtain ⟨q0, q1, q2, q3⟩ := HH.out.o.cells
  have qf := HH.out.o.free
  have pf := HH.out.b.free
  go_upto_region 4 with fail
  have HN := Lib.hid (HH.out.put2 (-1))
  clear a0 a1 a2 a3 q0 q1 q2 q3 qf pf HH
  generalize w4.setCell ⟨w.heap.size, 2, none⟩ (.int .i64 (-1)) = w5 at *
  have HH := HN
  clear HN
  obtain ⟨a0, a1, a2, a3⟩ := HH.out.b.cells
  obtain ⟨q0, q1, q2, q3⟩ := HH.out.o.cells
  have qf := HH.out.o.free
  have pf := HH.out.b.free
  go_wp2
  have X := HH.out.out (⟨c.lim, c.used, -1, c.bl⟩)
  refine bodyPost_ret (results_cell_row rfl _ _ (w.heap.size + 1) _ _ _ _ rfl X.1 Try.underlying25 rfl (by kernel_rfl)) rfl ?_
  exact ⟨by rw [HV.out], X.2⟩
end Go.Proofs.Ytdaoaedkjoknmab
