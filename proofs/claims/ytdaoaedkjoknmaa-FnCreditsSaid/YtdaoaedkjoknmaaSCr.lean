/-
  What spec's functions on credits return.
-/
import Derived.Test.YtdaoaedkjoknmaaCrV
import Derived.Test.YtdaoaedkjoknmaaIn
import Derived.Deep.DeepCutAuto
namespace Go.Proofs.Ytdaoaedkjoknmaa
open Go.RowKit Go.Deep Go.Proofs.Ytdaoaedkjoknmaa.Num

theorem sin_any (x lo hi : Int) (w : World) :
    Calls Try.prog 38 #[.int .i64 x, .int .i64 lo, .int .i64 hi] w fun e w' => e = .returned (.bool (decide (lo ≤ x ∧ x ≤ hi))) ∧ w = w' := by
  by_cases h : lo ≤ x ∧ x ≤ hi
  · rw [decide_eq_true h]
    exact in_yes x lo hi w h.1 h.2
  · rw [decide_eq_false h]
    exact in_no x lo hi w (by omega)
set_option maxRecDepth 100000 in
/-- spec.l4Quic -/
theorem squi (n : Int) (w : World) :
    Calls Try.prog 37 #[.int .i64 n] w fun e w' => e = .returned (.bool (decide (okL n))) ∧ w = w' := by
  have HI := Lib.hid fun W => sin_any n 0 4611686018427387903 W
  have e : decide (0 ≤ n ∧ n ≤ 4611686018427387903) = decide (okL n) := rfl
  rw [e] at HI
  clear e
  generalize decide (okL n) = q at *
  go_enter Try.func37, Try.ntmps37
  go_wp2_with fail
  refine (HI.out _).mono ?_
  rintro e w1 ⟨rfl, rfl⟩
  go_wp2
  go_ret
  exact ⟨rfl, rfl⟩
set_option maxRecDepth 100000 in
set_option maxHeartbeats 1600000 in
/-- spec.IsCredit -/
theorem sisc (c : Cr) (w : World) :
    Calls Try.prog 17 #[crV c] w fun e w' => e = .returned (.bool (decide (okCr c))) ∧ Below w.heap.size w w' := by
  have HB := Lib.hid (BoxC.new w 25 c.lim c.used c.bl c.told)
  have HL := Lib.hid ((Below.refl w.heap.size w).alloc (Nat.le_refl _) (.cells (crC c.lim c.used c.bl c.told) 25))
  have H0 := Lib.hid (fun W => squi c.lim W)
  have H1 := Lib.hid (fun W => sin_any c.used 0 c.lim W)
  have H2 := Lib.hid (fun W => sin_any c.bl (-1) c.lim W)
  have H3 := Lib.hid (fun W => sin_any c.told (-1) c.lim W)
  by_cases h0 : okL c.lim
  rotate_left
  · have HV : Hid (decide (okCr c) = false) := Lib.hid (decide_eq_false (fun h => h0 h.1))
    rw [decide_eq_false h0] at H0
    clear h0
    go_enter Try.func17, Try.ntmps17
    obtain ⟨a0, a1, a2, a3⟩ := HB.out.cells
    go_wp2_with fail
    refine (H0.out _).mono ?_
    rintro e w1 ⟨rfl, rfl⟩
    go_wp2
    go_ret
    exact ⟨by rw [HV.out]; rfl, HL.out⟩
  rw [decide_eq_true h0] at H0
  by_cases h1 : 0 ≤ c.used ∧ c.used ≤ c.lim
  rotate_left
  · have HV : Hid (decide (okCr c) = false) := Lib.hid (decide_eq_false (fun h => h1 h.2.1))
    rw [decide_eq_false h1] at H1
    clear h0 h1
    go_enter Try.func17, Try.ntmps17
    obtain ⟨a0, a1, a2, a3⟩ := HB.out.cells
    go_wp2_with fail
    refine (H0.out _).mono ?_
    rintro e w1 ⟨rfl, rfl⟩
    go_wp2_with fail
    refine (H1.out _).mono ?_
    rintro e w2 ⟨rfl, rfl⟩
    go_wp2
    go_ret
    exact ⟨by rw [HV.out]; rfl, HL.out⟩
  rw [decide_eq_true h1] at H1
  by_cases h2 : -1 ≤ c.bl ∧ c.bl ≤ c.lim
  rotate_left
  · have HV : Hid (decide (okCr c) = false) := Lib.hid (decide_eq_false (fun h => h2 h.2.2.1))
    rw [decide_eq_false h2] at H2
    clear h0 h1 h2
    go_enter Try.func17, Try.ntmps17
    obtain ⟨a0, a1, a2, a3⟩ := HB.out.cells
    go_wp2_with fail
    refine (H0.out _).mono ?_
    rintro e w1 ⟨rfl, rfl⟩
    go_wp2_with fail
    refine (H1.out _).mono ?_
    rintro e w2 ⟨rfl, rfl⟩
    go_wp2_with fail
    refine (H2.out _).mono ?_
    rintro e w3 ⟨rfl, rfl⟩
    go_wp2
    go_ret
    exact ⟨by rw [HV.out]; rfl, HL.out⟩
  rw [decide_eq_true h2] at H2
  by_cases h3 : -1 ≤ c.told ∧ c.told ≤ c.lim
  rotate_left
  · have HV : Hid (decide (okCr c) = false) := Lib.hid (decide_eq_false (fun h => h3 h.2.2.2))
    rw [decide_eq_false h3] at H3
    clear h0 h1 h2 h3
    go_enter Try.func17, Try.ntmps17
    obtain ⟨a0, a1, a2, a3⟩ := HB.out.cells
    go_wp2_with fail
    refine (H0.out _).mono ?_
    rintro e w1 ⟨rfl, rfl⟩
    go_wp2_with fail
    refine (H1.out _).mono ?_
    rintro e w2 ⟨rfl, rfl⟩
    go_wp2_with fail
    refine (H2.out _).mono ?_
    rintro e w3 ⟨rfl, rfl⟩
    go_wp2_with fail
    refine (H3.out _).mono ?_
    rintro e w4 ⟨rfl, rfl⟩
    go_wp2
    go_ret
    exact ⟨by rw [HV.out]; rfl, HL.out⟩
  rw [decide_eq_true h3] at H3
  have HV : Hid (decide (okCr c) = true) := Lib.hid (decide_eq_true (show okCr c by unfold okCr okL; exact ⟨h0, h1, h2, h3⟩))
  clear h0 h1 h2 h3
  go_enter Try.func17, Try.ntmps17
  obtain ⟨a0, a1, a2, a3⟩ := HB.out.cells
  go_wp2_with fail
  refine (H0.out _).mono ?_
  rintro e w1 ⟨rfl, rfl⟩
  go_wp2_with fail
  refine (H1.out _).mono ?_
  rintro e w2 ⟨rfl, rfl⟩
  go_wp2_with fail
  refine (H2.out _).mono ?_
  rintro e w3 ⟨rfl, rfl⟩
  go_wp2_with fail
  refine (H3.out _).mono ?_
  rintro e w4 ⟨rfl, rfl⟩
  go_wp2
  go_ret
  exact ⟨by rw [HV.out]; rfl, HL.out⟩
set_option maxRecDepth 100000 in
set_option maxHeartbeats 1600000 in
/-- spec.CreditLeft -/
theorem sleft (c : Cr) (w : World) :
    Calls Try.prog 16 #[crV c] w fun e w' => e = .returned (.int .i64 (leftCr c)) ∧ Below w.heap.size w w' := by
  have HB := Lib.hid (BoxC.new w 25 c.lim c.used c.bl c.told)
  have HL := Lib.hid ((Below.refl w.heap.size w).alloc (Nat.le_refl _) (.cells (crC c.lim c.used c.bl c.told) 25))
  have HIS := Lib.hid fun W => sisc c W
  by_cases hk : okCr c
  rotate_left
  · have HV : Hid (leftCr c = 0) := Lib.hid (if_neg hk)
    rw [decide_eq_false hk] at HIS
    clear hk
    go_enter Try.func16, Try.ntmps16
    obtain ⟨a0, a1, a2, a3⟩ := HB.out.cells
    go_wp2_with fail
    refine (HIS.out _).mono ?_
    rintro e w3 ⟨rfl, hb⟩
    have HB := Lib.hid (HB.out.next hb)
    have HL := Lib.hid (HL.out.trans (hb.mono HL.out.size))
    clear hb a0 a1 a2 a3
    obtain ⟨a0, a1, a2, a3⟩ := HB.out.cells
    go_wp2
    go_ret
    exact ⟨by rw [HV.out]; rfl, HL.out⟩
  rw [decide_eq_true hk] at HIS
  have HV : Hid (leftCr c = c.lim - c.used) := Lib.hid (if_pos hk)
  have hw : wrap64 (c.lim - c.used) = c.lim - c.used := by
    have h1 := hk.1.2
    have h2 := hk.2.1
    unfold wrap64
    clear HIS HV HB HL
    omega
  clear hk
  go_enter Try.func16, Try.ntmps16
  obtain ⟨a0, a1, a2, a3⟩ := HB.out.cells
  go_wp2_with fail
  refine (HIS.out _).mono ?_
  rintro e w3 ⟨rfl, hb⟩
  have HB := Lib.hid (HB.out.next hb)
  have HL := Lib.hid (HL.out.trans (hb.mono HL.out.size))
  clear hb a0 a1 a2 a3
  obtain ⟨a0, a1, a2, a3⟩ := HB.out.cells
  go_wp2
  go_ret
  exact ⟨(ret_int hw).trans (by rw [HV.out]), HL.out⟩
set_option maxRecDepth 100000 in
set_option maxHeartbeats 1600000 in
/-- spec.MustTell -/
theorem smust (c : Cr) (w : World) :
    Calls Try.prog 26 #[crV c] w fun e w' => e = .returned (.bool (decide (mustCr c))) ∧ Below w.heap.size w w' := by
  have HB := Lib.hid (BoxC.new w 25 c.lim c.used c.bl c.told)
  have HL := Lib.hid ((Below.refl w.heap.size w).alloc (Nat.le_refl _) (.cells (crC c.lim c.used c.bl c.told) 25))
  have HIS := Lib.hid fun W => sisc c W
  by_cases hk : okCr c
  rotate_left
  · have HV : Hid (decide (mustCr c) = false) := Lib.hid (decide_eq_false fun h => hk h.1)
    rw [decide_eq_false hk] at HIS
    clear hk
    go_enter Try.func26, Try.ntmps26
    obtain ⟨a0, a1, a2, a3⟩ := HB.out.cells
    go_wp2_with fail
    refine (HIS.out _).mono ?_
    rintro e w3 ⟨rfl, hb⟩
    have HB := Lib.hid (HB.out.next hb)
    have HL := Lib.hid (HL.out.trans (hb.mono HL.out.size))
    clear hb a0 a1 a2 a3
    obtain ⟨a0, a1, a2, a3⟩ := HB.out.cells
    go_wp2
    go_ret
    exact ⟨by rw [HV.out]; rfl, HL.out⟩
  rw [decide_eq_true hk] at HIS
  by_cases h0 : c.bl = c.lim
  rotate_left
  · have HV : Hid (decide (mustCr c) = false) := Lib.hid (decide_eq_false fun h => h0 h.2)
    have d0 : (c.bl == c.lim) = false := by simpa using h0
    clear hk h0
    go_enter Try.func26, Try.ntmps26
    obtain ⟨a0, a1, a2, a3⟩ := HB.out.cells
    go_wp2_with fail
    refine (HIS.out _).mono ?_
    rintro e w3 ⟨rfl, hb⟩
    have HB := Lib.hid (HB.out.next hb)
    have HL := Lib.hid (HL.out.trans (hb.mono HL.out.size))
    clear hb a0 a1 a2 a3
    obtain ⟨a0, a1, a2, a3⟩ := HB.out.cells
    go_wp2
    go_ret
    exact ⟨by rw [HV.out]; rfl, HL.out⟩
  have HV : Hid (decide (mustCr c) = true) := Lib.hid (decide_eq_true ⟨hk, h0⟩)
  have d0 : (c.bl == c.lim) = true := by simpa using h0
  clear hk h0
  go_enter Try.func26, Try.ntmps26
  obtain ⟨a0, a1, a2, a3⟩ := HB.out.cells
  go_wp2_with fail
  refine (HIS.out _).mono ?_
  rintro e w3 ⟨rfl, hb⟩
  have HB := Lib.hid (HB.out.next hb)
  have HL := Lib.hid (HL.out.trans (hb.mono HL.out.size))
  clear hb a0 a1 a2 a3
  obtain ⟨a0, a1, a2, a3⟩ := HB.out.cells
  go_wp2
  go_ret
  exact ⟨by rw [HV.out]; rfl, HL.out⟩
set_option maxRecDepth 100000 in
set_option maxHeartbeats 1600000 in
/-- spec.RaiseLimit -/
theorem sraise (c : Cr) (n : Int) (w : World) :
    Calls Try.prog 20 #[crV c, .int .i64 n] w fun e w' => e = .returned (crV (raiseCr c n)) ∧ Below w.heap.size w w' := by
  have HH := Lib.hid (IrC.start w c)
  have HIS := Lib.hid fun W => sisc c W
  have HQ := Lib.hid fun W => squi n W
  by_cases hk : okCr c
  rotate_left
  · have HV : Hid (raiseCr c n = c) := Lib.hid (if_neg (fun h => hk h.1))
    rw [decide_eq_false hk] at HIS
    clear hk
    go_enter Try.func20, Try.ntmps20
    go_upto_region 1 with fail
    generalize (w.alloc (.cells (crC c.lim c.used c.bl c.told) 25)).alloc (.cells (crC 0 0 0 0) 25) = w2 at *
    obtain ⟨a0, a1, a2, a3⟩ := HH.out.b.cells
    go_wp2_with fail
    refine (HIS.out _).mono ?_
    rintro e w3 ⟨rfl, hb⟩
    have HH := Lib.hid (HH.out.next hb)
    clear hb a0 a1 a2 a3
    obtain ⟨a0, a1, a2, a3⟩ := HH.out.b.cells
    obtain ⟨q0, q1, q2, q3⟩ := HH.out.o.cells
    have qf := HH.out.o.free
    have pf := HH.out.b.free
    go_wp2
    have X := HH.out.out (c)
    refine bodyPost_ret (results_cell_row rfl _ _ (w.heap.size + 1) _ _ _ _ rfl X.1 Try.underlying25 rfl (by kernel_rfl)) rfl ?_
    exact ⟨by rw [HV.out], X.2⟩
  rw [decide_eq_true hk] at HIS
  by_cases h0 : okL n
  rotate_left
  · have HV : Hid (raiseCr c n = c) := Lib.hid (if_neg (fun h => h0 h.2.1))
    rw [decide_eq_false h0] at HQ
    clear hk h0
    go_enter Try.func20, Try.ntmps20
    go_upto_region 1 with fail
    generalize (w.alloc (.cells (crC c.lim c.used c.bl c.told) 25)).alloc (.cells (crC 0 0 0 0) 25) = w2 at *
    obtain ⟨a0, a1, a2, a3⟩ := HH.out.b.cells
    go_wp2_with fail
    refine (HIS.out _).mono ?_
    rintro e w3 ⟨rfl, hb⟩
    have HH := Lib.hid (HH.out.next hb)
    clear hb a0 a1 a2 a3
    obtain ⟨a0, a1, a2, a3⟩ := HH.out.b.cells
    obtain ⟨q0, q1, q2, q3⟩ := HH.out.o.cells
    have qf := HH.out.o.free
    have pf := HH.out.b.free
    go_wp2_with fail
    refine (HQ.out _).mono ?_
    rintro e w9 ⟨rfl, rfl⟩
    go_wp2
    have X := HH.out.out (c)
    refine bodyPost_ret (results_cell_row rfl _ _ (w.heap.size + 1) _ _ _ _ rfl X.1 Try.underlying25 rfl (by kernel_rfl)) rfl ?_
    exact ⟨by rw [HV.out], X.2⟩
  rw [decide_eq_true h0] at HQ
  by_cases h1 : c.lim < n
  rotate_left
  · have HV : Hid (raiseCr c n = c) := Lib.hid (if_neg (fun h => h1 h.2.2))
    have d1 : decide (n ≤ c.lim) = true := decide_eq_true (by omega)
    clear hk h0 h1
    go_enter Try.func20, Try.ntmps20
    go_upto_region 1 with fail
    generalize (w.alloc (.cells (crC c.lim c.used c.bl c.told) 25)).alloc (.cells (crC 0 0 0 0) 25) = w2 at *
    obtain ⟨a0, a1, a2, a3⟩ := HH.out.b.cells
    go_wp2_with fail
    refine (HIS.out _).mono ?_
    rintro e w3 ⟨rfl, hb⟩
    have HH := Lib.hid (HH.out.next hb)
    clear hb a0 a1 a2 a3
    obtain ⟨a0, a1, a2, a3⟩ := HH.out.b.cells
    obtain ⟨q0, q1, q2, q3⟩ := HH.out.o.cells
    have qf := HH.out.o.free
    have pf := HH.out.b.free
    go_wp2_with fail
    refine (HQ.out _).mono ?_
    rintro e w9 ⟨rfl, rfl⟩
    go_wp2
    have X := HH.out.out (c)
    refine bodyPost_ret (results_cell_row rfl _ _ (w.heap.size + 1) _ _ _ _ rfl X.1 Try.underlying25 rfl (by kernel_rfl)) rfl ?_
    exact ⟨by rw [HV.out], X.2⟩
  have d1 : decide (n ≤ c.lim) = false := decide_eq_false (by omega)
  have HV : Hid (raiseCr c n = ⟨n, c.used, -1, c.told⟩) := Lib.hid (if_pos ⟨hk, h0, h1⟩)
  clear hk h0 h1
  go_enter Try.func20, Try.ntmps20
  go_upto_region 1 with fail
  generalize (w.alloc (.cells (crC c.lim c.used c.bl c.told) 25)).alloc (.cells (crC 0 0 0 0) 25) = w2 at *
  obtain ⟨a0, a1, a2, a3⟩ := HH.out.b.cells
  go_wp2_with fail
  refine (HIS.out _).mono ?_
  rintro e w3 ⟨rfl, hb⟩
  have HH := Lib.hid (HH.out.next hb)
  clear hb a0 a1 a2 a3
  obtain ⟨a0, a1, a2, a3⟩ := HH.out.b.cells
  obtain ⟨q0, q1, q2, q3⟩ := HH.out.o.cells
  have qf := HH.out.o.free
  have pf := HH.out.b.free
  go_wp2_with fail
  refine (HQ.out _).mono ?_
  rintro e w9 ⟨rfl, rfl⟩
  go_upto_region 4 with fail
  have HN := Lib.hid (HH.out.put0 (n))
  clear a0 a1 a2 a3 q0 q1 q2 q3 qf pf HH
  generalize w3.setCell ⟨w.heap.size, 0, none⟩ (.int .i64 (n)) = w4 at *
  have HH := HN
  clear HN
  obtain ⟨a0, a1, a2, a3⟩ := HH.out.b.cells
  obtain ⟨q0, q1, q2, q3⟩ := HH.out.o.cells
  have qf := HH.out.o.free
  have pf := HH.out.b.free
  go_upto_region 5 with fail
  have HN := Lib.hid (HH.out.put2 (-1))
  clear a0 a1 a2 a3 q0 q1 q2 q3 qf pf HH
  generalize w4.setCell ⟨w.heap.size, 2, none⟩ (.int .i64 (-1)) = w5 at *
  have HH := HN
  clear HN
  obtain ⟨a0, a1, a2, a3⟩ := HH.out.b.cells
  obtain ⟨q0, q1, q2, q3⟩ := HH.out.o.cells
  have qf := HH.out.o.free
  have pf := HH.out.b.free
  go_wp2
  have X := HH.out.out (⟨n, c.used, -1, c.told⟩)
  refine bodyPost_ret (results_cell_row rfl _ _ (w.heap.size + 1) _ _ _ _ rfl X.1 Try.underlying25 rfl (by kernel_rfl)) rfl ?_
  exact ⟨by rw [HV.out], X.2⟩
set_option maxRecDepth 100000 in
set_option maxHeartbeats 1600000 in
/-- spec.NoteBlocked -/
theorem snote (c : Cr) (w : World) :
    Calls Try.prog 23 #[crV c] w fun e w' => e = .returned (crV (noteCr c)) ∧ Below w.heap.size w w' := by
  have HH := Lib.hid (IrC.start w c)
  have HIS := Lib.hid fun W => sisc c W
  by_cases hk : okCr c
  rotate_left
  · have HV : Hid (noteCr c = c) := Lib.hid (if_neg (fun h => hk h.1))
    rw [decide_eq_false hk] at HIS
    clear hk
    go_enter Try.func23, Try.ntmps23
    go_upto_region 1 with fail
    generalize (w.alloc (.cells (crC c.lim c.used c.bl c.told) 25)).alloc (.cells (crC 0 0 0 0) 25) = w2 at *
    obtain ⟨a0, a1, a2, a3⟩ := HH.out.b.cells
    go_wp2_with fail
    refine (HIS.out _).mono ?_
    rintro e w3 ⟨rfl, hb⟩
    have HH := Lib.hid (HH.out.next hb)
    clear hb a0 a1 a2 a3
    obtain ⟨a0, a1, a2, a3⟩ := HH.out.b.cells
    obtain ⟨q0, q1, q2, q3⟩ := HH.out.o.cells
    have qf := HH.out.o.free
    have pf := HH.out.b.free
    go_wp2
    have X := HH.out.out (c)
    refine bodyPost_ret (results_cell_row rfl _ _ (w.heap.size + 1) _ _ _ _ rfl X.1 Try.underlying25 rfl (by kernel_rfl)) rfl ?_
    exact ⟨by rw [HV.out], X.2⟩
  rw [decide_eq_true hk] at HIS
  by_cases h0 : c.used = c.lim
  rotate_left
  · have HV : Hid (noteCr c = c) := Lib.hid (if_neg (fun h => h0 h.2.1))
    have d0 : (c.used == c.lim) = false := by simpa using h0
    clear hk h0
    go_enter Try.func23, Try.ntmps23
    go_upto_region 1 with fail
    generalize (w.alloc (.cells (crC c.lim c.used c.bl c.told) 25)).alloc (.cells (crC 0 0 0 0) 25) = w2 at *
    obtain ⟨a0, a1, a2, a3⟩ := HH.out.b.cells
    go_wp2_with fail
    refine (HIS.out _).mono ?_
    rintro e w3 ⟨rfl, hb⟩
    have HH := Lib.hid (HH.out.next hb)
    clear hb a0 a1 a2 a3
    obtain ⟨a0, a1, a2, a3⟩ := HH.out.b.cells
    obtain ⟨q0, q1, q2, q3⟩ := HH.out.o.cells
    have qf := HH.out.o.free
    have pf := HH.out.b.free
    go_wp2
    have X := HH.out.out (c)
    refine bodyPost_ret (results_cell_row rfl _ _ (w.heap.size + 1) _ _ _ _ rfl X.1 Try.underlying25 rfl (by kernel_rfl)) rfl ?_
    exact ⟨by rw [HV.out], X.2⟩
  have d0 : (c.used == c.lim) = true := by simpa using h0
  by_cases h1 : c.bl = -1
  rotate_left
  · have HV : Hid (noteCr c = c) := Lib.hid (if_neg (fun h => h1 h.2.2.1))
    have d1 : (c.bl == -1) = false := by simpa using h1
    clear hk h0 h1
    go_enter Try.func23, Try.ntmps23
    go_upto_region 1 with fail
    generalize (w.alloc (.cells (crC c.lim c.used c.bl c.told) 25)).alloc (.cells (crC 0 0 0 0) 25) = w2 at *
    obtain ⟨a0, a1, a2, a3⟩ := HH.out.b.cells
    go_wp2_with fail
    refine (HIS.out _).mono ?_
    rintro e w3 ⟨rfl, hb⟩
    have HH := Lib.hid (HH.out.next hb)
    clear hb a0 a1 a2 a3
    obtain ⟨a0, a1, a2, a3⟩ := HH.out.b.cells
    obtain ⟨q0, q1, q2, q3⟩ := HH.out.o.cells
    have qf := HH.out.o.free
    have pf := HH.out.b.free
    go_wp2
    have X := HH.out.out (c)
    refine bodyPost_ret (results_cell_row rfl _ _ (w.heap.size + 1) _ _ _ _ rfl X.1 Try.underlying25 rfl (by kernel_rfl)) rfl ?_
    exact ⟨by rw [HV.out], X.2⟩
  have d1 : (c.bl == -1) = true := by simpa using h1
  by_cases h2 : ¬ c.told = c.lim
  rotate_left
  · have HV : Hid (noteCr c = c) := Lib.hid (if_neg (fun h => h2 h.2.2.2))
    have d2 : (c.told != c.lim) = false := by simpa using h2
    clear hk h0 h1 h2
    go_enter Try.func23, Try.ntmps23
    go_upto_region 1 with fail
    generalize (w.alloc (.cells (crC c.lim c.used c.bl c.told) 25)).alloc (.cells (crC 0 0 0 0) 25) = w2 at *
    obtain ⟨a0, a1, a2, a3⟩ := HH.out.b.cells
    go_wp2_with fail
    refine (HIS.out _).mono ?_
    rintro e w3 ⟨rfl, hb⟩
    have HH := Lib.hid (HH.out.next hb)
    clear hb a0 a1 a2 a3
    obtain ⟨a0, a1, a2, a3⟩ := HH.out.b.cells
    obtain ⟨q0, q1, q2, q3⟩ := HH.out.o.cells
    have qf := HH.out.o.free
    have pf := HH.out.b.free
    go_wp2
    have X := HH.out.out (c)
    refine bodyPost_ret (results_cell_row rfl _ _ (w.heap.size + 1) _ _ _ _ rfl X.1 Try.underlying25 rfl (by kernel_rfl)) rfl ?_
    exact ⟨by rw [HV.out], X.2⟩
  have d2 : (c.told != c.lim) = true := by simpa using h2
  have HV : Hid (noteCr c = ⟨c.lim, c.used, c.lim, c.told⟩) := Lib.hid (if_pos ⟨hk, h0, h1, h2⟩)
  clear hk h0 h1 h2
  go_enter Try.func23, Try.ntmps23
  go_upto_region 1 with fail
  generalize (w.alloc (.cells (crC c.lim c.used c.bl c.told) 25)).alloc (.cells (crC 0 0 0 0) 25) = w2 at *
  obtain ⟨a0, a1, a2, a3⟩ := HH.out.b.cells
  go_wp2_with fail
  refine (HIS.out _).mono ?_
  rintro e w3 ⟨rfl, hb⟩
  have HH := Lib.hid (HH.out.next hb)
  clear hb a0 a1 a2 a3
  obtain ⟨a0, a1, a2, a3⟩ := HH.out.b.cells
  obtain ⟨q0, q1, q2, q3⟩ := HH.out.o.cells
  have qf := HH.out.o.free
  have pf := HH.out.b.free
  go_upto_region 3 with fail
  have HN := Lib.hid (HH.out.put2 (c.lim))
  clear a0 a1 a2 a3 q0 q1 q2 q3 qf pf HH
  generalize w3.setCell ⟨w.heap.size, 2, none⟩ (.int .i64 (c.lim)) = w4 at *
  have HH := HN
  clear HN
  obtain ⟨a0, a1, a2, a3⟩ := HH.out.b.cells
  obtain ⟨q0, q1, q2, q3⟩ := HH.out.o.cells
  have qf := HH.out.o.free
  have pf := HH.out.b.free
  go_wp2
  have X := HH.out.out (⟨c.lim, c.used, c.lim, c.told⟩)
  refine bodyPost_ret (results_cell_row rfl _ _ (w.heap.size + 1) _ _ _ _ rfl X.1 Try.underlying25 rfl (by kernel_rfl)) rfl ?_
  exact ⟨by rw [HV.out], X.2⟩
set_option maxRecDepth 100000 in
set_option maxHeartbeats 1600000 in
/-- spec.ClearBlocked -/
theorem sclear (c : Cr) (w : World) :
    Calls Try.prog 24 #[crV c] w fun e w' => e = .returned (crV (clearCr c)) ∧ Below w.heap.size w w' := by
  have HH := Lib.hid (IrC.start w c)
  have HIS := Lib.hid fun W => sisc c W
  by_cases hk : okCr c
  rotate_left
  · have HV : Hid (clearCr c = c) := Lib.hid (if_neg (fun h => hk h.1))
    rw [decide_eq_false hk] at HIS
    clear hk
    go_enter Try.func24, Try.ntmps24
    go_upto_region 1 with fail
    generalize (w.alloc (.cells (crC c.lim c.used c.bl c.told) 25)).alloc (.cells (crC 0 0 0 0) 25) = w2 at *
    obtain ⟨a0, a1, a2, a3⟩ := HH.out.b.cells
    go_wp2_with fail
    refine (HIS.out _).mono ?_
    rintro e w3 ⟨rfl, hb⟩
    have HH := Lib.hid (HH.out.next hb)
    clear hb a0 a1 a2 a3
    obtain ⟨a0, a1, a2, a3⟩ := HH.out.b.cells
    obtain ⟨q0, q1, q2, q3⟩ := HH.out.o.cells
    have qf := HH.out.o.free
    have pf := HH.out.b.free
    go_wp2
    have X := HH.out.out (c)
    refine bodyPost_ret (results_cell_row rfl _ _ (w.heap.size + 1) _ _ _ _ rfl X.1 Try.underlying25 rfl (by kernel_rfl)) rfl ?_
    exact ⟨by rw [HV.out], X.2⟩
  rw [decide_eq_true hk] at HIS
  by_cases h0 : ¬ c.bl = -1
  rotate_left
  · have HV : Hid (clearCr c = c) := Lib.hid (if_neg (fun h => h0 h.2))
    have d0 : (c.bl != -1) = false := by simpa using h0
    clear hk h0
    go_enter Try.func24, Try.ntmps24
    go_upto_region 1 with fail
    generalize (w.alloc (.cells (crC c.lim c.used c.bl c.told) 25)).alloc (.cells (crC 0 0 0 0) 25) = w2 at *
    obtain ⟨a0, a1, a2, a3⟩ := HH.out.b.cells
    go_wp2_with fail
    refine (HIS.out _).mono ?_
    rintro e w3 ⟨rfl, hb⟩
    have HH := Lib.hid (HH.out.next hb)
    clear hb a0 a1 a2 a3
    obtain ⟨a0, a1, a2, a3⟩ := HH.out.b.cells
    obtain ⟨q0, q1, q2, q3⟩ := HH.out.o.cells
    have qf := HH.out.o.free
    have pf := HH.out.b.free
    go_wp2
    have X := HH.out.out (c)
    refine bodyPost_ret (results_cell_row rfl _ _ (w.heap.size + 1) _ _ _ _ rfl X.1 Try.underlying25 rfl (by kernel_rfl)) rfl ?_
    exact ⟨by rw [HV.out], X.2⟩
  have d0 : (c.bl != -1) = true := by simpa using h0
  have HV : Hid (clearCr c = ⟨c.lim, c.used, -1, c.bl⟩) := Lib.hid (if_pos ⟨hk, h0⟩)
  clear hk h0
  go_enter Try.func24, Try.ntmps24
  go_upto_region 1 with fail
  generalize (w.alloc (.cells (crC c.lim c.used c.bl c.told) 25)).alloc (.cells (crC 0 0 0 0) 25) = w2 at *
  obtain ⟨a0, a1, a2, a3⟩ := HH.out.b.cells
  go_wp2_with fail
  refine (HIS.out _).mono ?_
  rintro e w3 ⟨rfl, hb⟩
  have HH := Lib.hid (HH.out.next hb)
  clear hb a0 a1 a2 a3
  obtain ⟨a0, a1, a2, a3⟩ := HH.out.b.cells
  obtain ⟨q0, q1, q2, q3⟩ := HH.out.o.cells
  have qf := HH.out.o.free
  have pf := HH.out.b.free
  go_upto_region 3 with fail
  have HN := Lib.hid (HH.out.put3 (c.bl))
  clear a0 a1 a2 a3 q0 q1 q2 q3 qf pf HH
  generalize w3.setCell ⟨w.heap.size, 3, none⟩ (.int .i64 (c.bl)) = w4 at *
  have HH := HN
  clear HN
  obtain ⟨a0, a1, a2, a3⟩ := HH.out.b.cells
  obtain ⟨q0, q1, q2, q3⟩ := HH.out.o.cells
  have qf := HH.out.o.free
  have pf := HH.out.b.free
  go_upto_region 4 with fail
  have HN := Lib.hid (HH.out.put2 (-1))
  clear a0 a1 a2 a3 q0 q1 q2 q3 qf pf HH
  generalize w4.setCell ⟨w.heap.size, 2, none⟩ (.int .i64 (-1)) = w5 at *
  have HH := HN
  clear HN
  obtain ⟨a0, a1, a2, a3⟩ := HH.out.b.cells
  obtain ⟨q0, q1, q2, q3⟩ := HH.out.o.cells
  have qf := HH.out.o.free
  have pf := HH.out.b.free
  go_wp2
  have X := HH.out.out (⟨c.lim, c.used, -1, c.bl⟩)
  refine bodyPost_ret (results_cell_row rfl _ _ (w.heap.size + 1) _ _ _ _ rfl X.1 Try.underlying25 rfl (by kernel_rfl)) rfl ?_
  exact ⟨by rw [HV.out], X.2⟩
set_option maxRecDepth 100000 in
set_option maxHeartbeats 1600000 in
/-- spec.NewCredit -/
theorem snew (n : Int) (w : World) :
    Calls Try.prog 29 #[.int .i64 n] w fun e w' => e = .returned (.tuple #[crV (newCr n), .bool (decide (okL n))]) ∧ Below w.heap.size w w' := by
  have HO := Lib.hid (OrC.start w)
  have HQ := Lib.hid fun W => squi n W
  by_cases hk : okL n
  rotate_left
  · have HV : Hid (newCr n = zeroCr ∧ decide (okL n) = false) := Lib.hid ⟨if_neg hk, decide_eq_false hk⟩
    rw [decide_eq_false hk] at HQ
    clear hk
    go_enter Try.func29, Try.ntmps29
    go_upto_region 1 with fail
    generalize w.alloc (.cells (crC 0 0 0 0) 25) = w2 at *
    obtain ⟨q0, q1, q2, q3⟩ := HO.out.o.cells
    have qf := HO.out.o.free
    go_wp2_with fail
    refine (HQ.out _).mono ?_
    rintro e w3 ⟨rfl, rfl⟩
    go_wp2
    have X := HO.out.out (zeroCr)
    refine bodyPost_ret (results_cr rfl _ _ w.heap.size _ _ _ _ rfl X.1 Try.underlying25 rfl (by kernel_rfl)) rfl ?_
    exact ⟨by rw [HV.out.1, HV.out.2]; rfl, X.2⟩
  · have HV : Hid (newCr n = ⟨n, 0, -1, -1⟩ ∧ decide (okL n) = true) := Lib.hid ⟨if_pos hk, decide_eq_true hk⟩
    rw [decide_eq_true hk] at HQ
    clear hk
    go_enter Try.func29, Try.ntmps29
    go_upto_region 1 with fail
    generalize w.alloc (.cells (crC 0 0 0 0) 25) = w2 at *
    obtain ⟨q0, q1, q2, q3⟩ := HO.out.o.cells
    have qf := HO.out.o.free
    go_wp2_with fail
    refine (HQ.out _).mono ?_
    rintro e w3 ⟨rfl, rfl⟩
    go_wp2
    have X := HO.out.out (⟨n, 0, -1, -1⟩)
    refine bodyPost_ret (results_cr rfl _ _ w.heap.size _ _ _ _ rfl X.1 Try.underlying25 rfl (by kernel_rfl)) rfl ?_
    exact ⟨by rw [HV.out.1, HV.out.2]; rfl, X.2⟩
set_option maxRecDepth 100000 in
set_option maxHeartbeats 1600000 in
/-- spec.UseCredit -/
theorem suse (c : Cr) (n : Int) (w : World) :
    Calls Try.prog 13 #[crV c, .int .i64 n] w fun e w' => e = .returned (.tuple #[crV (useCr c n), .bool (decide (canU c n))]) ∧ Below w.heap.size w w' := by
  have HH := Lib.hid (IrC.start w c)
  have HIS := Lib.hid fun W => sisc c W
  by_cases hk : okCr c
  rotate_left
  · have HV : Hid (useCr c n = c ∧ decide (canU c n) = false) := Lib.hid (have hq : ¬ canU c n := fun h => hk h.1; ⟨if_neg hq, decide_eq_false hq⟩)
    rw [decide_eq_false hk] at HIS
    clear hk
    go_enter Try.func13, Try.ntmps13
    go_upto_region 1 with fail
    generalize (w.alloc (.cells (crC c.lim c.used c.bl c.told) 25)).alloc (.cells (crC 0 0 0 0) 25) = w2 at *
    obtain ⟨a0, a1, a2, a3⟩ := HH.out.b.cells
    go_wp2_with fail
    refine (HIS.out _).mono ?_
    rintro e w3 ⟨rfl, hb⟩
    have HH := Lib.hid (HH.out.next hb)
    clear hb a0 a1 a2 a3
    obtain ⟨a0, a1, a2, a3⟩ := HH.out.b.cells
    obtain ⟨q0, q1, q2, q3⟩ := HH.out.o.cells
    have qf := HH.out.o.free
    have pf := HH.out.b.free
    go_wp2
    have X := HH.out.out (c)
    refine bodyPost_ret (results_cr rfl _ _ (w.heap.size + 1) _ _ _ _ rfl X.1 Try.underlying25 rfl (by kernel_rfl)) rfl ?_
    exact ⟨by rw [HV.out.1, HV.out.2]; rfl, X.2⟩
  rw [decide_eq_true hk] at HIS
  by_cases h0 : 0 ≤ n
  rotate_left
  · have HV : Hid (useCr c n = c ∧ decide (canU c n) = false) := Lib.hid (have hq : ¬ canU c n := fun h => h0 h.2.1; ⟨if_neg hq, decide_eq_false hq⟩)
    have d0 : decide (n < 0) = true := decide_eq_true (by omega)
    clear hk h0
    go_enter Try.func13, Try.ntmps13
    go_upto_region 1 with fail
    generalize (w.alloc (.cells (crC c.lim c.used c.bl c.told) 25)).alloc (.cells (crC 0 0 0 0) 25) = w2 at *
    obtain ⟨a0, a1, a2, a3⟩ := HH.out.b.cells
    go_wp2_with fail
    refine (HIS.out _).mono ?_
    rintro e w3 ⟨rfl, hb⟩
    have HH := Lib.hid (HH.out.next hb)
    clear hb a0 a1 a2 a3
    obtain ⟨a0, a1, a2, a3⟩ := HH.out.b.cells
    obtain ⟨q0, q1, q2, q3⟩ := HH.out.o.cells
    have qf := HH.out.o.free
    have pf := HH.out.b.free
    go_wp2
    have X := HH.out.out (c)
    refine bodyPost_ret (results_cr rfl _ _ (w.heap.size + 1) _ _ _ _ rfl X.1 Try.underlying25 rfl (by kernel_rfl)) rfl ?_
    exact ⟨by rw [HV.out.1, HV.out.2]; rfl, X.2⟩
  have d0 : decide (n < 0) = false := decide_eq_false (by omega)
  have hws : wrap64 (c.lim - c.used) = c.lim - c.used := by
    have h2 := hk.1.2
    have h3 := hk.2.1
    unfold wrap64
    clear HIS HH
    omega
  by_cases h1 : n ≤ c.lim - c.used
  rotate_left
  · have HV : Hid (useCr c n = c ∧ decide (canU c n) = false) := Lib.hid (have hq : ¬ canU c n := fun h => h1 h.2.2; ⟨if_neg hq, decide_eq_false hq⟩)
    have d1 : decide (c.lim - c.used < n) = true := decide_eq_true (by omega)
    clear hk h0 h1
    go_enter Try.func13, Try.ntmps13
    go_upto_region 1 with fail
    generalize (w.alloc (.cells (crC c.lim c.used c.bl c.told) 25)).alloc (.cells (crC 0 0 0 0) 25) = w2 at *
    obtain ⟨a0, a1, a2, a3⟩ := HH.out.b.cells
    go_wp2_with fail
    refine (HIS.out _).mono ?_
    rintro e w3 ⟨rfl, hb⟩
    have HH := Lib.hid (HH.out.next hb)
    clear hb a0 a1 a2 a3
    obtain ⟨a0, a1, a2, a3⟩ := HH.out.b.cells
    obtain ⟨q0, q1, q2, q3⟩ := HH.out.o.cells
    have qf := HH.out.o.free
    have pf := HH.out.b.free
    go_wp2
    have X := HH.out.out (c)
    refine bodyPost_ret (results_cr rfl _ _ (w.heap.size + 1) _ _ _ _ rfl X.1 Try.underlying25 rfl (by kernel_rfl)) rfl ?_
    exact ⟨by rw [HV.out.1, HV.out.2]; rfl, X.2⟩
  have d1 : decide (c.lim - c.used < n) = false := decide_eq_false (by omega)
  have HV : Hid (useCr c n = ⟨c.lim, c.used + n, c.bl, c.told⟩ ∧ decide (canU c n) = true) := Lib.hid (have hq : canU c n := ⟨hk, h0, h1⟩; ⟨if_pos hq, decide_eq_true hq⟩)
  have hwa : wrap64 (c.used + n) = c.used + n := by
    have h2 := hk.1.2
    have h3 := hk.2.1
    unfold wrap64
    clear HIS HV HH hws
    omega
  clear hk h0 h1
  go_enter Try.func13, Try.ntmps13
  go_upto_region 1 with fail
  generalize (w.alloc (.cells (crC c.lim c.used c.bl c.told) 25)).alloc (.cells (crC 0 0 0 0) 25) = w2 at *
  obtain ⟨a0, a1, a2, a3⟩ := HH.out.b.cells
  go_wp2_with fail
  refine (HIS.out _).mono ?_
  rintro e w3 ⟨rfl, hb⟩
  have HH := Lib.hid (HH.out.next hb)
  clear hb a0 a1 a2 a3
  obtain ⟨a0, a1, a2, a3⟩ := HH.out.b.cells
  obtain ⟨q0, q1, q2, q3⟩ := HH.out.o.cells
  have qf := HH.out.o.free
  have pf := HH.out.b.free
  go_upto_region 4 with fail
  have HN := Lib.hid (HH.out.put1 (c.used + n))
  clear a0 a1 a2 a3 q0 q1 q2 q3 qf pf HH
  generalize w3.setCell ⟨w.heap.size, 1, none⟩ (.int .i64 (c.used + n)) = w4 at *
  have HH := HN
  clear HN
  obtain ⟨a0, a1, a2, a3⟩ := HH.out.b.cells
  obtain ⟨q0, q1, q2, q3⟩ := HH.out.o.cells
  have qf := HH.out.o.free
  have pf := HH.out.b.free
  go_wp2
  have X := HH.out.out (⟨c.lim, c.used + n, c.bl, c.told⟩)
  refine bodyPost_ret (results_cr rfl _ _ (w.heap.size + 1) _ _ _ _ rfl X.1 Try.underlying25 rfl (by kernel_rfl)) rfl ?_
  exact ⟨by rw [HV.out.1, HV.out.2]; rfl, X.2⟩
end Go.Proofs.Ytdaoaedkjoknmaa
