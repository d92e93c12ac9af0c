/-
  What impl's functions on credits return, but for UseCredit.
-/
import Derived.Test.YtdaoaedkjoknmaaCrV
import Derived.Deep.DeepCutAuto
namespace Go.Proofs.Ytdaoaedkjoknmaa
open Go.RowKit Go.Deep Go.Proofs.Ytdaoaedkjoknmaa.Num

set_option maxRecDepth 100000 in
set_option maxHeartbeats 1600000 in
/-- impl.Credit.hadLimit -/
theorem ihad (c : Cr) (n : Int) (w : World) :
    Calls Try.prog 36 #[crV c, .int .i64 n] w fun e w' => e = .returned (.bool (decide (-1 ≤ n ∧ n ≤ c.lim))) ∧ Below w.heap.size w w' := by
  have HL := Lib.hid ((Below.refl w.heap.size w).alloc (Nat.le_refl _) (.cells (crC c.lim c.used c.bl c.told) 25))
  by_cases h0 : -1 ≤ n
  rotate_left
  · have HV : Hid (decide (-1 ≤ n ∧ n ≤ c.lim) = false) := Lib.hid (decide_eq_false fun h => h0 h.1)
    have d0 : decide (-1 ≤ n) = false := decide_eq_false h0
    clear h0
    go_enter Try.func36, Try.ntmps36
    go_wp2
    go_ret
    exact ⟨by rw [HV.out]; rfl, HL.out⟩
  have d0 : decide (-1 ≤ n) = true := decide_eq_true h0
  by_cases h1 : n ≤ c.lim
  rotate_left
  · have HV : Hid (decide (-1 ≤ n ∧ n ≤ c.lim) = false) := Lib.hid (decide_eq_false fun h => h1 h.2)
    have d1 : decide (n ≤ c.lim) = false := decide_eq_false h1
    clear h0 h1
    go_enter Try.func36, Try.ntmps36
    go_wp2
    go_ret
    exact ⟨by rw [HV.out]; rfl, HL.out⟩
  · have HV : Hid (decide (-1 ≤ n ∧ n ≤ c.lim) = true) := Lib.hid (decide_eq_true ⟨h0, h1⟩)
    have d1 : decide (n ≤ c.lim) = true := decide_eq_true h1
    clear h0 h1
    go_enter Try.func36, Try.ntmps36
    go_wp2
    go_ret
    exact ⟨by rw [HV.out]; rfl, HL.out⟩
set_option maxRecDepth 100000 in
set_option maxHeartbeats 1600000 in
/-- impl.IsCredit -/
theorem iisc (c : Cr) (w : World) :
    Calls Try.prog 14 #[crV c] w fun e w' => e = .returned (.bool (decide (okCr c))) ∧ Below w.heap.size w w' := by
  have HB := Lib.hid (BoxC.new w 25 c.lim c.used c.bl c.told)
  have HL := Lib.hid ((Below.refl w.heap.size w).alloc (Nat.le_refl _) (.cells (crC c.lim c.used c.bl c.told) 25))
  have H4 := Lib.hid (fun W => ihad c c.bl W)
  have H5 := Lib.hid (fun W => ihad c c.told W)
  by_cases h0 : 0 ≤ c.lim
  rotate_left
  · have HV : Hid (decide (okCr c) = false) := Lib.hid (decide_eq_false (fun h => h0 h.1.1))
    have d0 : decide (0 ≤ c.lim) = false := decide_eq_false h0
    clear h0
    go_enter Try.func14, Try.ntmps14
    obtain ⟨a0, a1, a2, a3⟩ := HB.out.cells
    go_wp2
    go_ret
    exact ⟨by rw [HV.out]; rfl, HL.out⟩
  have d0 : decide (0 ≤ c.lim) = true := decide_eq_true h0
  by_cases h1 : c.lim ≤ 4611686018427387903
  rotate_left
  · have HV : Hid (decide (okCr c) = false) := Lib.hid (decide_eq_false (fun h => h1 h.1.2))
    have d1 : decide (c.lim ≤ 4611686018427387903) = false := decide_eq_false h1
    clear h0 h1
    go_enter Try.func14, Try.ntmps14
    obtain ⟨a0, a1, a2, a3⟩ := HB.out.cells
    go_wp2
    go_ret
    exact ⟨by rw [HV.out]; rfl, HL.out⟩
  have d1 : decide (c.lim ≤ 4611686018427387903) = true := decide_eq_true h1
  by_cases h2 : 0 ≤ c.used
  rotate_left
  · have HV : Hid (decide (okCr c) = false) := Lib.hid (decide_eq_false (fun h => h2 h.2.1.1))
    have d2 : decide (0 ≤ c.used) = false := decide_eq_false h2
    clear h0 h1 h2
    go_enter Try.func14, Try.ntmps14
    obtain ⟨a0, a1, a2, a3⟩ := HB.out.cells
    go_wp2
    go_ret
    exact ⟨by rw [HV.out]; rfl, HL.out⟩
  have d2 : decide (0 ≤ c.used) = true := decide_eq_true h2
  by_cases h3 : c.used ≤ c.lim
  rotate_left
  · have HV : Hid (decide (okCr c) = false) := Lib.hid (decide_eq_false (fun h => h3 h.2.1.2))
    have d3 : decide (c.used ≤ c.lim) = false := decide_eq_false h3
    clear h0 h1 h2 h3
    go_enter Try.func14, Try.ntmps14
    obtain ⟨a0, a1, a2, a3⟩ := HB.out.cells
    go_wp2
    go_ret
    exact ⟨by rw [HV.out]; rfl, HL.out⟩
  have d3 : decide (c.used ≤ c.lim) = true := decide_eq_true h3
  by_cases h4 : -1 ≤ c.bl ∧ c.bl ≤ c.lim
  rotate_left
  · have HV : Hid (decide (okCr c) = false) := Lib.hid (decide_eq_false (fun h => h4 h.2.2.1))
    rw [decide_eq_false h4] at H4
    clear h0 h1 h2 h3 h4
    go_enter Try.func14, Try.ntmps14
    obtain ⟨a0, a1, a2, a3⟩ := HB.out.cells
    go_wp2_with fail
    refine (H4.out _).mono ?_
    rintro e w5 ⟨rfl, hb⟩
    have HB := Lib.hid (HB.out.next hb)
    have HL := Lib.hid (HL.out.trans (hb.mono HL.out.size))
    clear hb a0 a1 a2 a3
    obtain ⟨a0, a1, a2, a3⟩ := HB.out.cells
    go_wp2
    go_ret
    exact ⟨by rw [HV.out]; rfl, HL.out⟩
  rw [decide_eq_true h4] at H4
  by_cases h5 : -1 ≤ c.told ∧ c.told ≤ c.lim
  rotate_left
  · have HV : Hid (decide (okCr c) = false) := Lib.hid (decide_eq_false (fun h => h5 h.2.2.2))
    rw [decide_eq_false h5] at H5
    clear h0 h1 h2 h3 h4 h5
    go_enter Try.func14, Try.ntmps14
    obtain ⟨a0, a1, a2, a3⟩ := HB.out.cells
    go_wp2_with fail
    refine (H4.out _).mono ?_
    rintro e w5 ⟨rfl, hb⟩
    have HB := Lib.hid (HB.out.next hb)
    have HL := Lib.hid (HL.out.trans (hb.mono HL.out.size))
    clear hb a0 a1 a2 a3
    obtain ⟨a0, a1, a2, a3⟩ := HB.out.cells
    go_wp2_with fail
    refine (H5.out _).mono ?_
    rintro e w6 ⟨rfl, hb⟩
    have HB := Lib.hid (HB.out.next hb)
    have HL := Lib.hid (HL.out.trans (hb.mono HL.out.size))
    clear hb a0 a1 a2 a3
    obtain ⟨a0, a1, a2, a3⟩ := HB.out.cells
    go_wp2
    go_ret
    exact ⟨by rw [HV.out]; rfl, HL.out⟩
  rw [decide_eq_true h5] at H5
  have HV : Hid (decide (okCr c) = true) := Lib.hid (decide_eq_true (show okCr c by unfold okCr okL; exact ⟨⟨h0, h1⟩, ⟨h2, h3⟩, h4, h5⟩))
  clear h0 h1 h2 h3 h4 h5
  go_enter Try.func14, Try.ntmps14
  obtain ⟨a0, a1, a2, a3⟩ := HB.out.cells
  go_wp2_with fail
  refine (H4.out _).mono ?_
  rintro e w5 ⟨rfl, hb⟩
  have HB := Lib.hid (HB.out.next hb)
  have HL := Lib.hid (HL.out.trans (hb.mono HL.out.size))
  clear hb a0 a1 a2 a3
  obtain ⟨a0, a1, a2, a3⟩ := HB.out.cells
  go_wp2_with fail
  refine (H5.out _).mono ?_
  rintro e w6 ⟨rfl, hb⟩
  have HB := Lib.hid (HB.out.next hb)
  have HL := Lib.hid (HL.out.trans (hb.mono HL.out.size))
  clear hb a0 a1 a2 a3
  obtain ⟨a0, a1, a2, a3⟩ := HB.out.cells
  go_wp2
  go_ret
  exact ⟨by rw [HV.out]; rfl, HL.out⟩
set_option maxRecDepth 100000 in
set_option maxHeartbeats 1600000 in
/-- impl.CreditLeft -/
theorem ileft (c : Cr) (w : World) :
    Calls Try.prog 15 #[crV c] w fun e w' => e = .returned (.int .i64 (leftCr c)) ∧ Below w.heap.size w w' := by
  have HB := Lib.hid (BoxC.new w 25 c.lim c.used c.bl c.told)
  have HL := Lib.hid ((Below.refl w.heap.size w).alloc (Nat.le_refl _) (.cells (crC c.lim c.used c.bl c.told) 25))
  have HIS := Lib.hid fun W => iisc c W
  by_cases hk : okCr c
  rotate_left
  · have HV : Hid (leftCr c = 0) := Lib.hid (if_neg hk)
    rw [decide_eq_false hk] at HIS
    clear hk
    go_enter Try.func15, Try.ntmps15
    obtain ⟨a0, a1, a2, a3⟩ := HB.out.cells
    go_wp2_with fail
    refine (HIS.out _).mono ?_
    rintro e w3 ⟨rfl, hb⟩
    have HB := Lib.hid (HB.out.next hb)
    have HL := Lib.hid (HL.out.trans (hb.mono HL.out.size))
    clear hb a0 a1 a2 a3
    obtain ⟨a0, a1, a2, a3⟩ := HB.out.cells
    go_wp2
    go_ret
    exact ⟨by rw [HV.out]; rfl, HL.out⟩
  rw [decide_eq_true hk] at HIS
  have HV : Hid (leftCr c = c.lim - c.used) := Lib.hid (if_pos hk)
  have hw : wrap64 (c.lim - c.used) = c.lim - c.used := by
    have h1 := hk.1.2
    have h2 := hk.2.1
    unfold wrap64
    clear HIS HV HB HL
    omega
  clear hk
  go_enter Try.func15, Try.ntmps15
  obtain ⟨a0, a1, a2, a3⟩ := HB.out.cells
  go_wp2_with fail
  refine (HIS.out _).mono ?_
  rintro e w3 ⟨rfl, hb⟩
  have HB := Lib.hid (HB.out.next hb)
  have HL := Lib.hid (HL.out.trans (hb.mono HL.out.size))
  clear hb a0 a1 a2 a3
  obtain ⟨a0, a1, a2, a3⟩ := HB.out.cells
  go_wp2
  go_ret
  exact ⟨(ret_int hw).trans (by rw [HV.out]), HL.out⟩
set_option maxRecDepth 100000 in
set_option maxHeartbeats 1600000 in
/-- impl.MustTell -/
theorem imust (c : Cr) (w : World) :
    Calls Try.prog 25 #[crV c] w fun e w' => e = .returned (.bool (decide (mustCr c))) ∧ Below w.heap.size w w' := by
  have HB := Lib.hid (BoxC.new w 25 c.lim c.used c.bl c.told)
  have HL := Lib.hid ((Below.refl w.heap.size w).alloc (Nat.le_refl _) (.cells (crC c.lim c.used c.bl c.told) 25))
  have HIS := Lib.hid fun W => iisc c W
  by_cases hk : okCr c
  rotate_left
  · have HV : Hid (decide (mustCr c) = false) := Lib.hid (decide_eq_false fun h => hk h.1)
    rw [decide_eq_false hk] at HIS
    clear hk
    go_enter Try.func25, Try.ntmps25
    obtain ⟨a0, a1, a2, a3⟩ := HB.out.cells
    go_wp2_with fail
    refine (HIS.out _).mono ?_
    rintro e w3 ⟨rfl, hb⟩
    have HB := Lib.hid (HB.out.next hb)
    have HL := Lib.hid (HL.out.trans (hb.mono HL.out.size))
    clear hb a0 a1 a2 a3
    obtain ⟨a0, a1, a2, a3⟩ := HB.out.cells
    go_wp2
    go_ret
    exact ⟨by rw [HV.out]; rfl, HL.out⟩
  rw [decide_eq_true hk] at HIS
  by_cases h0 : c.bl = c.lim
  rotate_left
  · have HV : Hid (decide (mustCr c) = false) := Lib.hid (decide_eq_false fun h => h0 h.2)
    have d0 : (c.bl == c.lim) = false := by simpa using h0
    clear hk h0
    go_enter Try.func25, Try.ntmps25
    obtain ⟨a0, a1, a2, a3⟩ := HB.out.cells
    go_wp2_with fail
    refine (HIS.out _).mono ?_
    rintro e w3 ⟨rfl, hb⟩
    have HB := Lib.hid (HB.out.next hb)
    have HL := Lib.hid (HL.out.trans (hb.mono HL.out.size))
    clear hb a0 a1 a2 a3
    obtain ⟨a0, a1, a2, a3⟩ := HB.out.cells
    go_wp2
    go_ret
    exact ⟨by rw [HV.out]; rfl, HL.out⟩
  have HV : Hid (decide (mustCr c) = true) := Lib.hid (decide_eq_true ⟨hk, h0⟩)
  have d0 : (c.bl == c.lim) = true := by simpa using h0
  clear hk h0
  go_enter Try.func25, Try.ntmps25
  obtain ⟨a0, a1, a2, a3⟩ := HB.out.cells
  go_wp2_with fail
  refine (HIS.out _).mono ?_
  rintro e w3 ⟨rfl, hb⟩
  have HB := Lib.hid (HB.out.next hb)
  have HL := Lib.hid (HL.out.trans (hb.mono HL.out.size))
  clear hb a0 a1 a2 a3
  obtain ⟨a0, a1, a2, a3⟩ := HB.out.cells
  go_wp2
  go_ret
  exact ⟨by rw [HV.out]; rfl, HL.out⟩
set_option maxRecDepth 100000 in
set_option maxHeartbeats 1600000 in
/-- impl.RaiseLimit -/
theorem iraise (c : Cr) (n : Int) (w : World) :
    Calls Try.prog 19 #[crV c, .int .i64 n] w fun e w' => e = .returned (crV (raiseCr c n)) ∧ Below w.heap.size w w' := by
  have HH := Lib.hid (IrC.start w c)
  have HIS := Lib.hid fun W => iisc c W
  by_cases hk : okCr c
  rotate_left
  · have HV : Hid (raiseCr c n = c) := Lib.hid (if_neg (fun h => hk h.1))
    rw [decide_eq_false hk] at HIS
    clear hk
    go_enter Try.func19, Try.ntmps19
    go_upto_region 1 with fail
    generalize (w.alloc (.cells (crC c.lim c.used c.bl c.told) 25)).alloc (.cells (crC 0 0 0 0) 25) = w2 at *
    obtain ⟨a0, a1, a2, a3⟩ := HH.out.b.cells
    go_wp2_with fail
    refine (HIS.out _).mono ?_
    rintro e w3 ⟨rfl, hb⟩
    have HH := Lib.hid (HH.out.next hb)
    clear hb a0 a1 a2 a3
    obtain ⟨a0, a1, a2, a3⟩ := HH.out.b.cells
    obtain ⟨q0, q1, q2, q3⟩ := HH.out.o.cells
    have qf := HH.out.o.free
    have pf := HH.out.b.free
    go_wp2
    have X := HH.out.out (c)
    refine bodyPost_ret (results_cell_row rfl _ _ (w.heap.size + 1) _ _ _ _ rfl X.1 Try.underlying25 rfl (by kernel_rfl)) rfl ?_
    exact ⟨by rw [HV.out], X.2⟩
  rw [decide_eq_true hk] at HIS
  by_cases h0 : c.lim < n
  rotate_left
  · have HV : Hid (raiseCr c n = c) := Lib.hid (if_neg (fun h => h0 h.2.2))
    have d0 : decide (n ≤ c.lim) = true := decide_eq_true (by omega)
    clear hk h0
    go_enter Try.func19, Try.ntmps19
    go_upto_region 1 with fail
    generalize (w.alloc (.cells (crC c.lim c.used c.bl c.told) 25)).alloc (.cells (crC 0 0 0 0) 25) = w2 at *
    obtain ⟨a0, a1, a2, a3⟩ := HH.out.b.cells
    go_wp2_with fail
    refine (HIS.out _).mono ?_
    rintro e w3 ⟨rfl, hb⟩
    have HH := Lib.hid (HH.out.next hb)
    clear hb a0 a1 a2 a3
    obtain ⟨a0, a1, a2, a3⟩ := HH.out.b.cells
    obtain ⟨q0, q1, q2, q3⟩ := HH.out.o.cells
    have qf := HH.out.o.free
    have pf := HH.out.b.free
    go_wp2
    have X := HH.out.out (c)
    refine bodyPost_ret (results_cell_row rfl _ _ (w.heap.size + 1) _ _ _ _ rfl X.1 Try.underlying25 rfl (by kernel_rfl)) rfl ?_
    exact ⟨by rw [HV.out], X.2⟩
  have d0 : decide (n ≤ c.lim) = false := decide_eq_false (by omega)
  by_cases h1 : n ≤ 4611686018427387903
  rotate_left
  · have HV : Hid (raiseCr c n = c) := Lib.hid (if_neg (fun h => h1 h.2.1.2))
    have d1 : decide (4611686018427387903 < n) = true := decide_eq_true (by omega)
    clear hk h0 h1
    go_enter Try.func19, Try.ntmps19
    go_upto_region 1 with fail
    generalize (w.alloc (.cells (crC c.lim c.used c.bl c.told) 25)).alloc (.cells (crC 0 0 0 0) 25) = w2 at *
    obtain ⟨a0, a1, a2, a3⟩ := HH.out.b.cells
    go_wp2_with fail
    refine (HIS.out _).mono ?_
    rintro e w3 ⟨rfl, hb⟩
    have HH := Lib.hid (HH.out.next hb)
    clear hb a0 a1 a2 a3
    obtain ⟨a0, a1, a2, a3⟩ := HH.out.b.cells
    obtain ⟨q0, q1, q2, q3⟩ := HH.out.o.cells
    have qf := HH.out.o.free
    have pf := HH.out.b.free
    go_wp2
    have X := HH.out.out (c)
    refine bodyPost_ret (results_cell_row rfl _ _ (w.heap.size + 1) _ _ _ _ rfl X.1 Try.underlying25 rfl (by kernel_rfl)) rfl ?_
    exact ⟨by rw [HV.out], X.2⟩
  have d1 : decide (4611686018427387903 < n) = false := decide_eq_false (by omega)
  have HV : Hid (raiseCr c n = ⟨n, c.used, -1, c.told⟩) := Lib.hid (if_pos ⟨hk, ⟨by have := hk.1.1; omega, h1⟩, h0⟩)
  clear hk h0 h1
  go_enter Try.func19, Try.ntmps19
  go_upto_region 1 with fail
  generalize (w.alloc (.cells (crC c.lim c.used c.bl c.told) 25)).alloc (.cells (crC 0 0 0 0) 25) = w2 at *
  obtain ⟨a0, a1, a2, a3⟩ := HH.out.b.cells
  go_wp2_with fail
  refine (HIS.out _).mono ?_
  rintro e w3 ⟨rfl, hb⟩
  have HH := Lib.hid (HH.out.next hb)
  clear hb a0 a1 a2 a3
  obtain ⟨a0, a1, a2, a3⟩ := HH.out.b.cells
  obtain ⟨q0, q1, q2, q3⟩ := HH.out.o.cells
  have qf := HH.out.o.free
  have pf := HH.out.b.free
  go_upto_region 4 with fail
  have HN := Lib.hid (HH.out.put0 (n))
  clear a0 a1 a2 a3 q0 q1 q2 q3 qf pf HH
  generalize w3.setCell ⟨w.heap.size, 0, none⟩ (.int .i64 (n)) = w4 at *
  have HH := HN
  clear HN
  obtain ⟨a0, a1, a2, a3⟩ := HH.out.b.cells
  obtain ⟨q0, q1, q2, q3⟩ := HH.out.o.cells
  have qf := HH.out.o.free
  have pf := HH.out.b.free
  go_upto_region 5 with fail
  have HN := Lib.hid (HH.out.put2 (-1))
  clear a0 a1 a2 a3 q0 q1 q2 q3 qf pf HH
  generalize w4.setCell ⟨w.heap.size, 2, none⟩ (.int .i64 (-1)) = w5 at *
  have HH := HN
  clear HN
  obtain ⟨a0, a1, a2, a3⟩ := HH.out.b.cells
  obtain ⟨q0, q1, q2, q3⟩ := HH.out.o.cells
  have qf := HH.out.o.free
  have pf := HH.out.b.free
  go_wp2
  have X := HH.out.out (⟨n, c.used, -1, c.told⟩)
  refine bodyPost_ret (results_cell_row rfl _ _ (w.heap.size + 1) _ _ _ _ rfl X.1 Try.underlying25 rfl (by kernel_rfl)) rfl ?_
  exact ⟨by rw [HV.out], X.2⟩
set_option maxRecDepth 100000 in
set_option maxHeartbeats 1600000 in
/-- impl.NoteBlocked -/
theorem inote (c : Cr) (w : World) :
    Calls Try.prog 21 #[crV c] w fun e w' => e = .returned (crV (noteCr c)) ∧ Below w.heap.size w w' := by
  have HH := Lib.hid (IrC.start w c)
  have HIS := Lib.hid fun W => iisc c W
  by_cases hk : okCr c
  rotate_left
  · have HV : Hid (noteCr c = c) := Lib.hid (if_neg (fun h => hk h.1))
    rw [decide_eq_false hk] at HIS
    clear hk
    go_enter Try.func21, Try.ntmps21
    go_upto_region 1 with fail
    generalize (w.alloc (.cells (crC c.lim c.used c.bl c.told) 25)).alloc (.cells (crC 0 0 0 0) 25) = w2 at *
    obtain ⟨a0, a1, a2, a3⟩ := HH.out.b.cells
    go_wp2_with fail
    refine (HIS.out _).mono ?_
    rintro e w3 ⟨rfl, hb⟩
    have HH := Lib.hid (HH.out.next hb)
    clear hb a0 a1 a2 a3
    obtain ⟨a0, a1, a2, a3⟩ := HH.out.b.cells
    obtain ⟨q0, q1, q2, q3⟩ := HH.out.o.cells
    have qf := HH.out.o.free
    have pf := HH.out.b.free
    go_wp2
    have X := HH.out.out (c)
    refine bodyPost_ret (results_cell_row rfl _ _ (w.heap.size + 1) _ _ _ _ rfl X.1 Try.underlying25 rfl (by kernel_rfl)) rfl ?_
    exact ⟨by rw [HV.out], X.2⟩
  rw [decide_eq_true hk] at HIS
  by_cases h0 : c.used = c.lim
  rotate_left
  · have HV : Hid (noteCr c = c) := Lib.hid (if_neg (fun h => h0 h.2.1))
    have d0 : decide (c.used < c.lim) = true := decide_eq_true (by have := hk.2.1.2; omega)
    clear hk h0
    go_enter Try.func21, Try.ntmps21
    go_upto_region 1 with fail
    generalize (w.alloc (.cells (crC c.lim c.used c.bl c.told) 25)).alloc (.cells (crC 0 0 0 0) 25) = w2 at *
    obtain ⟨a0, a1, a2, a3⟩ := HH.out.b.cells
    go_wp2_with fail
    refine (HIS.out _).mono ?_
    rintro e w3 ⟨rfl, hb⟩
    have HH := Lib.hid (HH.out.next hb)
    clear hb a0 a1 a2 a3
    obtain ⟨a0, a1, a2, a3⟩ := HH.out.b.cells
    obtain ⟨q0, q1, q2, q3⟩ := HH.out.o.cells
    have qf := HH.out.o.free
    have pf := HH.out.b.free
    go_wp2
    have X := HH.out.out (c)
    refine bodyPost_ret (results_cell_row rfl _ _ (w.heap.size + 1) _ _ _ _ rfl X.1 Try.underlying25 rfl (by kernel_rfl)) rfl ?_
    exact ⟨by rw [HV.out], X.2⟩
  have d0 : decide (c.used < c.lim) = false := decide_eq_false (by omega)
  by_cases h1 : c.bl = -1
  rotate_left
  · have HV : Hid (noteCr c = c) := Lib.hid (if_neg (fun h => h1 h.2.2.1))
    have d1 : (c.bl != -1) = true := by simpa using h1
    clear hk h0 h1
    go_enter Try.func21, Try.ntmps21
    go_upto_region 1 with fail
    generalize (w.alloc (.cells (crC c.lim c.used c.bl c.told) 25)).alloc (.cells (crC 0 0 0 0) 25) = w2 at *
    obtain ⟨a0, a1, a2, a3⟩ := HH.out.b.cells
    go_wp2_with fail
    refine (HIS.out _).mono ?_
    rintro e w3 ⟨rfl, hb⟩
    have HH := Lib.hid (HH.out.next hb)
    clear hb a0 a1 a2 a3
    obtain ⟨a0, a1, a2, a3⟩ := HH.out.b.cells
    obtain ⟨q0, q1, q2, q3⟩ := HH.out.o.cells
    have qf := HH.out.o.free
    have pf := HH.out.b.free
    go_wp2
    have X := HH.out.out (c)
    refine bodyPost_ret (results_cell_row rfl _ _ (w.heap.size + 1) _ _ _ _ rfl X.1 Try.underlying25 rfl (by kernel_rfl)) rfl ?_
    exact ⟨by rw [HV.out], X.2⟩
  have d1 : (c.bl != -1) = false := by simpa using h1
  by_cases h2 : ¬ c.told = c.lim
  rotate_left
  · have HV : Hid (noteCr c = c) := Lib.hid (if_neg (fun h => h2 h.2.2.2))
    have d2 : (c.told == c.lim) = true := by simpa using h2
    clear hk h0 h1 h2
    go_enter Try.func21, Try.ntmps21
    go_upto_region 1 with fail
    generalize (w.alloc (.cells (crC c.lim c.used c.bl c.told) 25)).alloc (.cells (crC 0 0 0 0) 25) = w2 at *
    obtain ⟨a0, a1, a2, a3⟩ := HH.out.b.cells
    go_wp2_with fail
    refine (HIS.out _).mono ?_
    rintro e w3 ⟨rfl, hb⟩
    have HH := Lib.hid (HH.out.next hb)
    clear hb a0 a1 a2 a3
    obtain ⟨a0, a1, a2, a3⟩ := HH.out.b.cells
    obtain ⟨q0, q1, q2, q3⟩ := HH.out.o.cells
    have qf := HH.out.o.free
    have pf := HH.out.b.free
    go_wp2
    have X := HH.out.out (c)
    refine bodyPost_ret (results_cell_row rfl _ _ (w.heap.size + 1) _ _ _ _ rfl X.1 Try.underlying25 rfl (by kernel_rfl)) rfl ?_
    exact ⟨by rw [HV.out], X.2⟩
  have d2 : (c.told == c.lim) = false := by simpa using h2
  have HV : Hid (noteCr c = ⟨c.lim, c.used, c.lim, c.told⟩) := Lib.hid (if_pos ⟨hk, h0, h1, h2⟩)
  clear hk h0 h1 h2
  go_enter Try.func21, Try.ntmps21
  go_upto_region 1 with fail
  generalize (w.alloc (.cells (crC c.lim c.used c.bl c.told) 25)).alloc (.cells (crC 0 0 0 0) 25) = w2 at *
  obtain ⟨a0, a1, a2, a3⟩ := HH.out.b.cells
  go_wp2_with fail
  refine (HIS.out _).mono ?_
  rintro e w3 ⟨rfl, hb⟩
  have HH := Lib.hid (HH.out.next hb)
  clear hb a0 a1 a2 a3
  obtain ⟨a0, a1, a2, a3⟩ := HH.out.b.cells
  obtain ⟨q0, q1, q2, q3⟩ := HH.out.o.cells
  have qf := HH.out.o.free
  have pf := HH.out.b.free
  go_upto_region 4 with fail
  have HN := Lib.hid (HH.out.put2 (c.lim))
  clear a0 a1 a2 a3 q0 q1 q2 q3 qf pf HH
  generalize w3.setCell ⟨w.heap.size, 2, none⟩ (.int .i64 (c.lim)) = w4 at *
  have HH := HN
  clear HN
  obtain ⟨a0, a1, a2, a3⟩ := HH.out.b.cells
  obtain ⟨q0, q1, q2, q3⟩ := HH.out.o.cells
  have qf := HH.out.o.free
  have pf := HH.out.b.free
  go_wp2
  have X := HH.out.out (⟨c.lim, c.used, c.lim, c.told⟩)
  refine bodyPost_ret (results_cell_row rfl _ _ (w.heap.size + 1) _ _ _ _ rfl X.1 Try.underlying25 rfl (by kernel_rfl)) rfl ?_
  exact ⟨by rw [HV.out], X.2⟩
set_option maxRecDepth 100000 in
set_option maxHeartbeats 1600000 in
/-- impl.ClearBlocked -/
theorem iclear (c : Cr) (w : World) :
    Calls Try.prog 22 #[crV c] w fun e w' => e = .returned (crV (clearCr c)) ∧ Below w.heap.size w w' := by
  have HH := Lib.hid (IrC.start w c)
  have HIS := Lib.hid fun W => iisc c W
  by_cases hk : okCr c
  rotate_left
  · have HV : Hid (clearCr c = c) := Lib.hid (if_neg (fun h => hk h.1))
    rw [decide_eq_false hk] at HIS
    clear hk
    go_enter Try.func22, Try.ntmps22
    go_upto_region 1 with fail
    generalize (w.alloc (.cells (crC c.lim c.used c.bl c.told) 25)).alloc (.cells (crC 0 0 0 0) 25) = w2 at *
    obtain ⟨a0, a1, a2, a3⟩ := HH.out.b.cells
    go_wp2_with fail
    refine (HIS.out _).mono ?_
    rintro e w3 ⟨rfl, hb⟩
    have HH := Lib.hid (HH.out.next hb)
    clear hb a0 a1 a2 a3
    obtain ⟨a0, a1, a2, a3⟩ := HH.out.b.cells
    obtain ⟨q0, q1, q2, q3⟩ := HH.out.o.cells
    have qf := HH.out.o.free
    have pf := HH.out.b.free
    go_wp2
    have X := HH.out.out (c)
    refine bodyPost_ret (results_cell_row rfl _ _ (w.heap.size + 1) _ _ _ _ rfl X.1 Try.underlying25 rfl (by kernel_rfl)) rfl ?_
    exact ⟨by rw [HV.out], X.2⟩
  rw [decide_eq_true hk] at HIS
  by_cases h0 : ¬ c.bl = -1
  rotate_left
  · have HV : Hid (clearCr c = c) := Lib.hid (if_neg (fun h => h0 h.2))
    have d0 : (c.bl == -1) = true := by simpa using h0
    clear hk h0
    go_enter Try.func22, Try.ntmps22
    go_upto_region 1 with fail
    generalize (w.alloc (.cells (crC c.lim c.used c.bl c.told) 25)).alloc (.cells (crC 0 0 0 0) 25) = w2 at *
    obtain ⟨a0, a1, a2, a3⟩ := HH.out.b.cells
    go_wp2_with fail
    refine (HIS.out _).mono ?_
    rintro e w3 ⟨rfl, hb⟩
    have HH := Lib.hid (HH.out.next hb)
    clear hb a0 a1 a2 a3
    obtain ⟨a0, a1, a2, a3⟩ := HH.out.b.cells
    obtain ⟨q0, q1, q2, q3⟩ := HH.out.o.cells
    have qf := HH.out.o.free
    have pf := HH.out.b.free
    go_wp2
    have X := HH.out.out (c)
    refine bodyPost_ret (results_cell_row rfl _ _ (w.heap.size + 1) _ _ _ _ rfl X.1 Try.underlying25 rfl (by kernel_rfl)) rfl ?_
    exact ⟨by rw [HV.out], X.2⟩
  have d0 : (c.bl == -1) = false := by simpa using h0
  have HV : Hid (clearCr c = ⟨c.lim, c.used, -1, c.bl⟩) := Lib.hid (if_pos ⟨hk, h0⟩)
  clear hk h0
  go_enter Try.func22, Try.ntmps22
  go_upto_region 1 with fail
  generalize (w.alloc (.cells (crC c.lim c.used c.bl c.told) 25)).alloc (.cells (crC 0 0 0 0) 25) = w2 at *
  obtain ⟨a0, a1, a2, a3⟩ := HH.out.b.cells
  go_wp2_with fail
  refine (HIS.out _).mono ?_
  rintro e w3 ⟨rfl, hb⟩
  have HH := Lib.hid (HH.out.next hb)
  clear hb a0 a1 a2 a3
  obtain ⟨a0, a1, a2, a3⟩ := HH.out.b.cells
  obtain ⟨q0, q1, q2, q3⟩ := HH.out.o.cells
  have qf := HH.out.o.free
  have pf := HH.out.b.free
  go_upto_region 4 with fail
  have HN := Lib.hid (HH.out.put3 (c.bl))
  clear a0 a1 a2 a3 q0 q1 q2 q3 qf pf HH
  generalize w3.setCell ⟨w.heap.size, 3, none⟩ (.int .i64 (c.bl)) = w4 at *
  have HH := HN
  clear HN
  obtain ⟨a0, a1, a2, a3⟩ := HH.out.b.cells
  obtain ⟨q0, q1, q2, q3⟩ := HH.out.o.cells
  have qf := HH.out.o.free
  have pf := HH.out.b.free
  go_upto_region 5 with fail
  have HN := Lib.hid (HH.out.put2 (-1))
  clear a0 a1 a2 a3 q0 q1 q2 q3 qf pf HH
  generalize w4.setCell ⟨w.heap.size, 2, none⟩ (.int .i64 (-1)) = w5 at *
  have HH := HN
  clear HN
  obtain ⟨a0, a1, a2, a3⟩ := HH.out.b.cells
  obtain ⟨q0, q1, q2, q3⟩ := HH.out.o.cells
  have qf := HH.out.o.free
  have pf := HH.out.b.free
  go_wp2
  have X := HH.out.out (⟨c.lim, c.used, -1, c.bl⟩)
  refine bodyPost_ret (results_cell_row rfl _ _ (w.heap.size + 1) _ _ _ _ rfl X.1 Try.underlying25 rfl (by kernel_rfl)) rfl ?_
  exact ⟨by rw [HV.out], X.2⟩
set_option maxRecDepth 100000 in
set_option maxHeartbeats 1600000 in
/-- impl.NewCredit -/
theorem inew (n : Int) (w : World) :
    Calls Try.prog 28 #[.int .i64 n] w fun e w' => e = .returned (.tuple #[crV (newCr n), .bool (decide (okL n))]) ∧ Below w.heap.size w w' := by
  have HO := Lib.hid (OrC.start w)
  by_cases h0 : 0 ≤ n
  rotate_left
  · have HV : Hid (newCr n = zeroCr ∧ decide (okL n) = false) := Lib.hid ⟨if_neg fun h => h0 h.1, decide_eq_false fun h => h0 h.1⟩
    have d0 : decide (n < 0) = true := decide_eq_true (by omega)
    clear h0
    go_enter Try.func28, Try.ntmps28
    go_upto_region 1 with fail
    generalize w.alloc (.cells (crC 0 0 0 0) 25) = w2 at *
    obtain ⟨q0, q1, q2, q3⟩ := HO.out.o.cells
    have qf := HO.out.o.free
    go_wp2
    have X := HO.out.out (zeroCr)
    refine bodyPost_ret (results_cr rfl _ _ w.heap.size _ _ _ _ rfl X.1 Try.underlying25 rfl (by kernel_rfl)) rfl ?_
    exact ⟨by rw [HV.out.1, HV.out.2]; rfl, X.2⟩
  have d0 : decide (n < 0) = false := decide_eq_false (by omega)
  by_cases h1 : n ≤ 4611686018427387903
  rotate_left
  · have HV : Hid (newCr n = zeroCr ∧ decide (okL n) = false) := Lib.hid ⟨if_neg fun h => h1 h.2, decide_eq_false fun h => h1 h.2⟩
    have d1 : decide (4611686018427387903 < n) = true := decide_eq_true (by omega)
    clear h0 h1
    go_enter Try.func28, Try.ntmps28
    go_upto_region 1 with fail
    generalize w.alloc (.cells (crC 0 0 0 0) 25) = w2 at *
    obtain ⟨q0, q1, q2, q3⟩ := HO.out.o.cells
    have qf := HO.out.o.free
    go_wp2
    have X := HO.out.out (zeroCr)
    refine bodyPost_ret (results_cr rfl _ _ w.heap.size _ _ _ _ rfl X.1 Try.underlying25 rfl (by kernel_rfl)) rfl ?_
    exact ⟨by rw [HV.out.1, HV.out.2]; rfl, X.2⟩
  · have HV : Hid (newCr n = ⟨n, 0, -1, -1⟩ ∧ decide (okL n) = true) := Lib.hid ⟨if_pos ⟨h0, h1⟩, decide_eq_true ⟨h0, h1⟩⟩
    have d1 : decide (4611686018427387903 < n) = false := decide_eq_false (by omega)
    clear h0 h1
    go_enter Try.func28, Try.ntmps28
    go_upto_region 1 with fail
    generalize w.alloc (.cells (crC 0 0 0 0) 25) = w2 at *
    obtain ⟨q0, q1, q2, q3⟩ := HO.out.o.cells
    have qf := HO.out.o.free
    go_wp2
    have X := HO.out.out (⟨n, 0, -1, -1⟩)
    refine bodyPost_ret (results_cr rfl _ _ w.heap.size _ _ _ _ rfl X.1 Try.underlying25 rfl (by kernel_rfl)) rfl ?_
    exact ⟨by rw [HV.out.1, HV.out.2]; rfl, X.2⟩
end Go.Proofs.Ytdaoaedkjoknmaa
