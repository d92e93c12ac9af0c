/-
  The laws' words on credits, and the laws on each function of chapter 10, walked.
-/
import Derived.Test.YtdaoaedkjoknmaaCrV
import Derived.Deep.DeepCutAuto
namespace Go.Proofs.Ytdaoaedkjoknmaa
open Go.RowKit Go.Deep Go.Proofs.Ytdaoaedkjoknmaa.Num

theorem bne_i (x : Int) : (x != x) = false := by simp
theorem bne_b (x : Bool) : (x != x) = false := by cases x <;> rfl
theorem third_block (w : World) (o1 o2 o3 : Obj) : (((w.alloc o1).alloc o2).alloc o3).heap[w.heap.size + 1]? = some o2 := by
  have h : (w.alloc o1).heap.size = w.heap.size + 1 := by simp
  rw [← h]
  exact (Below.heap_alloc _ _ _ (by simp)).trans (heap_alloc_new _ _)
set_option maxRecDepth 100000 in
set_option maxHeartbeats 1600000 in
/-- laws.toCredit -/
theorem ltocr (c : Cr) (w : World) :
    Calls Try.prog 31 #[crV c] w fun e w' => e = .returned (crV c) ∧ Below w.heap.size w w' := by
  go_enter Try.func31, Try.ntmps31
  go_wp2
  refine bodyPost_ret (results_cell_row rfl _ _ (w.heap.size + 1) _ _ _ _ rfl (third_block w _ _ _) Try.underlying25 rfl (by kernel_rfl)) rfl ?_
  exact ⟨rfl, (((Below.refl _ _).alloc (Nat.le_refl _) _).alloc (by simp) _).alloc (by simp; omega) _⟩
set_option maxRecDepth 100000 in
set_option maxHeartbeats 1600000 in
/-- laws.eqCredit, of a credit and itself. -/
theorem leqcr (c : Cr) (w : World) :
    Calls Try.prog 30 #[crV c, crV c] w fun e w' => e = .returned (.bool true) ∧ Below w.heap.size w w' := by
  have HL := Lib.hid (((Below.refl w.heap.size w).alloc (Nat.le_refl _) (.cells (crC c.lim c.used c.bl c.told) 25)).alloc (by simp) (.cells (crC c.lim c.used c.bl c.told) 25))
  have e0 := bne_i c.lim
  have e1 := bne_i c.used
  have e2 := bne_i c.bl
  have e3 := bne_i c.told
  go_enter Try.func30, Try.ntmps30
  go_wp2
  go_ret
  exact ⟨rfl, HL.out⟩
set_option maxRecDepth 100000 in
set_option maxHeartbeats 1600000 in
/-- The law on NewCredit. -/
theorem law_NewCredit (n : Int) (hsp : ∀ W, Calls Try.prog 29 #[.int .i64 n] W fun e w' => e = .returned (.tuple #[crV (newCr n), .bool (decide (okL n))]) ∧ Below W.heap.size W w') (him : ∀ W, Calls Try.prog 28 #[.int .i64 n] W fun e w' => e = .returned (.tuple #[crV (newCr n), .bool (decide (okL n))]) ∧ Below W.heap.size W w') (w : World) :
    Calls Try.prog 4 #[.int .i64 n] w fun e w' => e = .returned (.bool true) ∧ Below w.heap.size w w' := by
  have HSP := Lib.hid hsp
  have HIM := Lib.hid him
  have HEQ := Lib.hid fun W => leqcr (newCr n) W
  clear hsp him
  generalize newCr n = r at *
  generalize decide (okL n) = q at *
  have eq := bne_b q
  have HL := Lib.hid (Below.refl w.heap.size w)
  go_enter Try.func4, Try.ntmps4
  go_wp2_with fail
  refine (HSP.out _).mono ?_
  rintro e w1 ⟨rfl, hb⟩
  have HL := Lib.hid (HL.out.trans (hb.mono HL.out.size))
  clear hb
  go_upto_region 2 with fail
  have HN := Lib.hid (BoxC.new w1 25 r.lim r.used r.bl r.told)
  have HL := Lib.hid (HL.out.alloc HL.out.size (.cells (crC r.lim r.used r.bl r.told) 25))
  generalize w1.alloc (.cells (crC r.lim r.used r.bl r.told) 25) = w2 at *
  generalize w1.heap.size = g1 at *
  have HX := HN
  clear HN
  go_wp2_with fail
  refine (HIM.out _).mono ?_
  rintro e w3 ⟨rfl, hb⟩
  have HX := Lib.hid (HX.out.next hb)
  have HL := Lib.hid (HL.out.trans (hb.mono HL.out.size))
  clear hb
  go_upto_region 3 with fail
  have HN := Lib.hid (BoxC.new w3 25 r.lim r.used r.bl r.told)
  have HX := Lib.hid (HX.out.alloc (.cells (crC r.lim r.used r.bl r.told) 25))
  have HL := Lib.hid (HL.out.alloc HL.out.size (.cells (crC r.lim r.used r.bl r.told) 25))
  generalize w3.alloc (.cells (crC r.lim r.used r.bl r.told) 25) = w4 at *
  generalize w3.heap.size = g3 at *
  have HY := HN
  clear HN
  obtain ⟨x0, x1, x2, x3⟩ := HX.out.cells
  obtain ⟨y0, y1, y2, y3⟩ := HY.out.cells
  go_wp2_with fail
  refine (HEQ.out _).mono ?_
  rintro e w5 ⟨rfl, hb⟩
  have HL := Lib.hid (HL.out.trans (hb.mono HL.out.size))
  clear hb x0 x1 x2 x3 y0 y1 y2 y3
  go_wp2
  go_ret
  exact ⟨rfl, HL.out⟩
set_option maxRecDepth 100000 in
set_option maxHeartbeats 1600000 in
/-- The law on IsCredit. -/
theorem law_IsCredit (c : Cr) (hsp : ∀ W, Calls Try.prog 17 #[crV c] W fun e w' => e = .returned (.bool (decide (okCr c))) ∧ Below W.heap.size W w') (him : ∀ W, Calls Try.prog 14 #[crV c] W fun e w' => e = .returned (.bool (decide (okCr c))) ∧ Below W.heap.size W w') (w : World) :
    Calls Try.prog 5 #[crV c] w fun e w' => e = .returned (.bool true) ∧ Below w.heap.size w w' := by
  have HSP := Lib.hid hsp
  have HIM := Lib.hid him
  have HTO := Lib.hid fun W => ltocr c W
  clear hsp him
  generalize decide (okCr c) = r at *
  have er := bne_b r
  have HP := Lib.hid (BoxC.new w 38 c.lim c.used c.bl c.told)
  have HL := Lib.hid ((Below.refl w.heap.size w).alloc (Nat.le_refl _) (.cells (crC c.lim c.used c.bl c.told) 38))
  go_enter Try.func5, Try.ntmps5
  obtain ⟨a0, a1, a2, a3⟩ := HP.out.cells
  go_wp2_with fail
  refine (HTO.out _).mono ?_
  rintro e w1 ⟨rfl, hb⟩
  have HP := Lib.hid (HP.out.next hb)
  have HL := Lib.hid (HL.out.trans (hb.mono HL.out.size))
  clear hb a0 a1 a2 a3
  obtain ⟨a0, a1, a2, a3⟩ := HP.out.cells
  go_wp2_with fail
  refine (HSP.out _).mono ?_
  rintro e w2 ⟨rfl, hb⟩
  have HP := Lib.hid (HP.out.next hb)
  have HL := Lib.hid (HL.out.trans (hb.mono HL.out.size))
  clear hb a0 a1 a2 a3
  obtain ⟨a0, a1, a2, a3⟩ := HP.out.cells
  go_wp2_with fail
  refine (HTO.out _).mono ?_
  rintro e w3 ⟨rfl, hb⟩
  have HP := Lib.hid (HP.out.next hb)
  have HL := Lib.hid (HL.out.trans (hb.mono HL.out.size))
  clear hb a0 a1 a2 a3
  obtain ⟨a0, a1, a2, a3⟩ := HP.out.cells
  go_wp2_with fail
  refine (HIM.out _).mono ?_
  rintro e w4 ⟨rfl, hb⟩
  have HP := Lib.hid (HP.out.next hb)
  have HL := Lib.hid (HL.out.trans (hb.mono HL.out.size))
  clear hb a0 a1 a2 a3
  obtain ⟨a0, a1, a2, a3⟩ := HP.out.cells
  go_wp2
  go_ret
  exact ⟨rfl, HL.out⟩
set_option maxRecDepth 100000 in
set_option maxHeartbeats 1600000 in
/-- The law on CreditLeft. -/
theorem law_CreditLeft (c : Cr) (hsp : ∀ W, Calls Try.prog 16 #[crV c] W fun e w' => e = .returned (.int .i64 (leftCr c)) ∧ Below W.heap.size W w') (him : ∀ W, Calls Try.prog 15 #[crV c] W fun e w' => e = .returned (.int .i64 (leftCr c)) ∧ Below W.heap.size W w') (w : World) :
    Calls Try.prog 6 #[crV c] w fun e w' => e = .returned (.bool true) ∧ Below w.heap.size w w' := by
  have HSP := Lib.hid hsp
  have HIM := Lib.hid him
  have HTO := Lib.hid fun W => ltocr c W
  clear hsp him
  generalize leftCr c = r at *
  have er := bne_i r
  have HP := Lib.hid (BoxC.new w 38 c.lim c.used c.bl c.told)
  have HL := Lib.hid ((Below.refl w.heap.size w).alloc (Nat.le_refl _) (.cells (crC c.lim c.used c.bl c.told) 38))
  go_enter Try.func6, Try.ntmps6
  obtain ⟨a0, a1, a2, a3⟩ := HP.out.cells
  go_wp2_with fail
  refine (HTO.out _).mono ?_
  rintro e w1 ⟨rfl, hb⟩
  have HP := Lib.hid (HP.out.next hb)
  have HL := Lib.hid (HL.out.trans (hb.mono HL.out.size))
  clear hb a0 a1 a2 a3
  obtain ⟨a0, a1, a2, a3⟩ := HP.out.cells
  go_wp2_with fail
  refine (HSP.out _).mono ?_
  rintro e w2 ⟨rfl, hb⟩
  have HP := Lib.hid (HP.out.next hb)
  have HL := Lib.hid (HL.out.trans (hb.mono HL.out.size))
  clear hb a0 a1 a2 a3
  obtain ⟨a0, a1, a2, a3⟩ := HP.out.cells
  go_wp2_with fail
  refine (HTO.out _).mono ?_
  rintro e w3 ⟨rfl, hb⟩
  have HP := Lib.hid (HP.out.next hb)
  have HL := Lib.hid (HL.out.trans (hb.mono HL.out.size))
  clear hb a0 a1 a2 a3
  obtain ⟨a0, a1, a2, a3⟩ := HP.out.cells
  go_wp2_with fail
  refine (HIM.out _).mono ?_
  rintro e w4 ⟨rfl, hb⟩
  have HP := Lib.hid (HP.out.next hb)
  have HL := Lib.hid (HL.out.trans (hb.mono HL.out.size))
  clear hb a0 a1 a2 a3
  obtain ⟨a0, a1, a2, a3⟩ := HP.out.cells
  go_wp2
  go_ret
  exact ⟨rfl, HL.out⟩
set_option maxRecDepth 100000 in
set_option maxHeartbeats 1600000 in
/-- The law on UseCredit. -/
theorem law_UseCredit (c : Cr) (n : Int) (hsp : ∀ W, Calls Try.prog 13 #[crV c, .int .i64 n] W fun e w' => e = .returned (.tuple #[crV (useCr c n), .bool (decide (canU c n))]) ∧ Below W.heap.size W w') (him : ∀ W, Calls Try.prog 12 #[crV c, .int .i64 n] W fun e w' => e = .returned (.tuple #[crV (useCr c n), .bool (decide (canU c n))]) ∧ Below W.heap.size W w') (w : World) :
    Calls Try.prog 7 #[crV c, .int .i64 n] w fun e w' => e = .returned (.bool true) ∧ Below w.heap.size w w' := by
  have HSP := Lib.hid hsp
  have HIM := Lib.hid him
  have HTO := Lib.hid fun W => ltocr c W
  have HEQ := Lib.hid fun W => leqcr (useCr c n) W
  clear hsp him
  generalize useCr c n = r at *
  generalize decide (canU c n) = q at *
  have eq := bne_b q
  have HP := Lib.hid (BoxC.new w 38 c.lim c.used c.bl c.told)
  have HL := Lib.hid ((Below.refl w.heap.size w).alloc (Nat.le_refl _) (.cells (crC c.lim c.used c.bl c.told) 38))
  go_enter Try.func7, Try.ntmps7
  obtain ⟨a0, a1, a2, a3⟩ := HP.out.cells
  go_wp2_with fail
  refine (HTO.out _).mono ?_
  rintro e w1 ⟨rfl, hb⟩
  have HP := Lib.hid (HP.out.next hb)
  have HL := Lib.hid (HL.out.trans (hb.mono HL.out.size))
  clear hb a0 a1 a2 a3
  obtain ⟨a0, a1, a2, a3⟩ := HP.out.cells
  go_wp2_with fail
  refine (HSP.out _).mono ?_
  rintro e w2 ⟨rfl, hb⟩
  have HP := Lib.hid (HP.out.next hb)
  have HL := Lib.hid (HL.out.trans (hb.mono HL.out.size))
  clear hb a0 a1 a2 a3
  obtain ⟨a0, a1, a2, a3⟩ := HP.out.cells
  go_upto_region 2 with fail
  have HN := Lib.hid (BoxC.new w2 25 r.lim r.used r.bl r.told)
  have HP := Lib.hid (HP.out.alloc (.cells (crC r.lim r.used r.bl r.told) 25))
  have HL := Lib.hid (HL.out.alloc HL.out.size (.cells (crC r.lim r.used r.bl r.told) 25))
  clear a0 a1 a2 a3
  generalize w2.alloc (.cells (crC r.lim r.used r.bl r.told) 25) = w3 at *
  generalize w2.heap.size = g2 at *
  have HX := HN
  clear HN
  obtain ⟨a0, a1, a2, a3⟩ := HP.out.cells
  go_wp2_with fail
  refine (HTO.out _).mono ?_
  rintro e w4 ⟨rfl, hb⟩
  have HP := Lib.hid (HP.out.next hb)
  have HX := Lib.hid (HX.out.next hb)
  have HL := Lib.hid (HL.out.trans (hb.mono HL.out.size))
  clear hb a0 a1 a2 a3
  obtain ⟨a0, a1, a2, a3⟩ := HP.out.cells
  go_wp2_with fail
  refine (HIM.out _).mono ?_
  rintro e w5 ⟨rfl, hb⟩
  have HP := Lib.hid (HP.out.next hb)
  have HX := Lib.hid (HX.out.next hb)
  have HL := Lib.hid (HL.out.trans (hb.mono HL.out.size))
  clear hb a0 a1 a2 a3
  obtain ⟨a0, a1, a2, a3⟩ := HP.out.cells
  go_upto_region 3 with fail
  have HN := Lib.hid (BoxC.new w5 25 r.lim r.used r.bl r.told)
  have HP := Lib.hid (HP.out.alloc (.cells (crC r.lim r.used r.bl r.told) 25))
  have HX := Lib.hid (HX.out.alloc (.cells (crC r.lim r.used r.bl r.told) 25))
  have HL := Lib.hid (HL.out.alloc HL.out.size (.cells (crC r.lim r.used r.bl r.told) 25))
  clear a0 a1 a2 a3
  generalize w5.alloc (.cells (crC r.lim r.used r.bl r.told) 25) = w6 at *
  generalize w5.heap.size = g5 at *
  have HY := HN
  clear HN
  obtain ⟨a0, a1, a2, a3⟩ := HP.out.cells
  obtain ⟨x0, x1, x2, x3⟩ := HX.out.cells
  obtain ⟨y0, y1, y2, y3⟩ := HY.out.cells
  go_wp2_with fail
  refine (HEQ.out _).mono ?_
  rintro e w7 ⟨rfl, hb⟩
  have HL := Lib.hid (HL.out.trans (hb.mono HL.out.size))
  clear hb x0 x1 x2 x3 y0 y1 y2 y3
  go_wp2
  go_ret
  exact ⟨rfl, HL.out⟩
set_option maxRecDepth 100000 in
set_option maxHeartbeats 1600000 in
/-- The law on RaiseLimit. -/
theorem law_RaiseLimit (c : Cr) (n : Int) (hsp : ∀ W, Calls Try.prog 20 #[crV c, .int .i64 n] W fun e w' => e = .returned (crV (raiseCr c n)) ∧ Below W.heap.size W w') (him : ∀ W, Calls Try.prog 19 #[crV c, .int .i64 n] W fun e w' => e = .returned (crV (raiseCr c n)) ∧ Below W.heap.size W w') (w : World) :
    Calls Try.prog 8 #[crV c, .int .i64 n] w fun e w' => e = .returned (.bool true) ∧ Below w.heap.size w w' := by
  have HSP := Lib.hid hsp
  have HIM := Lib.hid him
  have HTO := Lib.hid fun W => ltocr c W
  have HEQ := Lib.hid fun W => leqcr (raiseCr c n) W
  clear hsp him
  generalize raiseCr c n = r at *
  have HP := Lib.hid (BoxC.new w 38 c.lim c.used c.bl c.told)
  have HL := Lib.hid ((Below.refl w.heap.size w).alloc (Nat.le_refl _) (.cells (crC c.lim c.used c.bl c.told) 38))
  go_enter Try.func8, Try.ntmps8
  obtain ⟨a0, a1, a2, a3⟩ := HP.out.cells
  go_wp2_with fail
  refine (HTO.out _).mono ?_
  rintro e w1 ⟨rfl, hb⟩
  have HP := Lib.hid (HP.out.next hb)
  have HL := Lib.hid (HL.out.trans (hb.mono HL.out.size))
  clear hb a0 a1 a2 a3
  obtain ⟨a0, a1, a2, a3⟩ := HP.out.cells
  go_wp2_with fail
  refine (HSP.out _).mono ?_
  rintro e w2 ⟨rfl, hb⟩
  have HP := Lib.hid (HP.out.next hb)
  have HL := Lib.hid (HL.out.trans (hb.mono HL.out.size))
  clear hb a0 a1 a2 a3
  obtain ⟨a0, a1, a2, a3⟩ := HP.out.cells
  go_upto_region 2 with fail
  have HN := Lib.hid (BoxC.new w2 25 r.lim r.used r.bl r.told)
  have HP := Lib.hid (HP.out.alloc (.cells (crC r.lim r.used r.bl r.told) 25))
  have HL := Lib.hid (HL.out.alloc HL.out.size (.cells (crC r.lim r.used r.bl r.told) 25))
  clear a0 a1 a2 a3
  generalize w2.alloc (.cells (crC r.lim r.used r.bl r.told) 25) = w3 at *
  generalize w2.heap.size = g2 at *
  have HX := HN
  clear HN
  obtain ⟨a0, a1, a2, a3⟩ := HP.out.cells
  go_wp2_with fail
  refine (HTO.out _).mono ?_
  rintro e w4 ⟨rfl, hb⟩
  have HP := Lib.hid (HP.out.next hb)
  have HX := Lib.hid (HX.out.next hb)
  have HL := Lib.hid (HL.out.trans (hb.mono HL.out.size))
  clear hb a0 a1 a2 a3
  obtain ⟨a0, a1, a2, a3⟩ := HP.out.cells
  go_wp2_with fail
  refine (HIM.out _).mono ?_
  rintro e w5 ⟨rfl, hb⟩
  have HP := Lib.hid (HP.out.next hb)
  have HX := Lib.hid (HX.out.next hb)
  have HL := Lib.hid (HL.out.trans (hb.mono HL.out.size))
  clear hb a0 a1 a2 a3
  obtain ⟨a0, a1, a2, a3⟩ := HP.out.cells
  go_upto_region 3 with fail
  have HN := Lib.hid (BoxC.new w5 25 r.lim r.used r.bl r.told)
  have HP := Lib.hid (HP.out.alloc (.cells (crC r.lim r.used r.bl r.told) 25))
  have HX := Lib.hid (HX.out.alloc (.cells (crC r.lim r.used r.bl r.told) 25))
  have HL := Lib.hid (HL.out.alloc HL.out.size (.cells (crC r.lim r.used r.bl r.told) 25))
  clear a0 a1 a2 a3
  generalize w5.alloc (.cells (crC r.lim r.used r.bl r.told) 25) = w6 at *
  generalize w5.heap.size = g5 at *
  have HY := HN
  clear HN
  obtain ⟨a0, a1, a2, a3⟩ := HP.out.cells
  obtain ⟨x0, x1, x2, x3⟩ := HX.out.cells
  obtain ⟨y0, y1, y2, y3⟩ := HY.out.cells
  go_wp2_with fail
  refine (HEQ.out _).mono ?_
  rintro e w7 ⟨rfl, hb⟩
  have HL := Lib.hid (HL.out.trans (hb.mono HL.out.size))
  clear hb x0 x1 x2 x3 y0 y1 y2 y3
  go_wp2
  go_ret
  exact ⟨rfl, HL.out⟩
set_option maxRecDepth 100000 in
set_option maxHeartbeats 1600000 in
/-- The law on NoteBlocked. -/
theorem law_NoteBlocked (c : Cr) (hsp : ∀ W, Calls Try.prog 23 #[crV c] W fun e w' => e = .returned (crV (noteCr c)) ∧ Below W.heap.size W w') (him : ∀ W, Calls Try.prog 21 #[crV c] W fun e w' => e = .returned (crV (noteCr c)) ∧ Below W.heap.size W w') (w : World) :
    Calls Try.prog 9 #[crV c] w fun e w' => e = .returned (.bool true) ∧ Below w.heap.size w w' := by
  have HSP := Lib.hid hsp
  have HIM := Lib.hid him
  have HTO := Lib.hid fun W => ltocr c W
  have HEQ := Lib.hid fun W => leqcr (noteCr c) W
  clear hsp him
  generalize noteCr c = r at *
  have HP := Lib.hid (BoxC.new w 38 c.lim c.used c.bl c.told)
  have HL := Lib.hid ((Below.refl w.heap.size w).alloc (Nat.le_refl _) (.cells (crC c.lim c.used c.bl c.told) 38))
  go_enter Try.func9, Try.ntmps9
  obtain ⟨a0, a1, a2, a3⟩ := HP.out.cells
  go_wp2_with fail
  refine (HTO.out _).mono ?_
  rintro e w1 ⟨rfl, hb⟩
  have HP := Lib.hid (HP.out.next hb)
  have HL := Lib.hid (HL.out.trans (hb.mono HL.out.size))
  clear hb a0 a1 a2 a3
  obtain ⟨a0, a1, a2, a3⟩ := HP.out.cells
  go_wp2_with fail
  refine (HSP.out _).mono ?_
  rintro e w2 ⟨rfl, hb⟩
  have HP := Lib.hid (HP.out.next hb)
  have HL := Lib.hid (HL.out.trans (hb.mono HL.out.size))
  clear hb a0 a1 a2 a3
  obtain ⟨a0, a1, a2, a3⟩ := HP.out.cells
  go_upto_region 2 with fail
  have HN := Lib.hid (BoxC.new w2 25 r.lim r.used r.bl r.told)
  have HP := Lib.hid (HP.out.alloc (.cells (crC r.lim r.used r.bl r.told) 25))
  have HL := Lib.hid (HL.out.alloc HL.out.size (.cells (crC r.lim r.used r.bl r.told) 25))
  clear a0 a1 a2 a3
  generalize w2.alloc (.cells (crC r.lim r.used r.bl r.told) 25) = w3 at *
  generalize w2.heap.size = g2 at *
  have HX := HN
  clear HN
  obtain ⟨a0, a1, a2, a3⟩ := HP.out.cells
  go_wp2_with fail
  refine (HTO.out _).mono ?_
  rintro e w4 ⟨rfl, hb⟩
  have HP := Lib.hid (HP.out.next hb)
  have HX := Lib.hid (HX.out.next hb)
  have HL := Lib.hid (HL.out.trans (hb.mono HL.out.size))
  clear hb a0 a1 a2 a3
  obtain ⟨a0, a1, a2, a3⟩ := HP.out.cells
  go_wp2_with fail
  refine (HIM.out _).mono ?_
  rintro e w5 ⟨rfl, hb⟩
  have HP := Lib.hid (HP.out.next hb)
  have HX := Lib.hid (HX.out.next hb)
  have HL := Lib.hid (HL.out.trans (hb.mono HL.out.size))
  clear hb a0 a1 a2 a3
  obtain ⟨a0, a1, a2, a3⟩ := HP.out.cells
  go_upto_region 3 with fail
  have HN := Lib.hid (BoxC.new w5 25 r.lim r.used r.bl r.told)
  have HP := Lib.hid (HP.out.alloc (.cells (crC r.lim r.used r.bl r.told) 25))
  have HX := Lib.hid (HX.out.alloc (.cells (crC r.lim r.used r.bl r.told) 25))
  have HL := Lib.hid (HL.out.alloc HL.out.size (.cells (crC r.lim r.used r.bl r.told) 25))
  clear a0 a1 a2 a3
  generalize w5.alloc (.cells (crC r.lim r.used r.bl r.told) 25) = w6 at *
  generalize w5.heap.size = g5 at *
  have HY := HN
  clear HN
  obtain ⟨a0, a1, a2, a3⟩ := HP.out.cells
  obtain ⟨x0, x1, x2, x3⟩ := HX.out.cells
  obtain ⟨y0, y1, y2, y3⟩ := HY.out.cells
  go_wp2_with fail
  refine (HEQ.out _).mono ?_
  rintro e w7 ⟨rfl, hb⟩
  have HL := Lib.hid (HL.out.trans (hb.mono HL.out.size))
  clear hb x0 x1 x2 x3 y0 y1 y2 y3
  go_wp2
  go_ret
  exact ⟨rfl, HL.out⟩
end Go.Proofs.Ytdaoaedkjoknmaa
