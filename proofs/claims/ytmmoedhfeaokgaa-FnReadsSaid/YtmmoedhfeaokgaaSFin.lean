/-
  What spec.l7Final, l7Copy, NewReceiver return.
-/
import Derived.Test.YtmmoedhfeaokgaaRcV
import Derived.Test.YtmmoedhfeaokgaaSBCopy
namespace Go.Proofs.Ytmmoedhfeaokgaa
open Go.RowKit Go.Deep Go.Proofs.Ytmmoedhfeaokgaa.Num

set_option linter.unusedSimpArgs false in
set_option maxRecDepth 100000 in
set_option maxHeartbeats 4000000 in
/-- spec.l7Final -/
theorem sfin (r : Rc) (n : Int) (f : Bool) (A : Option Addr) (cap B : Nat) (w : World) (hB : B ≤ w.heap.size) (hr : Chs w B A r.buf.chs) :
    Calls Try.prog 48 #[rcV r (.slice A r.buf.chs.length cap), .int .i64 n, .bool f] w fun e w' => e = .returned (.int .i64 (if badRc r n f then 6 else 0)) ∧ Below w.heap.size w w' := by
  have HH := Lib.hid (InRc.start w r A cap 28 (hr.up hB))
  obtain ⟨a0, a1, a2, a3, a4, a5⟩ := HH.out.1
  obtain ⟨q0, hq0⟩ : ∃ q, (r.fin == -1) = q := ⟨_, rfl⟩
  have hq1 : (r.fin != -1) = !q0 := by rw [← hq0]; rfl
  obtain ⟨q2, hq2⟩ : ∃ q, decide (r.fin < n) = q := ⟨_, rfl⟩
  obtain ⟨q3, hq3⟩ : ∃ q, (n == r.fin) = q := ⟨_, rfl⟩
  have hq4 : (n != r.fin) = !q3 := by rw [← hq3]; rfl
  obtain ⟨q5, hq5⟩ : ∃ q, decide (n < r.hi) = q := ⟨_, rfl⟩
  have HV : Hid ((if badRc r n f then (6 : Int) else 0) = if ((!q0 && (q2 || (f && !q3))) || (f && q5)) = true then 6 else 0) := Lib.hid (by
    subst hq0 hq2 hq3 hq5
    have e : badRc r n f ↔ ((!(r.fin == -1) && (decide (r.fin < n) || (f && !(n == r.fin)))) || (f && decide (n < r.hi))) = true := by simp [badRc]
    by_cases h : badRc r n f
    · rw [if_pos h, if_pos (e.1 h)]
    · rw [if_neg h, if_neg (fun h' => h (e.2 h'))])
  generalize (if badRc r n f then (6 : Int) else 0) = z at *
  clear hr
  cases f
  · cases q0
    · cases q2
      · try simp only [Bool.not_true, Bool.not_false] at hq1 hq4
        simp only [Bool.not_true, Bool.not_false, Bool.true_and, Bool.false_and, Bool.true_or, Bool.false_or, Bool.or_true, Bool.or_false, Bool.and_true, Bool.and_false, if_true, Bool.false_eq_true, if_false] at HV
        go_enter Try.func48, Try.ntmps48
        go_wp2
        go_ret
        exact ⟨by rw [HV.out]; rfl, HH.out.2.2.2⟩
      · try simp only [Bool.not_true, Bool.not_false] at hq1 hq4
        simp only [Bool.not_true, Bool.not_false, Bool.true_and, Bool.false_and, Bool.true_or, Bool.false_or, Bool.or_true, Bool.or_false, Bool.and_true, Bool.and_false, if_true, Bool.false_eq_true, if_false] at HV
        go_enter Try.func48, Try.ntmps48
        go_wp2
        go_ret
        exact ⟨by rw [HV.out]; rfl, HH.out.2.2.2⟩
    · try simp only [Bool.not_true, Bool.not_false] at hq1 hq4
      simp only [Bool.not_true, Bool.not_false, Bool.true_and, Bool.false_and, Bool.true_or, Bool.false_or, Bool.or_true, Bool.or_false, Bool.and_true, Bool.and_false, if_true, Bool.false_eq_true, if_false] at HV
      go_enter Try.func48, Try.ntmps48
      go_wp2
      go_ret
      exact ⟨by rw [HV.out]; rfl, HH.out.2.2.2⟩
  · cases q0
    · cases q2
      · cases q3
        · try simp only [Bool.not_true, Bool.not_false] at hq1 hq4
          simp only [Bool.not_true, Bool.not_false, Bool.true_and, Bool.false_and, Bool.true_or, Bool.false_or, Bool.or_true, Bool.or_false, Bool.and_true, Bool.and_false, if_true, Bool.false_eq_true, if_false] at HV
          go_enter Try.func48, Try.ntmps48
          go_wp2
          go_ret
          exact ⟨by rw [HV.out]; rfl, HH.out.2.2.2⟩
        · cases q5
          · try simp only [Bool.not_true, Bool.not_false] at hq1 hq4
            simp only [Bool.not_true, Bool.not_false, Bool.true_and, Bool.false_and, Bool.true_or, Bool.false_or, Bool.or_true, Bool.or_false, Bool.and_true, Bool.and_false, if_true, Bool.false_eq_true, if_false] at HV
            go_enter Try.func48, Try.ntmps48
            go_wp2
            go_ret
            exact ⟨by rw [HV.out]; rfl, HH.out.2.2.2⟩
          · try simp only [Bool.not_true, Bool.not_false] at hq1 hq4
            simp only [Bool.not_true, Bool.not_false, Bool.true_and, Bool.false_and, Bool.true_or, Bool.false_or, Bool.or_true, Bool.or_false, Bool.and_true, Bool.and_false, if_true, Bool.false_eq_true, if_false] at HV
            go_enter Try.func48, Try.ntmps48
            go_wp2
            go_ret
            exact ⟨by rw [HV.out]; rfl, HH.out.2.2.2⟩
      · try simp only [Bool.not_true, Bool.not_false] at hq1 hq4
        simp only [Bool.not_true, Bool.not_false, Bool.true_and, Bool.false_and, Bool.true_or, Bool.false_or, Bool.or_true, Bool.or_false, Bool.and_true, Bool.and_false, if_true, Bool.false_eq_true, if_false] at HV
        go_enter Try.func48, Try.ntmps48
        go_wp2
        go_ret
        exact ⟨by rw [HV.out]; rfl, HH.out.2.2.2⟩
    · cases q5
      · try simp only [Bool.not_true, Bool.not_false] at hq1 hq4
        simp only [Bool.not_true, Bool.not_false, Bool.true_and, Bool.false_and, Bool.true_or, Bool.false_or, Bool.or_true, Bool.or_false, Bool.and_true, Bool.and_false, if_true, Bool.false_eq_true, if_false] at HV
        go_enter Try.func48, Try.ntmps48
        go_wp2
        go_ret
        exact ⟨by rw [HV.out]; rfl, HH.out.2.2.2⟩
      · try simp only [Bool.not_true, Bool.not_false] at hq1 hq4
        simp only [Bool.not_true, Bool.not_false, Bool.true_and, Bool.false_and, Bool.true_or, Bool.false_or, Bool.or_true, Bool.or_false, Bool.and_true, Bool.and_false, if_true, Bool.false_eq_true, if_false] at HV
        go_enter Try.func48, Try.ntmps48
        go_wp2
        go_ret
        exact ⟨by rw [HV.out]; rfl, HH.out.2.2.2⟩
set_option maxRecDepth 100000 in
set_option maxHeartbeats 4000000 in
/-- spec.l7Copy: a copy, its chunks in new blocks. -/
theorem scopyrc (r : Rc) (A : Option Addr) (cap B : Nat) (w : World) (hB : B ≤ w.heap.size) (hr : Chs w B A r.buf.chs) (hn : r.buf.chs.length ≤ 1000000000) :
    Calls Try.prog 46 #[rcV r (.slice A r.buf.chs.length cap)] w fun e w' => ∃ v, e = .returned (rcV r v) ∧ OwnC w' w.heap.size v r.buf.chs ∧ Below w.heap.size w w' := by
  have s1 : ∀ o1, (w.alloc o1).heap.size = w.heap.size + 1 := fun _ => by simp
  have s2 : ∀ o1 o2, ((w.alloc o1).alloc o2).heap.size = w.heap.size + 1 + 1 := fun _ _ => by simp
  have HH := Lib.hid ((InRc.start w r A cap 28 (hr.up hB)).alloc (.cells (rcC 0 0 (.slice none 0 0) 0 0 0) 28))
  have X1 := (BoxR.new w r.st r.buf.next (.slice A r.buf.chs.length cap) r.fin r.hi r.code).alloc (.cells (rcC 0 0 (.slice none 0 0) 0 0 0) 28)
  have X2 := BoxR.new (w.alloc (.cells (rcC r.st r.buf.next (.slice A r.buf.chs.length cap) r.fin r.hi r.code) 28)) 0 0 (.slice none 0 0) 0 0 0
  rw [s1] at X2
  have HS2 := Lib.hid (s2 (.cells (rcC r.st r.buf.next (.slice A r.buf.chs.length cap) r.fin r.hi r.code) 28) (.cells (rcC 0 0 (.slice none 0 0) 0 0 0) 28))
  have HX1 := Lib.hid X1
  have HX2 := Lib.hid X2
  have HCP : Hid (∀ W, InRc w w.heap.size r A cap W → Calls Try.prog 74 #[bfV r.buf.next (.slice A r.buf.chs.length cap)] W fun e w' => ∃ v, e = .returned (bfV r.buf.next v) ∧ OwnC w' W.heap.size v r.buf.chs ∧ Below W.heap.size W w') := Lib.hid fun W h => scopyb r.buf.next r.buf.chs A cap w.heap.size W (Nat.le_of_lt h.2.2.1) h.2.1 hn
  clear X1 X2 s1 s2 hr
  go_enter Try.func46, Try.ntmps46
  go_upto_region 1 with fail
  generalize (w.alloc (.cells (rcC r.st r.buf.next (.slice A r.buf.chs.length cap) r.fin r.hi r.code) 28)).alloc (.cells (rcC 0 0 (.slice none 0 0) 0 0 0) 28) = w2 at *
  have hs2 : w2.heap.size = w.heap.size + 1 + 1 := HS2.out
  have HCL : ∀ W, CellR W w.heap.size r (.slice A r.buf.chs.length cap) → W.cell? ⟨w.heap.size, 0, none⟩ = some (.int .i64 r.st) ∧ W.cell? ⟨w.heap.size, 1, none⟩ = some (.int .i64 r.buf.next) ∧ W.cell? ⟨w.heap.size, 2, none⟩ = some (.slice A r.buf.chs.length cap) ∧ W.cell? ⟨w.heap.size, 3, none⟩ = some (.int .i64 r.fin) ∧ W.cell? ⟨w.heap.size, 4, none⟩ = some (.int .i64 r.hi) ∧ W.cell? ⟨w.heap.size, 5, none⟩ = some (.int .i64 r.code) := fun W h => h
  have HK1 := Lib.hid (HCL _ HH.out.drew.1)
  have HCZ := Lib.hid HCL
  clear HCL
  obtain ⟨a0, a1, a2, a3, a4, a5⟩ := HH.out.1
  go_region_held3 (fun W => W.cell? ⟨w.heap.size, 0, none⟩ = some (.int .i64 r.st) ∧ W.cell? ⟨w.heap.size, 1, none⟩ = some (.int .i64 r.buf.next) ∧ W.cell? ⟨w.heap.size, 2, none⟩ = some (.slice A r.buf.chs.length cap) ∧ W.cell? ⟨w.heap.size, 3, none⟩ = some (.int .i64 r.fin) ∧ W.cell? ⟨w.heap.size, 4, none⟩ = some (.int .i64 r.hi) ∧ W.cell? ⟨w.heap.size, 5, none⟩ = some (.int .i64 r.code)) (first | with_reducible exact HK1.out | with_reducible exact HK2.out | with_reducible exact HK3.out) (first | (go_at_call 74; refine (HCP.out _ HH.out.drew).mono ?_; rintro e w3 ⟨v, rfl, ho, hb⟩; obtain ⟨A3, c3, rfl, _, _⟩ := ho.frs; have HY1 := Lib.hid (BoxR.below (w := w2.drew) HX1.out hb (by show _ < w2.heap.size; omega)); have HY2 := Lib.hid (BoxR.below (w := w2.drew) HX2.out hb (by show _ < w2.heap.size; omega)); have HOW := Lib.hid ho; have HBL := Lib.hid (InRc.next (W := w2.drew) HH.out.drew hb).2.2.2; have HK2 := Lib.hid (HCZ.out _ HY1.out.cells); have f2 := HY2.out.free; have HK3 := Lib.hid (HCZ.out _ ((((((HY1.out.other (w.heap.size + 1) 0 (.int .i64 r.st) (by omega)).other (w.heap.size + 1) 1 (.int .i64 r.buf.next) (by omega)).other (w.heap.size + 1) 2 (.slice A3 r.buf.chs.length c3) (by omega)).other (w.heap.size + 1) 3 (.int .i64 r.fin) (by omega)).other (w.heap.size + 1) 4 (.int .i64 r.hi) (by omega)).other (w.heap.size + 1) 5 (.int .i64 r.code) (by omega)).cells); obtain ⟨b0, b1, b2, b3, b4, b5⟩ := HY2.out.cells; clear ho hb))
  go_wp2
  refine bodyPost_ret (results_cell_row rfl _ _ (w.heap.size + 1) _ _ _ _ rfl ((((((HY2.out.set0 _).set1 _).set2 _).set3 _).set4 _).set5 _) Try.underlying28 rfl (by kernel_rfl)) rfl ?_
  have hq : w.heap.size + 1 < w2.drew.heap.size := by show _ < w2.heap.size; omega
  refine ⟨_, rfl, ownc_weaken ((((((HOW.out.put (w.heap.size + 1) 0 _ hq).put (w.heap.size + 1) 1 _ hq).put (w.heap.size + 1) 2 _ hq).put (w.heap.size + 1) 3 _ hq).put (w.heap.size + 1) 4 _ hq).put (w.heap.size + 1) 5 _ hq) (by show _ ≤ w2.heap.size; omega), ?_⟩
  exact (((((HBL.out.setCell (p := ⟨_, _, _⟩) (by show w.heap.size ≤ w.heap.size + 1; omega) _).setCell (p := ⟨_, _, _⟩) (by show w.heap.size ≤ w.heap.size + 1; omega) _).setCell (p := ⟨_, _, _⟩) (by show w.heap.size ≤ w.heap.size + 1; omega) _).setCell (p := ⟨_, _, _⟩) (by show w.heap.size ≤ w.heap.size + 1; omega) _).setCell (p := ⟨_, _, _⟩) (by show w.heap.size ≤ w.heap.size + 1; omega) _).setCell (p := ⟨_, _, _⟩) (by show w.heap.size ≤ w.heap.size + 1; omega) _
set_option maxRecDepth 100000 in
set_option maxHeartbeats 4000000 in
/-- spec.NewReceiver -/
theorem snewrc (w : World) :
    Calls Try.prog 25 #[] w fun e w' => ∃ v, e = .returned (rcV nuRc v) ∧ OwnX w' w.heap.size v nuRc.buf.chs ∧ Below w.heap.size w w' := by
  have HB := Lib.hid ((Below.refl w.heap.size w).alloc (Nat.le_refl _) (.cells (rcC 0 0 (.slice none 0 0) (-1) 0 0) 28))
  go_enter Try.func25, Try.ntmps25
  go_wp2
  refine bodyPost_ret (results_cell_row rfl _ _ w.heap.size _ _ _ _ rfl (BoxR.new w 0 0 (.slice none 0 0) (-1) 0 0) Try.underlying28 rfl (by kernel_rfl)) rfl ?_
  exact ⟨_, rfl, OwnC.empty.x, HB.out⟩
end Go.Proofs.Ytmmoedhfeaokgaa
