/-
  Contracts and lemmas for the law on draining.
-/
import Derived.Test.YtdaoaedkjoknmaaGreatDrZ0
import Derived.Test.YtdaoaedkjoknmaaGreatDrZ34
set_option maxRecDepth 1000000
set_option maxHeartbeats 8000000
namespace Go.Proofs.YtdaoaedkjoknmaaGreat
open Go.RowKit Go.Deep Go.Proofs.YtdaoaedkjoknmaaGreat.Num

theorem istateS (s : Sn) (v1 v2 v3 v4 : Value) (w : World) (hfi : 0 ≤ s.fi ∧ s.fi ≤ 3) :
    Calls Tryz.prog 103 #[snV s v1 v2 v3 v4] w fun e w' => e = .returned (.int .i64 (folS s)) ∧ Below w.heap.size w w' := by
  have HH := LH (InBS.start w s v1 v2 v3 v4)
  by_cases h1 : s.fi = 3
  · skip
    by_cases h2 : s.rn.base = s.rn.en
    · skip
      have HV : Hid (folS s = 3) := LH (by unfold folS; (repeat' split) <;> omega)
      have t1 : (s.fi == 3) = true := by simpa using h1
      have t2 : (s.rn.base == s.rn.en) = true := by simpa using h2
      clear hfi h1 h2
      go_enter Tryz.func103, Tryz.ntmps103
      obtain ⟨a0, a1, a2, a3, a4, a5, a6, a7, a8, a9, a10, a11⟩ := HH.out.1.cells
      go_wp2
      go_ret
      exact ⟨by rw [HV.out]; rfl, HH.out.2⟩
    · skip
      have HV : Hid (folS s = 2) := LH (by unfold folS; (repeat' split) <;> omega)
      have t1 : (s.fi == 3) = true := by simpa using h1
      have t2 : (s.rn.base == s.rn.en) = false := by simpa using h2
      clear hfi h1 h2
      go_enter Tryz.func103, Tryz.ntmps103
      obtain ⟨a0, a1, a2, a3, a4, a5, a6, a7, a8, a9, a10, a11⟩ := HH.out.1.cells
      go_wp2
      go_ret
      exact ⟨by rw [HV.out]; rfl, HH.out.2⟩
  · skip
    by_cases h3 : s.fi = 2
    · skip
      have HV : Hid (folS s = 2) := LH (by unfold folS; (repeat' split) <;> omega)
      have t1 : (s.fi == 3) = false := by simpa using h1
      have t3 : (s.fi == 2) = true := by simpa using h3
      clear hfi h1 h3
      go_enter Tryz.func103, Tryz.ntmps103
      obtain ⟨a0, a1, a2, a3, a4, a5, a6, a7, a8, a9, a10, a11⟩ := HH.out.1.cells
      go_wp2
      go_ret
      exact ⟨by rw [HV.out]; rfl, HH.out.2⟩
    · skip
      by_cases h4 : s.fi = 1
      · skip
        by_cases h5 : s.st = 2
        · skip
          have HV : Hid (folS s = 2) := LH (by unfold folS; (repeat' split) <;> omega)
          have t1 : (s.fi == 3) = false := by simpa using h1
          have t3 : (s.fi == 2) = false := by simpa using h3
          have t4 : (s.fi == 1) = true := by simpa using h4
          have t5 : (s.st == 2) = true := by simpa using h5
          clear hfi h1 h3 h4 h5
          go_enter Tryz.func103, Tryz.ntmps103
          obtain ⟨a0, a1, a2, a3, a4, a5, a6, a7, a8, a9, a10, a11⟩ := HH.out.1.cells
          go_wp2
          go_ret
          exact ⟨by rw [HV.out]; rfl, HH.out.2⟩
        · skip
          by_cases h6 : 0 < s.sent
          · skip
            have HV : Hid (folS s = 1) := LH (by unfold folS; (repeat' split) <;> omega)
            have t1 : (s.fi == 3) = false := by simpa using h1
            have t3 : (s.fi == 2) = false := by simpa using h3
            have t4 : (s.fi == 1) = true := by simpa using h4
            have t5 : (s.st == 2) = false := by simpa using h5
            have t6 : decide (0 < s.sent) = true := decide_eq_true h6
            clear hfi h1 h3 h4 h5 h6
            go_enter Tryz.func103, Tryz.ntmps103
            obtain ⟨a0, a1, a2, a3, a4, a5, a6, a7, a8, a9, a10, a11⟩ := HH.out.1.cells
            go_wp2
            go_ret
            exact ⟨by rw [HV.out]; rfl, HH.out.2⟩
          · skip
            by_cases h7 : s.st = 1
            · skip
              have HV : Hid (folS s = 1) := LH (by unfold folS; (repeat' split) <;> omega)
              have t1 : (s.fi == 3) = false := by simpa using h1
              have t3 : (s.fi == 2) = false := by simpa using h3
              have t4 : (s.fi == 1) = true := by simpa using h4
              have t5 : (s.st == 2) = false := by simpa using h5
              have t6 : decide (0 < s.sent) = false := decide_eq_false h6
              have t7 : (s.st == 1) = true := by simpa using h7
              clear hfi h1 h3 h4 h5 h6 h7
              go_enter Tryz.func103, Tryz.ntmps103
              obtain ⟨a0, a1, a2, a3, a4, a5, a6, a7, a8, a9, a10, a11⟩ := HH.out.1.cells
              go_wp2
              go_ret
              exact ⟨by rw [HV.out]; rfl, HH.out.2⟩
            · skip
              have HV : Hid (folS s = 0) := LH (by unfold folS; (repeat' split) <;> omega)
              have t1 : (s.fi == 3) = false := by simpa using h1
              have t3 : (s.fi == 2) = false := by simpa using h3
              have t4 : (s.fi == 1) = true := by simpa using h4
              have t5 : (s.st == 2) = false := by simpa using h5
              have t6 : decide (0 < s.sent) = false := decide_eq_false h6
              have t7 : (s.st == 1) = false := by simpa using h7
              clear hfi h1 h3 h4 h5 h6 h7
              go_enter Tryz.func103, Tryz.ntmps103
              obtain ⟨a0, a1, a2, a3, a4, a5, a6, a7, a8, a9, a10, a11⟩ := HH.out.1.cells
              go_wp2
              go_ret
              exact ⟨by rw [HV.out]; rfl, HH.out.2⟩
      · skip
        by_cases h6 : 0 < s.sent
        · skip
          have HV : Hid (folS s = 1) := LH (by unfold folS; (repeat' split) <;> omega)
          have t1 : (s.fi == 3) = false := by simpa using h1
          have t3 : (s.fi == 2) = false := by simpa using h3
          have t4 : (s.fi == 1) = false := by simpa using h4
          have t6 : decide (0 < s.sent) = true := decide_eq_true h6
          clear hfi h1 h3 h4 h6
          go_enter Tryz.func103, Tryz.ntmps103
          obtain ⟨a0, a1, a2, a3, a4, a5, a6, a7, a8, a9, a10, a11⟩ := HH.out.1.cells
          go_wp2
          go_ret
          exact ⟨by rw [HV.out]; rfl, HH.out.2⟩
        · skip
          have HV : Hid (folS s = 0) := LH (by unfold folS; (repeat' split) <;> omega)
          have t1 : (s.fi == 3) = false := by simpa using h1
          have t3 : (s.fi == 2) = false := by simpa using h3
          have t4 : (s.fi == 1) = false := by simpa using h4
          have t6 : decide (0 < s.sent) = false := decide_eq_false h6
          clear hfi h1 h3 h4 h6
          go_enter Tryz.func103, Tryz.ntmps103
          obtain ⟨a0, a1, a2, a3, a4, a5, a6, a7, a8, a9, a10, a11⟩ := HH.out.1.cells
          go_wp2
          go_ret
          exact ⟨by rw [HV.out]; rfl, HH.out.2⟩
theorem igiven (s : Sn) (v1 v2 v3 v4 : Value) (w : World) :
    Calls Tryz.prog 75 #[snV s v1 v2 v3 v4] w fun e w' => e = .returned (.bool (decide (s.rn.base = s.rn.en ∧ s.sent = s.rn.en ∧ s.fin = s.rn.en ∧ s.fi = 0))) ∧ Below w.heap.size w w' := by
  have HH := LH (InBS.start w s v1 v2 v3 v4)
  by_cases h0 : s.rn.base = s.rn.en
  rotate_left
  · have HV := LH (decide_eq_false (p := s.rn.base = s.rn.en ∧ s.sent = s.rn.en ∧ s.fin = s.rn.en ∧ s.fi = 0) (fun k => h0 k.1))
    have t0 : (s.rn.base == s.rn.en) = false := by simpa using h0
    clear h0
    go_enter Tryz.func75, Tryz.ntmps75
    obtain ⟨a0, a1, a2, a3, a4, a5, a6, a7, a8, a9, a10, a11⟩ := HH.out.1.cells
    go_wp2
    go_ret
    exact ⟨by rw [HV.out]; rfl, HH.out.2⟩
  have t0 : (s.rn.base == s.rn.en) = true := by simpa using h0
  by_cases h1 : s.sent = s.rn.en
  rotate_left
  · have HV := LH (decide_eq_false (p := s.rn.base = s.rn.en ∧ s.sent = s.rn.en ∧ s.fin = s.rn.en ∧ s.fi = 0) (fun k => h1 k.2.1))
    have t1 : (s.sent == s.rn.en) = false := by simpa using h1
    clear h0 h1
    go_enter Tryz.func75, Tryz.ntmps75
    obtain ⟨a0, a1, a2, a3, a4, a5, a6, a7, a8, a9, a10, a11⟩ := HH.out.1.cells
    go_wp2
    go_ret
    exact ⟨by rw [HV.out]; rfl, HH.out.2⟩
  have t1 : (s.sent == s.rn.en) = true := by simpa using h1
  by_cases h2 : s.fin = s.rn.en
  rotate_left
  · have HV := LH (decide_eq_false (p := s.rn.base = s.rn.en ∧ s.sent = s.rn.en ∧ s.fin = s.rn.en ∧ s.fi = 0) (fun k => h2 k.2.2.1))
    have t2 : (s.fin == s.rn.en) = false := by simpa using h2
    clear h0 h1 h2
    go_enter Tryz.func75, Tryz.ntmps75
    obtain ⟨a0, a1, a2, a3, a4, a5, a6, a7, a8, a9, a10, a11⟩ := HH.out.1.cells
    go_wp2
    go_ret
    exact ⟨by rw [HV.out]; rfl, HH.out.2⟩
  have t2 : (s.fin == s.rn.en) = true := by simpa using h2
  by_cases h3 : s.fi = 0
  rotate_left
  · have HV := LH (decide_eq_false (p := s.rn.base = s.rn.en ∧ s.sent = s.rn.en ∧ s.fin = s.rn.en ∧ s.fi = 0) (fun k => h3 k.2.2.2))
    have t3 : (s.fi == 0) = false := by simpa using h3
    clear h0 h1 h2 h3
    go_enter Tryz.func75, Tryz.ntmps75
    obtain ⟨a0, a1, a2, a3, a4, a5, a6, a7, a8, a9, a10, a11⟩ := HH.out.1.cells
    go_wp2
    go_ret
    exact ⟨by rw [HV.out]; rfl, HH.out.2⟩
  have t3 : (s.fi == 0) = true := by simpa using h3
  have HV := LH (decide_eq_true (p := s.rn.base = s.rn.en ∧ s.sent = s.rn.en ∧ s.fin = s.rn.en ∧ s.fi = 0) ⟨h0, h1, h2, h3⟩)
  clear h0 h1 h2 h3
  go_enter Tryz.func75, Tryz.ntmps75
  obtain ⟨a0, a1, a2, a3, a4, a5, a6, a7, a8, a9, a10, a11⟩ := HH.out.1.cells
  go_wp2
  go_ret
  exact ⟨by rw [HV.out]; rfl, HH.out.2⟩
theorem iagf (s : Sn) (v1 v2 v3 v4 : Value) (w : World) (hfi : 0 ≤ s.fi ∧ s.fi ≤ 3) :
    Calls Tryz.prog 78 #[snV s v1 v2 v3 v4] w fun e w' => e = .returned (.bool (decide (afnS s))) ∧ Below w.heap.size w w' := by
  have HH := LH (InBS.start w s v1 v2 v3 v4)
  have HST : Hid (∀ W, InBS w s v1 v2 v3 v4 W → Calls Tryz.prog 103 #[snV s v1 v2 v3 v4] W fun e w' => e = .returned (.int .i64 (folS s)) ∧ Below W.heap.size W w') := LH fun W _ => istateS s v1 v2 v3 v4 W hfi
  have HAF : Hid (afnS s ↔ s.fin = (if s.fi = 0 then -1 else s.rn.en) ∧ s.st = folS s) := LH Iff.rfl
  clear hfi
  generalize folS s = f0 at *
  by_cases h0 : s.fi = 0
  · have d0 : (s.fi == 0) = true := by simpa using h0
    rw [if_pos h0] at HAF
    clear h0
    by_cases h5 : s.fin = -1
    · have d5 : (s.fin == -1) = true := by simpa using h5
      have HV : Hid (decide (afnS s) = (s.st == f0)) := LH (by
        rw [show (s.st == f0) = decide (s.st = f0) from rfl]
        exact decide_eq_decide.2 (HAF.out.trans ⟨fun k => k.2, fun k => ⟨h5, k⟩⟩))
      rw [HV.out]
      clear h5 HAF HV
      go_enter Tryz.func78, Tryz.ntmps78
      obtain ⟨a0, a1, a2, a3, a4, a5, a6, a7, a8, a9, a10, a11⟩ := HH.out.1.cells
      go_upto_region 4 with fail
      have HH := LH HH.out.drew
      refine wp_region_held_drew (S := (InBS w s v1 v2 v3 v4)) (by kernel_rfl) HH.out (fun hHeld => ?_)
      refine tK 0 (v := ?_) rfl hHeld ?_ ?_
      rotate_left
      · (intro wx hSx; obtain ⟨⟨a0, a1, a2, a3, a4, a5, a6, a7, a8, a9, a10, a11⟩, _⟩ : _ ∧ True := ⟨hSx.1.cells, trivial⟩; go_simp; (try with_reducible rfl))
      (try simp only [Act.put, zA, zC, zD, zE, zF])
      refine tK 1 (v := ?_) rfl hHeld ?_ ?_
      rotate_left
      · (intro wx hSx; obtain ⟨⟨a0, a1, a2, a3, a4, a5, a6, a7, a8, a9, a10, a11⟩, _⟩ : _ ∧ True := ⟨hSx.1.cells, trivial⟩; go_simp; (try with_reducible rfl))
      (try simp only [Act.put, zA, zB, zC, zD, zE, zF])
      refine tK 2 (v := ?_) rfl hHeld ?_ ?_
      rotate_left
      · (intro wx hSx; obtain ⟨⟨a0, a1, a2, a3, a4, a5, a6, a7, a8, a9, a10, a11⟩, _⟩ : _ ∧ True := ⟨hSx.1.cells, trivial⟩; go_simp; (try with_reducible rfl))
      (try simp only [Act.put, zA, zB, zC, zD, zE, zF])
      refine tK 3 (v := ?_) rfl hHeld ?_ ?_
      rotate_left
      · (intro wx hSx; obtain ⟨⟨a0, a1, a2, a3, a4, a5, a6, a7, a8, a9, a10, a11⟩, _⟩ : _ ∧ True := ⟨hSx.1.cells, trivial⟩; go_simp; (try with_reducible rfl))
      (try simp only [Act.put, zA, zB, zC, zD, zE, zF])
      refine tK 4 (v := ?_) rfl hHeld ?_ ?_
      rotate_left
      · (intro wx hSx; obtain ⟨⟨a0, a1, a2, a3, a4, a5, a6, a7, a8, a9, a10, a11⟩, _⟩ : _ ∧ True := ⟨hSx.1.cells, trivial⟩; go_simp; (try with_reducible rfl))
      (try simp only [Act.put, zA, zB, zC, zD, zE, zF])
      refine tK 5 (v := ?_) rfl hHeld ?_ ?_
      rotate_left
      · (intro wx hSx; obtain ⟨⟨a0, a1, a2, a3, a4, a5, a6, a7, a8, a9, a10, a11⟩, _⟩ : _ ∧ True := ⟨hSx.1.cells, trivial⟩; go_simp; (try with_reducible rfl))
      (try simp only [Act.put, zA, zB, zC, zD, zE, zF])
      refine tK 6 (v := ?_) rfl hHeld ?_ ?_
      rotate_left
      · (intro wx hSx; obtain ⟨⟨a0, a1, a2, a3, a4, a5, a6, a7, a8, a9, a10, a11⟩, _⟩ : _ ∧ True := ⟨hSx.1.cells, trivial⟩; go_simp; (try with_reducible rfl))
      (try simp only [Act.put, zA, zB, zC, zD, zE, zF])
      refine tK 7 (v := ?_) rfl hHeld ?_ ?_
      rotate_left
      · (intro wx hSx; obtain ⟨⟨a0, a1, a2, a3, a4, a5, a6, a7, a8, a9, a10, a11⟩, _⟩ : _ ∧ True := ⟨hSx.1.cells, trivial⟩; go_simp; (try with_reducible rfl))
      (try simp only [Act.put, zA, zB, zC, zD, zE, zF])
      refine wpAnyH_ready (rs := [8]) (by kernel_rfl) (by simp) ?_
      refine AllReadyH.cons rfl (fun K hK => ?_) AllReadyH.nil
      rw [if_pos (by rfl)]
      go_simp
      refine (HST.out _ HH.out).mono ?_
      rintro e w1 ⟨rfl, hb1⟩
      have HH := LH (HH.out.next hb1)
      (try simp only [])
      refine hK.out _ _ HH.out (fun hHeld => ?_)
      clear hb1
      clear hK K
      (try simp only [Act.put, zA, zB, zC, zD, zE, zF])
      refine tK 9 (v := ?_) rfl hHeld ?_ ?_
      rotate_left
      · (intro wx hSx; obtain ⟨⟨a0, a1, a2, a3, a4, a5, a6, a7, a8, a9, a10, a11⟩, _⟩ : _ ∧ True := ⟨hSx.1.cells, trivial⟩; go_simp; (try with_reducible rfl))
      (try simp only [Act.put, zA, zB, zC, zD, zE, zF])
      refine tK 10 (v := ?_) rfl hHeld ?_ ?_
      rotate_left
      · (intro wx hSx; obtain ⟨⟨a0, a1, a2, a3, a4, a5, a6, a7, a8, a9, a10, a11⟩, _⟩ : _ ∧ True := ⟨hSx.1.cells, trivial⟩; go_simp; (try with_reducible rfl))
      (try simp only [Act.put, zA, zB, zC, zD, zE, zF])
      refine tK 11 (v := ?_) rfl hHeld ?_ ?_
      rotate_left
      · (intro wx hSx; obtain ⟨⟨a0, a1, a2, a3, a4, a5, a6, a7, a8, a9, a10, a11⟩, _⟩ : _ ∧ True := ⟨hSx.1.cells, trivial⟩; go_simp; (try with_reducible rfl))
      (try simp only [Act.put, zA, zB, zC, zD, zE, zF])
      refine wpAnyH_done (by kernel_rfl) ?_ _
      clear hHeld
      go_wp2
      go_ret
      exact ⟨rfl, HH.out.2⟩
    · have d5 : (s.fin == -1) = false := by simpa using h5
      have HV : Hid (decide (afnS s) = false) := LH (decide_eq_false fun k => h5 (HAF.out.1 k).1)
      rw [HV.out]
      clear h5 HAF HV
      go_enter Tryz.func78, Tryz.ntmps78
      obtain ⟨a0, a1, a2, a3, a4, a5, a6, a7, a8, a9, a10, a11⟩ := HH.out.1.cells
      go_upto_region 4 with fail
      have HH := LH HH.out.drew
      refine wp_region_held_drew (S := (InBS w s v1 v2 v3 v4)) (by kernel_rfl) HH.out (fun hHeld => ?_)
      refine tK 0 (v := ?_) rfl hHeld ?_ ?_
      rotate_left
      · (intro wx hSx; obtain ⟨⟨a0, a1, a2, a3, a4, a5, a6, a7, a8, a9, a10, a11⟩, _⟩ : _ ∧ True := ⟨hSx.1.cells, trivial⟩; go_simp; (try with_reducible rfl))
      (try simp only [Act.put, zA, zC, zD, zE, zF])
      refine tK 1 (v := ?_) rfl hHeld ?_ ?_
      rotate_left
      · (intro wx hSx; obtain ⟨⟨a0, a1, a2, a3, a4, a5, a6, a7, a8, a9, a10, a11⟩, _⟩ : _ ∧ True := ⟨hSx.1.cells, trivial⟩; go_simp; (try with_reducible rfl))
      (try simp only [Act.put, zA, zB, zC, zD, zE, zF])
      refine tK 2 (v := ?_) rfl hHeld ?_ ?_
      rotate_left
      · (intro wx hSx; obtain ⟨⟨a0, a1, a2, a3, a4, a5, a6, a7, a8, a9, a10, a11⟩, _⟩ : _ ∧ True := ⟨hSx.1.cells, trivial⟩; go_simp; (try with_reducible rfl))
      (try simp only [Act.put, zA, zB, zC, zD, zE, zF])
      refine tK 3 (v := ?_) rfl hHeld ?_ ?_
      rotate_left
      · (intro wx hSx; obtain ⟨⟨a0, a1, a2, a3, a4, a5, a6, a7, a8, a9, a10, a11⟩, _⟩ : _ ∧ True := ⟨hSx.1.cells, trivial⟩; go_simp; (try with_reducible rfl))
      (try simp only [Act.put, zA, zB, zC, zD, zE, zF])
      refine tK 4 (v := ?_) rfl hHeld ?_ ?_
      rotate_left
      · (intro wx hSx; obtain ⟨⟨a0, a1, a2, a3, a4, a5, a6, a7, a8, a9, a10, a11⟩, _⟩ : _ ∧ True := ⟨hSx.1.cells, trivial⟩; go_simp; (try with_reducible rfl))
      (try simp only [Act.put, zA, zB, zC, zD, zE, zF])
      refine tN 5 rfl hHeld ?_
      (try simp only [Act.put, zA, zB, zC, zD, zE, zF])
      refine tN 6 rfl hHeld ?_
      (try simp only [Act.put, zA, zB, zC, zD, zE, zF])
      refine tN 7 rfl hHeld ?_
      (try simp only [Act.put, zA, zB, zC, zD, zE, zF])
      refine tN 8 rfl hHeld ?_
      (try simp only [Act.put, zA, zB, zC, zD, zE, zF])
      refine tN 9 rfl hHeld ?_
      (try simp only [Act.put, zA, zB, zC, zD, zE, zF])
      refine tK 10 (v := ?_) rfl hHeld ?_ ?_
      rotate_left
      · (intro wx hSx; obtain ⟨⟨a0, a1, a2, a3, a4, a5, a6, a7, a8, a9, a10, a11⟩, _⟩ : _ ∧ True := ⟨hSx.1.cells, trivial⟩; go_simp; (try with_reducible rfl))
      (try simp only [Act.put, zA, zB, zC, zD, zE, zF])
      refine tK 11 (v := ?_) rfl hHeld ?_ ?_
      rotate_left
      · (intro wx hSx; obtain ⟨⟨a0, a1, a2, a3, a4, a5, a6, a7, a8, a9, a10, a11⟩, _⟩ : _ ∧ True := ⟨hSx.1.cells, trivial⟩; go_simp; (try with_reducible rfl))
      (try simp only [Act.put, zA, zB, zC, zD, zE, zF])
      refine wpAnyH_done (by kernel_rfl) ?_ _
      clear hHeld
      go_wp2
      go_ret
      exact ⟨rfl, HH.out.2⟩
  · have d0 : (s.fi == 0) = false := by simpa using h0
    rw [if_neg h0] at HAF
    clear h0
    by_cases h5 : s.fin = s.rn.en
    · have d5 : (s.fin == s.rn.en) = true := by simpa using h5
      have HV : Hid (decide (afnS s) = (s.st == f0)) := LH (by
        rw [show (s.st == f0) = decide (s.st = f0) from rfl]
        exact decide_eq_decide.2 (HAF.out.trans ⟨fun k => k.2, fun k => ⟨h5, k⟩⟩))
      rw [HV.out]
      clear h5 HAF HV
      go_enter Tryz.func78, Tryz.ntmps78
      obtain ⟨a0, a1, a2, a3, a4, a5, a6, a7, a8, a9, a10, a11⟩ := HH.out.1.cells
      go_upto_region 4 with fail
      have HH := LH HH.out.drew
      refine wp_region_held_drew (S := (InBS w s v1 v2 v3 v4)) (by kernel_rfl) HH.out (fun hHeld => ?_)
      refine tK 0 (v := ?_) rfl hHeld ?_ ?_
      rotate_left
      · (intro wx hSx; obtain ⟨⟨a0, a1, a2, a3, a4, a5, a6, a7, a8, a9, a10, a11⟩, _⟩ : _ ∧ True := ⟨hSx.1.cells, trivial⟩; go_simp; (try with_reducible rfl))
      (try simp only [Act.put, zA, zC, zD, zE, zF])
      refine tK 1 (v := ?_) rfl hHeld ?_ ?_
      rotate_left
      · (intro wx hSx; obtain ⟨⟨a0, a1, a2, a3, a4, a5, a6, a7, a8, a9, a10, a11⟩, _⟩ : _ ∧ True := ⟨hSx.1.cells, trivial⟩; go_simp; (try with_reducible rfl))
      (try simp only [Act.put, zA, zB, zC, zD, zE, zF])
      refine tK 2 (v := ?_) rfl hHeld ?_ ?_
      rotate_left
      · (intro wx hSx; obtain ⟨⟨a0, a1, a2, a3, a4, a5, a6, a7, a8, a9, a10, a11⟩, _⟩ : _ ∧ True := ⟨hSx.1.cells, trivial⟩; go_simp; (try with_reducible rfl))
      (try simp only [Act.put, zA, zB, zC, zD, zE, zF])
      refine tK 3 (v := ?_) rfl hHeld ?_ ?_
      rotate_left
      · (intro wx hSx; obtain ⟨⟨a0, a1, a2, a3, a4, a5, a6, a7, a8, a9, a10, a11⟩, _⟩ : _ ∧ True := ⟨hSx.1.cells, trivial⟩; go_simp; (try with_reducible rfl))
      (try simp only [Act.put, zA, zB, zC, zD, zE, zF])
      refine tK 4 (v := ?_) rfl hHeld ?_ ?_
      rotate_left
      · (intro wx hSx; obtain ⟨⟨a0, a1, a2, a3, a4, a5, a6, a7, a8, a9, a10, a11⟩, _⟩ : _ ∧ True := ⟨hSx.1.cells, trivial⟩; go_simp; (try with_reducible rfl))
      (try simp only [Act.put, zA, zB, zC, zD, zE, zF])
      refine tK 5 (v := ?_) rfl hHeld ?_ ?_
      rotate_left
      · (intro wx hSx; obtain ⟨⟨a0, a1, a2, a3, a4, a5, a6, a7, a8, a9, a10, a11⟩, _⟩ : _ ∧ True := ⟨hSx.1.cells, trivial⟩; go_simp; (try with_reducible rfl))
      (try simp only [Act.put, zA, zB, zC, zD, zE, zF])
      refine tK 6 (v := ?_) rfl hHeld ?_ ?_
      rotate_left
      · (intro wx hSx; obtain ⟨⟨a0, a1, a2, a3, a4, a5, a6, a7, a8, a9, a10, a11⟩, _⟩ : _ ∧ True := ⟨hSx.1.cells, trivial⟩; go_simp; (try with_reducible rfl))
      (try simp only [Act.put, zA, zB, zC, zD, zE, zF])
      refine tK 7 (v := ?_) rfl hHeld ?_ ?_
      rotate_left
      · (intro wx hSx; obtain ⟨⟨a0, a1, a2, a3, a4, a5, a6, a7, a8, a9, a10, a11⟩, _⟩ : _ ∧ True := ⟨hSx.1.cells, trivial⟩; go_simp; (try with_reducible rfl))
      (try simp only [Act.put, zA, zB, zC, zD, zE, zF])
      refine wpAnyH_ready (rs := [8]) (by kernel_rfl) (by simp) ?_
      refine AllReadyH.cons rfl (fun K hK => ?_) AllReadyH.nil
      rw [if_pos (by rfl)]
      go_simp
      refine (HST.out _ HH.out).mono ?_
      rintro e w1 ⟨rfl, hb1⟩
      have HH := LH (HH.out.next hb1)
      (try simp only [])
      refine hK.out _ _ HH.out (fun hHeld => ?_)
      clear hb1
      clear hK K
      (try simp only [Act.put, zA, zB, zC, zD, zE, zF])
      refine tK 9 (v := ?_) rfl hHeld ?_ ?_
      rotate_left
      · (intro wx hSx; obtain ⟨⟨a0, a1, a2, a3, a4, a5, a6, a7, a8, a9, a10, a11⟩, _⟩ : _ ∧ True := ⟨hSx.1.cells, trivial⟩; go_simp; (try with_reducible rfl))
      (try simp only [Act.put, zA, zB, zC, zD, zE, zF])
      refine tK 10 (v := ?_) rfl hHeld ?_ ?_
      rotate_left
      · (intro wx hSx; obtain ⟨⟨a0, a1, a2, a3, a4, a5, a6, a7, a8, a9, a10, a11⟩, _⟩ : _ ∧ True := ⟨hSx.1.cells, trivial⟩; go_simp; (try with_reducible rfl))
      (try simp only [Act.put, zA, zB, zC, zD, zE, zF])
      refine tK 11 (v := ?_) rfl hHeld ?_ ?_
      rotate_left
      · (intro wx hSx; obtain ⟨⟨a0, a1, a2, a3, a4, a5, a6, a7, a8, a9, a10, a11⟩, _⟩ : _ ∧ True := ⟨hSx.1.cells, trivial⟩; go_simp; (try with_reducible rfl))
      (try simp only [Act.put, zA, zB, zC, zD, zE, zF])
      refine wpAnyH_done (by kernel_rfl) ?_ _
      clear hHeld
      go_wp2
      go_ret
      exact ⟨rfl, HH.out.2⟩
    · have d5 : (s.fin == s.rn.en) = false := by simpa using h5
      have HV : Hid (decide (afnS s) = false) := LH (decide_eq_false fun k => h5 (HAF.out.1 k).1)
      rw [HV.out]
      clear h5 HAF HV
      go_enter Tryz.func78, Tryz.ntmps78
      obtain ⟨a0, a1, a2, a3, a4, a5, a6, a7, a8, a9, a10, a11⟩ := HH.out.1.cells
      go_upto_region 4 with fail
      have HH := LH HH.out.drew
      refine wp_region_held_drew (S := (InBS w s v1 v2 v3 v4)) (by kernel_rfl) HH.out (fun hHeld => ?_)
      refine tK 0 (v := ?_) rfl hHeld ?_ ?_
      rotate_left
      · (intro wx hSx; obtain ⟨⟨a0, a1, a2, a3, a4, a5, a6, a7, a8, a9, a10, a11⟩, _⟩ : _ ∧ True := ⟨hSx.1.cells, trivial⟩; go_simp; (try with_reducible rfl))
      (try simp only [Act.put, zA, zC, zD, zE, zF])
      refine tK 1 (v := ?_) rfl hHeld ?_ ?_
      rotate_left
      · (intro wx hSx; obtain ⟨⟨a0, a1, a2, a3, a4, a5, a6, a7, a8, a9, a10, a11⟩, _⟩ : _ ∧ True := ⟨hSx.1.cells, trivial⟩; go_simp; (try with_reducible rfl))
      (try simp only [Act.put, zA, zB, zC, zD, zE, zF])
      refine tK 2 (v := ?_) rfl hHeld ?_ ?_
      rotate_left
      · (intro wx hSx; obtain ⟨⟨a0, a1, a2, a3, a4, a5, a6, a7, a8, a9, a10, a11⟩, _⟩ : _ ∧ True := ⟨hSx.1.cells, trivial⟩; go_simp; (try with_reducible rfl))
      (try simp only [Act.put, zA, zB, zC, zD, zE, zF])
      refine tK 3 (v := ?_) rfl hHeld ?_ ?_
      rotate_left
      · (intro wx hSx; obtain ⟨⟨a0, a1, a2, a3, a4, a5, a6, a7, a8, a9, a10, a11⟩, _⟩ : _ ∧ True := ⟨hSx.1.cells, trivial⟩; go_simp; (try with_reducible rfl))
      (try simp only [Act.put, zA, zB, zC, zD, zE, zF])
      refine tK 4 (v := ?_) rfl hHeld ?_ ?_
      rotate_left
      · (intro wx hSx; obtain ⟨⟨a0, a1, a2, a3, a4, a5, a6, a7, a8, a9, a10, a11⟩, _⟩ : _ ∧ True := ⟨hSx.1.cells, trivial⟩; go_simp; (try with_reducible rfl))
      (try simp only [Act.put, zA, zB, zC, zD, zE, zF])
      refine tN 5 rfl hHeld ?_
      (try simp only [Act.put, zA, zB, zC, zD, zE, zF])
      refine tN 6 rfl hHeld ?_
      (try simp only [Act.put, zA, zB, zC, zD, zE, zF])
      refine tN 7 rfl hHeld ?_
      (try simp only [Act.put, zA, zB, zC, zD, zE, zF])
      refine tN 8 rfl hHeld ?_
      (try simp only [Act.put, zA, zB, zC, zD, zE, zF])
      refine tN 9 rfl hHeld ?_
      (try simp only [Act.put, zA, zB, zC, zD, zE, zF])
      refine tK 10 (v := ?_) rfl hHeld ?_ ?_
      rotate_left
      · (intro wx hSx; obtain ⟨⟨a0, a1, a2, a3, a4, a5, a6, a7, a8, a9, a10, a11⟩, _⟩ : _ ∧ True := ⟨hSx.1.cells, trivial⟩; go_simp; (try with_reducible rfl))
      (try simp only [Act.put, zA, zB, zC, zD, zE, zF])
      refine tK 11 (v := ?_) rfl hHeld ?_ ?_
      rotate_left
      · (intro wx hSx; obtain ⟨⟨a0, a1, a2, a3, a4, a5, a6, a7, a8, a9, a10, a11⟩, _⟩ : _ ∧ True := ⟨hSx.1.cells, trivial⟩; go_simp; (try with_reducible rfl))
      (try simp only [Act.put, zA, zB, zC, zD, zE, zF])
      refine wpAnyH_done (by kernel_rfl) ?_ _
      clear hHeld
      go_wp2
      go_ret
      exact ⟨rfl, HH.out.2⟩
end Go.Proofs.YtdaoaedkjoknmaaGreat
