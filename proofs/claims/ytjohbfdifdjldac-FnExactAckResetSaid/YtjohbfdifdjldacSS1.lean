/-
  What spec.l9State returns.
-/
import Derived.Test.YtjohbfdifdjldacSnK
namespace Go.Proofs.Ytjohbfdifdjldac
open Go.RowKit Go.Deep Go.Proofs.Ytjohbfdifdjldac.Num

set_option maxRecDepth 100000 in
set_option maxHeartbeats 1000000 in
/-- spec.l9State -/
theorem sfol (s : Sn) (v1 v2 v3 v4 : Value) (w : World) :
    Calls Try.prog 31 #[snV s v1 v2 v3 v4] w fun e w' => e = .returned (.int .i64 (folS s)) ∧ Below w.heap.size w w' := by
  have X := Lib.hid (Cell12.new w s.st s.rn.size s.rn.base s.rn.en v1 v2 v3 v4 s.fin s.fi s.sent s.code 35)
  have HB := Lib.hid ((Below.refl w.heap.size w).alloc (Nat.le_refl _) (.cells (snB s v1 v2 v3 v4) 35))
  by_cases h1 : s.fi = 3
  · skip
    by_cases h2 : s.rn.base = s.rn.en
    · skip
      have HV : Hid (folS s = 3) := Lib.hid (by unfold folS; (repeat' split) <;> omega)
      have t1 : (s.fi == 3) = true := by simpa using h1
      have t2 : (s.rn.base == s.rn.en) = true := by simpa using h2
      clear h1 h2
      go_enter Try.func31, Try.ntmps31
      obtain ⟨a0, a1, a2, a3, a4, a5, a6, a7, a8, a9, a10, a11⟩ := X.out
      go_wp2
      go_ret
      exact ⟨by rw [HV.out]; rfl, HB.out⟩
    · skip
      have h3 : 1 < s.fi := by omega
      have HV : Hid (folS s = 2) := Lib.hid (by unfold folS; (repeat' split) <;> omega)
      have t1 : (s.fi == 3) = true := by simpa using h1
      have t2 : (s.rn.base == s.rn.en) = false := by simpa using h2
      have t3 : decide (1 < s.fi) = true := decide_eq_true h3
      clear h1 h2 h3
      go_enter Try.func31, Try.ntmps31
      obtain ⟨a0, a1, a2, a3, a4, a5, a6, a7, a8, a9, a10, a11⟩ := X.out
      go_wp2
      go_ret
      exact ⟨by rw [HV.out]; rfl, HB.out⟩
  · skip
    by_cases h3 : 1 < s.fi
    · skip
      have HV : Hid (folS s = 2) := Lib.hid (by unfold folS; (repeat' split) <;> omega)
      have t1 : (s.fi == 3) = false := by simpa using h1
      have t3 : decide (1 < s.fi) = true := decide_eq_true h3
      clear h1 h3
      go_enter Try.func31, Try.ntmps31
      obtain ⟨a0, a1, a2, a3, a4, a5, a6, a7, a8, a9, a10, a11⟩ := X.out
      go_wp2
      go_ret
      exact ⟨by rw [HV.out]; rfl, HB.out⟩
    · skip
      by_cases h4 : s.fi = 1
      · skip
        by_cases h5 : s.st = 2
        · skip
          have HV : Hid (folS s = 2) := Lib.hid (by unfold folS; (repeat' split) <;> omega)
          have t1 : (s.fi == 3) = false := by simpa using h1
          have t3 : decide (1 < s.fi) = false := decide_eq_false h3
          have t4 : (s.fi == 1) = true := by simpa using h4
          have t5 : (s.st == 2) = true := by simpa using h5
          clear h1 h3 h4 h5
          go_enter Try.func31, Try.ntmps31
          obtain ⟨a0, a1, a2, a3, a4, a5, a6, a7, a8, a9, a10, a11⟩ := X.out
          go_wp2
          go_ret
          exact ⟨by rw [HV.out]; rfl, HB.out⟩
        · skip
          by_cases h6 : 0 < s.sent
          · skip
            have HV : Hid (folS s = 1) := Lib.hid (by unfold folS; (repeat' split) <;> omega)
            have t1 : (s.fi == 3) = false := by simpa using h1
            have t3 : decide (1 < s.fi) = false := decide_eq_false h3
            have t4 : (s.fi == 1) = true := by simpa using h4
            have t5 : (s.st == 2) = false := by simpa using h5
            have t6 : decide (0 < s.sent) = true := decide_eq_true h6
            clear h1 h3 h4 h5 h6
            go_enter Try.func31, Try.ntmps31
            obtain ⟨a0, a1, a2, a3, a4, a5, a6, a7, a8, a9, a10, a11⟩ := X.out
            go_wp2
            go_ret
            exact ⟨by rw [HV.out]; rfl, HB.out⟩
          · skip
            by_cases h7 : s.st = 1
            · skip
              have HV : Hid (folS s = 1) := Lib.hid (by unfold folS; (repeat' split) <;> omega)
              have t1 : (s.fi == 3) = false := by simpa using h1
              have t3 : decide (1 < s.fi) = false := decide_eq_false h3
              have t4 : (s.fi == 1) = true := by simpa using h4
              have t5 : (s.st == 2) = false := by simpa using h5
              have t6 : decide (0 < s.sent) = false := decide_eq_false h6
              have t7 : (s.st == 1) = true := by simpa using h7
              clear h1 h3 h4 h5 h6 h7
              go_enter Try.func31, Try.ntmps31
              obtain ⟨a0, a1, a2, a3, a4, a5, a6, a7, a8, a9, a10, a11⟩ := X.out
              go_wp2
              go_ret
              exact ⟨by rw [HV.out]; rfl, HB.out⟩
            · skip
              have HV : Hid (folS s = 0) := Lib.hid (by unfold folS; (repeat' split) <;> omega)
              have t1 : (s.fi == 3) = false := by simpa using h1
              have t3 : decide (1 < s.fi) = false := decide_eq_false h3
              have t4 : (s.fi == 1) = true := by simpa using h4
              have t5 : (s.st == 2) = false := by simpa using h5
              have t6 : decide (0 < s.sent) = false := decide_eq_false h6
              have t7 : (s.st == 1) = false := by simpa using h7
              clear h1 h3 h4 h5 h6 h7
              go_enter Try.func31, Try.ntmps31
              obtain ⟨a0, a1, a2, a3, a4, a5, a6, a7, a8, a9, a10, a11⟩ := X.out
              go_wp2
              go_ret
              exact ⟨by rw [HV.out]; rfl, HB.out⟩
      · skip
        by_cases h6 : 0 < s.sent
        · skip
          have HV : Hid (folS s = 1) := Lib.hid (by unfold folS; (repeat' split) <;> omega)
          have t1 : (s.fi == 3) = false := by simpa using h1
          have t3 : decide (1 < s.fi) = false := decide_eq_false h3
          have t4 : (s.fi == 1) = false := by simpa using h4
          have t6 : decide (0 < s.sent) = true := decide_eq_true h6
          clear h1 h3 h4 h6
          go_enter Try.func31, Try.ntmps31
          obtain ⟨a0, a1, a2, a3, a4, a5, a6, a7, a8, a9, a10, a11⟩ := X.out
          go_wp2
          go_ret
          exact ⟨by rw [HV.out]; rfl, HB.out⟩
        · skip
          have HV : Hid (folS s = 0) := Lib.hid (by unfold folS; (repeat' split) <;> omega)
          have t1 : (s.fi == 3) = false := by simpa using h1
          have t3 : decide (1 < s.fi) = false := decide_eq_false h3
          have t4 : (s.fi == 1) = false := by simpa using h4
          have t6 : decide (0 < s.sent) = false := decide_eq_false h6
          clear h1 h3 h4 h6
          go_enter Try.func31, Try.ntmps31
          obtain ⟨a0, a1, a2, a3, a4, a5, a6, a7, a8, a9, a10, a11⟩ := X.out
          go_wp2
          go_ret
          exact ⟨by rw [HV.out]; rfl, HB.out⟩

end Go.Proofs.Ytjohbfdifdjldac
