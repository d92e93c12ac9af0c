/-
  What spec.NewSender returns.
-/
import Derived.Test.YtjohbfdifdjldaaSnK
import Derived.Test.YtjohbfdifdjldaaSnN4
import Derived.Test.YtjohbfdifdjldaaSRn2
namespace Go.Proofs.Ytjohbfdifdjldaa
open Go.RowKit Go.Deep Go.Proofs.Ytjohbfdifdjldaa.Num

set_option maxRecDepth 100000 in
set_option maxHeartbeats 4000000 in
/-- spec.NewSender -/
theorem snewS (n : Int) (w : World) :
    Calls Try.prog 5 #[.int .i64 n] w fun e w' => ∃ v1 v2 v3 v4, e = .returned (.tuple #[snV (nwS n) v1 v2 v3 v4, .bool (decide (powR n))]) ∧ OwnSn w' w.heap.size v1 v2 v3 v4 (nwS n) ∧ Below w.heap.size w w' := by
  have X0 := RowS.new w zeroS (.slice none 0 0) (.slice none 0 0) (.slice none 0 0) (.slice none 0 0)
  have HX : Hid (RowS (w.alloc (.cells (snC 0 0 0 0 (.slice none 0 0) (.slice none 0 0) (.slice none 0 0) (.slice none 0 0) 0 0 0 0) 27)) w.heap.size zeroS (.slice none 0 0) (.slice none 0 0) (.slice none 0 0) (.slice none 0 0)) := Lib.hid X0
  have HB : Hid (Below w.heap.size w (w.alloc (.cells (snC 0 0 0 0 (.slice none 0 0) (.slice none 0 0) (.slice none 0 0) (.slice none 0 0) 0 0 0 0) 27))) := Lib.hid ((Below.refl _ _).alloc (Nat.le_refl _) _)
  have HZ : Hid ((w.alloc (.cells (snC 0 0 0 0 (.slice none 0 0) (.slice none 0 0) (.slice none 0 0) (.slice none 0 0) 0 0 0 0) 27)).heap.size = w.heap.size + 1) := Lib.hid (by simp)
  have HNR := Lib.hid fun W => snewrn n W
  clear X0
  have HE4 : Hid (∀ (W : World) (v : Value) (l : List Int) (K : Nat), OwnK W K v l → OwnS W K v (.slice none 0 0) (.slice none 0 0) (.slice none 0 0) l [] [] []) := Lib.hid fun W v l K h => ⟨⟨h, OwnP.empty, OwnP.empty, OwnP.empty⟩, ⟨Apart.symm (.inl rfl), Apart.symm (.inl rfl), Apart.symm (.inl rfl)⟩, ⟨.inl rfl, .inl rfl⟩, .inl rfl⟩
  by_cases hp : powR n
  · skip
    rw [show nwS n = ⟨0, nwR n, [], [], [], -1, 0, 0, 0⟩ from if_pos hp, decide_eq_true hp]
    rw [decide_eq_true hp] at HNR
    generalize nwR n = R at *
    clear hp
    go_enter Try.func5, Try.ntmps5
    go_upto_region 1 with fail
    generalize w.alloc (.cells (snC 0 0 0 0 (.slice none 0 0) (.slice none 0 0) (.slice none 0 0) (.slice none 0 0) 0 0 0 0) 27) = w1 at *
    go_wp2_with fail
    refine (HNR.out _).mono ?_
    rintro e w2 ⟨v, rfl, ho, hb⟩
    obtain ⟨A9, d9, rfl, _, _⟩ := ho.frs
    have HX2 := Lib.hid (HX.out.below hb (by have := HZ.out; omega))
    have HB2 := Lib.hid (HB.out.trans (hb.mono HB.out.size))
    have HO2 := Lib.hid (ho.weaken (Nat.le_of_eq HZ.out.symm))
    clear ho hb
    go_upto_region 2 with fail
    have HN := Lib.hid (BoxN.new w2 R.size R.base R.en (.slice A9 R.cs.length d9))
    have HX3 := Lib.hid (HX2.out.alloc (.cells (rnC R.size R.base R.en (.slice A9 R.cs.length d9)) 24))
    have HB3 := Lib.hid (HB2.out.alloc HB2.out.size (.cells (rnC R.size R.base R.en (.slice A9 R.cs.length d9)) 24))
    have HO3 := Lib.hid (HO2.out.alloc (.cells (rnC R.size R.base R.en (.slice A9 R.cs.length d9)) 24))
    generalize w2.alloc (.cells (rnC R.size R.base R.en (.slice A9 R.cs.length d9)) 24) = w3 at *
    generalize w2.heap.size = gr at *
    clear HX HX2 HB HB2 HO2 HNR
    obtain ⟨y0, y1, y2, y3⟩ := HN.out.cells
    obtain ⟨q0, q1, q2, q3, q4, q5, q6, q7, q8, q9, q10, q11⟩ := HX3.out.cells
    have qf := HX3.out.free
    go_wp2
    have X := laidS_row HX3.out (⟨0, R, [], [], [], -1, 0, 0, 0⟩ : Sn) (.slice A9 R.cs.length d9) (.slice none 0 0) (.slice none 0 0) (.slice none 0 0)
    have Y := laidS_own (HE4.out _ _ _ _ HO3.out) (Nat.lt_succ_self _) (⟨0, R, [], [], [], -1, 0, 0, 0⟩ : Sn) (.slice A9 R.cs.length d9) (.slice none 0 0) (.slice none 0 0) (.slice none 0 0)
    have Z := laidS_below HB3.out (Nat.le_refl _) (⟨0, R, [], [], [], -1, 0, 0, 0⟩ : Sn) (.slice A9 R.cs.length d9) (.slice none 0 0) (.slice none 0 0) (.slice none 0 0)
    refine bodyPost_ret (results_ct rfl _ _ w.heap.size _ _ _ _ rfl X Try.underlying27 rfl (by kernel_rfl)) rfl ?_
    exact ⟨_, _, _, _, rfl, Y.weaken (Nat.le_succ _), Z⟩
  · skip
    rw [show nwS n = ⟨0, ⟨0, 0, 0, []⟩, [], [], [], 0, 0, 0, 0⟩ from if_neg hp, decide_eq_false hp]
    rw [decide_eq_false hp] at HNR
    generalize nwR n = R at *
    clear hp
    go_enter Try.func5, Try.ntmps5
    go_upto_region 1 with fail
    generalize w.alloc (.cells (snC 0 0 0 0 (.slice none 0 0) (.slice none 0 0) (.slice none 0 0) (.slice none 0 0) 0 0 0 0) 27) = w1 at *
    go_wp2_with fail
    refine (HNR.out _).mono ?_
    rintro e w2 ⟨v, rfl, ho, hb⟩
    obtain ⟨A9, d9, rfl, _, _⟩ := ho.frs
    have HX2 := Lib.hid (HX.out.below hb (by have := HZ.out; omega))
    have HB2 := Lib.hid (HB.out.trans (hb.mono HB.out.size))
    have HO2 := Lib.hid (ho.weaken (Nat.le_of_eq HZ.out.symm))
    clear ho hb
    go_upto_region 2 with fail
    have HN := Lib.hid (BoxN.new w2 R.size R.base R.en (.slice A9 R.cs.length d9))
    have HX3 := Lib.hid (HX2.out.alloc (.cells (rnC R.size R.base R.en (.slice A9 R.cs.length d9)) 24))
    have HB3 := Lib.hid (HB2.out.alloc HB2.out.size (.cells (rnC R.size R.base R.en (.slice A9 R.cs.length d9)) 24))
    have HO3 := Lib.hid (HO2.out.alloc (.cells (rnC R.size R.base R.en (.slice A9 R.cs.length d9)) 24))
    generalize w2.alloc (.cells (rnC R.size R.base R.en (.slice A9 R.cs.length d9)) 24) = w3 at *
    generalize w2.heap.size = gr at *
    clear HX HX2 HB HB2 HO2 HNR
    obtain ⟨y0, y1, y2, y3⟩ := HN.out.cells
    obtain ⟨q0, q1, q2, q3, q4, q5, q6, q7, q8, q9, q10, q11⟩ := HX3.out.cells
    have qf := HX3.out.free
    go_wp2
    have X := laidS_row HX3.out (zeroS : Sn) (.slice none 0 0) (.slice none 0 0) (.slice none 0 0) (.slice none 0 0)
    have Y := laidS_own (HE4.out w3 _ _ (w.heap.size + 1) OwnK.empty) (Nat.lt_succ_self _) (zeroS : Sn) (.slice none 0 0) (.slice none 0 0) (.slice none 0 0) (.slice none 0 0)
    have Z := laidS_below HB3.out (Nat.le_refl _) (zeroS : Sn) (.slice none 0 0) (.slice none 0 0) (.slice none 0 0) (.slice none 0 0)
    refine bodyPost_ret (results_ct rfl _ _ w.heap.size _ _ _ _ rfl X Try.underlying27 rfl (by kernel_rfl)) rfl ?_
    exact ⟨_, _, _, _, rfl, Y.weaken (Nat.le_succ _), Z⟩
end Go.Proofs.Ytjohbfdifdjldaa
