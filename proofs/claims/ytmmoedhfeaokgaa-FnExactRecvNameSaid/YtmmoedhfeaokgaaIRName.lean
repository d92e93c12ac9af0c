/-
  What impl.RecvName returns.
-/
import Derived.Test.YtmmoedhfeaokgaaIRs
import Derived.Test.YtmmoedhfeaokgaaSRName
namespace Go.Proofs.Ytmmoedhfeaokgaa
open Go.RowKit Go.Deep Go.Proofs.Ytmmoedhfeaokgaa.Num

set_option maxRecDepth 100000 in
/-- impl.RecvName -/
theorem irname (s : Int) (w : World) :
    Calls Try.prog 38 #[.int .i64 s] w fun e w' => e = .returned (.string (rcname s)) ∧ Below w.heap.size w w' := by
  have HS := Lib.hid fun W => istate s W
  by_cases h0 : s = 0
  · rw [stV0 h0, decide_eq_true (show 0 ≤ s ∧ s ≤ 5 by omega)] at HS
    have HN := Lib.hid iname0
    have HV : Hid (rcname s = ⟨#[111, 112, 101, 110]⟩) := Lib.hid (by subst h0; rfl)
    have hm := mname0
    clear h0
    go_enter Try.func38, Try.ntmps38
    go_wp2_with fail
    refine (HS.out w).mono ?_
    rintro e w1 ⟨rfl, rfl⟩
    go_wp2_with fail
    refine (HN.out _).mono ?_
    rintro e w2 ⟨rfl, hb⟩
    have HB := Lib.hid hb
    clear hb
    go_wp2
    go_ret
    exact ⟨by rw [HV.out]; rfl, HB.out⟩
  by_cases h1 : s = 1
  · rw [stV1 h1, decide_eq_true (show 0 ≤ s ∧ s ≤ 5 by omega)] at HS
    have HN := Lib.hid iname1
    have HV : Hid (rcname s = ⟨#[115, 105, 122, 101, 100]⟩) := Lib.hid (by subst h1; rfl)
    have hm := mname1
    clear h0 h1
    go_enter Try.func38, Try.ntmps38
    go_wp2_with fail
    refine (HS.out w).mono ?_
    rintro e w1 ⟨rfl, rfl⟩
    go_wp2_with fail
    refine (HN.out _).mono ?_
    rintro e w2 ⟨rfl, hb⟩
    have HB := Lib.hid hb
    clear hb
    go_wp2
    go_ret
    exact ⟨by rw [HV.out]; rfl, HB.out⟩
  by_cases h2 : s = 2
  · rw [stV2 h2, decide_eq_true (show 0 ≤ s ∧ s ≤ 5 by omega)] at HS
    have HN := Lib.hid iname2
    have HV : Hid (rcname s = ⟨#[97, 108, 108]⟩) := Lib.hid (by subst h2; rfl)
    have hm := mname2
    clear h0 h1 h2
    go_enter Try.func38, Try.ntmps38
    go_wp2_with fail
    refine (HS.out w).mono ?_
    rintro e w1 ⟨rfl, rfl⟩
    go_wp2_with fail
    refine (HN.out _).mono ?_
    rintro e w2 ⟨rfl, hb⟩
    have HB := Lib.hid hb
    clear hb
    go_wp2
    go_ret
    exact ⟨by rw [HV.out]; rfl, HB.out⟩
  by_cases h3 : s = 3
  · rw [stV3 h3, decide_eq_true (show 0 ≤ s ∧ s ≤ 5 by omega)] at HS
    have HN := Lib.hid iname3
    have HV : Hid (rcname s = ⟨#[114, 101, 97, 100]⟩) := Lib.hid (by subst h3; rfl)
    have hm := mname3
    clear h0 h1 h2 h3
    go_enter Try.func38, Try.ntmps38
    go_wp2_with fail
    refine (HS.out w).mono ?_
    rintro e w1 ⟨rfl, rfl⟩
    go_wp2_with fail
    refine (HN.out _).mono ?_
    rintro e w2 ⟨rfl, hb⟩
    have HB := Lib.hid hb
    clear hb
    go_wp2
    go_ret
    exact ⟨by rw [HV.out]; rfl, HB.out⟩
  by_cases h4 : s = 4
  · rw [stV4 h4, decide_eq_true (show 0 ≤ s ∧ s ≤ 5 by omega)] at HS
    have HN := Lib.hid iname4
    have HV : Hid (rcname s = ⟨#[114, 101, 115, 101, 116]⟩) := Lib.hid (by subst h4; rfl)
    have hm := mname4
    clear h0 h1 h2 h3 h4
    go_enter Try.func38, Try.ntmps38
    go_wp2_with fail
    refine (HS.out w).mono ?_
    rintro e w1 ⟨rfl, rfl⟩
    go_wp2_with fail
    refine (HN.out _).mono ?_
    rintro e w2 ⟨rfl, hb⟩
    have HB := Lib.hid hb
    clear hb
    go_wp2
    go_ret
    exact ⟨by rw [HV.out]; rfl, HB.out⟩
  by_cases h5 : s = 5
  · rw [stV5 h5, decide_eq_true (show 0 ≤ s ∧ s ≤ 5 by omega)] at HS
    have HN := Lib.hid iname5
    have HV : Hid (rcname s = ⟨#[114, 101, 115, 101, 116, 114, 101, 97, 100]⟩) := Lib.hid (by subst h5; rfl)
    have hm := mname5
    clear h0 h1 h2 h3 h4 h5
    go_enter Try.func38, Try.ntmps38
    go_wp2_with fail
    refine (HS.out w).mono ?_
    rintro e w1 ⟨rfl, rfl⟩
    go_wp2_with fail
    refine (HN.out _).mono ?_
    rintro e w2 ⟨rfl, hb⟩
    have HB := Lib.hid hb
    clear hb
    go_wp2
    go_ret
    exact ⟨by rw [HV.out]; rfl, HB.out⟩
  have HV : Hid (rcname s = ⟨#[]⟩) := Lib.hid (by
    unfold rcname
    rw [if_neg h0, if_neg h1, if_neg h2, if_neg h3, if_neg h4, if_neg h5])
  rw [stVn (by omega), decide_eq_false (show ¬ (0 ≤ s ∧ s ≤ 5) by omega)] at HS
  clear h0 h1 h2 h3 h4 h5
  go_enter Try.func38, Try.ntmps38
  go_wp2_with fail
  refine (HS.out w).mono ?_
  rintro e w1 ⟨rfl, rfl⟩
  go_wp2
  go_ret
  exact ⟨by rw [HV.out]; rfl, Below.refl _ _⟩
end Go.Proofs.Ytmmoedhfeaokgaa
