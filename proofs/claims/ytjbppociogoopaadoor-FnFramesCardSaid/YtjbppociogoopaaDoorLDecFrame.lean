/-
  The law on DecodeFrame, walked.
-/
import Derived.Test.YtjbppociogoopaaDoorLFr
import Derived.Test.YtjbppociogoopaaDoorFrN5
import Derived.Test.YtjbppociogoopaaDoorSFr8
import Derived.Test.YtjbppociogoopaaDoorGIF
namespace Go.Proofs.YtjbppociogoopaaDoor
open Go.RowKit Go.Deep Go.Proofs.YtjbppociogoopaaDoor.Num

/-- At every place both functions give the same. -/
theorem decf_both (s : ByteArray) (a : Int) (hs : s.size ≤ 1048576) : ∃ (F : Fr) (n : Int) (b : Bool),
    (b = true → okF F ∧ a < n ∧ n ≤ s.size) ∧
    (∀ W, Calls Tryd.prog 19 #[.string s, .int .i64 a] W fun e w' => e = .returned (.tuple #[frV F, .int .i64 n, .bool b]) ∧ Below W.heap.size W w') ∧
    (∀ W, Forms W → Calls Tryd.prog 13 #[.string s, .int .i64 a] W fun e w' => e = .returned (.tuple #[frV F, .int .i64 n, .bool b]) ∧ Below W.heap.size W w') := by
  by_cases h0 : a < 0
  · exact ⟨fr0, 0, false, fun h => (by cases h), fun W => sdecf_no s a W hs (Or.inl h0), fun W _ => idecf_no s a W (Or.inl h0)⟩
  · obtain ⟨m, rfl⟩ := Int.eq_ofNat_of_zero_le (by omega : 0 ≤ a)
    cases hd : decF (s.data.toList.drop m) with
    | none =>
      refine ⟨fr0, 0, false, fun h => (by cases h), fun W => ?_, fun W hF => ?_⟩
      · refine (sdecf s m W hs).mono ?_
        rintro e w' ⟨h1, h2⟩
        rw [hd] at h1
        exact ⟨h1, h2⟩
      · refine (idecf s m W hs hF).mono ?_
        rintro e w' ⟨h1, h2⟩
        rw [hd] at h1
        exact ⟨h1, h2⟩
    | some fk =>
      obtain ⟨F, k⟩ := fk
      have hk := decF_len hd
      have h3 : s.data.toList.length = s.size := by simp
      rw [List.length_drop, h3] at hk
      refine ⟨F, ((m + k : Nat) : Int), true, fun _ => ⟨decF_ok hd, by omega, by omega⟩, fun W => ?_, fun W hF => ?_⟩
      · refine (sdecf s m W hs).mono ?_
        rintro e w' ⟨h1, h2⟩
        rw [hd] at h1
        exact ⟨h1, h2⟩
      · refine (idecf s m W hs hF).mono ?_
        rintro e w' ⟨h1, h2⟩
        rw [hd] at h1
        exact ⟨h1, h2⟩

set_option maxRecDepth 100000 in
set_option maxHeartbeats 1000000 in
/-- The law. -/
theorem law_DecodeFrame (s : ByteArray) (a : Int) (w : World) (hs : s.size ≤ maxLen) (hF : Forms w) :
    Calls Tryd.prog 7 #[.string s, .int .i64 a] w fun e w' => e = .returned (.bool true) ∧ Below w.heap.size w w' := by
  by_cases hb : 1048576 < s.size
  · unfold maxLen at hs
    go_enter Tryd.func7, Tryd.ntmps7
    go_wp2
    go_ret
    exact ⟨rfl, Below.refl _ _⟩
  · obtain ⟨F, n, b, _, h1, h2⟩ := decf_both s a (by omega)
    have HS := Lib.hid h1
    have HI := Lib.hid h2
    have HQ := Lib.hid (leq F)
    have HF := Lib.hid hF
    have hn : (n != n) = false := by simp
    have hbb : (b != b) = false := by simp
    clear hF h1 h2
    go_enter Tryd.func7, Tryd.ntmps7
    go_wp2_with fail
    refine (HS.out _).mono ?_
    rintro e w1 ⟨rfl, hb1⟩
    have HX1 := Lib.hid (BoxF.new w1 F)
    have HB1 := Lib.hid (hb1.alloc hb1.size (.cells (frC F) 25))
    have HF1 := Lib.hid ((HF.out.keep (Nat.le_refl _) hb1).alloc (.cells (frC F) 25))
    clear hb1
    go_wp2_with fail
    refine (HI.out _ HF1.out).mono ?_
    rintro e w2 ⟨rfl, hb2⟩
    have HX2 := Lib.hid ((HX1.out.below hb2 HX1.out.lt).alloc (.cells (frC F) 25))
    have HB2 := Lib.hid ((HB1.out.trans (hb2.mono HB1.out.size)).alloc (Nat.le_trans HB1.out.size hb2.size) (.cells (frC F) 25))
    clear hb2
    obtain ⟨q0, q1, q2, q3, q4, q5, q6, q7, q8⟩ := HX2.out.cells
    go_wp2_with fail
    refine (HQ.out _).mono ?_
    rintro e w3 ⟨rfl, hb3⟩
    have HB3 := Lib.hid (HB2.out.trans (hb3.mono HB2.out.size))
    clear hb3
    go_wp2
    go_ret
    exact ⟨rfl, HB3.out⟩
end Go.Proofs.YtjbppociogoopaaDoor
