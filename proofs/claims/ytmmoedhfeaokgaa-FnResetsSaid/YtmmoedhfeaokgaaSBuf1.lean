/-
  What spec.IsBuffer returns.
-/
import Derived.Test.YtmmoedhfeaokgaaChs
import Derived.Test.YtmmoedhfeaokgaaIn
import Derived.Deep.DeepCutAuto
namespace Go.Proofs.Ytmmoedhfeaokgaa
open Go.RowKit Go.Deep Go.Proofs.Ytmmoedhfeaokgaa.Num

/-- spec.l4Quic -/
theorem squicB (n : Int) (w : World) :
    Calls Try.prog 47 #[.int .i64 n] w fun e w' => e = .returned (.bool (decide (0 ≤ n ∧ n ≤ 4611686018427387903))) ∧ w' = w := by
  by_cases h : 0 ≤ n ∧ n ≤ 4611686018427387903
  · rw [decide_eq_true h]
    have h0 := h.1
    have h1 := h.2
    clear h
    go_enter Try.func47, Try.ntmps47
    go_wp2_with fail
    refine (in_yes n 0 4611686018427387903 _ h0 h1).mono ?_
    rintro e w1 ⟨rfl, rfl⟩
    go_wp2
    go_ret
    exact ⟨rfl, rfl⟩
  · rw [decide_eq_false h]
    have HI := Lib.hid fun W => in_no n 0 4611686018427387903 W (by omega)
    clear h
    go_enter Try.func47, Try.ntmps47
    go_wp2_with fail
    refine (HI.out _).mono ?_
    rintro e w1 ⟨rfl, rfl⟩
    go_wp2
    go_ret
    exact ⟨rfl, rfl⟩

theorem data_empty (d : ByteArray) : d.toList.isEmpty = decide (d.size = 0) := by
  rw [ByteArray.toList_eq]
  cases h : d.data.toList with
  | nil =>
    have : d.size = 0 := by have := congrArg List.length h; simpa using this
    simp [this]
  | cons x y =>
    have : d.size ≠ 0 := by have := congrArg List.length h; simp at this; omega
    simp [this]
set_option maxRecDepth 100000 in
set_option maxHeartbeats 1000000 in
/-- spec.IsBuffer -/
theorem sisb (b : Bf) (A : Option Addr) (cap B : Nat) (w : World) (hB : B ≤ w.heap.size) (hr : Chs w B A b.chs) (hn : b.chs.length ≤ 1000000000) (hi : inB b.chs) (hnx : -9223372036854775808 ≤ b.next ∧ b.next ≤ 9223372036854775807) :
    Calls Try.prog 50 #[bfV b.next (.slice A b.chs.length cap)] w fun e w' => e = .returned (.bool (decide (okB b))) ∧ Below w.heap.size w w' := by
  have HR := Lib.hid hr
  have HI := Lib.hid hi
  have HQ := Lib.hid (squicB b.next)
  obtain ⟨e0, he0⟩ : ∃ e0, wrap64 (b.next - 1) = e0 := ⟨_, rfl⟩
  have hE0 : -9223372036854775808 ≤ e0 ∧ e0 ≤ 9223372036854775807 ∧ (0 ≤ b.next → e0 = b.next - 1) := by rw [← he0]; unfold wrap64; omega
  have HOK : Hid (okB b ↔ okR e0 (b.chs.map ckR) ∧ 0 ≤ b.next ∧ b.next ≤ 4611686018427387903) := Lib.hid (by
    unfold okB
    constructor
    · rintro ⟨h1, h2, h3⟩
      rw [hE0.2.2 h2]
      exact ⟨h1, h2, h3⟩
    · rintro ⟨h1, h2, h3⟩
      rw [hE0.2.2 h2] at h1
      exact ⟨h1, h2, h3⟩)
  have H0 := Lib.hid (HeldB.start w b.next (.slice A b.chs.length cap))
  obtain ⟨q0, q1⟩ := H0.out.1.cells
  have hE1 := hE0.1
  have hE2 := hE0.2.1
  clear hr hi hE0
  generalize b.next = nx at *
  generalize b.chs = l at *
  go_enter Try.func50, Try.ntmps50
  go_upto_region 2 with fail
  rw [he0]
  clear he0
  go_wp2
  clear q0 q1
  go_loopw [3, 4] (fun v i wr => ∃ (j : Nat) (p : Int), j ≤ l.length ∧ i = .int .i64 j ∧ v = .int .i64 p ∧ -9223372036854775808 ≤ p ∧ p ≤ 9223372036854775807 ∧ (okR e0 (l.map ckR) ↔ okR p ((l.drop j).map ckR)) ∧ HeldB w nx (.slice A l.length cap) wr) (fun _ i _ => l.length - (intOf i).toNat)
  case atStart => exact ⟨0, e0, Nat.zero_le _, rfl, rfl, hE1, hE2, by rw [List.drop_zero], H0.out⟩
  case round =>
    obtain ⟨j, p, hj, rfl, rfl, hp1, hp2, hpo, hh⟩ := hrel
    have HP := Lib.hid hpo
    have HH := Lib.hid hh
    clear hpo hh H0
    obtain ⟨q0, q1⟩ := HH.out.1.cells
    by_cases hlt : j < l.length
    · obtain ⟨g, off, rfl, hbB, c0, c1⟩ := (HR.out.below hB HH.out.2).cells j hlt
      have hin := HI.out l[j] (List.getElem_mem hlt)
      have HD : Hid ((l.drop j).map ckR = ckR l[j] :: (l.drop (j + 1)).map ckR) := Lib.hid (by rw [List.drop_eq_getElem_cons hlt, List.map_cons])
      generalize l[j] = c at *
      unfold maxLen at hin
      have hemp := data_empty c.data
      by_cases h1 : c.off ≤ p
      · have HN : Hid (¬ okB b) := Lib.hid (fun h => by
          have := HP.out.1 (HOK.out.1 h).1
          rw [HD.out] at this
          have := this.1
          simp only [ckR] at this
          omega)
        have hd1 : decide (c.off ≤ p) = true := decide_eq_true h1
        have HH1 := Lib.hid (HH.out.alloc (.cells (chC c) 93))
        clear h1 hin hemp
        go_wp2
        go_ret
        exact ⟨by rw [decide_eq_false HN.out]; rfl, HH1.out.2⟩
      · have hd1 : decide (c.off ≤ p) = false := decide_eq_false h1
        by_cases h2 : c.data.size = 0
        · have HN : Hid (¬ okB b) := Lib.hid (fun h => by
            have := HP.out.1 (HOK.out.1 h).1
            rw [HD.out] at this
            have := this.2.1
            simp only [ckR] at this
            omega)
          rw [decide_eq_true h2] at hemp
          have HH1 := Lib.hid (HH.out.alloc (.cells (chC c) 93))
          clear h1 h2 hin
          go_wp2
          go_ret
          exact ⟨by rw [decide_eq_false HN.out]; rfl, HH1.out.2⟩
        · rw [decide_eq_false h2] at hemp
          have hw : wrap64 (4611686018427387903 - (c.data.size : Int)) = 4611686018427387903 - (c.data.size : Int) := by unfold wrap64; omega
          by_cases h3 : 4611686018427387903 - (c.data.size : Int) < c.off
          · have HN : Hid (¬ okB b) := Lib.hid (fun h => by
              have := HP.out.1 (HOK.out.1 h).1
              rw [HD.out] at this
              have := this.2.2.1
              simp only [ckR] at this
              omega)
            have hd3 : decide (4611686018427387903 - (c.data.size : Int) < c.off) = true := decide_eq_true h3
            have HH1 := Lib.hid (HH.out.alloc (.cells (chC c) 93))
            clear h1 h2 h3 hin
            go_wp2
            go_ret
            exact ⟨by rw [decide_eq_false HN.out]; rfl, HH1.out.2⟩
          · have hd3 : decide (4611686018427387903 - (c.data.size : Int) < c.off) = false := decide_eq_false h3
            have HH1 := Lib.hid (HH.out.alloc (.cells (chC c) 93))
            have hwe : wrap64 (c.off + (c.data.size : Int)) = c.off + (c.data.size : Int) := by clear hw; unfold wrap64; omega
            have HP2 : Hid (okR e0 (l.map ckR) ↔ okR (c.off + (c.data.size : Int)) ((l.drop (j + 1)).map ckR)) := Lib.hid (by
              rw [HP.out, HD.out]
              exact ⟨fun h => h.2.2.2, fun h => ⟨by show p < c.off; omega, by show c.off < c.off + (c.data.size : Int); omega, by show c.off + (c.data.size : Int) ≤ _; omega, h⟩⟩)
            have hp3 : -9223372036854775808 ≤ c.off + (c.data.size : Int) ∧ c.off + (c.data.size : Int) ≤ 9223372036854775807 := by clear hw hwe; omega
            have HWE := Lib.hid hwe
            clear h1 h2 h3 hin hwe
            go_upto_region 8 with fail
            clear hw
            have hwe := HWE.out
            go_wp2
            go_roundw
            case rel => exact ⟨j + 1, _, hlt, by go_num, rfl, hp3.1, hp3.2, HP2.out, HH1.out⟩
            case measure => simp [intOf]; omega
    · obtain rfl : j = l.length := by omega
      have HN : Hid (decide (okB b) = decide (0 ≤ nx ∧ nx ≤ 4611686018427387903)) := Lib.hid (by
        refine decide_eq_decide.2 ?_
        rw [HOK.out]
        refine ⟨fun h => h.2, fun h => ⟨HP.out.2 ?_, h⟩⟩
        rw [List.drop_length]
        trivial)
      go_wp2_with fail
      refine (HQ.out _).mono ?_
      rintro e w1 ⟨rfl, rfl⟩
      go_wp2
      go_ret
      exact ⟨by rw [HN.out, Bool.decide_and]; rfl, HH.out.2⟩
end Go.Proofs.Ytmmoedhfeaokgaa
