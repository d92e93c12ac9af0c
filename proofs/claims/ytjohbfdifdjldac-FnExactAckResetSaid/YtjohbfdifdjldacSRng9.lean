/-
  What spec.CommonRanges returns.
-/
import Derived.Test.YtjohbfdifdjldacSRng7
import Derived.Test.YtjohbfdifdjldacSRng6
namespace Go.Proofs.Ytjohbfdifdjldac
open Go.RowKit Go.Deep Go.Proofs.Ytjohbfdifdjldac.Num

namespace Num
theorem both_step (x : Rg) (b : List Rg) (k : Nat) (h : k < b.length) : (b.take (k + 1)).flatMap (bothR x) = (b.take k).flatMap (bothR x) ++ bothR x b[k] := by
  rw [List.take_succ_eq_append_getElem h, List.flatMap_append]
  congr 1
  simp
theorem com_step (a b : List Rg) (i : Nat) (h : i < a.length) : comR (a.take (i + 1)) b = comR (a.take i) b ++ b.flatMap (bothR a[i]) := by
  unfold comR
  rw [List.take_succ_eq_append_getElem h, List.flatMap_append]
  congr 1
  simp
theorem both_len (x : Rg) (b : List Rg) : (b.flatMap (bothR x)).length ≤ b.length := by
  induction b with
  | nil => simp
  | cons y b ih =>
    have h2 : (bothR x y).length ≤ 1 := by unfold bothR; split <;> simp
    rw [List.flatMap_cons, List.length_append, List.length_cons]
    omega
theorem com_len (b : List Rg) (a : List Rg) : (comR a b).length ≤ b.length * a.length := by
  induction a with
  | nil => simp [comR]
  | cons x a ih =>
    have e : comR (x :: a) b = b.flatMap (bothR x) ++ comR a b := rfl
    have := both_len x b
    rw [e, List.length_append, List.length_cons, Nat.mul_succ]
    omega
theorem mul_small (a b : Nat) (h : a + b ≤ 1048576) : b * a ≤ 600000000000 := by
  rcases Nat.le_total b 524288 with h1 | h1
  · exact Nat.le_trans (Nat.mul_le_mul h1 (show a ≤ 1048576 by omega)) (by decide)
  · exact Nat.le_trans (Nat.mul_le_mul (show b ≤ 1048576 by omega) (show a ≤ 524288 by omega)) (by decide)
end Num

set_option maxRecDepth 100000 in
set_option maxHeartbeats 1000000 in
/-- spec.CommonRanges, of two valid lists -/
theorem scom_yes (a b : List Rg) (A A' : Option Addr) (cap cap' B : Nat) (w : World) (hB : B ≤ w.heap.size) (hr : Rgs w B A a) (hr' : Rgs w B A' b) (hnm : a.length + b.length ≤ 1048576) (hk : okR (-1) a) (hk' : okR (-1) b) :
    Calls Try.prog 27 #[.slice A a.length cap, .slice A' b.length cap'] w fun e w' => ∃ v, e = .returned v ∧ OwnR w' w.heap.size v (comR a b) ∧ Below w.heap.size w w' := by
  have HC : Hid (∀ W, Below w.heap.size w W → Calls Try.prog 56 #[.slice A a.length cap] W fun e w' => e = .returned (.bool true) ∧ Below W.heap.size W w') := Lib.hid fun W hW => by
    have := sisr a A cap B W (by have := hW.size; omega) (hr.below hB hW) (by omega)
    rw [decide_eq_true hk] at this
    exact this
  have HC' : Hid (∀ W, Below w.heap.size w W → Calls Try.prog 56 #[.slice A' b.length cap'] W fun e w' => e = .returned (.bool true) ∧ Below W.heap.size W w') := Lib.hid fun W hW => by
    have := sisr b A' cap' B W (by have := hW.size; omega) (hr'.below hB hW) (by omega)
    rw [decide_eq_true hk'] at this
    exact this
  have HR := Lib.hid hr
  have HR' := Lib.hid hr'
  clear hr hr' hk hk'
  have HO0 := Lib.hid (OwnR.lit w w.heap.size 0 #[] (Nat.le_refl _) (by decide) rfl)
  have HB0 := Lib.hid ((Below.refl w.heap.size w).alloc (Nat.le_refl _) (.cells #[] 56))
  go_enter Try.func27, Try.ntmps27
  go_wp2
  go_loopw [5, 6] (fun v i wr => ∃ j : Nat, j ≤ a.length ∧ i = .int .i64 j ∧ OwnR wr w.heap.size v (comR (a.take j) b) ∧ Below w.heap.size w wr) (fun _ i _ => a.length - (intOf i).toNat)
  case atStart => exact ⟨0, Nat.zero_le _, rfl, HO0.out, HB0.out⟩
  case round =>
    obtain ⟨j, hj, rfl, ho, hb⟩ := hrel
    have HO := Lib.hid ho
    have HB := Lib.hid hb
    clear ho hb HO0 HB0
    by_cases hlt : j < a.length
    · go_wp2_with fail
      refine (HC.out _ HB.out).mono ?_
      rintro e w1 ⟨rfl, hb1⟩
      have HB1 := Lib.hid (HB.out.trans (hb1.mono HB.out.size))
      have HO1 := Lib.hid (HO.out.later hb1)
      clear hb1 HO HB
      go_wp2_with fail
      refine (HC'.out _ HB1.out).mono ?_
      rintro e w2 ⟨rfl, hb2⟩
      have HB2 := Lib.hid (HB1.out.trans (hb2.mono HB1.out.size))
      have HO2 := Lib.hid (HO1.out.later hb2)
      clear hb2 HO1 HB1
      go_wp2
      go_loopw [5, 7] (fun v k wr => ∃ i : Nat, i ≤ b.length ∧ k = .int .i64 i ∧ OwnR wr w.heap.size v (comR (a.take j) b ++ (b.take i).flatMap (bothR a[j])) ∧ Below w.heap.size w wr) (fun _ k _ => b.length - (intOf k).toNat)
      case atStart => exact ⟨0, Nat.zero_le _, rfl, by simpa using HO2.out, HB2.out⟩
      case round =>
        obtain ⟨i, hi, rfl, ho, hb⟩ := hrel
        have HO := Lib.hid ho
        have HB := Lib.hid hb
        clear ho hb HO2 HB2
        by_cases hlt2 : i < b.length
        · have HRW := Lib.hid (HR.out.below hB HB.out)
          have HRW' := Lib.hid (HR'.out.below hB HB.out)
          obtain ⟨g, off, rfl, hgB, c1, c2⟩ := HRW.out j hlt
          obtain ⟨g', off', rfl, hgB', d1, d2⟩ := HRW'.out i hlt2
          have hst := both_step a[j] b i hlt2
          have hwr : w.heap.size ≤ wr.heap.size := HB.out.size
          clear HRW HRW'
          generalize hx : a[j] = x at *
          generalize hy : b[i] = y at *
          obtain ⟨M, hmax⟩ : ∃ M : Int, (if x.1 < y.1 then y.1 else x.1) = M := ⟨_, rfl⟩
          obtain ⟨m, hmin⟩ : ∃ m : Int, (if y.2 < x.2 then y.2 else x.2) = m := ⟨_, rfl⟩
          have hbo : bothR x y = if M < m then [(M, m)] else [] := by
            have e1 : max x.1 y.1 = M := by rw [← hmax]; split <;> omega
            have e2 : min x.2 y.2 = m := by rw [← hmin]; split <;> omega
            unfold bothR
            rw [e1, e2]
          have hlen : (comR (a.take j) b ++ (b.take i).flatMap (bothR x)).length + 1 ≤ 1000000000000 := by
            have h1 := Nat.le_trans (com_len b (a.take j)) (Nat.mul_le_mul_left b.length (show (a.take j).length ≤ a.length by rw [List.length_take]; omega))
            have h5 := mul_small a.length b.length hnm
            have h2 := both_len x (b.take i)
            have h3 : (a.take j).length ≤ j := List.length_take_le _ _
            have h4 : (b.take i).length ≤ i := List.length_take_le _ _
            rw [List.length_append]
            omega
          have hS : ∀ W, Below w.heap.size wr W → W.cell? ⟨g, off + j * 2, none⟩ = some (.int .i64 x.1) ∧ W.cell? ⟨g, off + j * 2 + 1, none⟩ = some (.int .i64 x.2) ∧ W.cell? ⟨g', off' + i * 2, none⟩ = some (.int .i64 y.1) ∧ W.cell? ⟨g', off' + i * 2 + 1, none⟩ = some (.int .i64 y.2) := fun W h =>
            ⟨(h.cell (by show g < _; omega)).trans c1, (h.cell (by show g < _; omega)).trans c2, (h.cell (by show g' < _; omega)).trans d1, (h.cell (by show g' < _; omega)).trans d2⟩
          go_wp2
          go_region_held3 (fun W => W.cell? ⟨g, off + j * 2, none⟩ = some (.int .i64 x.1) ∧ W.cell? ⟨g, off + j * 2 + 1, none⟩ = some (.int .i64 x.2) ∧ W.cell? ⟨g', off' + i * 2, none⟩ = some (.int .i64 y.1) ∧ W.cell? ⟨g', off' + i * 2 + 1, none⟩ = some (.int .i64 y.2)) (first | exact hS _ (Below.refl _ _).drew | exact hS _ ((Below.refl _ _).drew.alloc hwr _)) (fail)
          all_goals (
            have HBq := Lib.hid (HB.out.alloc hwr (.cells #[.int .i64 M, .int .i64 m] 56)).drew
            have HOq : Hid (OwnR (wr.alloc (.cells #[.int .i64 M, .int .i64 m] 56)).drew w.heap.size _ (comR (a.take j) b ++ (b.take i).flatMap (bothR x))) := Lib.hid (HO.out.alloc _)
            have HXq : Hid (Box (wr.alloc (.cells #[.int .i64 M, .int .i64 m] 56)).drew wr.heap.size (M, m)) := Lib.hid (Box.new wr (M, m))
            have hwq : w.heap.size ≤ (wr.alloc (.cells #[.int .i64 M, .int .i64 m] 56)).drew.heap.size := HBq.out.size
            clear hS HB HO hmax hmin c1 c2 d1 d2
            generalize (wr.alloc (.cells #[.int .i64 M, .int .i64 m] 56)).drew = wq at *
            obtain ⟨q1, q2⟩ := HXq.out.cells
            by_cases h1 : M < m
            · have hd1 : decide (M < m) = true := decide_eq_true h1
              have HE : Hid ((b.take (i + 1)).flatMap (bothR x) = (b.take i).flatMap (bothR x) ++ [(M, m)]) := Lib.hid (by rw [hst, hbo, if_pos h1])
              clear hst hbo h1
              go_wp2_with (at_builtin; refine wpList_append_rgs _ rfl (.tmp 58) (.tmp 60) rfl w.heap.size _ (comR (a.take j) b ++ (b.take i).flatMap (bothR x)) rfl (OwnR.alloc (w := wq) HOq.out _) wq.heap.size 0 1 1 _ [(M, m)] rfl rfl (rgs_one wq (M, m) _) hlen (by simp; omega) ?_; intro v5 w5 h5 b5)
              have HB5 := Lib.hid ((HBq.out.alloc hwq (.cells #[.int .i64 M, .int .i64 m] 56)).trans b5)
              clear b5
              go_roundw
              case rel => exact ⟨i + 1, hlt2, by go_num, by rw [HE.out, ← List.append_assoc]; exact h5, HB5.out⟩
              case measure => simp [intOf]; omega
            · have hd1 : decide (M < m) = false := decide_eq_false h1
              have HE : Hid ((b.take (i + 1)).flatMap (bothR x) = (b.take i).flatMap (bothR x)) := Lib.hid (by rw [hst, hbo, if_neg h1, List.append_nil])
              clear hst hbo h1
              go_wp2
              go_roundw
              case rel => exact ⟨i + 1, hlt2, by go_num, by rw [HE.out]; exact HOq.out, HBq.out⟩
              case measure => simp [intOf]; omega)
        · obtain rfl : i = b.length := by omega
          have e : b.take b.length = b := List.take_of_length_le (Nat.le_refl _)
          rw [e] at HO
          have HE := Lib.hid (com_step a b j hlt)
          go_wp2
          go_roundw
          case rel => exact ⟨j + 1, hlt, by go_num, by rw [HE.out]; exact HO.out, HB.out⟩
          case measure => simp [intOf]; omega
    · obtain rfl : j = a.length := by omega
      have e : a.take a.length = a := List.take_of_length_le (Nat.le_refl _)
      rw [e] at HO
      go_wp2
      go_ret
      exact ⟨_, rfl, HO.out, HB.out⟩

set_option maxRecDepth 100000 in
/-- spec.CommonRanges, where one of the lists is not valid -/
theorem scom_no (a b : List Rg) (A A' : Option Addr) (cap cap' B : Nat) (w : World) (hB : B ≤ w.heap.size) (hr : Rgs w B A a) (hr' : Rgs w B A' b) (hnm : a.length + b.length ≤ 1048576) (hk : ¬ (okR (-1) a ∧ okR (-1) b)) :
    Calls Try.prog 27 #[.slice A a.length cap, .slice A' b.length cap'] w fun e w' => ∃ v, e = .returned v ∧ OwnR w' w.heap.size v [] ∧ Below w.heap.size w w' := by
  have HC : Hid (∀ W, Below w.heap.size w W → Calls Try.prog 56 #[.slice A a.length cap] W fun e w' => e = .returned (.bool (decide (okR (-1) a))) ∧ Below W.heap.size W w') := Lib.hid fun W hW =>
    sisr a A cap B W (by have := hW.size; omega) (hr.below hB hW) (by omega)
  have HC' : Hid (∀ W, Below w.heap.size w W → Calls Try.prog 56 #[.slice A' b.length cap'] W fun e w' => e = .returned (.bool (decide (okR (-1) b))) ∧ Below W.heap.size W w') := Lib.hid fun W hW =>
    sisr b A' cap' B W (by have := hW.size; omega) (hr'.below hB hW) (by omega)
  clear hr hr'
  have HO0 := Lib.hid (OwnR.lit w w.heap.size 0 #[] (Nat.le_refl _) (by decide) rfl)
  have HB0 := Lib.hid ((Below.refl w.heap.size w).alloc (Nat.le_refl _) (.cells #[] 56))
  go_enter Try.func27, Try.ntmps27
  go_wp2
  go_loopw [5, 6] (fun v i wr => i = .int .i64 0 ∧ OwnR wr w.heap.size v [] ∧ Below w.heap.size w wr) (fun _ i _ => a.length - (intOf i).toNat)
  case atStart => exact ⟨rfl, HO0.out, HB0.out⟩
  case round =>
    obtain ⟨rfl, ho, hb⟩ := hrel
    have HO := Lib.hid ho
    have HB := Lib.hid hb
    clear ho hb HO0 HB0
    by_cases h0 : 0 < a.length
    · by_cases h1 : okR (-1) a
      · have h2 : ¬ okR (-1) b := fun h => hk ⟨h1, h⟩
        rw [decide_eq_true h1] at HC
        rw [decide_eq_false h2] at HC'
        clear hk h1 h2
        go_wp2_with fail
        refine (HC.out _ HB.out).mono ?_
        rintro e w1 ⟨rfl, hb1⟩
        have HB1 := Lib.hid (HB.out.trans (hb1.mono HB.out.size))
        have HO1 := Lib.hid (HO.out.later hb1)
        clear hb1 HO HB
        go_wp2_with fail
        refine (HC'.out _ HB1.out).mono ?_
        rintro e w2 ⟨rfl, hb2⟩
        have HB2 := Lib.hid (HB1.out.trans (hb2.mono HB1.out.size))
        have HO2 := Lib.hid (HO1.out.later hb2)
        clear hb2 HO1 HB1
        go_wp2
        go_ret
        exact ⟨_, rfl, HO2.out, HB2.out⟩
      · rw [decide_eq_false h1] at HC
        clear hk h1
        go_wp2_with fail
        refine (HC.out _ HB.out).mono ?_
        rintro e w1 ⟨rfl, hb1⟩
        have HB1 := Lib.hid (HB.out.trans (hb1.mono HB.out.size))
        have HO1 := Lib.hid (HO.out.later hb1)
        clear hb1 HO HB
        go_wp2
        go_ret
        exact ⟨_, rfl, HO1.out, HB1.out⟩
    · have hl : a.length = 0 := by omega
      have hz : decide ((0 : Int) < (a.length : Int)) = false := decide_eq_false (by omega)
      clear hk
      go_wp2
      go_ret
      exact ⟨_, rfl, HO.out, HB.out⟩
end Go.Proofs.Ytjohbfdifdjldac
