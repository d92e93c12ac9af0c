/-
  What impl.IsRanges, inRange, HasNumber and FirstGap return.
-/
import Derived.Test.YtjgabiklmloogaaDoorSRng3
namespace Go.Proofs.YtjgabiklmloogaaDoor
open Go.RowKit Go.Deep Go.Proofs.YtjgabiklmloogaaDoor.Num

namespace Num
theorem okR.at {l : List Rg} {q : Int} {j : Nat} (h : j < l.length) : okR q (l.drop j) ↔ (q < l[j].1 ∧ l[j].1 < l[j].2 ∧ l[j].2 ≤ 4611686018427387903 ∧ okR l[j].2 (l.drop (j + 1))) := by
  rw [List.drop_eq_getElem_cons h]
  exact Iff.rfl
theorem gapR_at {l : List Rg} {n : Int} {j : Nat} (h : j < l.length) : gapR (l.drop j) n = gapR (l.drop (j + 1)) (if l[j].1 ≤ n ∧ n < l[j].2 then l[j].2 else n) := by
  rw [List.drop_eq_getElem_cons h]
  rfl
end Num

set_option maxRecDepth 100000 in
/-- impl.IsRanges -/
theorem iisr (l : List Rg) (A : Option Addr) (cap B : Nat) (w : World) (hB : B ≤ w.heap.size) (hr : Rgs w B A l) (hn : l.length ≤ 1000000000) :
    Calls Tryd.prog 12 #[.slice A l.length cap] w fun e w' => e = .returned (.bool (decide (okR (-1) l))) ∧ Below w.heap.size w w' := by
  have HR := Lib.hid hr
  clear hr
  go_enter Tryd.func12, Tryd.ntmps12
  go_wp2
  go_loopw [3, 8] (fun p i wr => ∃ (j : Nat) (q : Int), j ≤ l.length ∧ i = .int .i64 j ∧ p = .int .i64 q ∧ (okR (-1) l ↔ okR q (l.drop j)) ∧ Below w.heap.size w wr) (fun _ i _ => l.length - (intOf i).toNat)
  case atStart => exact ⟨0, -1, Nat.zero_le _, rfl, rfl, Iff.rfl, Below.refl _ _⟩
  case round =>
    obtain ⟨j, q, hj, rfl, rfl, hq, hb⟩ := hrel
    have HQ := Lib.hid hq
    have HB := Lib.hid hb
    clear hq hb
    by_cases hlt : j < l.length
    · have HRW := Lib.hid (HR.out.below hB HB.out)
      obtain ⟨b, off, rfl, hbB, c1, c2⟩ := HRW.out j hlt
      have HE := Lib.hid (HQ.out.trans (okR.at hlt))
      generalize l[j] = x at *
      by_cases h1 : x.1 ≤ q
      · have hd1 : decide (x.1 ≤ q) = true := decide_eq_true h1
        have HN : Hid (¬ okR (-1) l) := Lib.hid (fun h => by have := (HE.out.1 h).1; omega)
        clear h1
        go_wp2
        go_ret
        exact ⟨by rw [decide_eq_false HN.out]; rfl, HB.out.alloc HB.out.size _⟩
      · have hd1 : decide (x.1 ≤ q) = false := decide_eq_false h1
        by_cases h2 : x.2 ≤ x.1
        · have hd2 : decide (x.2 ≤ x.1) = true := decide_eq_true h2
          have HN : Hid (¬ okR (-1) l) := Lib.hid (fun h => by have := (HE.out.1 h).2.1; omega)
          clear h1 h2
          go_wp2
          go_ret
          exact ⟨by rw [decide_eq_false HN.out]; rfl, HB.out.alloc HB.out.size _⟩
        · have hd2 : decide (x.2 ≤ x.1) = false := decide_eq_false h2
          by_cases h3 : 4611686018427387903 < x.2
          · have hd3 : decide (4611686018427387903 < x.2) = true := decide_eq_true h3
            have HN : Hid (¬ okR (-1) l) := Lib.hid (fun h => by have := (HE.out.1 h).2.2.1; omega)
            clear h1 h2 h3
            go_wp2
            go_ret
            exact ⟨by rw [decide_eq_false HN.out]; rfl, HB.out.alloc HB.out.size _⟩
          · have hd3 : decide (4611686018427387903 < x.2) = false := decide_eq_false h3
            have HN : Hid (okR (-1) l ↔ okR x.2 (l.drop (j + 1))) := Lib.hid ⟨fun h => (HE.out.1 h).2.2.2, fun h => HE.out.2 ⟨by omega, by omega, by omega, h⟩⟩
            clear h1 h2 h3
            go_wp2
            go_roundw
            case rel => exact ⟨j + 1, x.2, hlt, by go_num, rfl, HN.out, HB.out.alloc HB.out.size _⟩
            case measure => simp [intOf]; omega
    · obtain rfl : j = l.length := by omega
      have HN : Hid (okR (-1) l) := Lib.hid (HQ.out.2 (by rw [List.drop_length]; trivial))
      go_wp2
      go_ret
      exact ⟨by rw [decide_eq_true HN.out]; rfl, HB.out⟩

/-- impl.inRange -/
theorem iinr (x : Rg) (n : Int) (w : World) :
    Calls Tryd.prog 39 #[rgV x, .int .i64 n] w fun e w' => e = .returned (.bool (decide (x.1 ≤ n ∧ n < x.2))) ∧ Below w.heap.size w w' := by
  by_cases h1 : x.1 ≤ n
  · have hd1 : decide (x.1 ≤ n) = true := decide_eq_true h1
    by_cases h2 : n < x.2
    · have hd2 : decide (n < x.2) = true := decide_eq_true h2
      rw [decide_eq_true ⟨h1, h2⟩]
      clear h1 h2
      go_enter Tryd.func39, Tryd.ntmps39
      go_wp2
      go_ret
      exact ⟨rfl, (Below.refl _ _).alloc (Nat.le_refl _) _⟩
    · have hd2 : decide (n < x.2) = false := decide_eq_false h2
      rw [decide_eq_false (fun h => h2 h.2)]
      clear h1 h2
      go_enter Tryd.func39, Tryd.ntmps39
      go_wp2
      go_ret
      exact ⟨rfl, (Below.refl _ _).alloc (Nat.le_refl _) _⟩
  · have hd1 : decide (x.1 ≤ n) = false := decide_eq_false h1
    rw [decide_eq_false (fun h => h1 h.1)]
    clear h1
    go_enter Tryd.func39, Tryd.ntmps39
    go_wp2
    go_ret
    exact ⟨rfl, (Below.refl _ _).alloc (Nat.le_refl _) _⟩

set_option maxRecDepth 100000 in
/-- impl.HasNumber -/
theorem ihas (l : List Rg) (n : Int) (A : Option Addr) (cap B : Nat) (w : World) (hB : B ≤ w.heap.size) (hr : Rgs w B A l) (hn : l.length ≤ 1000000000) :
    Calls Tryd.prog 14 #[.slice A l.length cap, .int .i64 n] w fun e w' => e = .returned (.bool (decide (hasR l n))) ∧ Below w.heap.size w w' := by
  have HR := Lib.hid hr
  clear hr
  go_enter Tryd.func14, Tryd.ntmps14
  go_wp2
  go_loopw [9] (fun i wr => ∃ j : Nat, j ≤ l.length ∧ i = .int .i64 j ∧ ¬ hasR (l.take j) n ∧ Below w.heap.size w wr) (fun i _ => l.length - (intOf i).toNat)
  case atStart => exact ⟨0, Nat.zero_le _, rfl, hasR_nil n, Below.refl _ _⟩
  case round =>
    obtain ⟨j, hj, rfl, hp, hb⟩ := hrel
    have HP := Lib.hid hp
    have HB := Lib.hid hb
    clear hp hb
    by_cases hlt : j < l.length
    · have HRW := Lib.hid (HR.out.below hB HB.out)
      obtain ⟨b, off, rfl, hbB, c1, c2⟩ := HRW.out j hlt
      have HS := Lib.hid (hasR_step l j hlt n)
      have HM : Hid (l[j].1 ≤ n ∧ n < l[j].2 → hasR l n) := Lib.hid (fun h => ⟨l[j], List.getElem_mem hlt, h⟩)
      generalize l[j] = x at *
      have HI := Lib.hid (iinr x n)
      by_cases h : x.1 ≤ n ∧ n < x.2
      · rw [decide_eq_true h] at HI
        have HH := Lib.hid (HM.out h)
        clear h
        go_wp2_with fail
        refine (HI.out _).mono ?_
        rintro e w1 ⟨rfl, hb1⟩
        have HB1 := Lib.hid ((HB.out.alloc HB.out.size (.cells #[.int .i64 x.1, .int .i64 x.2] 26)).trans (hb1.mono (by have := HB.out.size; simp; omega)))
        clear hb1
        go_wp2
        go_ret
        exact ⟨by rw [decide_eq_true HH.out]; rfl, HB1.out⟩
      · rw [decide_eq_false h] at HI
        have HH : Hid (¬ hasR (l.take (j + 1)) n) := Lib.hid (fun h2 => by rcases HS.out.1 h2 with h3 | h3; exact HP.out h3; exact h h3)
        clear h
        go_wp2_with fail
        refine (HI.out _).mono ?_
        rintro e w1 ⟨rfl, hb1⟩
        have HB1 := Lib.hid ((HB.out.alloc HB.out.size (.cells #[.int .i64 x.1, .int .i64 x.2] 26)).trans (hb1.mono (by have := HB.out.size; simp; omega)))
        clear hb1
        go_wp2
        go_roundw
        case rel => exact ⟨j + 1, hlt, by go_num, HH.out, HB1.out⟩
        case measure => simp [intOf]; omega
    · obtain rfl : j = l.length := by omega
      have HP2 := Lib.hid HP.out
      rw [List.take_of_length_le (Nat.le_refl _)] at HP2
      go_wp2
      go_ret
      exact ⟨by rw [decide_eq_false HP2.out]; rfl, HB.out⟩

set_option maxRecDepth 100000 in
/-- impl.FirstGap -/
theorem igap (l : List Rg) (n : Int) (A : Option Addr) (cap B : Nat) (w : World) (hB : B ≤ w.heap.size) (hr : Rgs w B A l) (hn : l.length ≤ 1000000000) :
    Calls Tryd.prog 17 #[.slice A l.length cap, .int .i64 n] w fun e w' => e = .returned (.int .i64 (if okR (-1) l ∧ 0 ≤ n then gapR l n else -1)) ∧ Below w.heap.size w w' := by
  have HR := Lib.hid hr
  have HC := Lib.hid (iisr l A cap B w hB hr hn)
  clear hr
  by_cases h0 : n < 0
  · have hd0 : decide (n < 0) = true := decide_eq_true h0
    rw [if_neg (fun h => absurd h.2 (by omega))]
    clear h0
    go_enter Tryd.func17, Tryd.ntmps17
    go_wp2
    go_ret
    exact ⟨rfl, Below.refl _ _⟩
  · have hd0 : decide (n < 0) = false := decide_eq_false h0
    by_cases hk : okR (-1) l
    · rw [if_pos ⟨hk, by omega⟩]
      rw [decide_eq_true hk] at HC
      have HK := Lib.hid hk
      clear hk h0
      go_enter Tryd.func17, Tryd.ntmps17
      go_wp2_with fail
      refine HC.out.mono ?_
      rintro e w1 ⟨rfl, hb1⟩
      have HB1 := Lib.hid hb1
      clear hb1
      go_wp2
      go_loopw [16] (fun i wr => ∃ (j : Nat) (q : Int), j ≤ l.length ∧ i = .int .i64 j ∧ okR q (l.drop j) ∧ gapR l n = gapR (l.drop j) n ∧ Below w.heap.size w wr) (fun i _ => l.length - (intOf i).toNat)
      case atStart => exact ⟨0, -1, Nat.zero_le _, rfl, HK.out, rfl, HB1.out⟩
      case round =>
        obtain ⟨j, q, hj, rfl, hq, hg, hb⟩ := hrel
        have HB := Lib.hid hb
        clear hb
        by_cases hlt : j < l.length
        · have HRW := Lib.hid (HR.out.below hB HB.out)
          obtain ⟨b, off, rfl, hbB, c1, c2⟩ := HRW.out j hlt
          rw [okR.at hlt] at hq
          rw [gapR_at hlt] at hg
          have HQ := Lib.hid hq
          have HG := Lib.hid hg
          clear hq hg
          generalize l[j] = x at *
          have HI := Lib.hid (iinr x n)
          by_cases h : x.1 ≤ n ∧ n < x.2
          · rw [decide_eq_true h] at HI
            have HH : Hid (gapR l n = x.2) := Lib.hid (by rw [HG.out, if_pos h]; exact gapR_low _ _ _ HQ.out.2.2.2 (Int.le_refl _))
            clear h
            go_wp2_with fail
            refine (HI.out _).mono ?_
            rintro e w2 ⟨rfl, hb2⟩
            have c3 : w2.cell? ⟨wr.heap.size, 1, none⟩ = some (.int .i64 x.2) := (hb2.cell (by simp)).trans (by rw [World.cell?_alloc_at _ _ _ _ rfl]; rfl)
            have HB2 := Lib.hid ((HB.out.alloc HB.out.size (.cells #[.int .i64 x.1, .int .i64 x.2] 26)).trans (hb2.mono (by have := HB.out.size; simp; omega)))
            clear hb2
            go_wp2
            go_ret
            exact ⟨by rw [HH.out]; rfl, HB2.out⟩
          · rw [decide_eq_false h] at HI
            have HH : Hid (gapR l n = gapR (l.drop (j + 1)) n) := Lib.hid (by rw [HG.out, if_neg h])
            clear h
            go_wp2_with fail
            refine (HI.out _).mono ?_
            rintro e w2 ⟨rfl, hb2⟩
            have HB2 := Lib.hid ((HB.out.alloc HB.out.size (.cells #[.int .i64 x.1, .int .i64 x.2] 26)).trans (hb2.mono (by have := HB.out.size; simp; omega)))
            clear hb2
            go_wp2
            go_roundw
            case rel => exact ⟨j + 1, x.2, hlt, by go_num, HQ.out.2.2.2, HH.out, HB2.out⟩
            case measure => simp [intOf]; omega
        · obtain rfl : j = l.length := by omega
          rw [List.drop_length] at hg
          have HG : Hid (gapR l n = n) := Lib.hid hg
          clear hg hq
          go_wp2
          go_ret
          exact ⟨by rw [HG.out]; rfl, HB.out⟩
    · rw [if_neg (fun h => hk h.1)]
      rw [decide_eq_false hk] at HC
      clear hk h0
      go_enter Tryd.func17, Tryd.ntmps17
      go_wp2_with fail
      refine HC.out.mono ?_
      rintro e w1 ⟨rfl, hb1⟩
      have HB1 := Lib.hid hb1
      clear hb1
      go_wp2
      go_ret
      exact ⟨rfl, HB1.out⟩
end Go.Proofs.YtjgabiklmloogaaDoor
