/-
  What impl.IsRanges returns.
-/
import Derived.Test.YtmaaldmakgjplaaSRngK
namespace Go.Proofs.Ytmaaldmakgjplaa
open Go.RowKit Go.Deep Go.Proofs.Ytmaaldmakgjplaa.Num

namespace Num
theorem okR.at {l : List Rg} {q : Int} {j : Nat} (h : j < l.length) : okR q (l.drop j) ↔ (q < l[j].1 ∧ l[j].1 < l[j].2 ∧ l[j].2 ≤ 4611686018427387903 ∧ okR l[j].2 (l.drop (j + 1))) := by
  rw [List.drop_eq_getElem_cons h]
  exact Iff.rfl
end Num

set_option maxRecDepth 100000 in
/-- impl.IsRanges -/
theorem iisr (l : List Rg) (A : Option Addr) (cap B : Nat) (w : World) (hB : B ≤ w.heap.size) (hr : Rgs w B A l) (hn : l.length ≤ 1000000000) :
    Calls Try.prog 22 #[.slice A l.length cap] w fun e w' => e = .returned (.bool (decide (okR (-1) l))) ∧ Below w.heap.size w w' := by
  have HR := Lib.hid hr
  clear hr
  go_enter Try.func22, Try.ntmps22
  go_wp2
  go_loopw [3, 8] (fun p i wr => ∃ (j : Nat) (q : Int), j ≤ l.length ∧ i = .int .i64 j ∧ p = .int .i64 q ∧ (okR (-1) l ↔ okR q (l.drop j)) ∧ Below w.heap.size w wr) (fun _ i _ => l.length - (intOf i).toNat)
  case atStart => exact ⟨0, -1, Nat.zero_le _, rfl, rfl, Iff.rfl, Below.refl _ _⟩
  case round =>
    obtain ⟨j, q, hj, rfl, rfl, hq, hb⟩ := hrel
    have HQ := Lib.hid hq
    have HB := Lib.hid hb
    clear hq hb
    by_cases hlt : j < l.length
    · have HRW := Lib.hid (HR.out.below hB HB.out)
      obtain ⟨b, off, rfl, hbB, c1, c2⟩ := HRW.out j hlt
      have HE := Lib.hid (HQ.out.trans (okR.at hlt))
      generalize l[j] = x at *
      by_cases h1 : x.1 ≤ q
      · have hd1 : decide (x.1 ≤ q) = true := decide_eq_true h1
        have HN : Hid (¬ okR (-1) l) := Lib.hid (fun h => by have := (HE.out.1 h).1; omega)
        clear h1
        go_wp2
        go_ret
        exact ⟨by rw [decide_eq_false HN.out]; rfl, HB.out.alloc HB.out.size _⟩
      · have hd1 : decide (x.1 ≤ q) = false := decide_eq_false h1
        by_cases h2 : x.2 ≤ x.1
        · have hd2 : decide (x.2 ≤ x.1) = true := decide_eq_true h2
          have HN : Hid (¬ okR (-1) l) := Lib.hid (fun h => by have := (HE.out.1 h).2.1; omega)
          clear h1 h2
          go_wp2
          go_ret
          exact ⟨by rw [decide_eq_false HN.out]; rfl, HB.out.alloc HB.out.size _⟩
        · have hd2 : decide (x.2 ≤ x.1) = false := decide_eq_false h2
          by_cases h3 : 4611686018427387903 < x.2
          · have hd3 : decide (4611686018427387903 < x.2) = true := decide_eq_true h3
            have HN : Hid (¬ okR (-1) l) := Lib.hid (fun h => by have := (HE.out.1 h).2.2.1; omega)
            clear h1 h2 h3
            go_wp2
            go_ret
            exact ⟨by rw [decide_eq_false HN.out]; rfl, HB.out.alloc HB.out.size _⟩
          · have hd3 : decide (4611686018427387903 < x.2) = false := decide_eq_false h3
            have HN : Hid (okR (-1) l ↔ okR x.2 (l.drop (j + 1))) := Lib.hid ⟨fun h => (HE.out.1 h).2.2.2, fun h => HE.out.2 ⟨by omega, by omega, by omega, h⟩⟩
            clear h1 h2 h3
            go_wp2
            go_roundw
            case rel => exact ⟨j + 1, x.2, hlt, by go_num, rfl, HN.out, HB.out.alloc HB.out.size _⟩
            case measure => simp [intOf]; omega
    · obtain rfl : j = l.length := by omega
      have HN : Hid (okR (-1) l) := Lib.hid (HQ.out.2 (by rw [List.drop_length]; trivial))
      go_wp2
      go_ret
      exact ⟨by rw [decide_eq_true HN.out]; rfl, HB.out⟩
end Go.Proofs.Ytmaaldmakgjplaa
