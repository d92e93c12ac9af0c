/-
  What laws.markText returns: a text that hangs on the number alone.
-/
import Derived.Test.YtmmoedhfeaokgaaKit
import Derived.Test.YtmmoedhfeaokgaaDrawNew
import Derived.Deep.QuietTactic
import Derived.Laws.Concat
namespace Go.Proofs.Ytmmoedhfeaokgaa
open Go.RowKit Go.Deep Go.Proofs.Ytmmoedhfeaokgaa.Num

/-- The digits of a number, the highest first. -/
def mdigs (n : Nat) : List UInt8 := if _h : n = 0 then [] else mdigs (n / 10) ++ [UInt8.ofNat (48 + n % 10)]
termination_by n
decreasing_by omega
theorem mdigs_step (n : Nat) (h : n ≠ 0) : mdigs n = mdigs (n / 10) ++ [UInt8.ofNat (48 + n % 10)] := by
  rw [mdigs, dif_neg h]
theorem mdigs_zero : mdigs 0 = [] := by rw [mdigs, dif_pos rfl]
/-- The text. -/
def markT (k : Int) : List UInt8 := if k ≤ 0 then [109, 48] else 109 :: mdigs k.toNat

set_option maxRecDepth 100000 in
set_option maxHeartbeats 1000000 in
/-- laws.markText -/
theorem mtext (k : Nat) (w : World) (hk : k ≤ 1000000000) :
    Calls Try.prog 95 #[.int .i64 (k : Int)] w fun e w' => e = .returned (.string ⟨(markT k).toArray⟩) ∧ Below w.heap.size w w' := by
  by_cases h0 : k = 0
  · subst h0
    rw [show markT ((0 : Nat) : Int) = [109, 48] from rfl]
    go_enter Try.func95, Try.ntmps95
    go_wp2
    go_ret
    exact ⟨rfl, Below.refl _ _⟩
  · have hd : decide ((k : Int) ≤ 0) = false := decide_eq_false (by omega)
    have hT : markT (k : Int) = 109 :: mdigs k := by unfold markT; rw [if_neg (by omega), Int.toNat_natCast]
    rw [hT]
    clear hT
    go_enter Try.func95, Try.ntmps95
    go_wp2
    go_loopw [3, 0] (fun v i wr => ∃ (n : Nat) (o : List UInt8), i = .int .i64 (n : Int) ∧ v = .string ⟨o.toArray⟩ ∧ n ≤ 1000000000 ∧ o.length + n ≤ 1000000000 ∧ mdigs k = mdigs n ++ o ∧ Below w.heap.size w wr) (fun _ i _ => (intOf i).toNat)
    case atStart => exact ⟨k, [], rfl, rfl, hk, by simpa using hk, by simp, Below.refl _ _⟩
    case round =>
      obtain ⟨n, o, rfl, rfl, hn, hol, hm, hb⟩ := hrel
      have HM := Lib.hid hm
      have HB := Lib.hid hb
      clear hm hb hd h0
      by_cases hz : n = 0
      · subst hz
        have HD : Hid (mdigs k = o) := Lib.hid (by rw [HM.out, mdigs_zero]; rfl)
        have ha : 1 + o.length ≤ 9223372036854775807 := by omega
        go_wp2
        go_ret
        exact ⟨by rw [HD.out]; first | rfl | (congr 2; apply ByteArray.ext; simp), HB.out⟩
      · have hd : decide (0 < (n : Int)) = true := decide_eq_true (by omega)
        have HS : Hid (mdigs k = mdigs (n / 10) ++ ([UInt8.ofNat (48 + n % 10)] ++ o)) := Lib.hid (by rw [HM.out, mdigs_step n hz, List.append_assoc])
        have hcv := conv_one wr (48 + n % 10) (by omega)
        rw [show ((48 + n % 10 : Nat) : Int) = 48 + (n : Int) % 10 by omega] at hcv
        have HB1 := Lib.hid (HB.out.alloc HB.out.size (.cells #[.int .u8 (48 + (n : Int) % 10)] 5))
        have ha : 1 + o.length ≤ 9223372036854775807 := by omega
        have hdec : n / 10 < n := by omega
        have hn1 : 0 < n := by omega
        clear hz HM
        go_wp2
        go_roundw
        case rel => exact ⟨n / 10, [UInt8.ofNat (48 + n % 10)] ++ o, by first | rfl | go_num | (congr 1; omega), by first | rfl | (congr 1; apply ByteArray.ext; simp), by omega, by simp; omega, HS.out, HB1.out⟩
        case measure => simp [intOf]; omega
end Go.Proofs.Ytmmoedhfeaokgaa
