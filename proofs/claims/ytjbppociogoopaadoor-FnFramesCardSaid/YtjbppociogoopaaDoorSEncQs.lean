/-
  What spec.EncodeQuics returns.
-/
import Derived.Test.YtjbppociogoopaaDoorInts
import Derived.Test.YtjbppociogoopaaDoorSEncQ
namespace Go.Proofs.YtjbppociogoopaaDoor
open Go.RowKit Go.Deep Go.Proofs.YtjbppociogoopaaDoor.Num

theorem flat_take (zs : List Int) (j : Nat) (h : j < zs.length) : (zs.take (j + 1)).flatMap encQ = (zs.take j).flatMap encQ ++ encQ zs[j] := by
  rw [List.take_succ_eq_append_getElem h, List.flatMap_append]
  simp
theorem flat_len (zs : List Int) (j : Nat) : ((zs.take j).flatMap encQ).length ≤ 8 * j := by
  have h : ∀ l : List Int, (l.flatMap encQ).length ≤ 8 * l.length := fun l => by
    induction l with
    | nil => simp
    | cons z l ih =>
      rw [List.flatMap_cons, List.length_append, encQ_len, List.length_cons]
      rcases qsz_cases z with h | h | h | h | h <;> omega
  have := h (zs.take j)
  have := List.length_take_le j zs
  omega
/-- All of the first j numbers have forms. -/
def Fit (zs : List Int) (j : Nat) : Prop := ∀ i (hi : i < zs.length), i < j → qsz zs[i] ≠ 0
theorem Fit.more {zs : List Int} {j : Nat} (h : Fit zs j) (hj : j < zs.length) (hz : qsz zs[j] ≠ 0) : Fit zs (j + 1) := by
  intro i hi hij
  by_cases e : i = j
  · subst e; exact hz
  · exact h i hi (by omega)
theorem Fit.all {zs : List Int} {j : Nat} (h : Fit zs j) (hj : zs.length ≤ j) : encQs zs = (zs.take j).flatMap encQ := by
  rw [List.take_of_length_le hj]
  refine encQs_all zs fun z hz => ?_
  obtain ⟨i, hi, rfl⟩ := List.getElem_of_mem hz
  exact h i hi (by omega)

set_option maxRecDepth 100000 in
/-- spec.EncodeQuics -/
theorem sencqs (zs : List Int) (A : Option Addr) (cap B : Nat) (w : World) (hB : B ≤ w.heap.size) (hr : Ints w B A zs) (hn : zs.length ≤ 1048576) (hz : ∀ z ∈ zs, -9223372036854775808 ≤ z ∧ z ≤ 9223372036854775807) :
    Calls Tryd.prog 51 #[.slice A zs.length cap] w fun e w' => e = .returned (.string ⟨(encQs zs).toArray⟩) ∧ Below w.heap.size w w' := by
  have HR := Lib.hid hr
  have HZ := Lib.hid hz
  clear hr hz
  go_enter Tryd.func51, Tryd.ntmps51
  go_wp2
  go_loopw [3, 4] (fun s i wr => ∃ j : Nat, j ≤ zs.length ∧ i = .int .i64 j ∧ s = .string ⟨((zs.take j).flatMap encQ).toArray⟩ ∧ Fit zs j ∧ Below w.heap.size w wr) (fun _ i _ => zs.length - (intOf i).toNat)
  case atStart => exact ⟨0, Nat.zero_le _, rfl, rfl, fun i hi h => absurd h (by omega), Below.refl _ _⟩
  case round =>
    obtain ⟨j, hj, rfl, rfl, hf, hb⟩ := hrel
    have HF := Lib.hid hf
    have HB := Lib.hid hb
    clear hf hb
    by_cases hlt : j < zs.length
    · obtain ⟨b, off, rfl, hbB, hc⟩ := (HR.out.below hB HB.out) j hlt
      have hzr := HZ.out zs[j] (List.getElem_mem hlt)
      have hl := flat_len zs j
      have hl2 := encQ_len zs[j]
      have hl3 : qsz zs[j] ≤ 8 := by rcases qsz_cases zs[j] with h | h | h | h | h <;> omega
      have HT := Lib.hid (flat_take zs j hlt)
      by_cases hz0 : qsz zs[j] = 0
      · have HQ : Hid (encQs zs = []) := Lib.hid (encQs_bad zs zs[j] (List.getElem_mem hlt) hz0)
        have HS := Lib.hid (ssize zs[j] wr)
        rw [hz0] at HS
        go_wp2_with (go_at_call 75; refine HS.out.mono ?_; rintro e w1 ⟨rfl, rfl⟩)
        go_ret
        exact ⟨by rw [HQ.out]; rfl, HB.out⟩
      · have HS := Lib.hid (ssize zs[j] wr)
        have HE := Lib.hid (sencq zs[j] wr hzr)
        have HM := Lib.hid (HF.out.more hlt hz0)
        have ht : ((qsz zs[j] : Int) == 0) = false := by simp; omega
        have hadd : ∀ W : World, (Op.stringOp .add ⟨((zs.take j).flatMap encQ).toArray⟩ ⟨(encQ zs[j]).toArray⟩).run Tryd.prog W = .ok (.string ⟨((zs.take (j + 1)).flatMap encQ).toArray⟩) W := fun W => by
          rw [run_string_add_lists W _ _ (by omega) (by omega), HT.out]
        go_wp2_with (first | (go_at_call 75; refine HS.out.mono ?_; rintro e w1 ⟨rfl, rfl⟩) | (go_at_call 76; refine HE.out.mono ?_; rintro e w1 ⟨rfl, hb1⟩))
        go_roundw
        case rel => exact ⟨j + 1, by omega, by go_num, rfl, HM.out, HB.out.trans (hb1.mono HB.out.size)⟩
        case measure => simp [intOf]; omega
    · obtain rfl : j = zs.length := by omega
      have HA := Lib.hid (HF.out.all (Nat.le_refl _))
      go_wp2
      go_ret
      exact ⟨by rw [HA.out]; rfl, HB.out⟩
end Go.Proofs.YtjbppociogoopaaDoor
