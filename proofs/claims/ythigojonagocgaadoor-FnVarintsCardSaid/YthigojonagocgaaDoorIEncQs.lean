/-
  What impl.EncodeQuics returns.
-/
import Derived.Test.YthigojonagocgaaDoorSEncQs
import Derived.Test.YthigojonagocgaaDoorIEncQ
namespace Go.Proofs.YthigojonagocgaaDoor
open Go.RowKit Go.Deep Go.Proofs.YthigojonagocgaaDoor.Num

set_option maxRecDepth 100000 in
/-- impl.EncodeQuics -/
theorem iencqs (zs : List Int) (A : Option Addr) (cap B : Nat) (w : World) (hF : Forms w) (hB : B ≤ w.heap.size) (hr : Ints w B A zs) (hn : zs.length ≤ 1048576) :
    Calls Tryd.prog 20 #[.slice A zs.length cap] w fun e w' => e = .returned (.string ⟨(encQs zs).toArray⟩) ∧ Below w.heap.size w w' := by
  have HR := Lib.hid hr
  have HF0 := Lib.hid hF
  clear hr hF
  go_enter Tryd.func20, Tryd.ntmps20
  go_wp2
  go_loopw [9] (fun i wr => ∃ j : Nat, j ≤ zs.length ∧ i = .int .i64 j ∧ Builds wr w.heap.size w.heap.size ((zs.take j).flatMap encQ) ∧ Fit zs j ∧ Below w.heap.size w wr) (fun i _ => zs.length - (intOf i).toNat)
  case atStart => exact ⟨0, Nat.zero_le _, rfl, Builds.fresh w, fun i hi h => absurd h (by omega), (Below.refl _ _).alloc (Nat.le_refl _) _⟩
  case round =>
    obtain ⟨j, hj, rfl, hbl, hf, hb⟩ := hrel
    have HF := Lib.hid hf
    have HB := Lib.hid hb
    have HL := Lib.hid hbl
    clear hf hb hbl
    by_cases hlt : j < zs.length
    · obtain ⟨b, off, rfl, hbB, hc⟩ := (HR.out.below hB HB.out) j hlt
      have hl := flat_len zs j
      have hl2 := encQ_len zs[j]
      have hl3 : qsz zs[j] ≤ 8 := by rcases qsz_cases zs[j] with h | h | h | h | h <;> omega
      have HT := Lib.hid (flat_take zs j hlt)
      have HE := Lib.hid (iencq zs[j] wr (HF0.out.keep (Nat.le_refl _) HB.out))
      by_cases hz0 : qsz zs[j] = 0
      · have HQ : Hid (encQs zs = []) := Lib.hid (encQs_bad zs zs[j] (List.getElem_mem hlt) hz0)
        rw [encQ_nil _ hz0] at HE
        go_wp2_with (go_at_call 12; refine HE.out.mono ?_; rintro e w1 ⟨rfl, hb1⟩)
        go_ret
        exact ⟨by rw [HQ.out]; rfl, HB.out.trans (hb1.mono HB.out.size)⟩
      · have HM := Lib.hid (HF.out.more hlt hz0)
        have hne := encQ_ne _ hz0
        generalize encQ zs[j] = l at *
        have ht : l.isEmpty = false := by simpa using hne
        clear hne
        go_wp2_with fail
        refine HE.out.mono ?_
        rintro e w1 ⟨rfl, hb1⟩
        have HB1 := Lib.hid (HB.out.trans (hb1.mono HB.out.size))
        have HL1 := Lib.hid (HL.out.later hb1)
        clear hb1
        go_wp2_with fail
        refine (bwrite w.heap.size w.heap.size _ l w1 HL1.out (by omega) HB1.out.size).mono ?_
        rintro e w2 ⟨⟨v, rfl⟩, hl4, hb2⟩
        go_wp2
        go_roundw
        case rel => exact ⟨j + 1, by omega, by go_num, by rw [HT.out]; exact hl4, HM.out, HB1.out.trans hb2⟩
        case measure => simp [intOf]; omega
    · obtain rfl : j = zs.length := by omega
      have HA := Lib.hid (HF.out.all (Nat.le_refl _))
      go_wp2_with fail
      refine (bstring w.heap.size w.heap.size _ wr HL.out HB.out.size).mono ?_
      rintro e w1 ⟨rfl, hb1⟩
      go_wp2
      go_ret
      exact ⟨by rw [HA.out, List.take_of_length_le (Nat.le_refl _)]; rfl, HB.out.trans hb1⟩
end Go.Proofs.YthigojonagocgaaDoor
