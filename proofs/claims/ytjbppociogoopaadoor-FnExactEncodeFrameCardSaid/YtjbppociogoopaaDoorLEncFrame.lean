/-
  The law on EncodeFrame, walked.
-/
import Derived.Test.YtjbppociogoopaaDoorLFrA
import Derived.Test.YtjbppociogoopaaDoorSFr4
import Derived.Test.YtjbppociogoopaaDoorIFr9
namespace Go.Proofs.YtjbppociogoopaaDoor
open Go.RowKit Go.Deep Go.Proofs.YtjbppociogoopaaDoor.Num

set_option maxRecDepth 100000 in
/-- The law. -/
theorem law_EncodeFrame (f : Fr) (w : World) (hs : f.data.size ≤ maxLen) (hF : Forms w) :
    Calls Tryd.prog 5 #[frV f] w fun e w' => e = .returned (.bool true) ∧ Below w.heap.size w w' := by
  have hs2 : f.data.size ≤ 9223372036854775807 := by unfold maxLen at hs; omega
  have HZ := Lib.hid (fun W => lsz f 1048576 W (by omega) (by omega) hs2)
  have HT := Lib.hid (lto f)
  have HF := Lib.hid hF
  clear hF
  have HB0 := Lib.hid ((Below.refl w.heap.size w).alloc (Nat.le_refl _) (.cells (frC f) 43))
  have c0 : ∀ W, Below (w.heap.size + 1) (w.alloc (.cells (frC f) 43)) W → W.heap[w.heap.size]? = some (.cells (frC f) 43 (0, 0)) := fun W h => (h.block _ (by omega)).trans (heap_alloc_new w _)
  have C0 := Lib.hid c0
  by_cases hbig : (1048576 : Int) < f.data.size
  · rw [if_pos hbig] at HZ
    clear hbig c0 hs hs2
    go_enter Tryd.func5, Tryd.ntmps5
    go_wp2_with fail
    refine (HZ.out _).mono ?_
    rintro e w1 ⟨rfl, hb1⟩
    have HB1 := Lib.hid (HB0.out.trans (hb1.mono HB0.out.size))
    clear hb1
    go_wp2
    go_ret
    exact ⟨rfl, HB1.out⟩
  · rw [if_neg hbig] at HZ
    obtain ⟨m, hm⟩ : ∃ m : Int, 1048576 - (f.data.size : Int) = m := ⟨_, rfl⟩
    rw [hm] at HZ
    have hd : decide (m < 0) = false := decide_eq_false (by omega)
    have HS := Lib.hid (sencf f)
    have HI := Lib.hid (iencf f)
    obtain ⟨x, hx⟩ : ∃ x : ByteArray, (⟨(encF f).toArray⟩ : ByteArray) = x := ⟨_, rfl⟩
    rw [hx] at HS HI
    skip
    clear hx hm hbig c0 hs hs2
    go_enter Tryd.func5, Tryd.ntmps5
    go_wp2_with fail
    refine (HZ.out _).mono ?_
    rintro e w1 ⟨rfl, hb1⟩
    have HB1 := Lib.hid (HB0.out.trans (hb1.mono HB0.out.size))
    have K1 := Lib.hid (hb1.mono (show w.heap.size + 1 ≤ (w.alloc (.cells (frC f) 43)).heap.size by simp))
    have z1 := C0.out w1 K1.out
    clear hb1
    obtain ⟨q0, q1, q2, q3, q4, q5, q6, q7, q8⟩ := row9 z1
    go_wp2_with fail
    refine (HT.out _).mono ?_
    rintro e w2 ⟨rfl, hb⟩
    have HB2 := Lib.hid (HB1.out.trans (hb.mono HB1.out.size))
    have K2 := Lib.hid (K1.out.trans (hb.mono (Nat.le_trans (by simp) K1.out.size)))
    have z2 := C0.out w2 K2.out
    clear hb q0 q1 q2 q3 q4 q5 q6 q7 q8 z1 HB1 K1
    obtain ⟨q0, q1, q2, q3, q4, q5, q6, q7, q8⟩ := row9 z2
    go_wp2_with fail
    refine (HS.out _).mono ?_
    rintro e w3 ⟨rfl, hb⟩
    have HB3 := Lib.hid (HB2.out.trans (hb.mono HB2.out.size))
    have K3 := Lib.hid (K2.out.trans (hb.mono (Nat.le_trans (by simp) K2.out.size)))
    have z3 := C0.out w3 K3.out
    clear hb q0 q1 q2 q3 q4 q5 q6 q7 q8 z2 HB2 K2
    obtain ⟨q0, q1, q2, q3, q4, q5, q6, q7, q8⟩ := row9 z3
    go_wp2_with fail
    refine (HT.out _).mono ?_
    rintro e w4 ⟨rfl, hb⟩
    have HB4 := Lib.hid (HB3.out.trans (hb.mono HB3.out.size))
    have K4 := Lib.hid (K3.out.trans (hb.mono (Nat.le_trans (by simp) K3.out.size)))
    have z4 := C0.out w4 K4.out
    clear hb q0 q1 q2 q3 q4 q5 q6 q7 q8 z3 HB3 K3
    obtain ⟨q0, q1, q2, q3, q4, q5, q6, q7, q8⟩ := row9 z4
    go_wp2_with fail
    refine (HI.out w4 (HF.out.keep (Nat.le_refl _) HB4.out)).mono ?_
    rintro e w5 ⟨rfl, hb⟩
    have HB5 := Lib.hid (HB4.out.trans (hb.mono HB4.out.size))
    have K5 := Lib.hid (K4.out.trans (hb.mono (Nat.le_trans (by simp) K4.out.size)))
    have z5 := C0.out w5 K5.out
    clear hb q0 q1 q2 q3 q4 q5 q6 q7 q8 z4 HB4 K4
    go_wp2
    go_ret
    exact ⟨rfl, HB5.out⟩
end Go.Proofs.YtjbppociogoopaaDoor
