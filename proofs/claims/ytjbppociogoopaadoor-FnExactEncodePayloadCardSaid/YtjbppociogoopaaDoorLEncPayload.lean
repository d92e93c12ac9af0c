/-
  The law on EncodePayload, walked.
-/
import Derived.Test.YtjbppociogoopaaDoorLFrs2
import Derived.Test.YtjbppociogoopaaDoorIFr13
namespace Go.Proofs.YtjbppociogoopaaDoor
open Go.RowKit Go.Deep Go.Proofs.YtjbppociogoopaaDoor.Num

set_option maxRecDepth 100000 in
set_option maxHeartbeats 1000000 in
/-- The law. -/
theorem law_EncodePayload (l : List Fr) (A : Option Addr) (cap : Nat) (w : World) (hr : Frs w w.heap.size A l) (hn : l.length ≤ maxLen) (hs : ∀ f ∈ l, f.data.size ≤ maxLen) (hF : Forms w) :
    Calls Tryd.prog 8 #[.slice A l.length cap] w fun e w' => e = .returned (.bool true) ∧ Below w.heap.size w w' := by
  have HZ := Lib.hid (lszs l A cap w.heap.size w (Nat.le_refl _) hr (by unfold maxLen at hn; omega) (fun f hf => by have := hs f hf; unfold maxLen at this; omega))
  obtain ⟨m, hm⟩ : ∃ m : Int, (if 1048576 < (l.length : Int) then -1 else szFs (1048576 - l.length) l) = m := ⟨_, rfl⟩
  rw [hm] at HZ
  by_cases hneg : m < 0
  · have hd : decide (m < 0) = true := decide_eq_true hneg
    clear hneg hm hr hF hs
    go_enter Tryd.func8, Tryd.ntmps8
    go_wp2_with fail
    refine HZ.out.mono ?_
    rintro e w1 ⟨rfl, hb1⟩
    have HB1 := Lib.hid hb1
    clear hb1
    go_wp2
    go_ret
    exact ⟨rfl, HB1.out⟩
  · have hd : decide (m < 0) = false := decide_eq_false hneg
    have hlen : l.length ≤ 1048576 := by
      by_cases h : 1048576 < (l.length : Int)
      · rw [if_pos h] at hm; omega
      · omega
    have HR := Lib.hid hr
    have HF := Lib.hid hF
    have HTO : Hid (∀ W, Frs W w.heap.size A l → w.heap.size ≤ W.heap.size → Calls Tryd.prog 37 #[.slice A l.length cap] W fun e w' => e = .returned (.slice (some ⟨W.heap.size, 0, none⟩) l.length l.length) ∧ RowF w' W.heap.size W.heap.size l.length l.length l ∧ Below W.heap.size W w') := Lib.hid fun W h1 h2 => toframes l A cap w.heap.size W h2 h1 hlen
    have HS : Hid (∀ g W, Frs W W.heap.size (some ⟨g, 0, none⟩) l → Calls Tryd.prog 28 #[.slice (some ⟨g, 0, none⟩) l.length l.length] W fun e w' => e = .returned (.string ⟨(encP l).toArray⟩) ∧ Below W.heap.size W w') := Lib.hid fun g W h => sencp l _ _ W.heap.size W (Nat.le_refl _) h hlen
    have HI : Hid (∀ g W, Frs W W.heap.size (some ⟨g, 0, none⟩) l → Forms W → Calls Tryd.prog 26 #[.slice (some ⟨g, 0, none⟩) l.length l.length] W fun e w' => e = .returned (.string ⟨(encP l).toArray⟩) ∧ Below W.heap.size W w') := Lib.hid fun g W h h2 => iencp l _ _ W.heap.size W (Nat.le_refl _) h hlen h2
    obtain ⟨x, hx⟩ : ∃ x : ByteArray, (⟨(encP l).toArray⟩ : ByteArray) = x := ⟨_, rfl⟩
    rw [hx] at HS HI
    clear hneg hm hr hF hs hx
    go_enter Tryd.func8, Tryd.ntmps8
    go_wp2_with fail
    refine HZ.out.mono ?_
    rintro e w1 ⟨rfl, hb1⟩
    have HB1 := Lib.hid hb1
    clear hb1
    go_wp2_with fail
    refine (HTO.out w1 (HR.out.below (Nat.le_refl _) HB1.out) HB1.out.size).mono ?_
    rintro e w2 ⟨rfl, hrow2, hb2⟩
    have HR2 := Lib.hid hrow2.frs
    have HB2 := Lib.hid (HB1.out.trans (hb2.mono HB1.out.size))
    clear hrow2 hb2
    go_wp2_with fail
    refine (HS.out _ w2 HR2.out).mono ?_
    rintro e w3 ⟨rfl, hb3⟩
    have HB3 := Lib.hid (HB2.out.trans (hb3.mono HB2.out.size))
    clear hb3 HR2
    go_wp2_with fail
    refine (HTO.out w3 (HR.out.below (Nat.le_refl _) HB3.out) HB3.out.size).mono ?_
    rintro e w4 ⟨rfl, hrow4, hb4⟩
    have HR4 := Lib.hid hrow4.frs
    have HB4 := Lib.hid (HB3.out.trans (hb4.mono HB3.out.size))
    clear hrow4 hb4
    go_wp2_with fail
    refine (HI.out _ w4 HR4.out (HF.out.keep (Nat.le_refl _) HB4.out)).mono ?_
    rintro e w5 ⟨rfl, hb5⟩
    have HR5 := Lib.hid ((HR4.out.below (Nat.le_refl _) hb5).up hb5.size)
    have HB5 := Lib.hid (HB4.out.trans (hb5.mono HB4.out.size))
    clear hb5 HR4
    go_wp2_with fail
    refine (HTO.out w5 (HR.out.below (Nat.le_refl _) HB5.out) HB5.out.size).mono ?_
    rintro e w6 ⟨rfl, hrow6, hb6⟩
    have HR6 := Lib.hid hrow6.frs
    have HR5' := Lib.hid ((HR5.out.below (Nat.le_refl _) hb6).up hb6.size)
    have HB6 := Lib.hid (HB5.out.trans (hb6.mono HB5.out.size))
    clear hrow6 hb6 HR5
    go_wp2_with fail
    refine (eqframes l _ _ _ _ w6.heap.size w6 (Nat.le_refl _) HR5'.out HR6.out (by omega)).mono ?_
    rintro e w7 ⟨rfl, hb7⟩
    have HB7 := Lib.hid (HB6.out.trans (hb7.mono HB6.out.size))
    clear hb7
    go_wp2
    go_ret
    exact ⟨rfl, HB7.out⟩
end Go.Proofs.YtjbppociogoopaaDoor
