/-
  What impl.EncodePayload returns.
-/
import Derived.Test.YtjbppociogoopaaDoorIFr9
import Derived.Test.YtjbppociogoopaaDoorSFr9
namespace Go.Proofs.YtjbppociogoopaaDoor
open Go.RowKit Go.Deep Go.Proofs.YtjbppociogoopaaDoor.Num

theorem Builds.alloc {w : World} {B b : Nat} {l : List UInt8} (h : Builds w B b l) (o : Obj) : Builds (w.alloc o) B b l := h.later ((Below.refl _ _).alloc (Nat.le_refl _) o)
theorem encP_long (l : List Fr) (j : Nat) (h : 400 < ((l.take j).flatMap encF).length) : encP l = [] := by
  unfold encP
  rw [if_neg]
  rintro ⟨_, h2⟩
  have e : l.flatMap encF = (l.take j).flatMap encF ++ (l.drop j).flatMap encF := by rw [← List.flatMap_append, List.take_append_drop]
  rw [e, List.length_append] at h2
  omega

set_option maxRecDepth 100000 in
set_option maxHeartbeats 1000000 in
/-- impl.EncodePayload -/
theorem iencp (l : List Fr) (A : Option Addr) (cap B : Nat) (w : World) (hB : B ≤ w.heap.size) (hr : Frs w B A l) (hn : l.length ≤ 1048576) (hF : Forms w) :
    Calls Tryd.prog 26 #[.slice A l.length cap] w fun e w' => e = .returned (.string ⟨(encP l).toArray⟩) ∧ Below w.heap.size w w' := by
  have HR := Lib.hid hr
  have HF := Lib.hid hF
  clear hr hF
  go_enter Tryd.func26, Tryd.ntmps26
  go_wp2
  go_loopw [9] (fun x wr => ∃ j : Nat, j ≤ l.length ∧ x = .int .i64 j ∧ (∀ f ∈ l.take j, okF f) ∧ ((l.take j).flatMap encF).length ≤ 400 ∧ Builds wr w.heap.size w.heap.size ((l.take j).flatMap encF) ∧ w.heap.size < wr.heap.size ∧ Below w.heap.size w wr) (fun x _ => l.length - (intOf x).toNat)
  case atStart => exact ⟨0, Nat.zero_le _, rfl, by simp, by simp, Builds.fresh w, by simp, (Below.refl _ _).alloc (Nat.le_refl _) _⟩
  case round =>
    obtain ⟨j, hj, rfl, hok, hle, hbl, hsz, hb⟩ := hrel
    have HO := Lib.hid hok
    have HL := Lib.hid hbl
    have HB := Lib.hid hb
    clear hok hbl hb
    by_cases hlt : j < l.length
    · obtain ⟨b, off, rfl, hbB, c0, c1, c2, c3, c4, c5, c6, c7, c8⟩ := (HR.out.below hB HB.out).cells j hlt
      have HT := Lib.hid (flatF_take l j hlt)
      have hel := encF_len l[j]
      have HC := Lib.hid (iencf l[j] _ ((HF.out.keep (Nat.le_refl _) HB.out).alloc (.cells (frC l[j]) 25)))
      have HL0 := Lib.hid (HL.out.alloc (.cells (frC l[j]) 25))
      have HB0 := Lib.hid (HB.out.alloc HB.out.size (.cells (frC l[j]) 25))
      have hsz0 : w.heap.size < (wr.alloc (.cells (frC l[j]) 25)).heap.size := by simp; omega
      by_cases hf : okF l[j]
      · have HO2 : Hid (∀ f ∈ l.take (j + 1), okF f) := Lib.hid (by
          rw [List.take_succ_eq_append_getElem hlt]
          intro f hm
          rcases List.mem_append.1 hm with hm | hm
          · exact HO.out f hm
          · rw [List.mem_singleton.1 hm]; exact hf)
        have hemp := text_full _ (encF_ne _ hf)
        have hemp2 : (encF l[j]).isEmpty = false := by cases hh : encF l[j] with | nil => exact absurd hh (encF_ne _ hf) | cons x y => rfl
        have HLG := Lib.hid (encP_long l (j + 1))
        rw [HT.out, List.length_append] at HLG
        clear hf
        generalize hx : l[j] = x at *
        clear hx
        generalize (l.take j).flatMap encF = acc at *
        generalize encF x = bs at *
        go_wp2_with fail
        refine HC.out.mono ?_
        rintro e w1 ⟨rfl, hb1⟩
        have HB1 := Lib.hid (HB0.out.trans (hb1.mono HB0.out.size))
        have HL1 := Lib.hid (HL0.out.later hb1)
        have hsz1 : w.heap.size < w1.heap.size := Nat.lt_of_lt_of_le hsz0 hb1.size
        clear hb1 c0 c1 c2 c3 c4 c5 c6 c7 c8 hsz0 HC
        go_wp2_with fail
        refine (blenK w.heap.size w.heap.size acc w1 HL1.out).mono ?_
        rintro e w2 ⟨rfl, rfl⟩
        by_cases hx : 400 < acc.length + bs.length
        · have HE := Lib.hid (HLG.out hx)
          have hd : decide (400 < (acc.length : Int) + (bs.length : Int)) = true := decide_eq_true (by omega)
          clear hx
          go_wp2
          go_ret
          exact ⟨by rw [HE.out]; rfl, HB1.out⟩
        · have hd : decide (400 < (acc.length : Int) + (bs.length : Int)) = false := decide_eq_false (by omega)
          go_wp2_with fail
          refine (bwriteK w.heap.size w.heap.size acc bs w2 HL1.out (by omega) (Nat.le_of_lt hsz1)).mono ?_
          rintro e w3 ⟨⟨v, rfl⟩, hl3, hb3, _⟩
          go_wp2
          go_roundw
          case rel => exact ⟨j + 1, hlt, by go_num, HO2.out, by rw [HT.out, List.length_append]; omega, by rw [HT.out]; exact hl3, Nat.lt_of_lt_of_le hsz1 hb3.size, HB1.out.trans hb3⟩
          case measure => simp [intOf]; omega
      · have HE := Lib.hid (encP_bad l l[j] (List.getElem_mem hlt) hf)
        have hemp := text_empty _ (encF_no _ hf)
        have hemp2 : (encF l[j]).isEmpty = true := by rw [encF_no _ hf]; rfl
        clear hf HT hel
        generalize hx : l[j] = x at *
        clear hx
        generalize encF x = bs at *
        go_wp2_with fail
        refine HC.out.mono ?_
        rintro e w1 ⟨rfl, hb1⟩
        have HB1 := Lib.hid (HB0.out.trans (hb1.mono HB0.out.size))
        clear hb1
        go_wp2
        go_ret
        exact ⟨by rw [HE.out]; rfl, HB1.out⟩
    · obtain rfl : j = l.length := by omega
      have HE : Hid (encP l = l.flatMap encF) := Lib.hid (by
        have h := HO.out
        rw [List.take_length] at h hle
        unfold encP
        rw [if_pos ⟨h, hle⟩])
      go_wp2_with fail
      refine (bstring w.heap.size w.heap.size _ wr HL.out (Nat.le_of_lt hsz)).mono ?_
      rintro e w1 ⟨rfl, hb1⟩
      go_wp2
      go_ret
      exact ⟨by rw [HE.out]; rfl, HB.out.trans hb1⟩
end Go.Proofs.YtjbppociogoopaaDoor
