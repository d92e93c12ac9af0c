/-
  What spec.EncodePayload returns.
-/
import Derived.Test.YtjbppociogoopaaDoorSFr4
import Derived.Test.YtjbppociogoopaaDoorFrs
import Derived.Test.YtjbppociogoopaaDoorFrN3
namespace Go.Proofs.YtjbppociogoopaaDoor
open Go.RowKit Go.Deep Go.Proofs.YtjbppociogoopaaDoor.Num

theorem text_empty (l : List UInt8) (h : l = []) : (⟨l.toArray⟩ : ByteArray).toList.isEmpty = true := by
  subst h
  rw [ByteArray.toList_eq]
  rfl
theorem text_full (l : List UInt8) (h : l ≠ []) : (⟨l.toArray⟩ : ByteArray).toList.isEmpty = false := by
  rw [ByteArray.toList_eq]
  cases l with
  | nil => exact absurd rfl h
  | cons x y => rfl
/-- Two texts, one behind the other. -/
theorem text_add (x y : List UInt8) : (⟨x.toArray⟩ ++ ⟨y.toArray⟩ : ByteArray) = ⟨(x ++ y).toArray⟩ := by
  apply ByteArray.ext
  simp

set_option maxRecDepth 100000 in
set_option maxHeartbeats 1000000 in
/-- spec.EncodePayload -/
theorem sencp (l : List Fr) (A : Option Addr) (cap B : Nat) (w : World) (hB : B ≤ w.heap.size) (hr : Frs w B A l) (hn : l.length ≤ 1048576) :
    Calls Tryd.prog 28 #[.slice A l.length cap] w fun e w' => e = .returned (.string ⟨(encP l).toArray⟩) ∧ Below w.heap.size w w' := by
  have HR := Lib.hid hr
  clear hr
  go_enter Tryd.func28, Tryd.ntmps28
  go_wp2
  go_loopw [3, 4] (fun v i wr => ∃ j : Nat, j ≤ l.length ∧ i = .int .i64 j ∧ v = .string ⟨((l.take j).flatMap encF).toArray⟩ ∧ (∀ f ∈ l.take j, okF f) ∧ Below w.heap.size w wr) (fun _ i _ => l.length - (intOf i).toNat)
  case atStart => exact ⟨0, Nat.zero_le _, rfl, rfl, by simp, Below.refl _ _⟩
  case round =>
    obtain ⟨j, hj, rfl, rfl, hok, hb⟩ := hrel
    have HO := Lib.hid hok
    have HB := Lib.hid hb
    clear hok hb
    have hfl : ((l.take j).flatMap encF).length ≤ 432 * j := by
      have h1 := flatF_len (l.take j)
      have h2 : (l.take j).length ≤ j := List.length_take_le _ _
      omega
    by_cases hlt : j < l.length
    · obtain ⟨b, off, rfl, hbB, c0, c1, c2, c3, c4, c5, c6, c7, c8⟩ := (HR.out.below hB HB.out).cells j hlt
      have HC := Lib.hid (sencf l[j])
      have HT := Lib.hid (flatF_take l j hlt)
      have hel := encF_len l[j]
      by_cases hf : okF l[j]
      · have HO2 : Hid (∀ f ∈ l.take (j + 1), okF f) := Lib.hid (by
          rw [List.take_succ_eq_append_getElem hlt]
          intro f hm
          rcases List.mem_append.1 hm with hm | hm
          · exact HO.out f hm
          · rw [List.mem_singleton.1 hm]; exact hf)
        have hemp := text_full _ (encF_ne _ hf)
        have hemp2 : (encF l[j]).isEmpty = false := by cases hh : encF l[j] with | nil => exact absurd hh (encF_ne _ hf) | cons x y => rfl
        clear hf
        generalize hx : l[j] = x at *
        clear hx
        generalize (l.take j).flatMap encF = acc at *
        generalize encF x = bs at *
        have hsum : acc.length + bs.length ≤ 9223372036854775807 := by omega
        go_wp2_with fail
        refine (HC.out _).mono ?_
        rintro e w1 ⟨rfl, hb1⟩
        have HB1 := Lib.hid (HB.out.trans (hb1.mono HB.out.size))
        clear hb1
        go_wp2
        go_roundw
        case rel => exact ⟨j + 1, hlt, by go_num, by rw [HT.out, text_add], HO2.out, HB1.out⟩
        case measure => simp [intOf]; omega
      · have HE := Lib.hid (encP_bad l l[j] (List.getElem_mem hlt) hf)
        have hemp := text_empty _ (encF_no _ hf)
        have hemp2 : (encF l[j]).isEmpty = true := by rw [encF_no _ hf]; rfl
        clear hf HT hel
        generalize hx : l[j] = x at *
        clear hx
        generalize encF x = bs at *
        generalize (l.take j).flatMap encF = acc at *
        go_wp2_with fail
        refine (HC.out _).mono ?_
        rintro e w1 ⟨rfl, hb1⟩
        have HB1 := Lib.hid (HB.out.trans (hb1.mono HB.out.size))
        clear hb1
        go_wp2
        go_ret
        exact ⟨by rw [HE.out]; rfl, HB1.out⟩
    · obtain rfl : j = l.length := by omega
      have HE : Hid (encP l = if (l.flatMap encF).length ≤ 400 then l.flatMap encF else []) := Lib.hid (by
        have h := HO.out
        rw [List.take_length] at h
        unfold encP
        by_cases hx : (l.flatMap encF).length ≤ 400
        · rw [if_pos ⟨h, hx⟩, if_pos hx]
        · rw [if_neg (fun hh => hx hh.2), if_neg hx])
      rw [List.take_length] at hfl ⊢
      clear HR HO
      generalize hacc : l.flatMap encF = acc at *
      clear hacc
      by_cases hx : acc.length ≤ 400
      · have hd : decide (400 < (acc.length : Int)) = false := decide_eq_false (by omega)
        rw [if_pos hx] at HE
        clear hx
        go_wp2
        go_ret
        exact ⟨by rw [HE.out]; rfl, HB.out⟩
      · have hd : decide (400 < (acc.length : Int)) = true := decide_eq_true (by omega)
        rw [if_neg hx] at HE
        clear hx
        go_wp2
        go_ret
        exact ⟨by rw [HE.out]; rfl, HB.out⟩
end Go.Proofs.YtjbppociogoopaaDoor
