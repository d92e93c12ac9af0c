/-
  What spec.FormatRanges returns: the ranges in decimal, a blank between two, or the word none.
-/
import Derived.Test.YtjgabiklmloogaaDoorFmtN
import Derived.Test.YtjgabiklmloogaaDoorSFormat
import Derived.Test.YtjgabiklmloogaaDoorSRng6
namespace Go.Proofs.YtjgabiklmloogaaDoor
open Go.RowKit Go.Deep Go.Proofs.YtjgabiklmloogaaDoor.Num

set_option maxRecDepth 100000 in
set_option maxHeartbeats 1000000 in
/-- spec.FormatRanges -/
theorem sfmtr (l : List Rg) (A : Option Addr) (cap B : Nat) (w : World) (hB : B ≤ w.heap.size) (hr : Rgs w B A l) (hn : l.length ≤ 1048576) (hi : InR l) :
    Calls Tryd.prog 23 #[.slice A l.length cap] w fun e w' => e = .returned (.string ⟨(textR l).toArray⟩) ∧ Below w.heap.size w w' := by
  have HR := Lib.hid hr
  have HI := Lib.hid hi
  clear hr hi
  go_enter Tryd.func23, Tryd.ntmps23
  go_wp2
  go_loopw [3, 4] (fun s i wr => ∃ j : Nat, j ≤ l.length ∧ i = .int .i64 j ∧ s = .string ⟨(wordsR (l.take j)).toArray⟩ ∧ Below w.heap.size w wr) (fun _ i _ => l.length - (intOf i).toNat)
  case atStart => exact ⟨0, Nat.zero_le _, rfl, rfl, Below.refl _ _⟩
  case round =>
    obtain ⟨j, hj, rfl, rfl, hb⟩ := hrel
    have HB := Lib.hid hb
    clear hb
    by_cases hlt : j < l.length
    · have HRW := Lib.hid (HR.out.below hB HB.out)
      obtain ⟨b, off, rfl, hbB, c1, c2⟩ := HRW.out j hlt
      have HIX : Hid ((-9223372036854775808 ≤ l[j].1 ∧ l[j].1 ≤ 9223372036854775807) ∧ -9223372036854775808 ≤ l[j].2 ∧ l[j].2 ≤ 9223372036854775807) := Lib.hid (HI.out _ (List.getElem_mem hlt))
      have HL : Hid ((wordsR (l.take j)).length ≤ 44040192) := Lib.hid (by
        have := wordsR_len (l.take j) fun x hx => HI.out x (List.mem_of_mem_take hx)
        rw [List.length_take] at this
        omega)
      have HN : Hid (wordsR (l.take (j + 1)) = (if j = 0 then [] else wordsR (l.take j) ++ [32]) ++ wordR l[j]) := Lib.hid (by
        rw [List.take_succ_eq_append_getElem hlt]
        by_cases h0 : j = 0
        · subst h0
          rw [if_pos rfl]
          exact wordsR_one _
        · rw [if_neg h0, wordsR_snoc _ _ (by intro e; have := congrArg List.length e; rw [List.length_take, Nat.min_eq_left hj, List.length_nil] at this; exact h0 this)]
          simp)
      have hbs : b < wr.heap.size := by have := HB.out.size; omega
      have hS : ∀ W, Below wr.heap.size wr W → W.cell? ⟨b, off + j * 2, none⟩ = some (.int .i64 l[j].1) ∧ W.cell? ⟨b, off + j * 2 + 1, none⟩ = some (.int .i64 l[j].2) := fun W h =>
        ⟨(h.cell hbs).trans c1, (h.cell hbs).trans c2⟩
      generalize hx : l[j] = x at *
      have HF1 : Hid (∀ W, Calls Tryd.prog 44 #[.int .i64 x.1] W fun e w' => e = .returned (.string ⟨(Lib.itoa x.1).toArray⟩) ∧ Below W.heap.size W w') := Lib.hid fun W => sfmt x.1 W HIX.out.1.1 HIX.out.1.2
      have HF2 : Hid (∀ W, Calls Tryd.prog 44 #[.int .i64 x.2] W fun e w' => e = .returned (.string ⟨(Lib.itoa x.2).toArray⟩) ∧ Below W.heap.size W w') := Lib.hid fun W => sfmt x.2 W HIX.out.2.1 HIX.out.2.2
      have HI1 := Lib.hid (itoa_len x.1 HIX.out.1.1 HIX.out.1.2)
      have HI2 := Lib.hid (itoa_len x.2 HIX.out.2.1 HIX.out.2.2)
      have HQ := Lib.hid hS
      obtain ⟨t, ht⟩ : ∃ t : List UInt8, (if j = 0 then [] else wordsR (l.take j) ++ [32]) = t := ⟨_, rfl⟩
      have htl : t.length ≤ 44040193 := by rw [← ht]; split <;> simp; have := HL.out; omega
      obtain ⟨t1, ht1⟩ : ∃ t1, t ++ Lib.itoa x.1 = t1 := ⟨_, rfl⟩
      obtain ⟨t2, ht2⟩ : ∃ t2, t1 ++ [45] = t2 := ⟨_, rfl⟩
      obtain ⟨t3, ht3⟩ : ∃ t3, t2 ++ Lib.itoa x.2 = t3 := ⟨_, rfl⟩
      have hl1 : t1.length ≤ 44040213 := by rw [← ht1, List.length_append]; have := HI1.out; omega
      have hl2 : t2.length ≤ 44040214 := by rw [← ht2, List.length_append]; simp; omega
      have HN2 : Hid (wordsR (l.take (j + 1)) = t3) := Lib.hid (by rw [HN.out, ht, ← ht3, ← ht2, ← ht1]; simp [wordR])
      have hadd1 : ∀ W : World, (Op.stringOp .add ⟨t.toArray⟩ ⟨(Lib.itoa x.1).toArray⟩).run Tryd.prog W = .ok (.string ⟨t1.toArray⟩) W := fun W => by
        rw [← ht1]
        exact add_str W _ _ (by have := HI1.out; omega)
      have hadd2 : ∀ W : World, (Op.stringOp .add ⟨t1.toArray⟩ ⟨#[45]⟩).run Tryd.prog W = .ok (.string ⟨t2.toArray⟩) W := fun W => by
        rw [← ht2]
        exact add_str W t1 [45] (by simp; omega)
      have hadd3 : ∀ W : World, (Op.stringOp .add ⟨t2.toArray⟩ ⟨(Lib.itoa x.2).toArray⟩).run Tryd.prog W = .ok (.string ⟨t3.toArray⟩) W := fun W => by
        rw [← ht3]
        exact add_str W _ _ (by have := HI2.out; omega)
      clear ht1 ht2 ht3 hl1 hl2
      clear hx HIX c1 c2 HN
      by_cases h0 : j = 0
      · rw [if_pos h0] at ht
        have hw0 : wordsR (l.take j) = t := by rw [h0, ← ht]; rfl
        have hd : decide (0 < j) = false := decide_eq_false (by omega)
        have HH := Lib.hid h0
        clear h0
        rw [hw0]
        clear ht hw0
        have hS0 := hS wr.drew (Below.refl _ _).drew
        have HZ : Hid (Below wr.heap.size wr wr.drew) := Lib.hid (Below.refl _ _).drew
        go_wp2
        refine wp_region_held_drew (S := fun W => W.cell? ⟨b, off + j * 2, none⟩ = some (.int .i64 x.1) ∧ W.cell? ⟨b, off + j * 2 + 1, none⟩ = some (.int .i64 x.2)) (by kernel_rfl) hS0 (fun hHeld => ?_)
        refine wpAnyH_take (i := 0) (v := ?_) rfl (by kernel_rfl) (by kernel_rfl) (by kernel_rfl) (fun _ _ _ h => h) (Or.inl ⟨by rfl, ?_⟩) hHeld ?_
        rotate_left
        · (intro wx hSx; obtain ⟨hs1, hs2⟩ := hSx; go_simp; (try with_reducible rfl))
        (try simp only [Act.put, List.getElem_toArray, List.getElem_cons_zero, List.setIfInBounds_toArray, List.set_cons_succ, List.set_cons_zero])
        refine wpAnyH_take (i := 1) (v := ?_) rfl (by kernel_rfl) (by kernel_rfl) (by kernel_rfl) (fun _ _ _ h => h) (Or.inl ⟨by rfl, ?_⟩) hHeld ?_
        rotate_left
        · (intro wx hSx; obtain ⟨hs1, hs2⟩ := hSx; go_simp; (try with_reducible rfl))
        (try simp only [Act.put, List.getElem_toArray, List.getElem_cons_succ, List.getElem_cons_zero, List.setIfInBounds_toArray, List.set_cons_succ, List.set_cons_zero])
        refine wpAnyH_take (i := 2) (v := ?_) rfl (by kernel_rfl) (by kernel_rfl) (by kernel_rfl) (fun _ _ _ h => h) (Or.inl ⟨by rfl, ?_⟩) hHeld ?_
        rotate_left
        · (intro wx hSx; obtain ⟨hs1, hs2⟩ := hSx; go_simp; (try with_reducible rfl))
        (try simp only [Act.put, List.getElem_toArray, List.getElem_cons_succ, List.getElem_cons_zero, List.setIfInBounds_toArray, List.set_cons_succ, List.set_cons_zero])
        refine wpAnyH_take (i := 3) (v := ?_) rfl (by kernel_rfl) (by kernel_rfl) (by kernel_rfl) (fun _ _ _ h => h) (Or.inl ⟨by rfl, ?_⟩) hHeld ?_
        rotate_left
        · (intro wx hSx; obtain ⟨hs1, hs2⟩ := hSx; go_simp; (try with_reducible rfl))
        (try simp only [Act.put, List.getElem_toArray, List.getElem_cons_succ, List.getElem_cons_zero, List.setIfInBounds_toArray, List.set_cons_succ, List.set_cons_zero])
        refine wpAnyH_take (i := 4) (v := ?_) rfl (by kernel_rfl) (by kernel_rfl) (by kernel_rfl) (fun _ _ _ h => h) (Or.inl ⟨by rfl, ?_⟩) hHeld ?_
        rotate_left
        · (intro wx hSx; obtain ⟨hs1, hs2⟩ := hSx; go_simp; (try with_reducible rfl))
        (try simp only [Act.put, List.getElem_toArray, List.getElem_cons_succ, List.getElem_cons_zero, List.setIfInBounds_toArray, List.set_cons_succ, List.set_cons_zero])
        refine wpAnyH_take (i := 5) (v := ?_) rfl (by kernel_rfl) (by kernel_rfl) (by kernel_rfl) (fun _ _ _ h => h) (Or.inl ⟨by rfl, ?_⟩) hHeld ?_
        rotate_left
        · (intro wx hSx; obtain ⟨hs1, hs2⟩ := hSx; go_simp; (try with_reducible rfl))
        (try simp only [Act.put, List.getElem_toArray, List.getElem_cons_succ, List.getElem_cons_zero, List.setIfInBounds_toArray, List.set_cons_succ, List.set_cons_zero])
        refine wpAnyH_take (i := 9) (v := ?_) rfl (by kernel_rfl) (by kernel_rfl) (by kernel_rfl) (fun _ _ _ h => h) (Or.inl ⟨by rfl, ?_⟩) hHeld ?_
        rotate_left
        · (intro wx hSx; obtain ⟨hs1, hs2⟩ := hSx; go_simp; (try with_reducible rfl))
        (try simp only [Act.put, List.getElem_toArray, List.getElem_cons_succ, List.getElem_cons_zero, List.setIfInBounds_toArray, List.set_cons_succ, List.set_cons_zero])
        refine wpAnyH_take (i := 10) (v := ?_) rfl (by kernel_rfl) (by kernel_rfl) (by kernel_rfl) (fun _ _ _ h => h) (Or.inl ⟨by rfl, ?_⟩) hHeld ?_
        rotate_left
        · (intro wx hSx; obtain ⟨hs1, hs2⟩ := hSx; go_simp; (try with_reducible rfl))
        (try simp only [Act.put, List.getElem_toArray, List.getElem_cons_succ, List.getElem_cons_zero, List.setIfInBounds_toArray, List.set_cons_succ, List.set_cons_zero])
        refine wpAnyH_take (i := 11) (v := ?_) rfl (by kernel_rfl) (by kernel_rfl) (by kernel_rfl) (fun _ _ _ h => h) (Or.inl ⟨by rfl, ?_⟩) hHeld ?_
        rotate_left
        · (intro wx hSx; obtain ⟨hs1, hs2⟩ := hSx; go_simp; (try with_reducible rfl))
        (try simp only [Act.put, List.getElem_toArray, List.getElem_cons_succ, List.getElem_cons_zero, List.setIfInBounds_toArray, List.set_cons_succ, List.set_cons_zero])
        refine wpAnyH_take (i := 12) (v := ?_) rfl (by kernel_rfl) (by kernel_rfl) (by kernel_rfl) (fun _ _ _ h => h) (Or.inl ⟨by rfl, ?_⟩) hHeld ?_
        rotate_left
        · (intro wx hSx; obtain ⟨hs1, hs2⟩ := hSx; go_simp; (try with_reducible rfl))
        (try simp only [Act.put, List.getElem_toArray, List.getElem_cons_succ, List.getElem_cons_zero, List.setIfInBounds_toArray, List.set_cons_succ, List.set_cons_zero])
        refine wpAnyH_take (i := 13) (v := ?_) rfl (by kernel_rfl) (by kernel_rfl) (by kernel_rfl) (fun _ _ _ h => h) (Or.inl ⟨by rfl, ?_⟩) hHeld ?_
        rotate_left
        · (intro wx hSx; obtain ⟨hs1, hs2⟩ := hSx; go_simp; (try with_reducible rfl))
        (try simp only [Act.put, List.getElem_toArray, List.getElem_cons_succ, List.getElem_cons_zero, List.setIfInBounds_toArray, List.set_cons_succ, List.set_cons_zero])
        refine wpAnyH_ready (rs := [6]) (by kernel_rfl) (by simp) ?_
        refine AllReadyH.cons rfl (fun K hK => ?_) AllReadyH.nil
        rw [if_pos (by rfl)]
        go_simp
        refine (HF1.out _).mono ?_
        rintro e w1 ⟨rfl, hb1⟩
        have HZ := Lib.hid (HZ.out.trans (hb1.mono HZ.out.size))
        (try simp only [])
        refine hK.out _ _ (HQ.out _ HZ.out) (fun hHeld => ?_)
        clear hb1 hK K
        (try simp only [Act.put, List.getElem_toArray, List.getElem_cons_succ, List.getElem_cons_zero, List.setIfInBounds_toArray, List.set_cons_succ, List.set_cons_zero])
        refine wpAnyH_take (i := 7) (v := ?_) rfl (by kernel_rfl) (by kernel_rfl) (by kernel_rfl) (fun _ _ _ h => h) (Or.inl ⟨by rfl, ?_⟩) hHeld ?_
        rotate_left
        · (intro wx hSx; obtain ⟨hs1, hs2⟩ := hSx; go_simp; (try with_reducible rfl))
        (try simp only [Act.put, List.getElem_toArray, List.getElem_cons_succ, List.getElem_cons_zero, List.setIfInBounds_toArray, List.set_cons_succ, List.set_cons_zero])
        refine wpAnyH_take (i := 8) (v := ?_) rfl (by kernel_rfl) (by kernel_rfl) (by kernel_rfl) (fun _ _ _ h => h) (Or.inl ⟨by rfl, ?_⟩) hHeld ?_
        rotate_left
        · (intro wx hSx; obtain ⟨hs1, hs2⟩ := hSx; go_simp; (try with_reducible rfl))
        (try simp only [Act.put, List.getElem_toArray, List.getElem_cons_succ, List.getElem_cons_zero, List.setIfInBounds_toArray, List.set_cons_succ, List.set_cons_zero])
        refine wpAnyH_ready (rs := [14]) (by kernel_rfl) (by simp) ?_
        refine AllReadyH.cons rfl (fun K hK => ?_) AllReadyH.nil
        rw [if_pos (by rfl)]
        go_simp
        refine (HF2.out _).mono ?_
        rintro e w1 ⟨rfl, hb1⟩
        have HZ := Lib.hid (HZ.out.trans (hb1.mono HZ.out.size))
        (try simp only [])
        refine hK.out _ _ (HQ.out _ HZ.out) (fun hHeld => ?_)
        clear hb1 hK K
        (try simp only [Act.put, List.getElem_toArray, List.getElem_cons_succ, List.getElem_cons_zero, List.setIfInBounds_toArray, List.set_cons_succ, List.set_cons_zero])
        refine wpAnyH_take (i := 15) (v := ?_) rfl (by kernel_rfl) (by kernel_rfl) (by kernel_rfl) (fun _ _ _ h => h) (Or.inl ⟨by rfl, ?_⟩) hHeld ?_
        rotate_left
        · (intro wx hSx; obtain ⟨hs1, hs2⟩ := hSx; go_simp; (try with_reducible rfl))
        (try simp only [Act.put, List.getElem_toArray, List.getElem_cons_succ, List.getElem_cons_zero, List.setIfInBounds_toArray, List.set_cons_succ, List.set_cons_zero])
        refine wpAnyH_take (i := 16) (v := ?_) rfl (by kernel_rfl) (by kernel_rfl) (by kernel_rfl) (fun _ _ _ h => h) (Or.inl ⟨by rfl, ?_⟩) hHeld ?_
        rotate_left
        · (intro wx hSx; obtain ⟨hs1, hs2⟩ := hSx; go_simp; (try with_reducible rfl))
        (try simp only [Act.put, List.getElem_toArray, List.getElem_cons_succ, List.getElem_cons_zero, List.setIfInBounds_toArray, List.set_cons_succ, List.set_cons_zero])
        refine wpAnyH_done (by kernel_rfl) ?_ _
        clear hHeld hS0
        go_wp2
        go_roundw
        case rel => exact ⟨j + 1, hlt, by go_num, by rw [HN2.out], HB.out.trans (HZ.out.mono HB.out.size)⟩
        case measure => simp [intOf]; omega
      · rw [if_neg h0] at ht
        have hd : decide (0 < j) = true := decide_eq_true (by omega)
        have hadd0 : ∀ W : World, (Op.stringOp .add ⟨(wordsR (l.take j)).toArray⟩ ⟨#[32]⟩).run Tryd.prog W = .ok (.string ⟨t.toArray⟩) W := fun W => by
          rw [← ht]
          exact add_str W (wordsR (l.take j)) [32] (by have := HL.out; simp; omega)
        have HH := Lib.hid h0
        clear ht h0
        have hS0 := hS wr.drew (Below.refl _ _).drew
        have HZ : Hid (Below wr.heap.size wr wr.drew) := Lib.hid (Below.refl _ _).drew
        go_wp2
        refine wp_region_held_drew (S := fun W => W.cell? ⟨b, off + j * 2, none⟩ = some (.int .i64 x.1) ∧ W.cell? ⟨b, off + j * 2 + 1, none⟩ = some (.int .i64 x.2)) (by kernel_rfl) hS0 (fun hHeld => ?_)
        refine wpAnyH_take (i := 0) (v := ?_) rfl (by kernel_rfl) (by kernel_rfl) (by kernel_rfl) (fun _ _ _ h => h) (Or.inl ⟨by rfl, ?_⟩) hHeld ?_
        rotate_left
        · (intro wx hSx; obtain ⟨hs1, hs2⟩ := hSx; go_simp; (try with_reducible rfl))
        (try simp only [Act.put, List.getElem_toArray, List.getElem_cons_zero, List.setIfInBounds_toArray, List.set_cons_succ, List.set_cons_zero])
        refine wpAnyH_take (i := 1) (v := ?_) rfl (by kernel_rfl) (by kernel_rfl) (by kernel_rfl) (fun _ _ _ h => h) (Or.inl ⟨by rfl, ?_⟩) hHeld ?_
        rotate_left
        · (intro wx hSx; obtain ⟨hs1, hs2⟩ := hSx; go_simp; (try with_reducible rfl))
        (try simp only [Act.put, List.getElem_toArray, List.getElem_cons_succ, List.getElem_cons_zero, List.setIfInBounds_toArray, List.set_cons_succ, List.set_cons_zero])
        refine wpAnyH_take (i := 2) (v := ?_) rfl (by kernel_rfl) (by kernel_rfl) (by kernel_rfl) (fun _ _ _ h => h) (Or.inl ⟨by rfl, ?_⟩) hHeld ?_
        rotate_left
        · (intro wx hSx; obtain ⟨hs1, hs2⟩ := hSx; go_simp; (try with_reducible rfl))
        (try simp only [Act.put, List.getElem_toArray, List.getElem_cons_succ, List.getElem_cons_zero, List.setIfInBounds_toArray, List.set_cons_succ, List.set_cons_zero])
        refine wpAnyH_take (i := 3) (v := ?_) rfl (by kernel_rfl) (by kernel_rfl) (by kernel_rfl) (fun _ _ _ h => h) (Or.inl ⟨by rfl, ?_⟩) hHeld ?_
        rotate_left
        · (intro wx hSx; obtain ⟨hs1, hs2⟩ := hSx; go_simp; (try with_reducible rfl))
        (try simp only [Act.put, List.getElem_toArray, List.getElem_cons_succ, List.getElem_cons_zero, List.setIfInBounds_toArray, List.set_cons_succ, List.set_cons_zero])
        refine wpAnyH_take (i := 4) (v := ?_) rfl (by kernel_rfl) (by kernel_rfl) (by kernel_rfl) (fun _ _ _ h => h) (Or.inl ⟨by rfl, ?_⟩) hHeld ?_
        rotate_left
        · (intro wx hSx; obtain ⟨hs1, hs2⟩ := hSx; go_simp; (try with_reducible rfl))
        (try simp only [Act.put, List.getElem_toArray, List.getElem_cons_succ, List.getElem_cons_zero, List.setIfInBounds_toArray, List.set_cons_succ, List.set_cons_zero])
        refine wpAnyH_take (i := 5) (v := ?_) rfl (by kernel_rfl) (by kernel_rfl) (by kernel_rfl) (fun _ _ _ h => h) (Or.inl ⟨by rfl, ?_⟩) hHeld ?_
        rotate_left
        · (intro wx hSx; obtain ⟨hs1, hs2⟩ := hSx; go_simp; (try with_reducible rfl))
        (try simp only [Act.put, List.getElem_toArray, List.getElem_cons_succ, List.getElem_cons_zero, List.setIfInBounds_toArray, List.set_cons_succ, List.set_cons_zero])
        refine wpAnyH_take (i := 9) (v := ?_) rfl (by kernel_rfl) (by kernel_rfl) (by kernel_rfl) (fun _ _ _ h => h) (Or.inl ⟨by rfl, ?_⟩) hHeld ?_
        rotate_left
        · (intro wx hSx; obtain ⟨hs1, hs2⟩ := hSx; go_simp; (try with_reducible rfl))
        (try simp only [Act.put, List.getElem_toArray, List.getElem_cons_succ, List.getElem_cons_zero, List.setIfInBounds_toArray, List.set_cons_succ, List.set_cons_zero])
        refine wpAnyH_take (i := 10) (v := ?_) rfl (by kernel_rfl) (by kernel_rfl) (by kernel_rfl) (fun _ _ _ h => h) (Or.inl ⟨by rfl, ?_⟩) hHeld ?_
        rotate_left
        · (intro wx hSx; obtain ⟨hs1, hs2⟩ := hSx; go_simp; (try with_reducible rfl))
        (try simp only [Act.put, List.getElem_toArray, List.getElem_cons_succ, List.getElem_cons_zero, List.setIfInBounds_toArray, List.set_cons_succ, List.set_cons_zero])
        refine wpAnyH_take (i := 11) (v := ?_) rfl (by kernel_rfl) (by kernel_rfl) (by kernel_rfl) (fun _ _ _ h => h) (Or.inl ⟨by rfl, ?_⟩) hHeld ?_
        rotate_left
        · (intro wx hSx; obtain ⟨hs1, hs2⟩ := hSx; go_simp; (try with_reducible rfl))
        (try simp only [Act.put, List.getElem_toArray, List.getElem_cons_succ, List.getElem_cons_zero, List.setIfInBounds_toArray, List.set_cons_succ, List.set_cons_zero])
        refine wpAnyH_take (i := 12) (v := ?_) rfl (by kernel_rfl) (by kernel_rfl) (by kernel_rfl) (fun _ _ _ h => h) (Or.inl ⟨by rfl, ?_⟩) hHeld ?_
        rotate_left
        · (intro wx hSx; obtain ⟨hs1, hs2⟩ := hSx; go_simp; (try with_reducible rfl))
        (try simp only [Act.put, List.getElem_toArray, List.getElem_cons_succ, List.getElem_cons_zero, List.setIfInBounds_toArray, List.set_cons_succ, List.set_cons_zero])
        refine wpAnyH_take (i := 13) (v := ?_) rfl (by kernel_rfl) (by kernel_rfl) (by kernel_rfl) (fun _ _ _ h => h) (Or.inl ⟨by rfl, ?_⟩) hHeld ?_
        rotate_left
        · (intro wx hSx; obtain ⟨hs1, hs2⟩ := hSx; go_simp; (try with_reducible rfl))
        (try simp only [Act.put, List.getElem_toArray, List.getElem_cons_succ, List.getElem_cons_zero, List.setIfInBounds_toArray, List.set_cons_succ, List.set_cons_zero])
        refine wpAnyH_ready (rs := [6]) (by kernel_rfl) (by simp) ?_
        refine AllReadyH.cons rfl (fun K hK => ?_) AllReadyH.nil
        rw [if_pos (by rfl)]
        go_simp
        refine (HF1.out _).mono ?_
        rintro e w1 ⟨rfl, hb1⟩
        have HZ := Lib.hid (HZ.out.trans (hb1.mono HZ.out.size))
        (try simp only [])
        refine hK.out _ _ (HQ.out _ HZ.out) (fun hHeld => ?_)
        clear hb1 hK K
        (try simp only [Act.put, List.getElem_toArray, List.getElem_cons_succ, List.getElem_cons_zero, List.setIfInBounds_toArray, List.set_cons_succ, List.set_cons_zero])
        refine wpAnyH_take (i := 7) (v := ?_) rfl (by kernel_rfl) (by kernel_rfl) (by kernel_rfl) (fun _ _ _ h => h) (Or.inl ⟨by rfl, ?_⟩) hHeld ?_
        rotate_left
        · (intro wx hSx; obtain ⟨hs1, hs2⟩ := hSx; go_simp; (try with_reducible rfl))
        (try simp only [Act.put, List.getElem_toArray, List.getElem_cons_succ, List.getElem_cons_zero, List.setIfInBounds_toArray, List.set_cons_succ, List.set_cons_zero])
        refine wpAnyH_take (i := 8) (v := ?_) rfl (by kernel_rfl) (by kernel_rfl) (by kernel_rfl) (fun _ _ _ h => h) (Or.inl ⟨by rfl, ?_⟩) hHeld ?_
        rotate_left
        · (intro wx hSx; obtain ⟨hs1, hs2⟩ := hSx; go_simp; (try with_reducible rfl))
        (try simp only [Act.put, List.getElem_toArray, List.getElem_cons_succ, List.getElem_cons_zero, List.setIfInBounds_toArray, List.set_cons_succ, List.set_cons_zero])
        refine wpAnyH_ready (rs := [14]) (by kernel_rfl) (by simp) ?_
        refine AllReadyH.cons rfl (fun K hK => ?_) AllReadyH.nil
        rw [if_pos (by rfl)]
        go_simp
        refine (HF2.out _).mono ?_
        rintro e w1 ⟨rfl, hb1⟩
        have HZ := Lib.hid (HZ.out.trans (hb1.mono HZ.out.size))
        (try simp only [])
        refine hK.out _ _ (HQ.out _ HZ.out) (fun hHeld => ?_)
        clear hb1 hK K
        (try simp only [Act.put, List.getElem_toArray, List.getElem_cons_succ, List.getElem_cons_zero, List.setIfInBounds_toArray, List.set_cons_succ, List.set_cons_zero])
        refine wpAnyH_take (i := 15) (v := ?_) rfl (by kernel_rfl) (by kernel_rfl) (by kernel_rfl) (fun _ _ _ h => h) (Or.inl ⟨by rfl, ?_⟩) hHeld ?_
        rotate_left
        · (intro wx hSx; obtain ⟨hs1, hs2⟩ := hSx; go_simp; (try with_reducible rfl))
        (try simp only [Act.put, List.getElem_toArray, List.getElem_cons_succ, List.getElem_cons_zero, List.setIfInBounds_toArray, List.set_cons_succ, List.set_cons_zero])
        refine wpAnyH_take (i := 16) (v := ?_) rfl (by kernel_rfl) (by kernel_rfl) (by kernel_rfl) (fun _ _ _ h => h) (Or.inl ⟨by rfl, ?_⟩) hHeld ?_
        rotate_left
        · (intro wx hSx; obtain ⟨hs1, hs2⟩ := hSx; go_simp; (try with_reducible rfl))
        (try simp only [Act.put, List.getElem_toArray, List.getElem_cons_succ, List.getElem_cons_zero, List.setIfInBounds_toArray, List.set_cons_succ, List.set_cons_zero])
        refine wpAnyH_done (by kernel_rfl) ?_ _
        clear hHeld hS0
        go_wp2
        go_roundw
        case rel => exact ⟨j + 1, hlt, by go_num, by rw [HN2.out], HB.out.trans (HZ.out.mono HB.out.size)⟩
        case measure => simp [intOf]; omega
    · obtain rfl : j = l.length := by omega
      rw [List.take_of_length_le (Nat.le_refl _)]
      by_cases hl : l = []
      · subst hl
        go_wp2
        go_ret
        exact ⟨rfl, HB.out⟩
      · have HTX : Hid (textR l = wordsR l) := Lib.hid (if_neg hl)
        obtain ⟨c, r, hcr⟩ := List.exists_cons_of_ne_nil (wordsR_ne l hl)
        have HC := Lib.hid hcr
        rw [hcr]
        clear hl hcr
        go_wp2
        go_ret
        exact ⟨by rw [HTX.out, HC.out]; rfl, HB.out⟩
end Go.Proofs.YtjgabiklmloogaaDoor
