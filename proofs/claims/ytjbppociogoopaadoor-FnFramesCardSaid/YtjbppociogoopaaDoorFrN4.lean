/-
  Plain: a frame's bytes are read back as that frame. No program is imported.
-/
import Derived.Test.YtjbppociogoopaaDoorFrN3
namespace Go.Proofs.YtjbppociogoopaaDoor.Num

theorem decF_lit (b : UInt8) (zs : List Int) (t : List UInt8) (hz : ∀ z ∈ zs, qsz z ≠ 0) (h : ¬ 23 < b.toNat) (h0 : ¬ (8 ≤ b.toNat ∧ b.toNat < 16)) (hc : cntK b.toNat = zs.length) :
    decF (b :: (zs.flatMap encQ ++ t)) = chkF (nFr b.toNat zs) ((zs.flatMap encQ).length + 1) :=
  decF_num h h0 (by rw [hc]; exact readN_enc zs t hz)
theorem decF_str (b : UInt8) (zs : List Int) (d t : List UInt8) (hz : ∀ z ∈ zs, qsz z ≠ 0) (hd : qsz (d.length : Int) ≠ 0) (h0 : 8 ≤ b.toNat) (h1 : b.toNat < 16) (h2 : b.toNat / 2 % 2 = 1) (hc : (if b.toNat / 4 % 2 = 1 then 2 else 1) = zs.length) :
    decF (b :: (zs.flatMap encQ ++ (encQ d.length ++ (d ++ t)))) = (chkF (sFr b.toNat zs d) ((zs.flatMap encQ).length + (encQ d.length).length + d.length)).map fun x => (x.1, x.2 + 1) := by
  rw [decF_stream h0 h1]
  have e1 : (zs.flatMap encQ ++ (encQ d.length ++ (d ++ t))).drop (zs.flatMap encQ).length = encQ d.length ++ (d ++ t) := List.drop_left
  have e2 : (zs.flatMap encQ ++ (encQ d.length ++ (d ++ t))).drop ((zs.flatMap encQ).length + (encQ d.length).length) = d ++ t := by
    rw [← List.drop_drop, e1]
    exact List.drop_left
  have hdl : decL ((zs.flatMap encQ ++ (encQ d.length ++ (d ++ t))).drop (zs.flatMap encQ).length) = some (d.length, (encQ d.length).length) := by
    rw [e1, decq_enc _ _ hd, encQ_len]
    rfl
  rw [decS_len (by rw [hc]; exact readN_enc zs _ hz) h2 hdl (by simp only [List.length_append]; omega), e2, List.take_left]
theorem chk_map {f : Fr} (h : okF f) (n : Nat) : (chkF f n).map (fun x => (x.1, x.2 + 1)) = some (f, n + 1) := by
  rw [chkF_some n h]
  rfl

theorem decF_enc (f : Fr) (h : okF f) (t : List UInt8) : decF (encF f ++ t) = some (f, (encF f).length) := by
  have hf := headF_fit f h
  rw [encF_ok f h]
  have hu := h.2.1
  have hk := h.1
  have hds := h.2.2.2.2.2.2.2.1
  obtain ⟨k, st, ofs, dt, fi, co, li, fl, un⟩ := f
  rcases (show isK k from hk) with rfl | rfl | rfl | rfl | rfl | rfl | rfl | rfl | rfl
  · simp [usedF, aboutK] at hu
    obtain ⟨rfl, rfl, rfl, rfl, rfl⟩ := hu
    have e := decF_lit 4 [st, co, fl] t (fun z hz => hf z (by simp at hz; simp [headF]; omega)) (by decide) (by decide) rfl
    rw [show nFr (4 : UInt8).toNat [st, co, fl] = ⟨4, st, 0, ⟨#[]⟩, false, co, 0, fl, false⟩ from rfl, chkF_some _ h] at e
    show decF ((encQ 4 ++ ([st, co, fl].flatMap encQ) ++ []) ++ t) = some (_, (encQ 4 ++ ([st, co, fl].flatMap encQ) ++ []).length)
    rw [List.append_nil, show encQ 4 = [4] by decide]
    rw [show [4] ++ [st, co, fl].flatMap encQ ++ t = 4 :: ([st, co, fl].flatMap encQ ++ t) by simp, e]
    simp
  · simp [usedF, aboutK] at hu
    obtain ⟨rfl, rfl, rfl, rfl, rfl, rfl⟩ := hu
    have e := decF_lit 5 [st, co] t (fun z hz => hf z (by simp at hz; simp [headF]; omega)) (by decide) (by decide) rfl
    rw [show nFr (5 : UInt8).toNat [st, co] = ⟨5, st, 0, ⟨#[]⟩, false, co, 0, 0, false⟩ from rfl, chkF_some _ h] at e
    show decF ((encQ 5 ++ ([st, co].flatMap encQ) ++ []) ++ t) = some (_, (encQ 5 ++ ([st, co].flatMap encQ) ++ []).length)
    rw [List.append_nil, show encQ 5 = [5] by decide]
    rw [show [5] ++ [st, co].flatMap encQ ++ t = 5 :: ([st, co].flatMap encQ ++ t) by simp, e]
    simp
  · simp [usedF, aboutK] at hu
    obtain ⟨rfl, rfl, rfl, rfl⟩ := hu
    by_cases h0 : ofs = 0
    · subst h0
      cases fi
      · skip
        have hh : headF ⟨8, st, 0, dt, false, 0, 0, 0, false⟩ = (10 : Int) :: ([st] ++ [(dt.size : Int)]) := rfl
        rw [hh] at hf ⊢
        have e := decF_str 10 [st] dt.data.toList t (fun z hz => hf z (by simp at hz ⊢; omega)) (by have := hf (dt.size : Int) (by simp); simpa using this) (by decide) (by decide) (by decide) rfl
        rw [show sFr (10 : UInt8).toNat [st] dt.data.toList = ⟨8, st, 0, dt, false, 0, 0, 0, false⟩ by unfold sFr; simp, chk_map h] at e
        have es : (dt.data.toList.length : Int) = (dt.size : Int) := by simp
        rw [es] at e
        rw [show ((10 : Int) :: ([st] ++ [(dt.size : Int)])).flatMap encQ ++ (if (8 : Int) = 8 then dt.data.toList else []) ++ t = 10 :: ([st].flatMap encQ ++ (encQ dt.size ++ (dt.data.toList ++ t))) by simp [show encQ 10 = [10] by decide], e]
        simp [show encQ 10 = [10] by decide]
        omega
      · skip
        have hh : headF ⟨8, st, 0, dt, true, 0, 0, 0, false⟩ = (11 : Int) :: ([st] ++ [(dt.size : Int)]) := rfl
        rw [hh] at hf ⊢
        have e := decF_str 11 [st] dt.data.toList t (fun z hz => hf z (by simp at hz ⊢; omega)) (by have := hf (dt.size : Int) (by simp); simpa using this) (by decide) (by decide) (by decide) rfl
        rw [show sFr (11 : UInt8).toNat [st] dt.data.toList = ⟨8, st, 0, dt, true, 0, 0, 0, false⟩ by unfold sFr; simp, chk_map h] at e
        have es : (dt.data.toList.length : Int) = (dt.size : Int) := by simp
        rw [es] at e
        rw [show ((11 : Int) :: ([st] ++ [(dt.size : Int)])).flatMap encQ ++ (if (8 : Int) = 8 then dt.data.toList else []) ++ t = 11 :: ([st].flatMap encQ ++ (encQ dt.size ++ (dt.data.toList ++ t))) by simp [show encQ 11 = [11] by decide], e]
        simp [show encQ 11 = [11] by decide]
        omega
    · cases fi
      · skip
        have hh : headF ⟨8, st, ofs, dt, false, 0, 0, 0, false⟩ = (14 : Int) :: ([st, ofs] ++ [(dt.size : Int)]) := (by unfold headF; rw [if_neg (show ¬ (8 : Int) = 4 by decide), if_neg (show ¬ (8 : Int) = 5 by decide), if_pos rfl, if_neg h0]; rfl)
        rw [hh] at hf ⊢
        have e := decF_str 14 [st, ofs] dt.data.toList t (fun z hz => hf z (by simp at hz ⊢; omega)) (by have := hf (dt.size : Int) (by simp); simpa using this) (by decide) (by decide) (by decide) rfl
        rw [show sFr (14 : UInt8).toNat [st, ofs] dt.data.toList = ⟨8, st, ofs, dt, false, 0, 0, 0, false⟩ by unfold sFr; simp, chk_map h] at e
        have es : (dt.data.toList.length : Int) = (dt.size : Int) := by simp
        rw [es] at e
        rw [show ((14 : Int) :: ([st, ofs] ++ [(dt.size : Int)])).flatMap encQ ++ (if (8 : Int) = 8 then dt.data.toList else []) ++ t = 14 :: ([st, ofs].flatMap encQ ++ (encQ dt.size ++ (dt.data.toList ++ t))) by simp [show encQ 14 = [14] by decide], e]
        simp [show encQ 14 = [14] by decide]
        omega
      · skip
        have hh : headF ⟨8, st, ofs, dt, true, 0, 0, 0, false⟩ = (15 : Int) :: ([st, ofs] ++ [(dt.size : Int)]) := (by unfold headF; rw [if_neg (show ¬ (8 : Int) = 4 by decide), if_neg (show ¬ (8 : Int) = 5 by decide), if_pos rfl, if_neg h0]; rfl)
        rw [hh] at hf ⊢
        have e := decF_str 15 [st, ofs] dt.data.toList t (fun z hz => hf z (by simp at hz ⊢; omega)) (by have := hf (dt.size : Int) (by simp); simpa using this) (by decide) (by decide) (by decide) rfl
        rw [show sFr (15 : UInt8).toNat [st, ofs] dt.data.toList = ⟨8, st, ofs, dt, true, 0, 0, 0, false⟩ by unfold sFr; simp, chk_map h] at e
        have es : (dt.data.toList.length : Int) = (dt.size : Int) := by simp
        rw [es] at e
        rw [show ((15 : Int) :: ([st, ofs] ++ [(dt.size : Int)])).flatMap encQ ++ (if (8 : Int) = 8 then dt.data.toList else []) ++ t = 15 :: ([st, ofs].flatMap encQ ++ (encQ dt.size ++ (dt.data.toList ++ t))) by simp [show encQ 15 = [15] by decide], e]
        simp [show encQ 15 = [15] by decide]
        omega
  · simp [usedF, aboutK] at hu
    obtain ⟨rfl, rfl, rfl, rfl, rfl, rfl, rfl⟩ := hu
    have e := decF_lit 16 [li] t (fun z hz => hf z (by simp at hz; simp [headF]; omega)) (by decide) (by decide) rfl
    rw [show nFr (16 : UInt8).toNat [li] = ⟨16, 0, 0, ⟨#[]⟩, false, 0, li, 0, false⟩ from rfl, chkF_some _ h] at e
    show decF ((encQ 16 ++ ([li].flatMap encQ) ++ []) ++ t) = some (_, (encQ 16 ++ ([li].flatMap encQ) ++ []).length)
    rw [List.append_nil, show encQ 16 = [16] by decide]
    rw [show [16] ++ [li].flatMap encQ ++ t = 16 :: ([li].flatMap encQ ++ t) by simp, e]
    simp
  · simp [usedF, aboutK] at hu
    obtain ⟨rfl, rfl, rfl, rfl, rfl, rfl⟩ := hu
    have e := decF_lit 17 [st, li] t (fun z hz => hf z (by simp at hz; simp [headF]; omega)) (by decide) (by decide) rfl
    rw [show nFr (17 : UInt8).toNat [st, li] = ⟨17, st, 0, ⟨#[]⟩, false, 0, li, 0, false⟩ from rfl, chkF_some _ h] at e
    show decF ((encQ 17 ++ ([st, li].flatMap encQ) ++ []) ++ t) = some (_, (encQ 17 ++ ([st, li].flatMap encQ) ++ []).length)
    rw [List.append_nil, show encQ 17 = [17] by decide]
    rw [show [17] ++ [st, li].flatMap encQ ++ t = 17 :: ([st, li].flatMap encQ ++ t) by simp, e]
    simp
  · simp [usedF, aboutK] at hu
    obtain ⟨rfl, rfl, rfl, rfl, rfl, rfl⟩ := hu
    cases un
    · skip
      have e := decF_lit 18 [li] t (fun z hz => hf z (by simp at hz; simp [headF]; omega)) (by decide) (by decide) rfl
      rw [show nFr (18 : UInt8).toNat [li] = ⟨18, 0, 0, ⟨#[]⟩, false, 0, li, 0, false⟩ from rfl, chkF_some _ h] at e
      show decF ((encQ 18 ++ ([li].flatMap encQ) ++ []) ++ t) = some (_, (encQ 18 ++ ([li].flatMap encQ) ++ []).length)
      rw [List.append_nil, show encQ 18 = [18] by decide]
      rw [show [18] ++ [li].flatMap encQ ++ t = 18 :: ([li].flatMap encQ ++ t) by simp, e]
      simp
    · skip
      have e := decF_lit 19 [li] t (fun z hz => hf z (by simp at hz; simp [headF]; omega)) (by decide) (by decide) rfl
      rw [show nFr (19 : UInt8).toNat [li] = ⟨18, 0, 0, ⟨#[]⟩, false, 0, li, 0, true⟩ from rfl, chkF_some _ h] at e
      show decF ((encQ 19 ++ ([li].flatMap encQ) ++ []) ++ t) = some (_, (encQ 19 ++ ([li].flatMap encQ) ++ []).length)
      rw [List.append_nil, show encQ 19 = [19] by decide]
      rw [show [19] ++ [li].flatMap encQ ++ t = 19 :: ([li].flatMap encQ ++ t) by simp, e]
      simp
  · simp [usedF, aboutK] at hu
    obtain ⟨rfl, rfl, rfl, rfl, rfl, rfl, rfl⟩ := hu
    have e := decF_lit 20 [li] t (fun z hz => hf z (by simp at hz; simp [headF]; omega)) (by decide) (by decide) rfl
    rw [show nFr (20 : UInt8).toNat [li] = ⟨20, 0, 0, ⟨#[]⟩, false, 0, li, 0, false⟩ from rfl, chkF_some _ h] at e
    show decF ((encQ 20 ++ ([li].flatMap encQ) ++ []) ++ t) = some (_, (encQ 20 ++ ([li].flatMap encQ) ++ []).length)
    rw [List.append_nil, show encQ 20 = [20] by decide]
    rw [show [20] ++ [li].flatMap encQ ++ t = 20 :: ([li].flatMap encQ ++ t) by simp, e]
    simp
  · simp [usedF, aboutK] at hu
    obtain ⟨rfl, rfl, rfl, rfl, rfl, rfl⟩ := hu
    have e := decF_lit 21 [st, li] t (fun z hz => hf z (by simp at hz; simp [headF]; omega)) (by decide) (by decide) rfl
    rw [show nFr (21 : UInt8).toNat [st, li] = ⟨21, st, 0, ⟨#[]⟩, false, 0, li, 0, false⟩ from rfl, chkF_some _ h] at e
    show decF ((encQ 21 ++ ([st, li].flatMap encQ) ++ []) ++ t) = some (_, (encQ 21 ++ ([st, li].flatMap encQ) ++ []).length)
    rw [List.append_nil, show encQ 21 = [21] by decide]
    rw [show [21] ++ [st, li].flatMap encQ ++ t = 21 :: ([st, li].flatMap encQ ++ t) by simp, e]
    simp
  · simp [usedF, aboutK] at hu
    obtain ⟨rfl, rfl, rfl, rfl, rfl, rfl⟩ := hu
    cases un
    · skip
      have e := decF_lit 22 [li] t (fun z hz => hf z (by simp at hz; simp [headF]; omega)) (by decide) (by decide) rfl
      rw [show nFr (22 : UInt8).toNat [li] = ⟨22, 0, 0, ⟨#[]⟩, false, 0, li, 0, false⟩ from rfl, chkF_some _ h] at e
      show decF ((encQ 22 ++ ([li].flatMap encQ) ++ []) ++ t) = some (_, (encQ 22 ++ ([li].flatMap encQ) ++ []).length)
      rw [List.append_nil, show encQ 22 = [22] by decide]
      rw [show [22] ++ [li].flatMap encQ ++ t = 22 :: ([li].flatMap encQ ++ t) by simp, e]
      simp
    · skip
      have e := decF_lit 23 [li] t (fun z hz => hf z (by simp at hz; simp [headF]; omega)) (by decide) (by decide) rfl
      rw [show nFr (23 : UInt8).toNat [li] = ⟨22, 0, 0, ⟨#[]⟩, false, 0, li, 0, true⟩ from rfl, chkF_some _ h] at e
      show decF ((encQ 23 ++ ([li].flatMap encQ) ++ []) ++ t) = some (_, (encQ 23 ++ ([li].flatMap encQ) ++ []).length)
      rw [List.append_nil, show encQ 23 = [23] by decide]
      rw [show [23] ++ [li].flatMap encQ ++ t = 23 :: ([li].flatMap encQ ++ t) by simp, e]
      simp
end Go.Proofs.YtjbppociogoopaaDoor.Num
