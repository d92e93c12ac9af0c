/-
  The law on payloads, walked, where the table of forms holds what the program's text lays there.
-/
import Derived.Test.YtjbppociogoopaaDoorLDecPayload
import Derived.Test.YtjbppociogoopaaDoorFrN5
import Derived.Test.YtjbppociogoopaaDoorGDr
namespace Go.Proofs.YtjbppociogoopaaDoor
open Go.RowKit Go.Deep Go.Proofs.YtjbppociogoopaaDoor.Num

/-- What one text gives, for both functions. -/
theorem pay_both (s : ByteArray) (hs : s.size ≤ 1048576) : ∃ (l : List Fr) (b : Bool), l.length ≤ s.size ∧
    ((decP s.data.toList.length s.data.toList = none ∧ l = [] ∧ b = false) ∨ (decP s.data.toList.length s.data.toList = some l ∧ b = decide (1 ≤ s.size ∧ s.size ≤ 400))) ∧
    (∀ W, Calls Tryd.prog 31 #[.string s] W fun e w' => ∃ A cap, e = .returned (.tuple #[.slice A l.length cap, .bool b]) ∧ Frs w' w'.heap.size A l ∧ Below W.heap.size W w') ∧
    (∀ W, Forms W → Calls Tryd.prog 27 #[.string s] W fun e w' => ∃ A cap, e = .returned (.tuple #[.slice A l.length cap, .bool b]) ∧ Frs w' w'.heap.size A l ∧ Below W.heap.size W w') := by
  have h3 : s.data.toList.length = s.size := by simp
  obtain ⟨l, b, h1, h2, h⟩ := payP_one s.data.toList
  rw [h3] at h1
  refine ⟨l, b, h1, ?_, fun W => ?_, fun W hF => ?_⟩
  · rw [h3] at h2 ⊢
    exact h2
  · refine (sdecp s W hs).mono ?_
    intro e w' hp
    obtain ⟨A, cap, a1, _, a3, a4⟩ := h _ _ _ hp
    exact ⟨A, cap, a1, a3, a4⟩
  · refine (idecp s W hs hF).mono ?_
    intro e w' hp
    obtain ⟨A, cap, a1, _, a3, a4⟩ := h _ _ _ hp
    exact ⟨A, cap, a1, a3, a4⟩
/-- Of a drawn text: either it is told that it was read, or nothing was, or it is too long. -/
theorem pay_told {s : ByteArray} {l : List Fr} {b : Bool} (hl : l.length ≤ s.size) (h : (decP s.data.toList.length s.data.toList = none ∧ l = [] ∧ b = false) ∨ (decP s.data.toList.length s.data.toList = some l ∧ b = decide (1 ≤ s.size ∧ s.size ≤ 400))) :
    b = true ∨ (b = false ∧ l.length = 0) ∨ (b = false ∧ l.length ≠ 0 ∧ 400 < s.size) := by
  rcases h with ⟨_, rfl, rfl⟩ | ⟨_, rfl⟩
  · exact Or.inr (Or.inl ⟨rfl, rfl⟩)
  · by_cases hx : 1 ≤ s.size ∧ s.size ≤ 400
    · exact Or.inl (decide_eq_true hx)
    · by_cases h0 : l.length = 0
      · exact Or.inr (Or.inl ⟨decide_eq_false hx, h0⟩)
      · exact Or.inr (Or.inr ⟨decide_eq_false hx, h0, by omega⟩)
/-- What a payload's own bytes give. -/
theorem pay_own (l : List Fr) (hl : l.length ≤ 1000) : ∀ W, Forms W → Calls Tryd.prog 27 #[.string ⟨(encP l).toArray⟩] W fun e w' => ∃ A cap, e = .returned (.tuple #[.slice A (if encP l = [] then [] else l).length cap, .bool (decide (encP l ≠ []))]) ∧ Frs w' w'.heap.size A (if encP l = [] then [] else l) ∧ Below W.heap.size W w' := by
  intro W hF
  have hlen := encP_len l
  have hsz : (⟨(encP l).toArray⟩ : ByteArray).size = (encP l).length := by simp [ByteArray.size]
  obtain ⟨l', b, h1, h2, _, h4⟩ := pay_both ⟨(encP l).toArray⟩ (by rw [hsz]; omega)
  refine (h4 W hF).mono ?_
  rintro e w' ⟨A, cap, rfl, hf, hb⟩
  simp only [] at h2
  rw [hsz] at h2
  by_cases he : encP l = []
  · rw [if_pos he]
    have hl' : l' = [] := by
      have : l'.length ≤ 0 := by rw [hsz, he] at h1; exact h1
      exact List.eq_nil_of_length_eq_zero (by omega)
    subst hl'
    have hb' : b = false := by
      rcases h2 with ⟨_, _, h⟩ | ⟨_, h⟩
      · exact h
      · rw [h, he]; rfl
    subst hb'
    exact ⟨A, cap, by rw [decide_eq_false (fun h => h he)], hf, hb⟩
  · rw [if_neg he]
    have hd := decP_encP l he (encP l).length (Nat.le_refl _)
    rcases h2 with ⟨h, _⟩ | ⟨h, h'⟩
    · exact absurd (h.symm.trans hd) (by simp)
    · obtain rfl : l' = l := Option.some.inj (h.symm.trans hd)
      have h0 : (encP l').length ≠ 0 := fun h => he (List.eq_nil_of_length_eq_zero h)
      have hbt : b = true := by rw [h']; exact decide_eq_true ⟨by omega, hlen⟩
      subst hbt
      exact ⟨A, cap, by rw [decide_eq_true he], hf, hb⟩
/-- .. and of the padded ones. -/
theorem pay_pad (l : List Fr) (he : encP l ≠ []) : ∀ W, Forms W → Calls Tryd.prog 27 #[.string ⟨(0 :: (encP l ++ [0, 0])).toArray⟩] W fun e w' => ∃ A cap, e = .returned (.tuple #[.slice A l.length cap, .bool (decide ((encP l).length ≤ 397))]) ∧ Frs w' w'.heap.size A l ∧ Below W.heap.size W w' := by
  intro W hF
  have hlen := encP_len l
  have hsz : (⟨(0 :: (encP l ++ [0, 0])).toArray⟩ : ByteArray).size = (encP l).length + 3 := by simp [ByteArray.size]
  obtain ⟨l', b, h1, h2, _, h4⟩ := pay_both ⟨(0 :: (encP l ++ [0, 0])).toArray⟩ (by rw [hsz]; omega)
  refine (h4 W hF).mono ?_
  rintro e w' ⟨A, cap, rfl, hf, hb⟩
  simp only [] at h2
  rw [hsz] at h2
  obtain ⟨hok, _, hflat, _⟩ := encP_some he
  have hd : decP (0 :: (encP l ++ [0, 0])).length (0 :: (encP l ++ [0, 0])) = some l := by
    rw [hflat]
    exact decP_pad l 2 _ hok (by simp)
  rcases h2 with ⟨h, _⟩ | ⟨h, h'⟩
  · exact absurd (h.symm.trans hd) (by simp)
  · obtain rfl : l' = l := Option.some.inj (h.symm.trans hd)
    have hbt : b = decide ((encP l').length ≤ 397) := by rw [h']; exact decide_eq_decide.2 (by omega)
    subst hbt
    exact ⟨A, cap, rfl, hf, hb⟩

set_option maxRecDepth 100000 in
set_option maxHeartbeats 4000000 in
/-- The law. -/
theorem law_Payloads (A : Option Addr) (len cap : Nat) (w : World) (hlen : len ≤ maxLen) (hcode : Code w w.heap.size A len) (hF : Forms w) :
    Calls Tryd.prog 4 #[.slice A len cap] w fun e w' => e = .returned (.bool true) ∧ Below w.heap.size w w' := by
  by_cases hbig : 1048576 < len
  · go_enter Tryd.func4, Tryd.ntmps4
    go_wp2_with (go_at_call 10; refine (big_yes A len cap _ hbig hlen).mono ?_; rintro e w' ⟨rfl, rfl⟩)
    go_ret
    exact ⟨rfl, Below.refl _ _⟩
  have hsm : len ≤ 1048576 := by omega
  clear hbig
  have HC := Lib.hid hcode
  have HL := Lib.hid hlen
  have HF := Lib.hid hF
  clear hcode hlen hF
  go_enter Tryd.func4, Tryd.ntmps4
  go_wp2_with fail
  refine (big_no A len cap _ hsm).mono ?_
  rintro e w' ⟨rfl, rfl⟩
  go_wp2_with fail
  refine (draw_encp A len cap _ HL.out HC.out).mono ?_
  rintro e w1 ⟨LA, lc, l, rfl, hl5, hfr, b1⟩
  have B1 := Lib.hid b1
  have FR := Lib.hid hfr
  have HSE : Hid (∀ W, Below w1.heap.size w1 W → Calls Tryd.prog 28 #[.slice LA l.length lc] W fun e w' => e = .returned (.string ⟨(encP l).toArray⟩) ∧ Below W.heap.size W w') := Lib.hid fun W h => sencp l LA lc w1.heap.size W h.size (FR.out.below (Nat.le_refl _) h) (by omega)
  have HIE := Lib.hid (iencp l LA lc w1.heap.size w1 (Nat.le_refl _) FR.out (by omega) (HF.out.keep (Nat.le_refl _) B1.out))
  have HOWN := Lib.hid (pay_own l (by omega))
  have HPAD := Lib.hid (pay_pad l)
  have hS4 := encP_len l
  clear b1 hfr
  have HT : Hid (∀ (l2 : List Fr) (A1 A2 : Option Addr) (c1 c2 B : Nat) (W : World), l2.length ≤ 1000000 → B ≤ W.heap.size → Frs W B A1 l2 → Frs W B A2 l2 → Calls Tryd.prog 29 #[.slice A1 l2.length c1, .slice A2 l2.length c2] W fun e w' => e = .returned (.bool true) ∧ Below W.heap.size W w') := Lib.hid fun l2 A1 A2 c1 c2 B W h1 h2 h3 h4 => sameframes l2 A1 A2 c1 c2 B W h2 h3 h4 (by omega)
  obtain ⟨l1, hl1⟩ : ∃ l1, (if encP l = [] then [] else l) = l1 := ⟨_, rfl⟩
  obtain ⟨bb, hbb⟩ : ∃ bb, decide (encP l ≠ []) = bb := ⟨_, rfl⟩
  have HBB : Hid ((bb = false ∧ encP l = []) ∨ (bb = true ∧ encP l ≠ [] ∧ l1 = l)) := Lib.hid (by
    by_cases he : encP l = []
    · exact Or.inl ⟨by rw [← hbb]; exact decide_eq_false (fun h => h he), he⟩
    · exact Or.inr ⟨by rw [← hbb]; exact decide_eq_true he, he, by rw [← hl1, if_neg he]⟩)
  rw [hl1, hbb] at HOWN
  clear hl1 hbb
  generalize encP l = S at *
  go_wp2_with fail
  refine HIE.out.mono ?_
  rintro e w2 ⟨rfl, b2⟩
  have B2 := Lib.hid (B1.out.trans (b2.mono B1.out.size))
  have K2 := Lib.hid b2
  clear b2
  go_wp2_with fail
  refine (HOWN.out w2 (HF.out.keep (Nat.le_refl _) B2.out)).mono ?_
  rintro e w3 ⟨MA, mc, rfl, hm3, b3⟩
  have B3 := Lib.hid (B2.out.trans (b3.mono B2.out.size))
  have K3 := Lib.hid (K2.out.trans (b3.mono K2.out.size))
  have M3 := Lib.hid hm3
  clear b3 hm3 HOWN HIE K2
  go_upto_region 6 with fail
  go_cut [44] (fun c wx => c = .bool false ∧ Below w3.heap.size w3 wx)
  case first =>
    rcases HBB.out with ⟨rfl, he⟩ | ⟨rfl, he, rfl⟩
    · subst he
      clear HPAD
      go_wp2_with fail
      refine (HSE.out w3 K3.out).mono ?_
      rintro e w4 ⟨rfl, b4⟩
      have K4 := Lib.hid (K3.out.trans (b4.mono K3.out.size))
      have C4 := Lib.hid b4
      clear b4
      go_wp2_with fail
      refine (HSE.out w4 K4.out).mono ?_
      rintro e w5 ⟨rfl, b5⟩
      have C5 := Lib.hid (C4.out.trans (b5.mono C4.out.size))
      clear b5
      go_wp2
      go_meet
      exact ⟨rfl, C5.out⟩
    · have hemp := text_full _ he
      have hemp2 : S.isEmpty = false := by simpa using he
      clear he HPAD
      go_wp2_with fail
      refine (HSE.out w3 K3.out).mono ?_
      rintro e w4 ⟨rfl, b4⟩
      have K4 := Lib.hid (K3.out.trans (b4.mono K3.out.size))
      have C4 := Lib.hid b4
      clear b4
      go_wp2_with fail
      refine (HSE.out w4 K4.out).mono ?_
      rintro e w5 ⟨rfl, b5⟩
      have K5 := Lib.hid (K4.out.trans (b5.mono K4.out.size))
      have C5 := Lib.hid (C4.out.trans (b5.mono C4.out.size))
      clear b5
      have M5 := Lib.hid ((M3.out.below (Nat.le_refl _) C5.out).up C5.out.size)
      go_wp2_with fail
      refine (HT.out l1 MA LA mc lc w5.heap.size w5 (by omega) (Nat.le_refl _) M5.out ((FR.out.below (Nat.le_refl _) K5.out).up K5.out.size)).mono ?_
      rintro e w6 ⟨rfl, b6⟩
      have C6 := Lib.hid (C5.out.trans (b6.mono C5.out.size))
      clear b6
      go_wp2
      go_meet
      exact ⟨rfl, C6.out⟩
  case rest =>
    obtain ⟨rfl, hcb⟩ := hcut
    have B6 := Lib.hid (B3.out.trans (hcb.mono B3.out.size))
    have K6 := Lib.hid (K3.out.trans (hcb.mono K3.out.size))
    clear hcb M3 B3 K3
    go_upto_if 45 with fail
    go_cut [] (fun wx => Below w.heap.size w wx)
    case first =>
      rcases HBB.out with ⟨rfl, _⟩ | ⟨rfl, he, rfl⟩
      · clear HPAD HBB
        go_wp2
        go_meet
        exact B6.out
      · have HPD := Lib.hid (HPAD.out he)
        have hadd1 : ∀ W : World, (Op.stringOp .add (⟨#[0]⟩ : ByteArray) ⟨S.toArray⟩).run Tryd.prog W = .ok (.string ⟨(0 :: S).toArray⟩) W := fun W => by
          rw [run_string_add_sum W _ _ (by show 1 + S.toArray.size ≤ _; simp; omega)]
          congr 2
        have hadd2 : ∀ W : World, (Op.stringOp .add (⟨(0 :: S).toArray⟩ : ByteArray) ⟨#[0, 0]⟩).run Tryd.prog W = .ok (.string ⟨(0 :: (S ++ [0, 0])).toArray⟩) W := fun W => by
          rw [run_string_add_sum W _ _ (by show (0 :: S).toArray.size + 2 ≤ _; simp; omega)]
          congr 2
        clear he HPAD HBB
        go_wp2_with fail
        refine (HSE.out _ K6.out).mono ?_
        rintro e w7 ⟨rfl, b7⟩
        have B7 := Lib.hid (B6.out.trans (b7.mono B6.out.size))
        have K7 := Lib.hid (K6.out.trans (b7.mono K6.out.size))
        clear b7
        go_wp2_with fail
        refine (HPD.out w7 (HF.out.keep (Nat.le_refl _) B7.out)).mono ?_
        rintro e w8 ⟨PA, pc, rfl, hm8, b8⟩
        have B8 := Lib.hid (B7.out.trans (b8.mono B7.out.size))
        have K8 := Lib.hid (K7.out.trans (b8.mono K7.out.size))
        have M8 := Lib.hid hm8
        clear b8 hm8 HPD hadd1 hadd2
        by_cases h397 : S.length < 397
        · have hd1 : decide ((S.length : Int) < 397) = true := decide_eq_true (by omega)
          have hd2 : decide (S.length ≤ 397) = true := decide_eq_true (by omega)
          rw [hd2]
          go_wp2_with fail
          refine (HT.out l1 PA LA pc lc w8.heap.size w8 (by omega) (Nat.le_refl _) M8.out ((FR.out.below (Nat.le_refl _) K8.out).up K8.out.size)).mono ?_
          rintro e w9 ⟨rfl, b9⟩
          have B9 := Lib.hid (B8.out.trans (b9.mono B8.out.size))
          clear b9
          go_wp2
          go_meet
          exact B9.out
        · have hd1 : decide ((S.length : Int) < 397) = false := decide_eq_false (by omega)
          go_wp2
          go_meet
          exact B8.out
    case rest =>
      have B5 := Lib.hid hcut
      clear hcut HBB HSE FR K6 B6 HPAD
      go_wp2_with fail
      refine (draw_decp A len cap _ HL.out (Code.later HC.out B5.out)).mono ?_
      rintro e wa ⟨T, rfl, hT, ba⟩
      have Ba := Lib.hid (B5.out.trans (ba.mono B5.out.size))
      clear ba
      have hTs : (⟨T.toArray⟩ : ByteArray).size = T.length := by simp [ByteArray.size]
      obtain ⟨l2, b, hl2, htold, hs2, hi2⟩ := pay_both ⟨T.toArray⟩ (by rw [hTs]; omega)
      have HS2 := Lib.hid hs2
      have HI2 := Lib.hid hi2
      have hcase := pay_told hl2 htold
      rw [hTs] at hl2 hcase
      have HCA := Lib.hid hcase
      clear hs2 hi2 htold hcase
      go_wp2_with fail
      refine (HI2.out _ (HF.out.keep (Nat.le_refl _) Ba.out)).mono ?_
      rintro e wb ⟨XA, xc, rfl, hxb, bb⟩
      have Bb := Lib.hid (Ba.out.trans (bb.mono Ba.out.size))
      have XB := Lib.hid hxb
      clear bb hxb
      go_wp2_with fail
      refine (HS2.out wb).mono ?_
      rintro e wc ⟨YA, yc, rfl, hyc, bc⟩
      have Bc := Lib.hid (Bb.out.trans (bc.mono Bb.out.size))
      have XC := Lib.hid ((XB.out.below (Nat.le_refl _) bc).up bc.size)
      have YC := Lib.hid hyc
      clear bc hyc
      go_upto_region 15 with fail
      rcases HCA.out with rfl | ⟨rfl, h0⟩ | ⟨rfl, h0, h4⟩
      · go_wp2_with fail
        refine (HT.out l2 XA YA xc yc wc.heap.size wc (by omega) (Nat.le_refl _) XC.out YC.out).mono ?_
        rintro e wd ⟨rfl, bd⟩
        have Bd := Lib.hid (Bc.out.trans (bd.mono Bc.out.size))
        clear bd
        go_wp2
        go_ret
        exact ⟨rfl, Bd.out⟩
      · have hz : ((l2.length : Int) == 0) = true := by rw [h0]; rfl
        clear h0
        go_wp2_with fail
        refine (HT.out l2 XA YA xc yc wc.heap.size wc (by omega) (Nat.le_refl _) XC.out YC.out).mono ?_
        rintro e wd ⟨rfl, bd⟩
        have Bd := Lib.hid (Bc.out.trans (bd.mono Bc.out.size))
        clear bd
        go_wp2
        go_ret
        exact ⟨rfl, Bd.out⟩
      · have hz : ((l2.length : Int) == 0) = false := by simpa using h0
        have hg : decide (400 < (T.length : Int)) = true := decide_eq_true (by omega)
        clear h0 h4
        go_wp2_with fail
        refine (HT.out l2 XA YA xc yc wc.heap.size wc (by omega) (Nat.le_refl _) XC.out YC.out).mono ?_
        rintro e wd ⟨rfl, bd⟩
        have Bd := Lib.hid (Bc.out.trans (bd.mono Bc.out.size))
        clear bd
        go_wp2
        go_ret
        exact ⟨rfl, Bd.out⟩
end Go.Proofs.YtjbppociogoopaaDoor
