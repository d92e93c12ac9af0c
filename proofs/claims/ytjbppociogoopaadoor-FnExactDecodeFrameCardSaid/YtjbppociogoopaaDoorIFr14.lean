/-
  What impl.DecodePayload returns.
-/
import Derived.Test.YtjbppociogoopaaDoorIFr12
import Derived.Test.YtjbppociogoopaaDoorSFr10
namespace Go.Proofs.YtjbppociogoopaaDoor
open Go.RowKit Go.Deep Go.Proofs.YtjbppociogoopaaDoor.Num

/-- impl.DecodeFrame -/
theorem idecf (s : ByteArray) (a : Nat) (w : World) (hs : s.size ≤ 1048576) (hF : Forms w) :
    Calls Tryd.prog 13 #[.string s, .int .i64 a] w (FrP a (decF (s.data.toList.drop a)) w) := by
  by_cases ha : a < s.size
  · exact idecf_at s a w hs ha hF
  · refine (idecf_no s a w (Or.inr (by omega))).mono ?_
    rintro e w' ⟨h1, h2⟩
    rw [List.drop_eq_nil_of_le (by simp; omega)]
    exact ⟨h1, h2⟩

set_option maxRecDepth 100000 in
set_option maxHeartbeats 1000000 in
/-- impl.DecodePayload -/
theorem idecp (s : ByteArray) (w : World) (hs : s.size ≤ 1048576) (hF : Forms w) :
    Calls Tryd.prog 27 #[.string s] w (PayP s.data.toList w) := by
  have h3 : s.data.toList.length = s.size := by simp
  have HF := Lib.hid hF
  clear hF
  go_enter Tryd.func27, Tryd.ntmps27
  go_wp2
  go_loopw [4, 5] (fun v i wr => ∃ (p g : Nat) (acc : List Fr), i = .int .i64 p ∧ RdF s.data.toList p g acc ∧ OwnF wr w.heap.size v acc ∧ Below w.heap.size w wr) (fun _ i _ => s.size - (intOf i).toNat)
  case atStart => exact ⟨0, _, [], rfl, RdF.start _, OwnF.empty, Below.refl _ _⟩
  case round =>
    obtain ⟨p, g, acc, rfl, hr, ho, hb⟩ := hrel
    have HR := Lib.hid hr
    have HO := Lib.hid ho
    have HB := Lib.hid hb
    have hpl := hr.1
    have hal := hr.2.2.1
    rw [h3] at hpl
    clear hr ho hb
    by_cases hlt : p < s.size
    · have hlt' : p < s.data.toList.length := by rw [h3]; exact hlt
      by_cases h0 : s[p] = 0
      · have he : ((s[p].toNat : Int) == 0) = true := by rw [h0]; rfl
        obtain ⟨g', hr2⟩ := HR.out.zero hlt' (by rw [byte_at s p hlt hlt']; exact h0)
        have HR2 := Lib.hid hr2
        clear h0 hr2
        go_wp2
        go_roundw
        case rel => exact ⟨p + 1, g', acc, by go_num, HR2.out, HO.out, HB.out⟩
        case measure => simp [intOf]; omega
      · have hne : s.data.toList[p] ≠ 0 := by rw [byte_at s p hlt hlt']; exact h0
        have he : ((s[p].toNat : Int) == 0) = false := by
          have : s[p].toNat ≠ 0 := fun h => h0 (UInt8.toNat_inj.1 (by rw [h]; rfl))
          simpa using this
        have HC := Lib.hid (idecf s p wr hs (HF.out.keep (Nat.le_refl _) HB.out))
        clear h0
        cases hd : decF (s.data.toList.drop p) with
        | none =>
          have HN := Lib.hid (HR.out.bad hlt' hne hd)
          rw [hd] at HC
          clear hd hne
          go_wp2_with fail
          refine HC.out.mono ?_
          rintro e w1 ⟨hres, hb1⟩
          obtain rfl : e = .returned (.tuple #[frV fr0, .int .i64 0, .bool false]) := hres
          have HB1 := Lib.hid ((HB.out.trans (hb1.mono HB.out.size)).alloc (Nat.le_trans HB.out.size hb1.size) (.cells (frC fr0) 25))
          clear hb1
          go_wp2
          go_ret2
          exact ⟨⟨_, [], false, rfl, OwnF.empty, .inl ⟨HN.out, rfl, rfl⟩⟩, HB1.out⟩
        | some fk =>
          obtain ⟨f, k⟩ := fk
          obtain ⟨g', hr2⟩ := HR.out.step hlt' hne hd
          have HR2 := Lib.hid hr2
          have hk := decF_len hd
          rw [List.length_drop, h3] at hk
          rw [hd] at HC
          clear hd hne hr2
          go_wp2_with fail
          refine HC.out.mono ?_
          rintro e w1 ⟨hres, hb1⟩
          obtain rfl : e = .returned (.tuple #[frV f, .int .i64 (p + k : Nat), .bool true]) := hres
          have HW1 := Lib.hid (HB.out.trans (hb1.mono HB.out.size))
          have HB1 := Lib.hid ((HW1.out.alloc HW1.out.size (.cells (frC f) 25)).alloc (by have := HW1.out.size; simp; omega) (.cells (frC f) 25))
          have HO1 := Lib.hid (((HO.out.later hb1).alloc (.cells (frC f) 25)).alloc (.cells (frC f) 25))
          have HX : Hid (Frs ((w1.alloc (.cells (frC f) 25)).alloc (.cells (frC f) 25)) (w1.heap.size + 1 + 1) (some ⟨w1.heap.size + 1, 0, none⟩) [f]) := Lib.hid (by
            have := frs_one (w1.alloc (.cells (frC f) 25)) f 25
            simpa using this)
          obtain ⟨q, hq⟩ : ∃ q, p + k = q := ⟨_, rfl⟩
          rw [hq] at HR2 ⊢
          have hpq : p < q := by omega
          have hqs : q ≤ s.size := by omega
          clear hb1 hk hq
          go_wp2_with (at_builtin; refine wpList_append_fr _ rfl _ _ rfl w.heap.size _ acc rfl HO1.out (w1.heap.size + 1) 0 1 1 (w1.heap.size + 1 + 1) [f] rfl rfl HX.out ?c1 ?c2 ?_)
          case c1 => omega
          case c2 => exact HB1.out.size
          intro v' w2 ho2 hb2
          have HO2 := Lib.hid ho2
          have HB2 := Lib.hid (HB1.out.trans hb2)
          clear ho2 hb2
          go_wp2
          go_roundw
          case rel => exact ⟨q, g', _, rfl, HR2.out, HO2.out, HB2.out⟩
          case measure => simp [intOf]; omega
    · have HD := Lib.hid (HR.out.done (by rw [h3]; exact hlt))
      obtain rfl : p = s.size := by omega
      have HDD : Hid ((decide (0 < (s.size : Int)) && decide ((s.size : Int) ≤ 400)) = decide (1 ≤ s.data.toList.length ∧ s.data.toList.length ≤ 400)) := Lib.hid (by
        rw [h3, ← Bool.decide_and]
        exact decide_eq_decide.2 (by omega))
      by_cases h0 : 0 < s.size
      · have hd0 : decide (0 < (s.size : Int)) = true := decide_eq_true (by omega)
        rw [hd0, Bool.true_and] at HDD
        have hd1 : decide (0 < s.size) = true := decide_eq_true h0
        go_wp2
        go_ret2
        exact ⟨⟨_, acc, _, rfl, HO.out, .inr ⟨HD.out, by omega, HDD.out⟩⟩, HB.out⟩
      · have hd0 : decide (0 < (s.size : Int)) = false := decide_eq_false (by omega)
        rw [hd0, Bool.false_and] at HDD
        have hd1 : decide (0 < s.size) = false := decide_eq_false h0
        go_wp2
        go_ret2
        exact ⟨⟨_, acc, _, rfl, HO.out, .inr ⟨HD.out, by omega, HDD.out⟩⟩, HB.out⟩
end Go.Proofs.YtjbppociogoopaaDoor
