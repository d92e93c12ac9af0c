/-
  What spec.DecodePayload returns.
-/
import Derived.Test.YtjbppociogoopaaDoorSFr8
import Derived.Test.YtjbppociogoopaaDoorSFr9
namespace Go.Proofs.YtjbppociogoopaaDoor
open Go.RowKit Go.Deep Go.Proofs.YtjbppociogoopaaDoor.Num

/-- What reading a payload gives. -/
def PayP (L : List UInt8) (w : World) (e : Ending) (w' : World) : Prop :=
  (∃ (v : Value) (l : List Fr) (b : Bool), e = .returned (.tuple #[v, .bool b]) ∧ OwnF w' w.heap.size v l ∧
    ((decP L.length L = none ∧ l = [] ∧ b = false) ∨ (decP L.length L = some l ∧ l.length ≤ L.length ∧ b = decide (1 ≤ L.length ∧ L.length ≤ 400)))) ∧ Below w.heap.size w w'

set_option maxRecDepth 100000 in
set_option maxHeartbeats 1000000 in
/-- spec.DecodePayload -/
theorem sdecp (s : ByteArray) (w : World) (hs : s.size ≤ 1048576) :
    Calls Tryd.prog 31 #[.string s] w (PayP s.data.toList w) := by
  have h3 : s.data.toList.length = s.size := by simp
  go_enter Tryd.func31, Tryd.ntmps31
  go_wp2
  go_loopw [4, 5] (fun v i wr => ∃ (p g : Nat) (acc : List Fr), i = .int .i64 p ∧ RdF s.data.toList p g acc ∧ OwnF wr w.heap.size v acc ∧ Below w.heap.size w wr) (fun _ i _ => s.size - (intOf i).toNat)
  case atStart => exact ⟨0, _, [], rfl, RdF.start _, OwnF.lit w w.heap.size 0 #[] (Nat.le_refl _) (by decide) rfl, (Below.refl _ _).alloc (Nat.le_refl _) _⟩
  case round =>
    obtain ⟨p, g, acc, rfl, hr, ho, hb⟩ := hrel
    have HR := Lib.hid hr
    have HO := Lib.hid ho
    have HB := Lib.hid hb
    have hpl := hr.1
    have hal := hr.2.2.1
    rw [h3] at hpl
    clear hr ho hb
    by_cases hlt : p < s.size
    · have hlt' : p < s.data.toList.length := by rw [h3]; exact hlt
      by_cases h0 : s[p] = 0
      · have he : ((s[p].toNat : Int) == 0) = true := by rw [h0]; rfl
        obtain ⟨g', hr2⟩ := HR.out.zero hlt' (by rw [byte_at s p hlt hlt']; exact h0)
        have HR2 := Lib.hid hr2
        clear h0 hr2
        go_wp2
        go_roundw
        case rel => exact ⟨p + 1, g', acc, by go_num, HR2.out, HO.out, HB.out⟩
        case measure => simp [intOf]; omega
      · have hne : s.data.toList[p] ≠ 0 := by rw [byte_at s p hlt hlt']; exact h0
        have he : ((s[p].toNat : Int) == 0) = false := by
          have : s[p].toNat ≠ 0 := fun h => h0 (UInt8.toNat_inj.1 (by rw [h]; rfl))
          simpa using this
        have HC := Lib.hid (sdecf s p wr hs)
        clear h0
        cases hd : decF (s.data.toList.drop p) with
        | none =>
          have HN := Lib.hid (HR.out.bad hlt' hne hd)
          rw [hd] at HC
          clear hd hne
          go_wp2_with fail
          refine HC.out.mono ?_
          rintro e w1 ⟨hres, hb1⟩
          obtain rfl : e = .returned (.tuple #[frV fr0, .int .i64 0, .bool false]) := hres
          have HB1 := Lib.hid ((HB.out.trans (hb1.mono HB.out.size)).alloc (Nat.le_trans HB.out.size hb1.size) (.cells (frC fr0) 25))
          clear hb1
          go_wp2
          go_ret2
          exact ⟨⟨_, [], false, rfl, OwnF.litAt (w1.alloc (.cells (frC fr0) 25)) w.heap.size _ (by simp) HB1.out.size, .inl ⟨HN.out, rfl, rfl⟩⟩, HB1.out.alloc HB1.out.size _⟩
        | some fk =>
          obtain ⟨f, k⟩ := fk
          obtain ⟨g', hr2⟩ := HR.out.step hlt' hne hd
          have HR2 := Lib.hid hr2
          have hk := decF_len hd
          rw [List.length_drop, h3] at hk
          rw [hd] at HC
          clear hd hne hr2
          go_wp2_with fail
          refine HC.out.mono ?_
          rintro e w1 ⟨hres, hb1⟩
          obtain rfl : e = .returned (.tuple #[frV f, .int .i64 (p + k : Nat), .bool true]) := hres
          have HW1 := Lib.hid (HB.out.trans (hb1.mono HB.out.size))
          have HB1 := Lib.hid ((HW1.out.alloc HW1.out.size (.cells (frC f) 25)).alloc (by have := HW1.out.size; simp; omega) (.cells (frC f) 25))
          have HO1 := Lib.hid (((HO.out.later hb1).alloc (.cells (frC f) 25)).alloc (.cells (frC f) 25))
          have HX : Hid (Frs ((w1.alloc (.cells (frC f) 25)).alloc (.cells (frC f) 25)) (w1.heap.size + 1 + 1) (some ⟨w1.heap.size + 1, 0, none⟩) [f]) := Lib.hid (by
            have := frs_one (w1.alloc (.cells (frC f) 25)) f 25
            simpa using this)
          obtain ⟨q, hq⟩ : ∃ q, p + k = q := ⟨_, rfl⟩
          rw [hq] at HR2 ⊢
          have hpq : p < q := by omega
          have hqs : q ≤ s.size := by omega
          clear hb1 hk hq
          go_wp2_with (at_builtin; refine wpList_append_fr _ rfl _ _ rfl w.heap.size _ acc rfl HO1.out (w1.heap.size + 1) 0 1 1 (w1.heap.size + 1 + 1) [f] rfl rfl HX.out ?c1 ?c2 ?_)
          case c1 => omega
          case c2 => exact HB1.out.size
          intro v' w2 ho2 hb2
          have HO2 := Lib.hid ho2
          have HB2 := Lib.hid (HB1.out.trans hb2)
          clear ho2 hb2
          go_wp2
          go_roundw
          case rel => exact ⟨q, g', _, rfl, HR2.out, HO2.out, HB2.out⟩
          case measure => simp [intOf]; omega
    · have HD := Lib.hid (HR.out.done (by rw [h3]; exact hlt))
      by_cases hin : 1 ≤ s.size ∧ s.size ≤ 400
      · have HI := Lib.hid (in_yes (s.size : Int) 1 400 wr (by omega) (by omega))
        have HDD : Hid (true = decide (1 ≤ s.data.toList.length ∧ s.data.toList.length ≤ 400)) := Lib.hid (by rw [h3]; exact (decide_eq_true hin).symm)
        clear hin
        go_wp2_with fail
        refine HI.out.mono ?_
        rintro e w1 ⟨rfl, rfl⟩
        go_wp2
        go_ret2
        exact ⟨⟨_, acc, true, rfl, HO.out, .inr ⟨HD.out, by omega, HDD.out⟩⟩, HB.out⟩
      · have HI := Lib.hid (in_no (s.size : Int) 1 400 wr (by omega))
        have HDD : Hid (false = decide (1 ≤ s.data.toList.length ∧ s.data.toList.length ≤ 400)) := Lib.hid (by rw [h3]; exact (decide_eq_false hin).symm)
        clear hin
        go_wp2_with fail
        refine HI.out.mono ?_
        rintro e w1 ⟨rfl, rfl⟩
        go_wp2
        go_ret2
        exact ⟨⟨_, acc, false, rfl, HO.out, .inr ⟨HD.out, by omega, HDD.out⟩⟩, HB.out⟩
end Go.Proofs.YtjbppociogoopaaDoor
