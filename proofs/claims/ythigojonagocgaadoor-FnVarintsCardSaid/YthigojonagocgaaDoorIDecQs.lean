/-
  What impl.DecodeQuics returns.
-/
import Derived.Test.YthigojonagocgaaDoorSDecQs
import Derived.Test.YthigojonagocgaaDoorIDecQ
namespace Go.Proofs.YthigojonagocgaaDoor
open Go.RowKit Go.Deep Go.Proofs.YthigojonagocgaaDoor.Num

set_option maxRecDepth 100000 in
set_option maxHeartbeats 800000 in
/-- impl.DecodeQuics -/
theorem idecqs (s : ByteArray) (w : World) (hF : Forms w) (hs : s.size ≤ 1048576) :
    Calls Tryd.prog 21 #[.string s] w (ListP s.data.toList w) := by
  have h3 : s.data.toList.length = s.size := by simp
  have hmx : s.size ≤ maxLen := by unfold maxLen; omega
  have HF := Lib.hid hF
  clear hF
  go_enter Tryd.func21, Tryd.ntmps21
  go_wp2
  go_loopw [4, 5] (fun v i wr => ∃ (p f : Nat) (acc : List Int), i = .int .i64 p ∧ Reads s.data.toList p f acc ∧ OwnI wr w.heap.size v acc ∧ Below w.heap.size w wr) (fun _ i _ => s.size - (intOf i).toNat)
  case atStart => exact ⟨0, _, [], rfl, Reads.start _, OwnI.empty, Below.refl _ _⟩
  case round =>
    obtain ⟨p, f, acc, rfl, hr, ho, hb⟩ := hrel
    have HR := Lib.hid hr
    have HO := Lib.hid ho
    have HB := Lib.hid hb
    have hpl := hr.2.2.2.1
    have hal := hr.2.2.1
    rw [h3] at hpl
    clear hr ho hb
    by_cases hlt : p < s.size
    · cases hd : decL (s.data.toList.drop p) with
      | none =>
        have HN := Lib.hid (HR.out.bad (by rw [h3]; exact hlt) hd)
        have HC := Lib.hid (idecq_no s p wr (HF.out.keep (Nat.le_refl _) HB.out) hmx (Or.inr (by rw [Int.toNat_natCast]; exact hd)))
        clear hd
        go_wp2_with fail
        refine HC.out.mono ?_
        rintro e w1 ⟨rfl, hb1⟩
        have HB1 := Lib.hid (HB.out.trans (hb1.mono HB.out.size))
        clear hb1
        go_wp2
        go_ret2
        exact .inr ⟨_, HN.out, rfl, OwnI.empty, HB1.out⟩
      | some nk =>
        obtain ⟨n, k⟩ := nk
        obtain ⟨g, rfl, hr2⟩ := HR.out.step (by rw [h3]; exact hlt) hd
        have HR2 := Lib.hid hr2
        have HC := Lib.hid (idecq_yes s p n k wr (HF.out.keep (Nat.le_refl _) HB.out) hmx hd)
        have hk := (decL_some hd).1
        clear hd hr2
        go_wp2_with fail
        refine HC.out.mono ?_
        rintro e w1 ⟨rfl, hb1⟩
        have HB1 := Lib.hid (HB.out.trans (hb1.mono HB.out.size))
        have HO1 := Lib.hid (HO.out.later hb1)
        clear hb1
        have hcell : (w1.alloc (.cells #[.int .i64 (n : Int)] 3)).cell? ⟨w1.heap.size, 0, none⟩ = some (.int .i64 (n : Int)) := by
          rw [World.cell?_alloc_at _ _ _ _ rfl]; rfl
        have HX := Lib.hid hcell
        clear hcell
        go_wp2_with (at_builtin; refine wpList_append_int _ rfl _ _ rfl w.heap.size _ acc rfl (HO1.out.alloc _) w1.heap.size 1 (n : Int) rfl HX.out ?c1 ?c2 ?_)
        case c1 => omega
        case c2 => have := HB1.out.size; simp; omega
        intro v' w2 ho2 hb2
        have HO2 := Lib.hid ho2
        have HB2 := Lib.hid ((HB1.out.alloc HB1.out.size _).trans hb2)
        clear ho2 hb2
        go_wp2
        go_roundw
        case rel => exact ⟨p + k, g, _, by go_num, HR2.out, HO2.out, HB2.out⟩
        case measure => simp [intOf]; omega
    · have HD := Lib.hid (HR.out.done (by rw [h3]; exact hlt))
      go_wp2
      go_ret2
      exact .inl ⟨_, _, HD.out, by omega, rfl, HO.out, HB.out⟩
end Go.Proofs.YthigojonagocgaaDoor
