/-
  What impl.IsShortest returns.
-/
import Derived.Test.YthigojonagocgaaDoorIDecQ
import Derived.Test.YthigojonagocgaaDoorIEncQ
import Derived.Test.YthigojonagocgaaDoorCopy8
import Derived.Stop.BytesEq
namespace Go.Proofs.YthigojonagocgaaDoor
open Go.RowKit Go.Deep Go.Proofs.YthigojonagocgaaDoor.Num

theorem Forms.drew {w : World} (h : Forms w) : Forms w.drew := h
theorem row8_new (w : World) : Row8 (w.alloc (.cells #[.int .u8 0, .int .u8 0, .int .u8 0, .int .u8 0, .int .u8 0, .int .u8 0, .int .u8 0, .int .u8 0] 51)).drew w.heap.size (List.replicate 8 0) :=
  heap_alloc_new w _
/-- impl.IsShortest, where no form begins there. -/
theorem ishort_no (s : ByteArray) (a : Int) (w : World) (hF : Forms w) (hs : s.size ≤ maxLen) (h : a < 0 ∨ decL (s.data.toList.drop a.toNat) = none) :
    Calls Tryd.prog 16 #[.string s, .int .i64 a] w fun e w' => e = .returned (.bool false) ∧ Below w.heap.size w w' := by
  have HC := Lib.hid (idecq_no s a w hF hs h)
  clear hF h
  go_enter Tryd.func16, Tryd.ntmps16
  go_wp2_with fail
  refine HC.out.mono ?_
  rintro e w1 ⟨rfl, hb1⟩
  go_wp2
  go_ret
  exact ⟨rfl, hb1⟩

set_option maxRecDepth 100000 in
set_option maxHeartbeats 2000000 in
/-- impl.IsShortest, where one begins there. -/
theorem ishort_yes (s : ByteArray) (a n k : Nat) (w : World) (hF : Forms w) (hs : s.size ≤ maxLen) (h : decL (s.data.toList.drop a) = some (n, k)) :
    Calls Tryd.prog 16 #[.string s, .int .i64 a] w fun e w' => e = .returned (.bool (k == qsz (n : Int))) ∧ Below w.heap.size w w' := by
  have HC := Lib.hid (idecq_yes s a n k w hF hs h)
  have h3 : s.data.toList.length = s.size := by simp
  have hk := decL_some h
  have hl : a + k ≤ s.size := by
    have h2 := hk.2.1
    have h4 := hk.1
    rw [List.length_drop, h3] at h2
    omega
  have HP := Lib.hid (pad_iff h)
  have HF := Lib.hid hF
  clear h h3 hF
  have _h9 : s.size ≤ 2 ^ 63 - 1 := hs
  go_enter Tryd.func16, Tryd.ntmps16
  go_wp2_with fail
  refine HC.out.mono ?_
  rintro e w1 ⟨rfl, hb1⟩
  have i0 : (0 : Int) ≤ (a : Int) + (k : Int) := by omega
  have i1 : (a : Int) + (k : Int) ≤ (s.size : Int) := by omega
  have i2 : (a : Int) ≤ (a : Int) + (k : Int) := by omega
  have i3 : ((a : Int) + (k : Int)).toNat = a + k := by omega
  go_wp2
  have hts : (s.extract a (a + k)).size ≤ 8 := by rw [ByteArray.size_extract]; omega
  have hz8 := row8_new w1
  have HT := Lib.hid hts
  have HZ := Lib.hid hz8
  clear hts hz8
  go_region_law (refine step_copy8 rfl (.tmp 18) (.tmp 22) rfl w1.heap.size rfl (s.extract a (a + k)) rfl HT.out HZ.out ?_; intro w2 hr2 hb2)
  have hL : (s.extract a (a + k)).data.toList ++ List.replicate (8 - (s.extract a (a + k)).size) 0 = (s.data.toList.drop a).take k ++ List.replicate (8 - k) 0 := by
    have e1 : (s.extract a (a + k)).size = k := by rw [ByteArray.size_extract]; omega
    have e2 : (s.extract a (a + k)).data.toList = (s.data.toList.drop a).take k := by simp
    rw [e1, e2]
  have hlen : ((s.data.toList.drop a).take k ++ List.replicate (8 - k) (0 : UInt8)).length = 8 := by
    rw [List.length_append, List.length_take, List.length_replicate]; omega
  rw [hL] at hr2
  obtain ⟨c0, c1, c2, c3, c4, c5, c6, c7, hc8⟩ := eight _ hlen
  obtain ⟨b0, b1, b2, b3, b4, b5, b6, b7, hb8⟩ := eight (shortB (n : Int)) (shortB_len _)
  have hcs : cellsB (shortB (n : Int)) = #[.int .u8 b0.toNat, .int .u8 b1.toNat, .int .u8 b2.toNat, .int .u8 b3.toNat, .int .u8 b4.toNat, .int .u8 b5.toNat, .int .u8 b6.toNat, .int .u8 b7.toNat] := by rw [hb8]; rfl
  have HW := Lib.hid fun w1 => iwrite_any (n : Int) w1
  rw [hcs] at HW
  have hpad := HP.out (8 - k) (8 - qsz (n : Int))
  rw [hc8, show encQ (n : Int) ++ List.replicate (8 - qsz (n : Int)) 0 = shortB (n : Int) from rfl, hb8] at hpad
  rw [hc8] at hr2
  have heq8 : ∀ W : World, (Op.equalIn 10000 51 (.agg #[.int .u8 c0.toNat, .int .u8 c1.toNat, .int .u8 c2.toNat, .int .u8 c3.toNat, .int .u8 c4.toNat, .int .u8 c5.toNat, .int .u8 c6.toNat, .int .u8 c7.toNat]) (.agg #[.int .u8 b0.toNat, .int .u8 b1.toNat, .int .u8 b2.toNat, .int .u8 b3.toNat, .int .u8 b4.toNat, .int .u8 b5.toNat, .int .u8 b6.toNat, .int .u8 b7.toNat])).run Tryd.prog W = .ok (k == qsz (n : Int)) W := fun W => by
    have h := run_equalIn_bytes W 9998 51 5 8 Tryd.underlying51 Tryd.underlying5 Tryd.sizeOf5 [c0, c1, c2, c3, c4, c5, c6, c7] [b0, b1, b2, b3, b4, b5, b6, b7] rfl rfl
    have hb : ([c0, c1, c2, c3, c4, c5, c6, c7] == [b0, b1, b2, b3, b4, b5, b6, b7]) = (k == qsz (n : Int)) := by
      rw [Bool.eq_iff_iff, beq_iff_eq, beq_iff_eq, hpad]
      exact ⟨fun h => h.1, fun h => ⟨h, by rw [h]⟩⟩
    rw [hb] at h
    exact h
  have HB2 := Lib.hid (hb2 w1.heap.size (Nat.le_refl _))
  have HR2 := Lib.hid hr2
  clear hpad hb2 hr2 hL hlen hcs hc8 hb8 HP
  obtain ⟨d0, d1, d2, d3, d4, d5, d6, d7⟩ := HR2.out.cells
  have HBW := Lib.hid (hb1.trans (((((Below.refl _ w1).alloc (Nat.le_refl _) _).drew).trans HB2.out).mono hb1.size))
  have HF2 := Lib.hid (HF.out.keep (Nat.le_refl _) HBW.out)
  clear hb1 HT HZ i0 i1 i2 i3 HC hs HB2 HF
  go_wp2
  go_region_with (first | (go_at_call 35; refine (ishort (n : Int) _ (Forms.drew HF2.out)).mono ?_; rintro e w3 ⟨rfl, hb3⟩; have HR3 := Lib.hid (HR2.out.keep (hb3.block _ HR2.out.lt)); have HB3 := Lib.hid hb3; clear hb3; obtain ⟨p0, p1, p2, p3, p4, p5, p6, p7⟩ := HR3.out.cells) | (go_at_call 36; refine (HW.out _).mono ?_; rintro e w4 ⟨rfl, hb4⟩; have HR4 := Lib.hid (HR3.out.keep (hb4.block _ HR3.out.lt)); have HB4 := Lib.hid hb4; clear hb4; obtain ⟨q0, q1, q2, q3, q4, q5, q6, q7⟩ := HR4.out.cells))
  all_goals go_wp2
  all_goals go_ret
  all_goals
    have B3 := HBW.out.drew.trans (HB3.out.mono HBW.out.size)
    exact ⟨rfl, B3.trans (HB4.out.mono B3.size)⟩
end Go.Proofs.YthigojonagocgaaDoor
