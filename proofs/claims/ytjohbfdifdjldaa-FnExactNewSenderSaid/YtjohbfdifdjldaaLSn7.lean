/-
  The exact law on NewSender, walked.
-/
import Derived.Test.YtjohbfdifdjldaaLSn5
import Derived.Test.YtjohbfdifdjldaaSnN4
namespace Go.Proofs.Ytjohbfdifdjldaa
open Go.RowKit Go.Deep Go.Proofs.Ytjohbfdifdjldaa.Num

set_option maxRecDepth 100000 in
set_option maxHeartbeats 8000000 in
/-- The law on NewSender, of a spec and an impl that answer so. -/
theorem law_NewSender (HSP : ∀ (n : Int) (W : World), (-9223372036854775808 ≤ n ∧ n ≤ 9223372036854775807) → Calls Try.prog 5 #[.int .i64 n] W fun e w' => ∃ v1 v2 v3 v4, e = .returned (.tuple #[snV (nwS n) v1 v2 v3 v4, .bool (decide (powR n))]) ∧ OwnSn w' W.heap.size v1 v2 v3 v4 (nwS n) ∧ Below W.heap.size W w')
    (HI : ∀ (n : Int) (W : World), (-9223372036854775808 ≤ n ∧ n ≤ 9223372036854775807) → Calls Try.prog 6 #[.int .i64 n] W fun e w' => ∃ v1 v2 v3 v4, e = .returned (.tuple #[snV (nwS n) v1 v2 v3 v4, .bool (decide (powR n))]) ∧ OwnSn w' W.heap.size v1 v2 v3 v4 (nwS n) ∧ Below W.heap.size W w') (n : Int) (w : World) (hn : (-9223372036854775808 ≤ n ∧ n ≤ 9223372036854775807)) :
    Calls Try.prog 3 #[.int .i64 n] w fun e w' => e = .returned (.bool true) ∧ Below w.heap.size w w' := by
  have HS := Lib.hid fun W => HSP n W hn
  have HM := Lib.hid fun W => HI n W hn
  have hLl : LenS 3145728 (nwS n) := by
    have := nwR_len n
    unfold LenS nwS
    split
    · exact ⟨by show (nwR n).cs.length ≤ _; omega, Nat.zero_le _, Nat.zero_le _, Nat.zero_le _⟩
    · exact ⟨Nat.zero_le _, Nat.zero_le _, Nat.zero_le _, Nat.zero_le _⟩
  have HLR := Lib.hid hLl
  clear HSP HI hLl
  generalize nwS n = R at *
  generalize decide (powR n) = s1 at *
  have hbn := bne_bool s1
  clear hn
  go_enter Try.func3, Try.ntmps3
  go_wp2_with fail
  refine (HS.out w).mono ?_
  rintro e w3 ⟨v31, v32, v33, v34, rfl, ho3, hb3⟩
  obtain ⟨A31, A32, A33, A34, c31, c32, c33, c34, rfl, rfl, rfl, rfl, _, _, _, _⟩ := ho3.frs
  have V4 := Lib.hid (VarS.new R 27 ho3 hb3.size)
  have B4 := Lib.hid (hb3.alloc hb3.size (.cells (snB R (.slice A31 R.rn.cs.length c31) (.slice A32 R.pe.length c32) (.slice A33 R.fl.length c33) (.slice A34 R.ac.length c34)) 27))
  have hz4 : (w3.alloc (.cells (snB R (.slice A31 R.rn.cs.length c31) (.slice A32 R.pe.length c32) (.slice A33 R.fl.length c33) (.slice A34 R.ac.length c34)) 27)).heap.size = w3.heap.size + 1 := by simp
  have HZ4 := Lib.hid hz4
  clear ho3 hb3 hz4
  go_upto_region 2 with fail
  generalize w3.alloc (.cells (snB R (.slice A31 R.rn.cs.length c31) (.slice A32 R.pe.length c32) (.slice A33 R.fl.length c33) (.slice A34 R.ac.length c34)) 27) = w4 at *
  generalize w3.heap.size = g0 at *
  go_wp2_with fail
  refine (HM.out w4).mono ?_
  rintro e w7 ⟨v71, v72, v73, v74, rfl, ho7, hb7⟩
  obtain ⟨A71, A72, A73, A74, c71, c72, c73, c74, rfl, rfl, rfl, rfl, _, _, _, _⟩ := ho7.frs
  have G8 := Lib.hid (VarS.new R 27 ho7 hb7.size)
  have V8 := Lib.hid ((V4.out.next hb7).alloc (.cells (snB R (.slice A71 R.rn.cs.length c71) (.slice A72 R.pe.length c72) (.slice A73 R.fl.length c73) (.slice A74 R.ac.length c74)) 27))
  have B8 := Lib.hid ((B4.out.trans (hb7.mono B4.out.size)).alloc (Nat.le_trans B4.out.size hb7.size) (.cells (snB R (.slice A71 R.rn.cs.length c71) (.slice A72 R.pe.length c72) (.slice A73 R.fl.length c73) (.slice A74 R.ac.length c74)) 27))
  have hg1 : g0 < w4.heap.size := by have := HZ4.out; omega
  have hBw := B4.out.size
  clear ho7 hb7 V4 B4 HZ4
  go_upto_region 3 with fail
  generalize w7.alloc (.cells (snB R (.slice A71 R.rn.cs.length c71) (.slice A72 R.pe.length c72) (.slice A73 R.fl.length c73) (.slice A74 R.ac.length c74)) 27) = w8 at *
  generalize w7.heap.size = gg at *
  generalize w4.heap.size = Bg at *
  obtain ⟨y0, y1, y2, y3, y4, y5, y6, y7, y8, y9, y10, y11⟩ := G8.out.1
  obtain ⟨z0, z1, z2, z3, z4, z5, z6, z7, z8, z9, z10, z11⟩ := V8.out.1
  go_wp2_with fail
  refine (eqvs R _ _ _ _ _ _ _ _ _ _ _ _ _ _ _ _ _ _ _ G8.out.2.1 V8.out.2.1 (HLR.out.up (by decide))).mono ?_
  rintro e w9 ⟨rfl, hb'⟩
  have B9 := Lib.hid (B8.out.trans (hb'.mono B8.out.size))
  have V9 := Lib.hid (V8.out.next hb')
  have G9 := Lib.hid (G8.out.next hb')
  clear hb' B8 V8 G8
  clear y0 y1 y2 y3 y4 y5 y6 y7 y8 y9 y10 y11 z0 z1 z2 z3 z4 z5 z6 z7 z8 z9 z10 z11
  obtain ⟨x0, x1, x2, x3, x4, x5, x6, x7, x8, x9, x10, x11⟩ := G9.out.1
  have HGI := Lib.hid G9.out.in
  have hg2 := G9.out.2.2.2.1
  go_wp2_with fail
  refine (marksn R _ _ _ _ Bg w9 G9.out.2.1 (Nat.le_trans hg2 (Nat.le_of_lt G9.out.2.2.2.2)) (HLR.out.up (by decide))).mono ?_
  rintro e w14 ⟨rfl, ho', hb', hf'⟩
  have B14 := Lib.hid (B9.out.trans (hb'.mono (by omega)))
  have V14 := Lib.hid (V9.out.kept hf' HGI.out (by omega))
  have G14 := Lib.hid (G9.out.wrote hf' ho')
  clear ho' hb' hf' B9 V9 G9 HGI
  clear x0 x1 x2 x3 x4 x5 x6 x7 x8 x9 x10 x11
  obtain ⟨q1, hq1⟩ : ∃ q1 : Int, mk5 R = q1 := ⟨_, rfl⟩
  have hq0 : decide (q1 < 0) = false := decide_eq_false (by have := mk5_pos R; omega)
  have hq2 := bne_int q1
  rw [hq1]
  have HQ1 := Lib.hid hq1
  clear hq1
  obtain ⟨x0, x1, x2, x3, x4, x5, x6, x7, x8, x9, x10, x11⟩ := G14.out.1
  have hhe := heldvs R _ _ _ _ _ _ _ _ _ w14 G14.out.2.1 (HLR.out.up (by decide))
  rw [HQ1.out] at hhe
  have HHE := Lib.hid hhe
  clear hhe
  go_wp2_with fail
  refine HHE.out.mono ?_
  rintro e w15 ⟨rfl, hb'⟩
  have B15 := Lib.hid (B14.out.trans (hb'.mono B14.out.size))
  have V15 := Lib.hid (V14.out.next hb')
  have G15 := Lib.hid (G14.out.next hb')
  clear hb' B14 V14 G14 HHE
  clear x0 x1 x2 x3 x4 x5 x6 x7 x8 x9 x10 x11
  go_wp2_with fail
  refine (HM.out w15).mono ?_
  rintro e w17 ⟨v171, v172, v173, v174, rfl, ho17, hb7⟩
  obtain ⟨A171, A172, A173, A174, c171, c172, c173, c174, rfl, rfl, rfl, rfl, _, _, _, _⟩ := ho17.frs
  have K18 := Lib.hid (VarS.new R 27 ho17 hb7.size)
  have B18 := Lib.hid ((B15.out.trans (hb7.mono B15.out.size)).alloc (Nat.le_trans B15.out.size hb7.size) (.cells (snB R (.slice A171 R.rn.cs.length c171) (.slice A172 R.pe.length c172) (.slice A173 R.fl.length c173) (.slice A174 R.ac.length c174)) 27))
  have V18 := Lib.hid ((V15.out.next hb7).alloc (.cells (snB R (.slice A171 R.rn.cs.length c171) (.slice A172 R.pe.length c172) (.slice A173 R.fl.length c173) (.slice A174 R.ac.length c174)) 27))
  have G18 := Lib.hid ((G15.out.next hb7).alloc (.cells (snB R (.slice A171 R.rn.cs.length c171) (.slice A172 R.pe.length c172) (.slice A173 R.fl.length c173) (.slice A174 R.ac.length c174)) 27))
  clear ho17 hb7 B15 V15 G15
  go_upto_region 14 with fail
  generalize w17.alloc (.cells (snB R (.slice A171 R.rn.cs.length c171) (.slice A172 R.pe.length c172) (.slice A173 R.fl.length c173) (.slice A174 R.ac.length c174)) 27) = w18 at *
  generalize w17.heap.size = gh at *
  generalize w15.heap.size = Bh at *
  obtain ⟨y0, y1, y2, y3, y4, y5, y6, y7, y8, y9, y10, y11⟩ := K18.out.1
  obtain ⟨z0, z1, z2, z3, z4, z5, z6, z7, z8, z9, z10, z11⟩ := V18.out.1
  go_wp2_with fail
  refine (eqvs R _ _ _ _ _ _ _ _ _ _ _ _ _ _ _ _ _ _ _ K18.out.2.1 V18.out.2.1 (HLR.out.up (by decide))).mono ?_
  rintro e w19 ⟨rfl, hb'⟩
  have B19 := Lib.hid (B18.out.trans (hb'.mono B18.out.size))
  have G19 := Lib.hid (G18.out.next hb')
  clear hb' B18 G18
  clear y0 y1 y2 y3 y4 y5 y6 y7 y8 y9 y10 y11 z0 z1 z2 z3 z4 z5 z6 z7 z8 z9 z10 z11 V18 K18
  obtain ⟨x0, x1, x2, x3, x4, x5, x6, x7, x8, x9, x10, x11⟩ := G19.out.1
  have hhe := heldvs R _ _ _ _ _ _ _ _ _ w19 G19.out.2.1 (HLR.out.up (by decide))
  rw [HQ1.out] at hhe
  have HHE := Lib.hid hhe
  clear hhe
  go_wp2_with fail
  refine HHE.out.mono ?_
  rintro e w20 ⟨rfl, hb'⟩
  have B20 := Lib.hid (B19.out.trans (hb'.mono B19.out.size))
  clear hb'
  clear x0 x1 x2 x3 x4 x5 x6 x7 x8 x9 x10 x11 G19 HHE
  go_wp2
  go_ret
  exact ⟨rfl, B20.out⟩

end Go.Proofs.Ytjohbfdifdjldaa
