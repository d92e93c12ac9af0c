/-
  What impl.InsertData returns.
-/
import Derived.Test.YtmmoedhfeaokgaaIIns3
namespace Go.Proofs.Ytmmoedhfeaokgaa
open Go.RowKit Go.Deep Go.Proofs.Ytmmoedhfeaokgaa.Num

set_option maxRecDepth 100000 in
set_option maxHeartbeats 2000000 in
/-- impl.InsertData, where nothing goes in. -/
theorem iins_no (b : Bf) (o : Int) (d : ByteArray) (A : Option Addr) (cap B : Nat) (w : World) (hB : B ≤ w.heap.size) (hr : Chs w B A b.chs) (hn : b.chs.length ≤ 1000000000) (hi : inB b.chs) (hnx : -9223372036854775808 ≤ b.next ∧ b.next ≤ 9223372036854775807) (hd : d.size ≤ maxLen) (hc : ¬ canI b o d) :
    Calls Try.prog 66 #[bfV b.next (.slice A b.chs.length cap), .int .i64 o, .string d] w fun e w' => ∃ v, e = .returned (bfV b.next v) ∧ OwnC w' w.heap.size v b.chs ∧ Below w.heap.size w w' := by
  have HR := Lib.hid hr
  have HIS : Hid (∀ W, B ≤ W.heap.size → Chs W B A b.chs → Calls Try.prog 75 #[bfV b.next (.slice A b.chs.length cap)] W fun e w' => e = .returned (.bool (decide (okB b))) ∧ Below W.heap.size W w') := Lib.hid fun W h1 h2 => iisb b A cap B W h1 h2 hn hi hnx
  have HCP : Hid (∀ W, B ≤ W.heap.size → Chs W B A b.chs → Calls Try.prog 73 #[bfV b.next (.slice A b.chs.length cap)] W fun e w' => ∃ v, e = .returned (bfV b.next v) ∧ OwnC w' W.heap.size v b.chs ∧ Below W.heap.size W w') := Lib.hid fun W h1 h2 => icloneb b.next b.chs A cap B W h1 h2 hn
  have HRE := Lib.hid fun W => ireach b.next o d W hd
  have H2 := Lib.hid ((HeldB.start w b.next (.slice A b.chs.length cap)).alloc (.cells #[.int .i64 0, .slice none 0 0] 26))
  have X2 := BoxB.new (w.alloc (.cells #[.int .i64 b.next, .slice A b.chs.length cap] 26)) 0 (.slice none 0 0)
  rw [show (w.alloc (.cells #[.int .i64 b.next, .slice A b.chs.length cap] 26)).heap.size = w.heap.size + 1 by simp] at X2
  have HX2 := Lib.hid X2
  clear X2 hr hi
  have HEND : Hid (∀ w3, HeldB w b.next (.slice A b.chs.length cap) w3 → BoxB w3 (w.heap.size + 1) 0 (.slice none 0 0) → True) := Lib.hid fun _ _ _ => trivial
  obtain ⟨nx, l⟩ := b
  by_cases hok : okB ⟨nx, l⟩
  · rw [decide_eq_true hok] at HIS
    have hrf : ¬ (d.size ≠ 0 ∧ 0 ≤ o ∧ o ≤ 4611686018427387903 - (d.size : Int) ∧ nx < o + d.size) := fun h => hc ⟨hok, h.1, h.2.1, h.2.2.1, h.2.2.2⟩
    have HRE2 : Hid (∀ W, Calls Try.prog 87 #[.int .i64 nx, .int .i64 o, .string d] W fun e w' => e = .returned (.bool false) ∧ w' = W) := Lib.hid fun W => by
      have h := HRE.out W
      rw [decide_eq_false hrf] at h
      exact h
    dsimp only at *
    clear hok hrf hc HRE HEND
    go_enter Try.func66, Try.ntmps66
    go_upto_region 1 with fail
    generalize (w.alloc (.cells #[.int .i64 nx, .slice A l.length cap] 26)).alloc (.cells #[.int .i64 0, .slice none 0 0] 26) = w2 at *
    obtain ⟨q0, q1⟩ := H2.out.1.cells
    go_wp2_with fail
    refine (HIS.out w2 (Nat.le_trans hB H2.out.2.size) (HR.out.below hB H2.out.2)).mono ?_
    rintro e w3 ⟨rfl, hb3⟩
    have H3 := Lib.hid (H2.out.next hb3)
    have HX3 := Lib.hid (HX2.out.below hb3 HX2.out.lt)
    clear hb3 q0 q1 H2 HX2 HIS
    obtain ⟨q0, q1⟩ := H3.out.1.cells
    go_wp2_with fail
    refine (HRE2.out w3).mono ?_
    rintro e w4 ⟨rfl, rfl⟩
    go_wp2_with fail
    refine (HCP.out w4 (Nat.le_trans hB H3.out.2.size) (HR.out.below hB H3.out.2)).mono ?_
    rintro e w5 ⟨v5, rfl, ho5, hb5⟩
    have HX5 := Lib.hid (HX3.out.below hb5 HX3.out.lt)
    have HB5 := Lib.hid ((H3.out.next hb5).2)
    have hlt5 : w.heap.size + 1 < w4.heap.size := HX3.out.lt
    obtain ⟨A5, c5, rfl, _, _⟩ := ho5.frs
    have HO5 := Lib.hid ho5
    clear ho5 hb5 q0 q1 HX3 H3
    obtain ⟨p0, p1⟩ := HX5.out.cells
    have pf := HX5.out.free
    go_wp2
    refine bodyPost_ret (results_cell_row rfl _ _ (w.heap.size + 1) _ _ _ _ rfl ((HX5.out.set0 nx).set1 _) Try.underlying26 rfl (by kernel_rfl)) rfl ?_
    exact ⟨_, rfl, ownc_weaken ((OwnC.put HO5.out (w.heap.size + 1) 0 _ hlt5).put (w.heap.size + 1) 1 _ hlt5) (by omega), (HB5.out.setCell (p := ⟨_, _, _⟩) (by show w.heap.size ≤ w.heap.size + 1; omega) _).setCell (p := ⟨_, _, _⟩) (by show w.heap.size ≤ w.heap.size + 1; omega) _⟩
  · rw [decide_eq_false hok] at HIS
    dsimp only at *
    clear hok hc HRE HEND
    go_enter Try.func66, Try.ntmps66
    go_upto_region 1 with fail
    generalize (w.alloc (.cells #[.int .i64 nx, .slice A l.length cap] 26)).alloc (.cells #[.int .i64 0, .slice none 0 0] 26) = w2 at *
    obtain ⟨q0, q1⟩ := H2.out.1.cells
    go_wp2_with fail
    refine (HIS.out w2 (Nat.le_trans hB H2.out.2.size) (HR.out.below hB H2.out.2)).mono ?_
    rintro e w4 ⟨rfl, hb3⟩
    have H3 := Lib.hid (H2.out.next hb3)
    have HX3 := Lib.hid (HX2.out.below hb3 HX2.out.lt)
    clear hb3 q0 q1 H2 HX2 HIS
    obtain ⟨q0, q1⟩ := H3.out.1.cells
    go_wp2_with fail
    refine (HCP.out w4 (Nat.le_trans hB H3.out.2.size) (HR.out.below hB H3.out.2)).mono ?_
    rintro e w5 ⟨v5, rfl, ho5, hb5⟩
    have HX5 := Lib.hid (HX3.out.below hb5 HX3.out.lt)
    have HB5 := Lib.hid ((H3.out.next hb5).2)
    have hlt5 : w.heap.size + 1 < w4.heap.size := HX3.out.lt
    obtain ⟨A5, c5, rfl, _, _⟩ := ho5.frs
    have HO5 := Lib.hid ho5
    clear ho5 hb5 q0 q1 HX3 H3
    obtain ⟨p0, p1⟩ := HX5.out.cells
    have pf := HX5.out.free
    go_wp2
    refine bodyPost_ret (results_cell_row rfl _ _ (w.heap.size + 1) _ _ _ _ rfl ((HX5.out.set0 nx).set1 _) Try.underlying26 rfl (by kernel_rfl)) rfl ?_
    exact ⟨_, rfl, ownc_weaken ((OwnC.put HO5.out (w.heap.size + 1) 0 _ hlt5).put (w.heap.size + 1) 1 _ hlt5) (by omega), (HB5.out.setCell (p := ⟨_, _, _⟩) (by show w.heap.size ≤ w.heap.size + 1; omega) _).setCell (p := ⟨_, _, _⟩) (by show w.heap.size ≤ w.heap.size + 1; omega) _⟩

theorem set_far2 (w : World) (g g' k' : Nat) (a b : Value) (h : g ≠ g') : ((w.setCell ⟨g, 0, none⟩ a).setCell ⟨g, 1, none⟩ b).cell? ⟨g', k', none⟩ = w.cell? ⟨g', k', none⟩ := by
  rw [World.cell?_setCell_far _ _ _ _ (by exact h), World.cell?_setCell_far _ _ _ _ (by exact h)]
/-- The data that goes in, as a chunk. -/
def unrC (o : Int) (k : Nat) (d : ByteArray) : Ch := ⟨o + (k : Int), d.extract k d.size⟩
theorem unrC_size (o : Int) (k : Nat) (d : ByteArray) : (unrC o k d).data.size = d.size - k := by
  show (d.extract k d.size).size = _
  rw [ByteArray.size_extract]
  omega
theorem unrC_at (o : Int) (k : Nat) (d : ByteArray) (n : Int) (h0 : o + k ≤ n) : atC (unrC o k d) n = bytD d (n - o).toNat := by
  unfold atC
  show bytD (d.extract k d.size) (n - (o + (k : Int))).toNat = _
  rw [drop_str]
  unfold bytD
  show (((d.data.toList.drop k).getD (n - (o + (k : Int))).toNat 0).toNat : Int) = _
  rw [List.getD_eq_getElem?_getD, List.getElem?_drop, List.getD_eq_getElem?_getD, show k + (n - (o + (k : Int))).toNat = (n - o).toNat by omega]

set_option maxRecDepth 100000 in
set_option maxHeartbeats 4000000 in
/-- impl.InsertData, where data goes in. -/
theorem iins_yes (b : Bf) (o : Int) (d : ByteArray) (A : Option Addr) (cap B : Nat) (w : World) (hB : B ≤ w.heap.size) (hr : Chs w B A b.chs) (hn : b.chs.length ≤ 1048576) (hcap : b.chs.length ≤ cap) (hi : inB b.chs) (hnx : -9223372036854775808 ≤ b.next ∧ b.next ≤ 9223372036854775807) (hsum : sumC b.chs + d.size ≤ 2097152) (hc : canI b o d) :
    Calls Try.prog 66 #[bfV b.next (.slice A b.chs.length cap), .int .i64 o, .string d] w fun e w' => ∃ v, e = .returned (bfV b.next v) ∧ OwnC w' w.heap.size v (insB b o d).chs ∧ Below w.heap.size w w' := by
  have HR := Lib.hid hr
  have hsn := sumC_nonneg b.chs
  have hdm : d.size ≤ maxLen := by unfold maxLen; omega
  have HIS : Hid (∀ W, B ≤ W.heap.size → Chs W B A b.chs → Calls Try.prog 75 #[bfV b.next (.slice A b.chs.length cap)] W fun e w' => e = .returned (.bool true) ∧ Below W.heap.size W w') := Lib.hid fun W h1 h2 => by
    have h := iisb b A cap B W h1 h2 (by omega) hi hnx
    rwa [decide_eq_true hc.1] at h
  have HRE : Hid (∀ W, Calls Try.prog 87 #[.int .i64 b.next, .int .i64 o, .string d] W fun e w' => e = .returned (.bool true) ∧ w' = W) := Lib.hid fun W => by
    have h := ireach b.next o d W hdm
    rwa [decide_eq_true (show d.size ≠ 0 ∧ 0 ≤ o ∧ o ≤ 4611686018427387903 - (d.size : Int) ∧ b.next < o + d.size from ⟨hc.2.1, hc.2.2.1, hc.2.2.2.1, hc.2.2.2.2⟩)] at h
  have hc2 := hc.1.2
  have hc3 := hc.2.1
  have hc4 := hc.2.2.1
  have hc5 := hc.2.2.2.1
  have hc6 := hc.2.2.2.2
  obtain ⟨k, hk⟩ : ∃ k : Nat, (if 0 < b.next - o then b.next - o else 0) = (k : Int) := ⟨(if 0 < b.next - o then b.next - o else 0).toNat, by split <;> omega⟩
  have hk2 : o + (k : Int) = max o b.next := by rw [← hk]; split <;> omega
  have HKI : Hid ((if o < b.next then b.next - o else 0) = (k : Int)) := Lib.hid (by rw [← hk]; split <;> split <;> omega)
  have hks : k < d.size := by omega
  have hus := unrC_size o k d
  have HPC : Hid (∀ W, B ≤ W.heap.size → Chs W B A b.chs → Calls Try.prog 88 #[.slice A b.chs.length cap, chV (unrC o k d)] W fun e w' => ∃ v, e = .returned v ∧ OwnC w' W.heap.size v (insB b o d).chs ∧ Below W.heap.size W w') := Lib.hid fun W h1 h2 => by
    refine (iput (unrC o k d) b.chs A cap B W h1 h2 (by omega) hcap (b.next - 1) (by omega) hc.1.1 (by show 0 ≤ o + (k : Int); omega) (by rw [hus]; show o + (k : Int) + _ ≤ _; omega) (by omega) ⟨by omega, fun x hx => by have := sumC_mem b.chs x hx; omega⟩).mono ?_
    rintro e w' ⟨v, rfl, out, ⟨L1, R, L2, J, e1, e2, e3, e4, e5, rfl⟩, ho, hb⟩
    have h := insI hc L1 R L2 e1 (unrC o k d) hk2 (by rw [hus]; show o + (k : Int) + _ = _; omega) (fun n h0 _ => unrC_at o k d n h0) e2 e3 e4 J e5
    rw [h]
    exact ⟨v, rfl, ho, hb⟩
  have H2 := Lib.hid ((HeldB.start w b.next (.slice A b.chs.length cap)).alloc (.cells #[.int .i64 0, .slice none 0 0] 26))
  have X2 := BoxB.new (w.alloc (.cells #[.int .i64 b.next, .slice A b.chs.length cap] 26)) 0 (.slice none 0 0)
  rw [show (w.alloc (.cells #[.int .i64 b.next, .slice A b.chs.length cap] 26)).heap.size = w.heap.size + 1 by simp] at X2
  have HX2 := Lib.hid X2
  generalize (insB b o d).chs = out at *
  have hw1 : IntKind.i64.wrap (b.next - o) = b.next - o := by rw [IntKind.wrap_i64]; omega
  have HW2 : Hid (IntKind.i64.wrap (o + (k : Int)) = o + (k : Int)) := Lib.hid (by rw [IntKind.wrap_i64]; omega)
  obtain ⟨nx, l⟩ := b
  dsimp only at *
  clear X2 hr hi hsum hsn hdm hc hc2 hc3 hc4 hc5 hc6 hk2 hus hnx
  go_enter Try.func66, Try.ntmps66
  go_upto_region 1 with fail
  generalize (w.alloc (.cells #[.int .i64 nx, .slice A l.length cap] 26)).alloc (.cells #[.int .i64 0, .slice none 0 0] 26) = w2 at *
  obtain ⟨q0, q1⟩ := H2.out.1.cells
  go_wp2_with fail
  refine (HIS.out w2 (Nat.le_trans hB H2.out.2.size) (HR.out.below hB H2.out.2)).mono ?_
  rintro e w3 ⟨rfl, hb3⟩
  have H3 := Lib.hid (H2.out.next hb3)
  have HX3 := Lib.hid (HX2.out.below hb3 HX2.out.lt)
  clear hb3 q0 q1 H2 HX2 HIS
  obtain ⟨q0, q1⟩ := H3.out.1.cells
  go_wp2_with fail
  refine (HRE.out w3).mono ?_
  rintro e w4 ⟨rfl, rfl⟩
  go_upto_region 4 with fail
  rw [HKI.out]
  clear hk hw1
  have hw2 := HW2.out
  have hk0 : (0 : Int) ≤ (k : Int) := by omega
  have hk1 : (k : Int) ≤ (d.size : Int) := by omega
  go_upto_region 5 with fail
  clear hw2 q0 q1
  have H5 := Lib.hid (H3.out.alloc (.cells (chC (unrC o k d)) 93))
  have HX5 := Lib.hid (HX3.out.alloc (.cells (chC (unrC o k d)) 93))
  have HK5 := Lib.hid (BoxK.new w4 (o + (k : Int)) (d.extract k d.size))
  have HS5 : Hid ((w4.alloc (.cells (chC (unrC o k d)) 93)).heap.size = w4.heap.size + 1) := Lib.hid (by simp)
  have hx4 : w.heap.size + 1 < w4.heap.size := HX3.out.lt
  have HPC2 : Hid (∀ W, B ≤ W.heap.size → Chs W B A l → Calls Try.prog 88 #[.slice A l.length cap, chV ⟨o + (k : Int), d.extract k d.size⟩] W fun e w' => ∃ v, e = .returned v ∧ OwnC w' W.heap.size v out ∧ Below W.heap.size W w') := Lib.hid HPC.out
  change Hid (HeldB w nx (.slice A l.length cap) (w4.alloc (.cells #[.int .i64 (o + (k : Int)), .string (d.extract k d.size)] 93))) at H5
  change Hid (BoxB (w4.alloc (.cells #[.int .i64 (o + (k : Int)), .string (d.extract k d.size)] 93)) (w.heap.size + 1) 0 (.slice none 0 0)) at HX5
  change Hid ((w4.alloc (.cells #[.int .i64 (o + (k : Int)), .string (d.extract k d.size)] 93)).heap.size = w4.heap.size + 1) at HS5
  generalize w4.alloc (.cells #[.int .i64 (o + (k : Int)), .string (d.extract k d.size)] 93) = w5 at *
  generalize w4.heap.size = g5 at *
  clear H3 HX3 HPC HRE HW2 HKI hk0 hk1
  generalize o + (k : Int) = uo at *
  generalize d.extract k d.size = ud at *
  have hs5 := HS5.out
  obtain ⟨a0, a1⟩ := H5.out.1.cells
  obtain ⟨u0, u1⟩ := HK5.out.cells
  have HSS : Hid (∀ W, Below w5.heap.size w5 W → W.cell? ⟨w.heap.size, 0, none⟩ = some (.int .i64 nx) ∧ W.cell? ⟨w.heap.size, 1, none⟩ = some (.slice A l.length cap) ∧ W.cell? ⟨g5, 0, none⟩ = some (.int .i64 uo) ∧ W.cell? ⟨g5, 1, none⟩ = some (.string ud)) := Lib.hid fun W h => ⟨(H5.out.next h).1.cells.1, (H5.out.next h).1.cells.2, (HK5.out.below h (by omega)).cells.1, (HK5.out.below h (by omega)).cells.2⟩
  have HK0 := Lib.hid (HSS.out w5.drew (Below.refl _ _).drew)
  have HXd := Lib.hid (show BoxB w5.drew (w.heap.size + 1) 0 (.slice none 0 0) from HX5.out)
  have HRW := Lib.hid (show Chs w5.drew B A l from HR.out.below hB H5.out.2.drew)
  have hBw : B ≤ w5.drew.heap.size := Nat.le_trans hB H5.out.2.size
  have HBW := Lib.hid hBw
  clear hBw u0 u1
  go_region_held3 (fun W => W.cell? ⟨w.heap.size, 0, none⟩ = some (.int .i64 nx) ∧ W.cell? ⟨w.heap.size, 1, none⟩ = some (.slice A l.length cap) ∧ W.cell? ⟨g5, 0, none⟩ = some (.int .i64 uo) ∧ W.cell? ⟨g5, 1, none⟩ = some (.string ud)) (first | with_reducible exact HK0.out | with_reducible exact HK1.out | with_reducible exact HK2.out) (first | (go_at_call 88; refine (HPC2.out _ HBW.out HRW.out).mono ?_; rintro e w6 ⟨v, rfl, ho, hb⟩; obtain ⟨A1, cap1, rfl, _, _⟩ := ho.frs; have HOW := Lib.hid ho; have HBL := Lib.hid hb; have HT := Lib.hid ((Below.refl w5.heap.size w5).drew.trans hb); have HY2 := Lib.hid (HXd.out.below hb (by show _ < w5.heap.size; omega)); obtain ⟨q2, q3⟩ := HY2.out.cells; have f3 := HY2.out.free; have HK1 := Lib.hid (HSS.out w6 HT.out); have HK2 : Hid (((w6.setCell ⟨w.heap.size + 1, 0, none⟩ (.int .i64 nx)).setCell ⟨w.heap.size + 1, 1, none⟩ (.slice A1 out.length cap1)).cell? ⟨w.heap.size, 0, none⟩ = some (.int .i64 nx) ∧ ((w6.setCell ⟨w.heap.size + 1, 0, none⟩ (.int .i64 nx)).setCell ⟨w.heap.size + 1, 1, none⟩ (.slice A1 out.length cap1)).cell? ⟨w.heap.size, 1, none⟩ = some (.slice A l.length cap) ∧ ((w6.setCell ⟨w.heap.size + 1, 0, none⟩ (.int .i64 nx)).setCell ⟨w.heap.size + 1, 1, none⟩ (.slice A1 out.length cap1)).cell? ⟨g5, 0, none⟩ = some (.int .i64 uo) ∧ ((w6.setCell ⟨w.heap.size + 1, 0, none⟩ (.int .i64 nx)).setCell ⟨w.heap.size + 1, 1, none⟩ (.slice A1 out.length cap1)).cell? ⟨g5, 1, none⟩ = some (.string ud)) := Lib.hid ⟨(set_far2 _ _ _ _ _ _ (by omega)).trans HK1.out.1, (set_far2 _ _ _ _ _ _ (by omega)).trans HK1.out.2.1, (set_far2 _ _ _ _ _ _ (by omega)).trans HK1.out.2.2.1, (set_far2 _ _ _ _ _ _ (by omega)).trans HK1.out.2.2.2⟩; clear ho hb))
  all_goals (
    go_wp2
    refine bodyPost_ret (results_cell_row rfl _ _ (w.heap.size + 1) _ _ _ _ rfl ((HY2.out.set0 nx).set1 _) Try.underlying26 rfl (by kernel_rfl)) rfl ?_
    exact ⟨_, rfl, ownc_weaken ((OwnC.put (base := w5.heap.size) HOW.out (w.heap.size + 1) 0 _ (by omega)).put (w.heap.size + 1) 1 _ (by omega)) (by omega), ((H5.out.2.trans (HT.out.mono H5.out.2.size)).setCell (p := ⟨_, _, _⟩) (by show w.heap.size ≤ w.heap.size + 1; omega) _).setCell (p := ⟨_, _, _⟩) (by show w.heap.size ≤ w.heap.size + 1; omega) _⟩)

/-- impl.InsertData -/
theorem iinsd (b : Bf) (o : Int) (d : ByteArray) (A : Option Addr) (cap B : Nat) (w : World) (hB : B ≤ w.heap.size) (hr : Chs w B A b.chs) (hn : b.chs.length ≤ 1048576) (hcap : b.chs.length ≤ cap) (hi : inB b.chs) (hnx : -9223372036854775808 ≤ b.next ∧ b.next ≤ 9223372036854775807) (hsum : sumC b.chs + d.size ≤ 2097152) :
    Calls Try.prog 66 #[bfV b.next (.slice A b.chs.length cap), .int .i64 o, .string d] w fun e w' => ∃ v, e = .returned (bfV b.next v) ∧ OwnC w' w.heap.size v (insB b o d).chs ∧ Below w.heap.size w w' := by
  by_cases hc : canI b o d
  · exact iins_yes b o d A cap B w hB hr hn hcap hi hnx hsum hc
  · rw [show insB b o d = b from if_neg hc]
    exact iins_no b o d A cap B w hB hr (by omega) hi hnx (by have := sumC_nonneg b.chs; unfold maxLen; omega) hc
theorem iinsx (b : Bf) (o : Int) (d : ByteArray) (A : Option Addr) (cap B : Nat) (w : World) (hB : B ≤ w.heap.size) (hr : Chs w B A b.chs) (hn : b.chs.length ≤ 1048576) (hcap : b.chs.length ≤ cap) (hi : inB b.chs) (hnx : -9223372036854775808 ≤ b.next ∧ b.next ≤ 9223372036854775807) (hsum : sumC b.chs + d.size ≤ 2097152) :
    Calls Try.prog 66 #[bfV b.next (.slice A b.chs.length cap), .int .i64 o, .string d] w fun e w' => ∃ v, e = .returned (bfV b.next v) ∧ OwnX w' w.heap.size v (insB b o d).chs ∧ Below w.heap.size w w' := by
  refine (iinsd b o d A cap B w hB hr hn hcap hi hnx hsum).mono ?_
  rintro e w' ⟨v, h1, h2, h3⟩
  exact ⟨v, h1, h2.x, h3⟩
end Go.Proofs.Ytmmoedhfeaokgaa
