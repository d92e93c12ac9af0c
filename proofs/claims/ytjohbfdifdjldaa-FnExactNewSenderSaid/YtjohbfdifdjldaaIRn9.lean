/-
  What slices.Equal of ints, impl.EqualRings and NewRing return.
-/
import Derived.Test.YtjohbfdifdjldaaSRn2
import Derived.Test.YtjohbfdifdjldaaIRn1
namespace Go.Proofs.Ytjohbfdifdjldaa
open Go.RowKit Go.Deep Go.Proofs.Ytjohbfdifdjldaa.Num

theorem belowI_drewN {B : Nat} {a w : World} (h : Below B a w) (n : Nat) : Below B a (w.drewN n) := ⟨h.os, h.tape, h.output, h.size, h.block⟩
set_option maxRecDepth 100000 in
set_option maxHeartbeats 2000000 in
/-- impl.NewRing -/
theorem inewrn (n : Int) (w : World) :
    Calls Try.prog 15 #[.int .i64 n] w fun e w' => ∃ v, e = .returned (.tuple #[rnV (nwR n) v, .bool (decide (powR n))]) ∧ OwnK w' w.heap.size v (nwR n).cs ∧ Below w.heap.size w w' := by
  have X := Lib.hid (BoxN.new w 0 0 0 (.slice none 0 0))
  have HB := Lib.hid ((Below.refl w.heap.size w).alloc (Nat.le_refl _) (.cells (rnC 0 0 0 (.slice none 0 0)) 24))
  have hz : (w.alloc (.cells (rnC 0 0 0 (.slice none 0 0)) 24)).heap.size = w.heap.size + 1 := by simp
  have HZ := Lib.hid hz
  have HPW := Lib.hid fun W => isize n W
  clear hz
  by_cases h : powR n
  · have hv : nwR n = ⟨n, 0, 0, List.replicate n.toNat 0⟩ := if_pos h
    rw [hv, decide_eq_true h]
    rw [decide_eq_true h] at HPW
    have hl := h.lo
    clear h hv
    obtain ⟨k, rfl⟩ := Int.eq_ofNat_of_zero_le (show 0 ≤ n by omega)
    have hmk := make_ints k (by omega)
    rw [Int.toNat_natCast]
    clear hl
    go_enter Try.func15, Try.ntmps15
    go_upto_region 1 with fail
    generalize w.alloc (.cells (rnC 0 0 0 (.slice none 0 0)) 24) = w1 at *
    go_wp2_with fail
    refine (HPW.out _).mono ?_
    rintro e w2 ⟨rfl, rfl⟩
    have X2 := Lib.hid (X.out.alloc (.cells (cellsI (List.replicate k 0)) 3))
    have HO : Hid (OwnK (w2.alloc (.cells (cellsI (List.replicate k 0)) 3)) (w.heap.size + 1) (.slice (some ⟨w2.heap.size, 0, none⟩) (List.replicate k (0 : Int)).length k) (List.replicate k 0)) := Lib.hid (OwnK.row (Nat.le_of_eq HZ.out.symm) 3 (heap_alloc_new w2 _) (by simp))
    rw [List.length_replicate] at HO
    have HB2 := Lib.hid (HB.out.alloc HB.out.size (.cells (cellsI (List.replicate k 0)) 3))
    obtain ⟨a0, a1, a2, a3⟩ := X2.out.cells
    have af := X2.out.free
    go_wp2
    have hg : w.heap.size < w.heap.size + 1 := Nat.lt_succ_self _
    have hq := Nat.le_refl w.heap.size
    refine bodyPost_ret (results_ct rfl _ _ w.heap.size _ _ _ _ rfl ((((X2.out.set0 _).set1 _).set2 _).set3 _) Try.underlying24 rfl (by kernel_rfl)) rfl ?_
    exact ⟨_, rfl, ((((HO.out.apart _ 0 _ hg).apart _ 1 _ hg).apart _ 2 _ hg).apart _ 3 _ hg).weaken (Nat.le_succ _), (((HB2.out.setCell (p := ⟨_, _, _⟩) hq _).setCell (p := ⟨_, _, _⟩) hq _).setCell (p := ⟨_, _, _⟩) hq _).setCell (p := ⟨_, _, _⟩) hq _⟩
  · have hv : nwR n = ⟨0, 0, 0, []⟩ := if_neg h
    rw [hv, decide_eq_false h]
    rw [decide_eq_false h] at HPW
    clear h hv
    go_enter Try.func15, Try.ntmps15
    go_upto_region 1 with fail
    generalize w.alloc (.cells (rnC 0 0 0 (.slice none 0 0)) 24) = w1 at *
    go_wp2_with fail
    refine (HPW.out _).mono ?_
    rintro e w2 ⟨rfl, rfl⟩
    obtain ⟨a0, a1, a2, a3⟩ := X.out.cells
    have af := X.out.free
    go_wp2
    have hq := Nat.le_refl w.heap.size
    refine bodyPost_ret (results_ct rfl _ _ w.heap.size _ _ _ _ rfl ((((X.out.set0 _).set1 _).set2 _).set3 _) Try.underlying24 rfl (by kernel_rfl)) rfl ?_
    exact ⟨_, rfl, OwnK.empty, (((HB.out.setCell (p := ⟨_, _, _⟩) hq _).setCell (p := ⟨_, _, _⟩) hq _).setCell (p := ⟨_, _, _⟩) hq _).setCell (p := ⟨_, _, _⟩) hq _⟩
end Go.Proofs.Ytjohbfdifdjldaa
