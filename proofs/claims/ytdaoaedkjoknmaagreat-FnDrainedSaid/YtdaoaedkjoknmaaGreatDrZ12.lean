/-
  Contracts and lemmas for the law on draining.
-/
import Derived.Test.YtdaoaedkjoknmaaGreatDrZ0
import Derived.Test.YtdaoaedkjoknmaaGreatDrZ6
import Derived.Test.YtdaoaedkjoknmaaGreatDrZ2
set_option maxRecDepth 1000000
set_option maxHeartbeats 8000000
namespace Go.Proofs.YtdaoaedkjoknmaaGreat
open Go.RowKit Go.Deep Go.Proofs.YtdaoaedkjoknmaaGreat.Num

theorem OwnC.apart {w : World} {base : Nat} {v : Value} {l : List Ch} (h : OwnC w base v l) (g' k : Nat) (u : Value) (hg : ∀ b, v.ownBlock = some b → b ≠ g') : OwnC (w.setCell ⟨g', k, none⟩ u) base v l :=
  World.ownsRow.kept h (only_setC w g' k u) (by
    cases hv : v.ownBlock with
    | none => exact .inl rfl
    | some b => exact .inr (fun e => hg b hv (Option.some.inj e)))
theorem itake_none (b : Bf) (m : Int) (A : Option Addr) (cap B : Nat) (w : World) (hB : B ≤ w.heap.size) (hr : Chs w B A b.chs) (hn : b.chs.length ≤ 10000000) (hi : inB b.chs) (hnx : -9223372036854775808 ≤ b.next ∧ b.next ≤ 9223372036854775807) (hm : -9223372036854775808 ≤ m ∧ m ≤ 9223372036854775807) (h0 : cntT b m = 0) :
    Calls Tryz.prog 56 #[bfV b.next (.slice A b.chs.length cap), .int .i64 m] w fun e w' => ∃ v, e = .returned (.tuple #[.string ⟨#[]⟩, bfV b.next v]) ∧ OwnX w' w.heap.size v b.chs ∧ Below w.heap.size w w' := by
  have HR := LH hr
  have HRD : Hid (∀ W, B ≤ W.heap.size → Chs W B A b.chs → Calls Tryz.prog 110 #[bfV b.next (.slice A b.chs.length cap)] W fun e w' => e = .returned (.int .i64 (rdyB b : Nat)) ∧ Below W.heap.size W w') := LH fun W h1 h2 => iready b A cap B W h1 h2 (by omega) hi hnx
  have HCP : Hid (∀ W, B ≤ W.heap.size → Chs W B A b.chs → Calls Tryz.prog 106 #[bfV b.next (.slice A b.chs.length cap)] W fun e w' => ∃ v, e = .returned (bfV b.next v) ∧ OwnC w' W.heap.size v b.chs ∧ Below W.heap.size W w') := LH fun W h1 h2 => icloneb b.next b.chs A cap B W h1 h2 (by omega)
  unfold cntT at h0
  obtain ⟨M, hmax⟩ : ∃ M : Int, (if m < 0 then 0 else m) = M := ⟨_, rfl⟩
  have hMm : (max m 0).toNat = M.toNat := by rw [← hmax]; split <;> omega
  rw [hMm] at h0
  generalize rdyB b = r at *
  obtain ⟨z, hmin⟩ : ∃ z : Int, (if m < (r : Int) then m else (r : Int)) = z := ⟨_, rfl⟩
  have hz : z ≤ 0 := by rw [← hmin]; split <;> (rw [← hmax] at h0; split at h0 <;> omega)
  have hdz : decide (z ≤ 0) = true := decide_eq_true hz
  obtain ⟨nx, l⟩ := b
  dsimp only at *
  clear h0 hMm hmax hz
  have H2 := LH ((HeldB.start w nx (.slice A l.length cap)).alloc (.cells #[.int .i64 0, .slice none 0 0] 38))
  have X2 := BoxB.new (w.alloc (.cells #[.int .i64 nx, .slice A l.length cap] 38)) 0 (.slice none 0 0)
  rw [show (w.alloc (.cells #[.int .i64 nx, .slice A l.length cap] 38)).heap.size = w.heap.size + 1 by simp] at X2
  have HX2 := LH X2
  clear X2 hr hi
  go_enter Tryz.func56, Tryz.ntmps56
  go_upto_region 1 with fail
  generalize (w.alloc (.cells #[.int .i64 nx, .slice A l.length cap] 38)).alloc (.cells #[.int .i64 0, .slice none 0 0] 38) = w2 at *
  obtain ⟨q0, q1⟩ := H2.out.1.cells
  go_wp2_with fail
  refine (HCP.out w2 (Nat.le_trans hB H2.out.2.size) (HR.out.below hB H2.out.2)).mono ?_
  rintro e w3 ⟨v3, rfl, ho3, hb3⟩
  have H3 := LH (H2.out.next hb3)
  have HX3 := LH (HX2.out.below hb3 HX2.out.lt)
  have hlt2 : w.heap.size + 1 < w2.heap.size := HX2.out.lt
  have hsz3 := hb3.size
  obtain ⟨A4, c4, rfl, _, _⟩ := ho3.frs
  have HO3 := LH (ownc_weaken ho3 (base' := w.heap.size) (by omega))
  have HLO0 := LH ho3
  clear ho3 hb3 q0 q1 HCP H2 HX2
  have H4 := LH (H3.out.alloc (.cells #[.int .i64 nx, .slice A4 l.length c4] 38))
  have HO4 := LH (HO3.out.alloc (.cells #[.int .i64 nx, .slice A4 l.length c4] 38))
  have HX4 := LH (HX3.out.alloc (.cells #[.int .i64 nx, .slice A4 l.length c4] 38))
  have HY4 := LH (BoxB.new w3 nx (.slice A4 l.length c4))
  go_upto_region 2 with fail
  clear H3 HX3 HO3
  generalize hg : w3.heap.size = g at *
  generalize w3.alloc (.cells #[.int .i64 nx, .slice A4 l.length c4] 38) = w4 at *
  clear hg
  obtain ⟨q0, q1⟩ := H4.out.1.cells
  go_wp2_with fail
  refine (HRD.out w4 (Nat.le_trans hB H4.out.2.size) (HR.out.below hB H4.out.2)).mono ?_
  rintro e w5 ⟨rfl, hb5⟩
  have H5 := LH (H4.out.next hb5)
  have HX5 := LH (HX4.out.below hb5 HX4.out.lt)
  have HY5 := LH (HY4.out.below hb5 HY4.out.lt)
  have HO5 := LH (HO4.out.later hb5)
  clear hb5 q0 q1 H4 HX4 HY4 HO4 HRD
  go_upto_region 4 with fail
  clear hmin hdz
  obtain ⟨q0, q1⟩ := HX5.out.cells
  obtain ⟨p0, p1⟩ := HY5.out.cells
  have qf := HX5.out.free
  have HK : Hid (∀ bb, (Value.slice A4 l.length c4).ownBlock = some bb → bb ≠ w.heap.size + 1) := LH fun bb hb => by have := (World.ownsRow.lt HLO0.out bb hb).1; omega
  go_region
  go_wp2
  refine bodyPost_ret (results_tmp_cell rfl _ _ (w.heap.size + 1) _ _ _ _ rfl ((HX5.out.set0 nx).set1 _) Tryz.underlying38 rfl (by kernel_rfl)) rfl ?_
  exact ⟨_, rfl, (((OwnC.apart HO5.out (w.heap.size + 1) 0 _ HK.out).apart (w.heap.size + 1) 1 _ HK.out)).x, ((H5.out.2.setCell (p := ⟨_, _, _⟩) (by show w.heap.size ≤ w.heap.size + 1; omega) _).setCell (p := ⟨_, _, _⟩) (by show w.heap.size ≤ w.heap.size + 1; omega) _).drew⟩

theorem itake_all (nx : Int) (c : Ch) (l : List Ch) (m : Int) (A : Option Addr) (cap B : Nat) (w : World) (hB : B ≤ w.heap.size) (hr : Chs w B A (c :: l)) (hn : (c :: l).length ≤ 10000000) (hi : inB (c :: l)) (hnx : 0 ≤ nx ∧ nx + c.data.size ≤ 4611686018427387903) (hrd : rdyB ⟨nx, c :: l⟩ = c.data.size) (hm : c.data.size ≤ m) (hm2 : m ≤ 9223372036854775807) (h0 : 0 < c.data.size) :
    Calls Tryz.prog 56 #[bfV nx (.slice A (c :: l).length cap), .int .i64 m] w fun e w' => ∃ v, e = .returned (.tuple #[.string c.data, bfV (nx + c.data.size) v]) ∧ OwnX w' w.heap.size v l ∧ Below w.heap.size w w' := by
  have HR := LH hr
  have HRD : Hid (∀ W, B ≤ W.heap.size → Chs W B A (c :: l) → Calls Tryz.prog 110 #[bfV nx (.slice A (c :: l).length cap)] W fun e w' => e = .returned (.int .i64 (c.data.size : Nat)) ∧ Below W.heap.size W w') := LH fun W h1 h2 => by
    have h := iready ⟨nx, c :: l⟩ A cap B W h1 h2 (by show (c :: l).length ≤ _; omega) hi ⟨by show _ ≤ nx; omega, by show nx ≤ _; omega⟩
    rw [hrd] at h
    exact h
  have HCP : Hid (∀ W, B ≤ W.heap.size → Chs W B A (c :: l) → Calls Tryz.prog 106 #[bfV nx (.slice A (c :: l).length cap)] W fun e w' => ∃ v, e = .returned (bfV nx v) ∧ OwnC w' W.heap.size v (c :: l) ∧ Below W.heap.size W w') := LH fun W h1 h2 => icloneb nx (c :: l) A cap B W h1 h2 (by omega)
  have H2 := LH ((HeldB.start w nx (.slice A (c :: l).length cap)).alloc (.cells #[.int .i64 0, .slice none 0 0] 38))
  have X2 := BoxB.new (w.alloc (.cells #[.int .i64 nx, .slice A (c :: l).length cap] 38)) 0 (.slice none 0 0)
  rw [show (w.alloc (.cells #[.int .i64 nx, .slice A (c :: l).length cap] 38)).heap.size = w.heap.size + 1 by simp] at X2
  have HX2 := LH X2
  have hlen : (c :: l).length = l.length + 1 := rfl
  have hnx2 := hnx.1
  have hnx3 : nx + c.data.size ≤ 4611686018427387903 := hnx.2
  clear X2 hr hi hrd hnx
  rw [hlen] at HRD HCP H2 HX2 hn ⊢
  clear hlen
  go_enter Tryz.func56, Tryz.ntmps56
  go_upto_region 1 with fail
  generalize (w.alloc (.cells #[.int .i64 nx, .slice A (l.length + 1) cap] 38)).alloc (.cells #[.int .i64 0, .slice none 0 0] 38) = w2 at *
  obtain ⟨q0, q1⟩ := H2.out.1.cells
  go_wp2_with fail
  refine (HCP.out w2 (Nat.le_trans hB H2.out.2.size) (HR.out.below hB H2.out.2)).mono ?_
  rintro e w3 ⟨v3, rfl, ho3, hb3⟩
  have H3 := LH (H2.out.next hb3)
  have HX3 := LH (HX2.out.below hb3 HX2.out.lt)
  have hlt2 : w.heap.size + 1 < w2.heap.size := HX2.out.lt
  have hsz3 := hb3.size
  obtain ⟨g4, c4, rfl, hc4, hrow⟩ := ho3.cons
  have HO3 := LH (hrow.weaken (base' := w.heap.size) (by omega))
  have hg4 := hrow.ge
  clear hrow
  clear ho3 hb3 q0 q1 HCP H2 HX2
  have H4 := LH (H3.out.alloc (.cells #[.int .i64 nx, .slice (some ⟨g4, 0, none⟩) (l.length + 1) c4] 38))
  have HO4 := LH (HO3.out.alloc (.cells #[.int .i64 nx, .slice (some ⟨g4, 0, none⟩) (l.length + 1) c4] 38))
  have HX4 := LH (HX3.out.alloc (.cells #[.int .i64 nx, .slice (some ⟨g4, 0, none⟩) (l.length + 1) c4] 38))
  have HY4 := LH (BoxB.new w3 nx (.slice (some ⟨g4, 0, none⟩) (l.length + 1) c4))
  go_upto_region 2 with fail
  clear H3 HX3 HO3
  generalize hg : w3.heap.size = g at *
  generalize w3.alloc (.cells #[.int .i64 nx, .slice (some ⟨g4, 0, none⟩) (l.length + 1) c4] 38) = w4 at *
  clear hg
  obtain ⟨q0, q1⟩ := H4.out.1.cells
  go_wp2_with fail
  refine (HRD.out w4 (Nat.le_trans hB H4.out.2.size) (HR.out.below hB H4.out.2)).mono ?_
  rintro e w5 ⟨rfl, hb5⟩
  have H5 := LH (H4.out.next hb5)
  have HX5 := LH (HX4.out.below hb5 HX4.out.lt)
  have HY5 := LH (HY4.out.below hb5 HY4.out.lt)
  have HO5 := LH (HO4.out.later hb5)
  clear hb5 q0 q1 H4 HX4 HY4 HO4 HRD
  have hmin : (if m < (c.data.size : Int) then m else (c.data.size : Int)) = (c.data.size : Int) := by split <;> omega
  have hq : ((c.data.size : Int) == (c.data.size : Int)) = true := by simp
  have hq0 : decide ((c.data.size : Int) ≤ 0) = false := decide_eq_false (by omega)
  have hqe : ¬ c.data = ByteArray.empty := fun h => by rw [h] at h0; exact absurd h0 (by decide)
  have hne1 : g4 ≠ g := by omega
  obtain ⟨ga, oa, rfl, hga, c0, c1⟩ := (HR.out.below hB H5.out.2).cells 0 (Nat.succ_pos _)
  simp only [List.getElem_cons_zero, Nat.zero_mul, Nat.add_zero] at c0 c1
  obtain ⟨t0, t1⟩ := H5.out.1.cells
  obtain ⟨p0, p1⟩ := HY5.out.cells
  have pf := HY5.out.free
  go_upto_region 8 with fail
  have HY6 := LH (HY5.out.set0 (nx + c.data.size))
  have HX6 := LH (HX5.out.other g 0 (.int .i64 (nx + c.data.size)) (by omega))
  have HO6 := LH (HO5.out.apart g 0 (.int .i64 (nx + c.data.size)) hne1)
  have H6 := LH (H5.out.2.setCell (p := ⟨g, 0, none⟩) (by show w.heap.size ≤ g; omega) (.int .i64 (nx + c.data.size)))
  have hgl : g < w5.heap.size := HY5.out.lt
  clear p0 p1 c0 c1 pf t0 t1 HY5 HX5 HO5 H5
  generalize w5.setCell ⟨g, 0, none⟩ (.int .i64 (nx + c.data.size)) = w6 at *
  obtain ⟨p0, p1⟩ := HY6.out.cells
  have pf := HY6.out.free
  by_cases hc1 : c4 = 1
  · subst hc1
    obtain rfl : l = [] := List.eq_nil_of_length_eq_zero (by omega)
    go_upto_region 10 with fail
    have HY7 := LH (HY6.out.set1 (.slice (some ⟨g4, 0, none⟩) 0 0))
    have HX7 := LH (HX6.out.other g 1 (.slice (some ⟨g4, 0, none⟩) 0 0) (by omega))
    have H7 := LH (H6.out.setCell (p := ⟨g, 1, none⟩) (by show w.heap.size ≤ g; omega) (.slice (some ⟨g4, 0, none⟩) 0 0))
    have HO7 := LH (HO6.out.apart g 1 (.slice (some ⟨g4, 0, none⟩) 0 0) hne1)
    clear p0 p1 pf HY6 HX6 H6
    generalize w6.setCell ⟨g, 1, none⟩ (.slice (some ⟨g4, 0, none⟩) 0 0) = w7 at *
    obtain ⟨p0, p1⟩ := HY7.out.cells
    obtain ⟨q0, q1⟩ := HX7.out.cells
    have qf := HX7.out.free
    go_region
    go_wp2
    refine bodyPost_ret (results_tmp_cell rfl _ _ (w.heap.size + 1) _ _ _ _ rfl ((HX7.out.set0 (nx + c.data.size)).set1 _) Tryz.underlying38 rfl (by kernel_rfl)) rfl ?_
    refine ⟨_, rfl, ?_, ((H7.out.setCell (p := ⟨_, _, _⟩) (by show w.heap.size ≤ w.heap.size + 1; omega) _).setCell (p := ⟨_, _, _⟩) (by show w.heap.size ≤ w.heap.size + 1; omega) _).drew⟩
    exact .inr ⟨g4, 0, 0, rfl, Nat.le_refl _, rfl, _, _, [], [c], rfl, (HO7.out.apart (w.heap.size + 1) 0 _ (by omega)).apart (w.heap.size + 1) 1 _ (by omega)⟩
  · have hc2 : 1 < c4 := by omega
    clear hc1
    go_upto_region 10 with fail
    have HY7 := LH (HY6.out.set1 (.slice (some ⟨g4, 2, none⟩) l.length (c4 - 1)))
    have HX7 := LH (HX6.out.other g 1 (.slice (some ⟨g4, 2, none⟩) l.length (c4 - 1)) (by omega))
    have H7 := LH (H6.out.setCell (p := ⟨g, 1, none⟩) (by show w.heap.size ≤ g; omega) (.slice (some ⟨g4, 2, none⟩) l.length (c4 - 1)))
    have HO7 := LH (HO6.out.apart g 1 (.slice (some ⟨g4, 2, none⟩) l.length (c4 - 1)) hne1)
    clear p0 p1 pf HY6 HX6 H6
    generalize w6.setCell ⟨g, 1, none⟩ (.slice (some ⟨g4, 2, none⟩) l.length (c4 - 1)) = w7 at *
    obtain ⟨p0, p1⟩ := HY7.out.cells
    obtain ⟨q0, q1⟩ := HX7.out.cells
    have qf := HX7.out.free
    go_region
    go_wp2
    refine bodyPost_ret (results_tmp_cell rfl _ _ (w.heap.size + 1) _ _ _ _ rfl ((HX7.out.set0 (nx + c.data.size)).set1 _) Tryz.underlying38 rfl (by kernel_rfl)) rfl ?_
    refine ⟨_, rfl, ?_, ((H7.out.setCell (p := ⟨_, _, _⟩) (by show w.heap.size ≤ w.heap.size + 1; omega) _).setCell (p := ⟨_, _, _⟩) (by show w.heap.size ≤ w.heap.size + 1; omega) _).drew⟩
    refine .inr ⟨g4, 2, c4 - 1, rfl, by omega, rfl, l.length + 1, c4, [c], [], rfl, ?_⟩
    rw [List.append_nil]
    exact (HO7.out.apart (w.heap.size + 1) 0 _ (by omega)).apart (w.heap.size + 1) 1 _ (by omega)

theorem itake_part (nx : Int) (c : Ch) (l : List Ch) (n : Nat) (A : Option Addr) (cap B : Nat) (w : World) (hB : B ≤ w.heap.size) (hr : Chs w B A (c :: l)) (hn : (c :: l).length ≤ 10000000) (hi : inB (c :: l)) (hnx : 0 ≤ nx ∧ nx + c.data.size ≤ 4611686018427387903) (hrd : rdyB ⟨nx, c :: l⟩ = c.data.size) (h0 : 0 < n) (hlt : n < c.data.size) :
    Calls Tryz.prog 56 #[bfV nx (.slice A (c :: l).length cap), .int .i64 (n : Int)] w fun e w' => ∃ v, e = .returned (.tuple #[.string ⟨(c.data.data.toList.take n).toArray⟩, bfV (nx + n) v]) ∧ OwnX w' w.heap.size v (cutC c nx n :: l) ∧ Below w.heap.size w w' := by
  have HR := LH hr
  have HRD : Hid (∀ W, B ≤ W.heap.size → Chs W B A (c :: l) → Calls Tryz.prog 110 #[bfV nx (.slice A (c :: l).length cap)] W fun e w' => e = .returned (.int .i64 (c.data.size : Nat)) ∧ Below W.heap.size W w') := LH fun W h1 h2 => by
    have h := iready ⟨nx, c :: l⟩ A cap B W h1 h2 (by show (c :: l).length ≤ _; omega) hi ⟨by show _ ≤ nx; omega, by show nx ≤ _; omega⟩
    rw [hrd] at h
    exact h
  have HCP : Hid (∀ W, B ≤ W.heap.size → Chs W B A (c :: l) → Calls Tryz.prog 106 #[bfV nx (.slice A (c :: l).length cap)] W fun e w' => ∃ v, e = .returned (bfV nx v) ∧ OwnC w' W.heap.size v (c :: l) ∧ Below W.heap.size W w') := LH fun W h1 h2 => icloneb nx (c :: l) A cap B W h1 h2 (by omega)
  have H2 := LH ((HeldB.start w nx (.slice A (c :: l).length cap)).alloc (.cells #[.int .i64 0, .slice none 0 0] 38))
  have X2 := BoxB.new (w.alloc (.cells #[.int .i64 nx, .slice A (c :: l).length cap] 38)) 0 (.slice none 0 0)
  rw [show (w.alloc (.cells #[.int .i64 nx, .slice A (c :: l).length cap] 38)).heap.size = w.heap.size + 1 by simp] at X2
  have HX2 := LH X2
  have hlen : (c :: l).length = l.length + 1 := rfl
  have hnx2 := hnx.1
  have hnx3 : nx + c.data.size ≤ 4611686018427387903 := hnx.2
  clear X2 hr hi hrd hnx
  rw [hlen] at HRD HCP H2 HX2 hn ⊢
  clear hlen
  go_enter Tryz.func56, Tryz.ntmps56
  go_upto_region 1 with fail
  generalize (w.alloc (.cells #[.int .i64 nx, .slice A (l.length + 1) cap] 38)).alloc (.cells #[.int .i64 0, .slice none 0 0] 38) = w2 at *
  obtain ⟨q0, q1⟩ := H2.out.1.cells
  go_wp2_with fail
  refine (HCP.out w2 (Nat.le_trans hB H2.out.2.size) (HR.out.below hB H2.out.2)).mono ?_
  rintro e w3 ⟨v3, rfl, ho3, hb3⟩
  have H3 := LH (H2.out.next hb3)
  have HX3 := LH (HX2.out.below hb3 HX2.out.lt)
  have hlt2 : w.heap.size + 1 < w2.heap.size := HX2.out.lt
  have hsz3 := hb3.size
  obtain ⟨g4, c4, rfl, hc4, hrow⟩ := ho3.cons
  have HO3 := LH (hrow.weaken (base' := w.heap.size) (by omega))
  have hg4 := hrow.ge
  clear hrow
  clear ho3 hb3 q0 q1 HCP H2 HX2
  have H4 := LH (H3.out.alloc (.cells #[.int .i64 nx, .slice (some ⟨g4, 0, none⟩) (l.length + 1) c4] 38))
  have HO4 := LH (HO3.out.alloc (.cells #[.int .i64 nx, .slice (some ⟨g4, 0, none⟩) (l.length + 1) c4] 38))
  have HX4 := LH (HX3.out.alloc (.cells #[.int .i64 nx, .slice (some ⟨g4, 0, none⟩) (l.length + 1) c4] 38))
  have HY4 := LH (BoxB.new w3 nx (.slice (some ⟨g4, 0, none⟩) (l.length + 1) c4))
  go_upto_region 2 with fail
  clear H3 HX3 HO3
  generalize hg : w3.heap.size = g at *
  generalize w3.alloc (.cells #[.int .i64 nx, .slice (some ⟨g4, 0, none⟩) (l.length + 1) c4] 38) = w4 at *
  clear hg
  obtain ⟨q0, q1⟩ := H4.out.1.cells
  go_wp2_with fail
  refine (HRD.out w4 (Nat.le_trans hB H4.out.2.size) (HR.out.below hB H4.out.2)).mono ?_
  rintro e w5 ⟨rfl, hb5⟩
  have H5 := LH (H4.out.next hb5)
  have HX5 := LH (HX4.out.below hb5 HX4.out.lt)
  have HY5 := LH (HY4.out.below hb5 HY4.out.lt)
  have HO5 := LH (HO4.out.later hb5)
  clear hb5 q0 q1 H4 HX4 HY4 HO4 HRD
  have hmin : (if (n : Int) < (c.data.size : Int) then (n : Int) else (c.data.size : Int)) = (n : Int) := by split <;> omega
  have hq : ((n : Int) == (c.data.size : Int)) = false := by
    have : (n : Int) ≠ (c.data.size : Int) := by omega
    simpa using this
  have hq0 : decide ((n : Int) ≤ 0) = false := decide_eq_false (by omega)
  have hqe : ¬ n = 0 := by omega
  have hne1 : g4 ≠ g := by omega
  obtain ⟨ga, oa, rfl, hga, c0, c1⟩ := (HR.out.below hB H5.out.2).cells 0 (Nat.succ_pos _)
  simp only [List.getElem_cons_zero, Nat.zero_mul, Nat.add_zero] at c0 c1
  obtain ⟨t0, t1⟩ := H5.out.1.cells
  obtain ⟨p0, p1⟩ := HY5.out.cells
  have pf := HY5.out.free
  go_upto_region 9 with fail
  have HY6 := LH (HY5.out.set0 (nx + n))
  have HX6 := LH (HX5.out.other g 0 (.int .i64 (nx + n)) (by omega))
  have HO6 := LH (HO5.out.apart g 0 (.int .i64 (nx + n)) hne1)
  have H6 := LH (H5.out.2.setCell (p := ⟨g, 0, none⟩) (by show w.heap.size ≤ g; omega) (.int .i64 (nx + n)))
  clear p0 p1 c0 c1 pf t0 t1 HY5 HX5 HO5 H5
  generalize w5.setCell ⟨g, 0, none⟩ (.int .i64 (nx + n)) = w6 at *
  obtain ⟨p0, p1⟩ := HY6.out.cells
  have hz := HO6.out.cells 0 (Nat.succ_pos _)
  simp only [List.getElem_cons_zero, Nat.zero_mul, Nat.zero_add] at hz
  obtain ⟨c0, c1⟩ := hz
  have cf := HO6.out.free
  go_region
  have HO7 := LH (HO6.out.store 0 (Nat.succ_pos _) ⟨nx + n, c.data.extract n c.data.size⟩)
  have HY7 := LH ((HY6.out.other g4 0 (.int .i64 (nx + n)) (by omega)).other g4 1 (.string (c.data.extract n c.data.size)) (by omega))
  have HX7 := LH ((HX6.out.other g4 0 (.int .i64 (nx + n)) (by omega)).other g4 1 (.string (c.data.extract n c.data.size)) (by omega))
  have H7 := LH (((H6.out.setCell (p := ⟨g4, 0, none⟩) (by show w.heap.size ≤ g4; omega) (.int .i64 (nx + n))).setCell (p := ⟨g4, 1, none⟩) (by show w.heap.size ≤ g4; omega) (.string (c.data.extract n c.data.size))))
  simp only [Nat.zero_mul, Nat.zero_add, List.set_cons_zero] at HO7
  clear p0 p1 c0 c1 cf HY6 HX6 HO6 H6
  go_upto_region 10 with fail
  generalize (w6.setCell ⟨g4, 0, none⟩ (.int .i64 (nx + n))).setCell ⟨g4, 1, none⟩ (.string (c.data.extract n c.data.size)) = w7 at *
  obtain ⟨p0, p1⟩ := HY7.out.cells
  obtain ⟨q0, q1⟩ := HX7.out.cells
  have qf := HX7.out.free
  go_region
  go_wp2
  refine bodyPost_ret (results_tmp_cell rfl _ _ (w.heap.size + 1) _ _ _ _ rfl ((HX7.out.set0 (nx + n)).set1 _) Tryz.underlying38 rfl (by kernel_rfl)) rfl ?_
  refine ⟨_, by rw [← take_str]; rfl, ?_, ((H7.out.setCell (p := ⟨_, _, _⟩) (by show w.heap.size ≤ w.heap.size + 1; omega) _).setCell (p := ⟨_, _, _⟩) (by show w.heap.size ≤ w.heap.size + 1; omega) _).drew.drew⟩
  unfold cutC
  rw [← drop_str]
  exact ((HO7.out.apart (w.heap.size + 1) 0 (.int .i64 (nx + n)) (by omega)).apart (w.heap.size + 1) 1 (.slice (some ⟨g4, 0, none⟩) (l.length + 1) c4) (by omega)).own.x

theorem itake (b : Bf) (m : Int) (A : Option Addr) (cap B : Nat) (w : World) (hB : B ≤ w.heap.size) (hr : Chs w B A b.chs) (hn : b.chs.length ≤ 10000000) (hi : inB b.chs) (hnx : -9223372036854775808 ≤ b.next ∧ b.next ≤ 9223372036854775807) (hm : -9223372036854775808 ≤ m ∧ m ≤ 9223372036854775807) :
    Calls Tryz.prog 56 #[bfV b.next (.slice A b.chs.length cap), .int .i64 m] w fun e w' => ∃ v, e = .returned (.tuple #[.string (headT b (cntT b m)), bfV (dropT b (cntT b m)).next v]) ∧ OwnX w' w.heap.size v (dropT b (cntT b m)).chs ∧ Below w.heap.size w w' := by
  by_cases h0 : cntT b m = 0
  · have h := itake_none b m A cap B w hB hr hn hi hnx hm h0
    rw [h0, show dropT b 0 = b from if_pos rfl, show headT b 0 = ⟨#[]⟩ from if_pos rfl]
    exact h
  · have hr0 : rdyB b ≠ 0 := by unfold cntT at h0; omega
    obtain ⟨hok, c, l, hl, hn2, hs⟩ := rdyB_pos hr0
    obtain ⟨nx, chs⟩ := b
    dsimp only at *
    subst hl
    have hk := okR.below hok.1 (ckR c) (List.mem_map_of_mem (List.mem_cons_self ..))
    have hk2 : c.off + (c.data.size : Int) ≤ 4611686018427387903 := hk.2.2
    have hk0 : 0 ≤ nx := hok.2.1
    have hc : cntT ⟨nx, c :: l⟩ m = min c.data.size (max m 0).toNat := by unfold cntT; rw [hs]
    by_cases hall : c.data.size ≤ m
    · have hcn : cntT ⟨nx, c :: l⟩ m = c.data.size := by omega
      have h := itake_all nx c l m A cap B w hB hr hn hi ⟨hk0, by omega⟩ hs hall hm.2 (by omega)
      rw [hcn]
      rw [hcn] at h0
      unfold dropT headT
      rw [if_neg h0, if_neg h0]
      simp only [if_true]
      rw [take_all_str]
      exact h
    · obtain ⟨n, rfl⟩ := Int.eq_ofNat_of_zero_le (show 0 ≤ m by omega)
      have hcn : cntT ⟨nx, c :: l⟩ (n : Int) = n := by omega
      have h := itake_part nx c l n A cap B w hB hr hn hi ⟨hk0, by omega⟩ hs (by omega) (by omega)
      rw [hcn]
      rw [hcn] at h0
      unfold dropT headT
      rw [if_neg h0, if_neg h0]
      simp only
      rw [if_neg (show ¬ n = c.data.size by omega)]
      exact h
end Go.Proofs.YtdaoaedkjoknmaaGreat
