/-
  What impl.PopRange returns.
-/
import Derived.Test.YtjgabiklmloogaaOwnS
import Derived.Test.YtjgabiklmloogaaIClone
import Derived.Test.YtjgabiklmloogaaIRng
namespace Go.Proofs.Ytjgabiklmloogaa
open Go.RowKit Go.Deep Go.Proofs.Ytjgabiklmloogaa.Num

namespace Num
theorem remR_all (x : Rg) (l : List Rg) (p : Int) (h : okR p (x :: l)) : remR x (x :: l) = l := by
  have e : remR x (x :: l) = cutR x x ++ remR x l := rfl
  rw [e, remR_above x h.2.1 l x.2 h.2.2.2 (Int.le_refl _)]
  unfold cutR
  rw [if_neg (by omega), if_neg (by omega)]
  rfl
theorem remR_some (x : Rg) (m : Int) (l : List Rg) (p : Int) (h : okR p (x :: l)) (h1 : x.1 < m) (h2 : m < x.2) : remR (x.1, m) (x :: l) = (m, x.2) :: l := by
  have e : remR (x.1, m) (x :: l) = cutR (x.1, m) x ++ remR (x.1, m) l := rfl
  rw [e, remR_above (x.1, m) h1 l x.2 h.2.2.2 (by show m ≤ x.2; omega)]
  unfold cutR
  rw [if_neg (by show ¬ x.1 < min x.2 x.1; omega), if_pos (by show max x.1 m < x.2; omega)]
  show [(max x.1 m, x.2)] ++ l = _
  rw [show max x.1 m = m from by omega]
  rfl
end Num

set_option maxRecDepth 100000 in
set_option maxHeartbeats 1000000 in
/-- impl.PopRange, where nothing is popped -/
theorem ipop_no (l : List Rg) (most : Int) (A : Option Addr) (cap B : Nat) (w : World) (hB : B ≤ w.heap.size) (hr : Rgs w B A l) (hn : l.length ≤ 1000000000) (hbad : ¬ (okR (-1) l ∧ l ≠ [] ∧ 1 ≤ most)) :
    Calls Try.prog 21 #[.slice A l.length cap, .int .i64 most] w fun e w' => ∃ v, e = .returned (.tuple #[.agg #[.int .i64 0, .int .i64 0], v, .bool false]) ∧ OwnS w' w.heap.size v l ∧ Below w.heap.size w w' := by
  have hr1 : Rgs (w.alloc (.cells #[.int .i64 0, .int .i64 0] 34)) B A l := hr.keep fun k hk => heap_alloc_old w _ (by omega)
  have hbx := (Below.refl w.heap.size w).alloc (Nat.le_refl _) (.cells #[.int .i64 0, .int .i64 0] 34)
  have hbox := Box.new w (0, 0)
  have hsz : (w.alloc (.cells #[.int .i64 0, .int .i64 0] 34)).heap.size = w.heap.size + 1 := by simp
  generalize hw1 : w.alloc (.cells #[.int .i64 0, .int .i64 0] 34) = w1 at *
  have HC := Lib.hid (iclone l A cap B w1 (by omega) hr1 hn)
  have HR := Lib.hid hr1
  have HBX := Lib.hid hbx
  have HBOX := Lib.hid hbox
  clear hr1 hr hbx hbox
  go_enter Try.func21, Try.ntmps21
  go_wp2_with fail
  refine HC.out.mono ?_
  rintro e w2 ⟨v, rfl, ho2, hb2⟩
  have HB2 := Lib.hid hb2
  have HO2 := Lib.hid ho2
  have hw2 : w1.heap.size ≤ w2.heap.size := hb2.size
  have HX2 : Hid (Box w2 w.heap.size (0, 0)) := Lib.hid ((hb2.block _ (by omega)).trans HBOX.out)
  clear ho2 hb2
  by_cases h0 : l = []
  · subst h0
    obtain ⟨q1, q2⟩ := HX2.out.cells
    have f0 := HX2.out.free
    clear hbad
    go_wp2
    refine bodyPost_ret (results_cell3 rfl _ _ w.heap.size _ _ _ _ rfl (Box.set1 (Box.set0 HX2.out 0) 0) Try.underlying34 rfl (by kernel_rfl)) rfl ?_
    exact ⟨v, rfl, OwnR.any (own_weaken ((HO2.out.only (box_only 0 _) (by omega)).only (box_only 1 _) (by omega)) (by omega)), ((HBX.out.trans (HB2.out.mono (by omega))).setCell (Nat.le_refl _) _).setCell (Nat.le_refl _) _⟩
  · have hd0 : ((l.length : Int) == 0) = false := by simpa using h0
    by_cases hm : most < 1
    · have hd1 : decide (most < 1) = true := decide_eq_true hm
      obtain ⟨q1, q2⟩ := HX2.out.cells
      have f0 := HX2.out.free
      clear hbad h0 hm
      go_wp2
      refine bodyPost_ret (results_cell3 rfl _ _ w.heap.size _ _ _ _ rfl (Box.set1 (Box.set0 HX2.out 0) 0) Try.underlying34 rfl (by kernel_rfl)) rfl ?_
      exact ⟨v, rfl, OwnR.any (own_weaken ((HO2.out.only (box_only 0 _) (by omega)).only (box_only 1 _) (by omega)) (by omega)), ((HBX.out.trans (HB2.out.mono (by omega))).setCell (Nat.le_refl _) _).setCell (Nat.le_refl _) _⟩
    · have hd1 : decide (most < 1) = false := decide_eq_false hm
      have hk : ¬ okR (-1) l := fun hk => hbad ⟨hk, h0, by omega⟩
      have HI := Lib.hid (iisr l A cap B w2 (by omega) (HR.out.below (by omega) HB2.out) hn)
      rw [decide_eq_false hk] at HI
      clear hbad h0 hm hk
      go_wp2_with fail
      refine HI.out.mono ?_
      rintro e w3 ⟨rfl, hb3⟩
      have HX3 : Hid (Box w3 w.heap.size (0, 0)) := Lib.hid ((hb3.block _ (by omega)).trans HX2.out)
      have HO3 := Lib.hid (HO2.out.later hb3)
      have HB3 := Lib.hid (HB2.out.trans (hb3.mono hw2))
      clear hb3
      obtain ⟨q1, q2⟩ := HX3.out.cells
      have f0 := HX3.out.free
      go_wp2
      refine bodyPost_ret (results_cell3 rfl _ _ w.heap.size _ _ _ _ rfl (Box.set1 (Box.set0 HX3.out 0) 0) Try.underlying34 rfl (by kernel_rfl)) rfl ?_
      exact ⟨v, rfl, OwnR.any (own_weaken ((HO3.out.only (box_only 0 _) (by omega)).only (box_only 1 _) (by omega)) (by omega)), ((HBX.out.trans (HB3.out.mono (by omega))).setCell (Nat.le_refl _) _).setCell (Nat.le_refl _) _⟩

theorem Box.drew {w : World} {g : Nat} {x : Rg} (h : Box w g x) : Box w.drew g x := h
/-- Such a row without its first range. -/
theorem RowR.tail {w : World} {base g n cap c : Nat} {x : Rg} {l : List Rg} (h : RowR w base g n cap (x :: l)) (hc : l.length ≤ c) : OwnS w base (.slice (some ⟨g, 2, none⟩) l.length c) l := by
  refine ⟨_, c, rfl, hc, fun j hj => ⟨g, 2, rfl, h.ge.1, h.ge.2, ?_, ?_, h.free⟩⟩
  · have := (h.cells (j + 1) (by simp; omega)).1
    rw [show (j + 1) * 2 = 2 + j * 2 from by omega] at this
    simpa using this
  · have := (h.cells (j + 1) (by simp; omega)).2
    rw [show (j + 1) * 2 + 1 = 2 + j * 2 + 1 from by omega] at this
    simpa using this

set_option maxRecDepth 100000 in
set_option maxHeartbeats 2000000 in
/-- impl.PopRange, where something is popped -/
theorem ipop_yes (x : Rg) (l : List Rg) (most : Int) (A : Option Addr) (cap B : Nat) (w : World) (hB : B ≤ w.heap.size) (hr : Rgs w B A (x :: l)) (hn : (x :: l).length ≤ 1000000000) (hk : okR (-1) (x :: l)) (hm : 1 ≤ most) :
    Calls Try.prog 21 #[.slice A (x :: l).length cap, .int .i64 most] w fun e w' => ∃ v, e = .returned (.tuple #[.agg #[.int .i64 (topR x most).1, .int .i64 (topR x most).2], v, .bool true]) ∧ OwnS w' w.heap.size v (remR (topR x most) (x :: l)) ∧ Below w.heap.size w w' := by
  have hr1 : Rgs (w.alloc (.cells #[.int .i64 0, .int .i64 0] 34)) B A (x :: l) := hr.keep fun k hk => heap_alloc_old w _ (by omega)
  have hbx := (Below.refl w.heap.size w).alloc (Nat.le_refl _) (.cells #[.int .i64 0, .int .i64 0] 34)
  have hbox := Box.new w (0, 0)
  have hsz : (w.alloc (.cells #[.int .i64 0, .int .i64 0] 34)).heap.size = w.heap.size + 1 := by simp
  generalize hw1 : w.alloc (.cells #[.int .i64 0, .int .i64 0] 34) = w1 at *
  have HC := Lib.hid (iclone (x :: l) A cap B w1 (by omega) hr1 hn)
  have HI : Hid (∀ W, Below w1.heap.size w1 W → Calls Try.prog 27 #[.slice A (x :: l).length cap] W fun e w' => e = .returned (.bool true) ∧ Below W.heap.size W w') := Lib.hid fun W hW => by
    have := iisr (x :: l) A cap B W (by have := hW.size; omega) (hr1.below (by omega) hW) hn
    rw [decide_eq_true hk] at this
    exact this
  have HR := Lib.hid hr1
  have HBX := Lib.hid hbx
  have HBOX := Lib.hid hbox
  have HK := Lib.hid hk
  have hd1 : decide (most < 1) = false := decide_eq_false (by omega)
  have hd0 : (((l.length : Int) + 1) == 0) = false := by simp; omega
  have hf : 0 ≤ x.1 ∧ x.1 < x.2 ∧ x.2 ≤ 4611686018427387903 := ⟨by have := hk.1; omega, hk.2.1, hk.2.2.1⟩
  clear hr1 hr hbx hbox hk
  simp only [List.length_cons] at *
  go_enter Try.func21, Try.ntmps21
  go_wp2_with fail
  refine HC.out.mono ?_
  rintro e w2 ⟨v, rfl, ho2, hb2⟩
  have HB2 := Lib.hid hb2
  have hw2 : w1.heap.size ≤ w2.heap.size := hb2.size
  have HX2 : Hid (Box w2 w.heap.size (0, 0)) := Lib.hid ((hb2.block _ (by omega)).trans HBOX.out)
  have ho := ho2
  obtain ⟨_, ho⟩ := ho
  rcases ho with ⟨rfl, hz⟩ | ⟨g, c2, cur, rfl, hg, _, hle, _⟩
  · simp at hz
  have HO2 := Lib.hid (OwnR.row ho2)
  clear ho2 hb2
  simp only [List.length_cons] at *
  go_wp2_with fail
  refine (HI.out w2 HB2.out).mono ?_
  rintro e w3 ⟨rfl, hb3⟩
  have HX3 : Hid (Box w3 w.heap.size (0, 0)) := Lib.hid ((hb3.block _ (by omega)).trans HX2.out)
  have HO3 := Lib.hid (HO2.out.later hb3)
  have HB3 := Lib.hid (HB2.out.trans (hb3.mono hw2))
  have hw3 : w1.heap.size ≤ w3.heap.size := HB3.out.size
  clear hb3 HO2 HB2 HX2
  obtain ⟨b, off, rfl, hbB, c1, d1⟩ := (HR.out.below (by omega) HB3.out).head
  have hsub : IntKind.i64.wrap (x.2 - x.1) = x.2 - x.1 := by rw [IntKind.wrap_i64]; omega
  by_cases ht : x.2 - x.1 ≤ most
  · have hdt : decide (x.2 - x.1 ≤ most) = true := decide_eq_true ht
    have HT : Hid (topR x most = x) := Lib.hid (by unfold topR; rw [if_neg (by omega)])
    have HE : Hid (remR x (x :: l) = l) := Lib.hid (remR_all x l (-1) HK.out)
    clear ht
    go_wp2
    have HO4 := Lib.hid (HO3.out.alloc (.cells #[.int .i64 x.1, .int .i64 x.2] 34))
    have HX4 : Hid (Box (w3.alloc (.cells #[.int .i64 x.1, .int .i64 x.2] 34)) w.heap.size (0, 0)) := Lib.hid ((heap_alloc_old w3 _ (by omega)).trans HX3.out)
    have HY4 : Hid (Box (w3.alloc (.cells #[.int .i64 x.1, .int .i64 x.2] 34)) w3.heap.size x) := Lib.hid (Box.new w3 x)
    have HB4 := Lib.hid ((HBX.out.trans (HB3.out.mono (by omega))).alloc (by omega) (.cells #[.int .i64 x.1, .int .i64 x.2] 34))
    clear c1 d1 HO3 HX3
    generalize w3.alloc (.cells #[.int .i64 x.1, .int .i64 x.2] 34) = w4 at *
    obtain ⟨q1, q2⟩ := HX4.out.cells
    obtain ⟨r1, r2⟩ := HY4.out.cells
    have f0 := HX4.out.free
    have hne : w3.heap.size ≠ w.heap.size := by omega
    have h1l : (1 : Int) ≤ ((l.length + 1 : Nat) : Int) := by omega
    by_cases hc2 : c2 = 1
    · subst hc2
      obtain rfl : l = [] := List.eq_nil_of_length_eq_zero (by omega)
      go_region
      go_wp2
      refine bodyPost_ret (results_cell3 rfl _ _ w.heap.size _ _ _ _ rfl (Box.drew (Box.set1 (Box.set0 HX4.out x.1) x.2)) Try.underlying34 rfl (by kernel_rfl)) rfl ?_
      exact ⟨_, by simp only [HT.out]; rfl, by rw [HT.out, HE.out]; exact ⟨_, 0, rfl, by simp, fun j hj => by cases hj⟩, ((HB4.out.setCell (Nat.le_refl _) _).setCell (Nat.le_refl _) _).drew⟩
    · have hc3 : (c2 = 1) = False := eq_false hc2
      go_region
      go_wp2
      refine bodyPost_ret (results_cell3 rfl _ _ w.heap.size _ _ _ _ rfl (Box.drew (Box.set1 (Box.set0 HX4.out x.1) x.2)) Try.underlying34 rfl (by kernel_rfl)) rfl ?_
      exact ⟨_, by simp only [HT.out]; rfl, by rw [HT.out, HE.out]; exact ((((HO4.out.tail (c := c2 - 1) (by omega)).only (box_only 0 _) (by omega)).only (box_only 1 _) (by omega)).later (Below.refl _ _).drew).weaken (by omega), ((HB4.out.setCell (Nat.le_refl _) _).setCell (Nat.le_refl _) _).drew⟩
  · have hdt : decide (x.2 - x.1 ≤ most) = false := decide_eq_false ht
    have hadd : IntKind.i64.wrap (x.1 + most) = x.1 + most := by rw [IntKind.wrap_i64]; omega
    have HT : Hid (topR x most = (x.1, x.1 + most)) := Lib.hid (by unfold topR; rw [if_pos (by omega)])
    have HE : Hid (remR (x.1, x.1 + most) (x :: l) = (x.1 + most, x.2) :: l) := Lib.hid (remR_some x (x.1 + most) l (-1) HK.out (by omega) (by omega))
    obtain ⟨m, hmm⟩ : ∃ m : Int, x.1 + most = m := ⟨_, rfl⟩
    rw [hmm] at hadd HT HE
    clear ht
    have hgw : g < w3.heap.size := HO3.out.ge.2
    have g0 : w3.cell? ⟨g, 0, none⟩ = some (.int .i64 x.1) := (HO3.out.cells 0 (by simp)).1
    have gf := HO3.out.free
    have hne1 : g ≠ w3.heap.size := by omega
    have hne2 : g ≠ w.heap.size := by omega
    have hne3 : w3.heap.size ≠ w.heap.size := by omega
    obtain ⟨x0, x1⟩ := HX3.out.cells
    have xf := HX3.out.free
    have hwl : w.heap.size < w3.heap.size := by omega
    have HX5 : Hid (Box (w3.setCell ⟨g, 0, none⟩ (.int .i64 m)) w.heap.size (0, 0)) := Lib.hid ((Below.heap_setCell _ ⟨g, 0, none⟩ _ _ (by show w.heap.size ≠ g; omega)).trans HX3.out)
    have HO5 : Hid (RowR (w3.setCell ⟨g, 0, none⟩ (.int .i64 m)) w1.heap.size g (l.length + 1) c2 ((m, x.2) :: l)) := Lib.hid (HO3.out.store0 0 (by simp) m)
    have HB5 := Lib.hid ((HBX.out.trans (HB3.out.mono (by omega))).setCell (p := ⟨g, 0, none⟩) (by show w.heap.size ≤ g; omega) (.int .i64 m))
    have hs5 : (w3.setCell ⟨g, 0, none⟩ (.int .i64 m)).heap.size = w3.heap.size := by simp [World.setCell]
    go_wp2
    refine bodyPost_ret (results_cell3 rfl _ _ w.heap.size _ _ _ _ rfl ((heap_alloc_old _ _ (by simp [World.setCell]; omega)).trans (Box.set1 (Box.set0 HX5.out x.1) m)) Try.underlying34 rfl (by kernel_rfl)) rfl ?_
    exact ⟨_, by simp only [HT.out]; rfl, by rw [HT.out, HE.out]; exact (((((OwnR.any HO5.out.own).only (box_only 0 _) (by omega)).only (box_only 1 _) (by omega)).later ((Below.refl _ _).alloc (Nat.le_refl _) _)).weaken (by omega)), ((HB5.out.setCell (Nat.le_refl _) _).setCell (Nat.le_refl _) _).alloc (by simp [World.setCell]; omega) _⟩
end Go.Proofs.Ytjgabiklmloogaa
