/-
  What spec.PopRange returns (three results, the first in a cell).
-/
import Derived.Test.YtjgabiklmloogaaSRng7
namespace Go.Proofs.Ytjgabiklmloogaa
open Go.RowKit Go.Deep Go.Proofs.Ytjgabiklmloogaa.Num

theorem results_cell3 {P : Program} {fn : Func} {p u v : Tmp} {ty : TypeId} (h : fn.results = #[.cell p ty, .tmp u, .tmp v]) (tmps : Array Value) (w : World) (g : Nat) (t : TypeId) (cs : Array Value) (fr : Nat × Nat) (d : TypeDesc)
    (hp : tmps.getD p undef = .pointer (some ⟨g, 0, none⟩)) (hg : w.heap[g]? = some (.cells cs t fr))
    (hu : P.underlying ty = some d) (hd : (match d with | .struct _ | .array _ _ => true | _ => false) = true) (hi : (P.info? ty).map (·.size) = some cs.size) :
    (results fn tmps).run P w = .ok (.tuple #[.agg cs, tmps.getD u undef, tmps.getD v undef]) w := by
  have hp' : tmps[p]?.getD undef = .pointer (some ⟨g, 0, none⟩) := by simpa using hp
  simp [results, h, hp', asAddr, run_loadVar_row w g t ty cs fr d hg hu hd hi]

set_option maxRecDepth 100000 in
/-- spec.PopRange, where nothing is popped -/
theorem spop_no (l : List Rg) (most : Int) (A : Option Addr) (cap B : Nat) (w : World) (hB : B ≤ w.heap.size) (hr : Rgs w B A l) (hn : l.length ≤ 1000000000) (hbad : ¬ (okR (-1) l ∧ l ≠ [] ∧ 1 ≤ most)) :
    Calls Try.prog 22 #[.slice A l.length cap, .int .i64 most] w fun e w' => ∃ v, e = .returned (.tuple #[.agg #[.int .i64 0, .int .i64 0], v, .bool false]) ∧ OwnR w' w.heap.size v l ∧ Below w.heap.size w w' := by
  have hr1 : Rgs (w.alloc (.cells #[.int .i64 0, .int .i64 0] 34)) B A l := hr.keep fun k hk => heap_alloc_old w _ (by omega)
  have hbx := (Below.refl w.heap.size w).alloc (Nat.le_refl _) (.cells #[.int .i64 0, .int .i64 0] 34)
  have hbox := Box.new w (0, 0)
  have hsz : (w.alloc (.cells #[.int .i64 0, .int .i64 0] 34)).heap.size = w.heap.size + 1 := by simp
  generalize hw1 : w.alloc (.cells #[.int .i64 0, .int .i64 0] 34) = w1 at *
  have HC := Lib.hid (sisr l A cap B w1 (by omega) hr1 hn)
  have HR := Lib.hid hr1
  have HBX := Lib.hid hbx
  have HBOX := Lib.hid hbox
  clear hr1 hr hbx hbox
  by_cases hk : okR (-1) l
  · rw [decide_eq_true hk] at HC
    by_cases h0 : l = []
    · subst h0
      clear hk hbad
      go_enter Try.func22, Try.ntmps22
      go_wp2_with fail
      refine HC.out.mono ?_
      rintro e w2 ⟨rfl, hb2⟩
      have HB2 := Lib.hid hb2
      clear hb2
      have hw2 : w.heap.size ≤ w2.heap.size := by have := HB2.out.size; omega
      have HR2 := Lib.hid (HR.out.below (by omega) HB2.out)
      have HX2 : Hid (Box w2 w.heap.size (0, 0)) := Lib.hid ((HB2.out.block _ (by omega)).trans HBOX.out)
      go_wp2_with fail
      refine (scopy [] A cap B w2 (by omega) HR2.out hn).mono ?_
      rintro e w3 ⟨v, rfl, ho3, hb3⟩
      have HO3 := Lib.hid ho3
      have hw3 : w.heap.size < w2.heap.size := by have := HB2.out.size; omega
      have HB3 := Lib.hid (HBX.out.trans ((HB2.out.mono (by omega)).trans (hb3.mono hw2)))
      have HX3 : Hid (Box w3 w.heap.size (0, 0)) := Lib.hid ((hb3.block _ (by have := HB2.out.size; omega)).trans HX2.out)
      clear ho3 hb3
      obtain ⟨q1, q2⟩ := HX3.out.cells
      have f0 := HX3.out.free 0
      have f1 := HX3.out.free 1
      go_wp2
      refine bodyPost_ret (results_cell3 rfl _ _ w.heap.size _ _ _ _ rfl (Box.set1 (Box.set0 HX3.out 0) 0) Try.underlying34 rfl (by kernel_rfl)) rfl ?_
      exact ⟨v, rfl, own_weaken ((HO3.out.only (box_only 0 _) hw3).only (box_only 1 _) hw3) hw2, (HB3.out.setCell (Nat.le_refl _) _).setCell (Nat.le_refl _) _⟩
    · have hlen : (l.length : Int) ≠ 0 := by intro h; exact h0 (List.eq_nil_of_length_eq_zero (by omega))
      have hd0 : ((l.length : Int) == 0) = false := by simpa using h0
      have hd1 : decide (most < 1) = true := decide_eq_true (by by_cases hm : 1 ≤ most; exact absurd ⟨hk, h0, hm⟩ hbad; omega)
      have HN := Lib.hid h0
      clear hk hbad h0 hlen
      go_enter Try.func22, Try.ntmps22
      go_wp2_with fail
      refine HC.out.mono ?_
      rintro e w2 ⟨rfl, hb2⟩
      have HB2 := Lib.hid hb2
      clear hb2
      have hw2 : w.heap.size ≤ w2.heap.size := by have := HB2.out.size; omega
      have HR2 := Lib.hid (HR.out.below (by omega) HB2.out)
      have HX2 : Hid (Box w2 w.heap.size (0, 0)) := Lib.hid ((HB2.out.block _ (by omega)).trans HBOX.out)
      go_wp2_with fail
      refine (scopy l A cap B w2 (by omega) HR2.out hn).mono ?_
      rintro e w3 ⟨v, rfl, ho3, hb3⟩
      have HO3 := Lib.hid ho3
      have hw3 : w.heap.size < w2.heap.size := by have := HB2.out.size; omega
      have HB3 := Lib.hid (HBX.out.trans ((HB2.out.mono (by omega)).trans (hb3.mono hw2)))
      have HX3 : Hid (Box w3 w.heap.size (0, 0)) := Lib.hid ((hb3.block _ (by have := HB2.out.size; omega)).trans HX2.out)
      clear ho3 hb3
      obtain ⟨q1, q2⟩ := HX3.out.cells
      have f0 := HX3.out.free 0
      have f1 := HX3.out.free 1
      go_wp2
      refine bodyPost_ret (results_cell3 rfl _ _ w.heap.size _ _ _ _ rfl (Box.set1 (Box.set0 HX3.out 0) 0) Try.underlying34 rfl (by kernel_rfl)) rfl ?_
      exact ⟨v, rfl, own_weaken ((HO3.out.only (box_only 0 _) hw3).only (box_only 1 _) hw3) hw2, (HB3.out.setCell (Nat.le_refl _) _).setCell (Nat.le_refl _) _⟩
  · rw [decide_eq_false hk] at HC
    clear hk hbad
    go_enter Try.func22, Try.ntmps22
    go_wp2_with fail
    refine HC.out.mono ?_
    rintro e w2 ⟨rfl, hb2⟩
    have HB2 := Lib.hid hb2
    clear hb2
    have hw2 : w.heap.size ≤ w2.heap.size := by have := HB2.out.size; omega
    have HR2 := Lib.hid (HR.out.below (by omega) HB2.out)
    have HX2 : Hid (Box w2 w.heap.size (0, 0)) := Lib.hid ((HB2.out.block _ (by omega)).trans HBOX.out)
    go_wp2_with fail
    refine (scopy l A cap B w2 (by omega) HR2.out hn).mono ?_
    rintro e w3 ⟨v, rfl, ho3, hb3⟩
    have HO3 := Lib.hid ho3
    have hw3 : w.heap.size < w2.heap.size := by have := HB2.out.size; omega
    have HB3 := Lib.hid (HBX.out.trans ((HB2.out.mono (by omega)).trans (hb3.mono hw2)))
    have HX3 : Hid (Box w3 w.heap.size (0, 0)) := Lib.hid ((hb3.block _ (by have := HB2.out.size; omega)).trans HX2.out)
    clear ho3 hb3
    obtain ⟨q1, q2⟩ := HX3.out.cells
    have f0 := HX3.out.free 0
    have f1 := HX3.out.free 1
    go_wp2
    refine bodyPost_ret (results_cell3 rfl _ _ w.heap.size _ _ _ _ rfl (Box.set1 (Box.set0 HX3.out 0) 0) Try.underlying34 rfl (by kernel_rfl)) rfl ?_
    exact ⟨v, rfl, own_weaken ((HO3.out.only (box_only 0 _) hw3).only (box_only 1 _) hw3) hw2, (HB3.out.setCell (Nat.le_refl _) _).setCell (Nat.le_refl _) _⟩

theorem topR_fine (x : Rg) (most : Int) (h : fineR x) (hm : 1 ≤ most) : fineR (topR x most) := by
  unfold topR fineR at *
  split
  · exact ⟨h.1, by show x.1 < x.1 + most; omega, by show x.1 + most ≤ _; omega⟩
  · exact h

set_option maxRecDepth 100000 in
set_option maxHeartbeats 1000000 in
/-- spec.PopRange, where something is popped -/
theorem spop_yes (l : List Rg) (most : Int) (A : Option Addr) (cap B : Nat) (w : World) (hB : B ≤ w.heap.size) (hr : Rgs w B A l) (hn : l.length ≤ 1000000000) (hk : okR (-1) l) (h0 : 0 < l.length) (hm : 1 ≤ most) :
    Calls Try.prog 22 #[.slice A l.length cap, .int .i64 most] w fun e w' => ∃ v, e = .returned (.tuple #[.agg #[.int .i64 (topR l[0] most).1, .int .i64 (topR l[0] most).2], v, .bool true]) ∧ OwnR w' w.heap.size v (remR (topR l[0] most) l) ∧ Below w.heap.size w w' := by
  have hr1 : Rgs (w.alloc (.cells #[.int .i64 0, .int .i64 0] 34)) B A l := hr.keep fun k hk => heap_alloc_old w _ (by omega)
  have hbx := (Below.refl w.heap.size w).alloc (Nat.le_refl _) (.cells #[.int .i64 0, .int .i64 0] 34)
  have hbox := Box.new w (0, 0)
  have hsz : (w.alloc (.cells #[.int .i64 0, .int .i64 0] 34)).heap.size = w.heap.size + 1 := by simp
  generalize hw1 : w.alloc (.cells #[.int .i64 0, .int .i64 0] 34) = w1 at *
  have HC := Lib.hid (sisr l A cap B w1 (by omega) hr1 hn)
  rw [decide_eq_true hk] at HC
  have HR := Lib.hid hr1
  have HBX := Lib.hid hbx
  have HBOX := Lib.hid hbox
  have hf : fineR l[0] := by
    have := hk.below l[0] (List.getElem_mem h0)
    exact ⟨by omega, this.2.1, this.2.2⟩
  have HF := Lib.hid (topR_fine l[0] most hf hm)
  have HK := Lib.hid hk
  have hd0 : ((l.length : Int) == 0) = false := by simp; intro h; subst h; simp at h0
  have hd1 : decide (most < 1) = false := decide_eq_false (by omega)
  clear hr1 hr hbx hbox hk
  go_enter Try.func22, Try.ntmps22
  go_wp2_with fail
  refine HC.out.mono ?_
  rintro e w2 ⟨rfl, hb2⟩
  have HB2 := Lib.hid hb2
  have HR2 := Lib.hid (HR.out.below (by omega) hb2)
  have hw2 : w1.heap.size ≤ w2.heap.size := hb2.size
  have HX2 : Hid (Box w2 w.heap.size (0, 0)) := Lib.hid ((hb2.block _ (by omega)).trans HBOX.out)
  clear hb2
  obtain ⟨b, off, rfl, hbB, c1, c2⟩ := HR2.out 0 h0
  rw [Nat.zero_mul, Nat.add_zero] at c1 c2
  generalize hx : l[0] = x at *
  have hw3 : IntKind.i64.wrap (x.2 - x.1) = x.2 - x.1 := by rw [IntKind.wrap_i64]; have := hf.1; have := hf.2.1; have := hf.2.2; omega
  by_cases ht : most < x.2 - x.1
  · have hdt : decide (most < x.2 - x.1) = true := decide_eq_true ht
    have hw4 : IntKind.i64.wrap (x.1 + most) = x.1 + most := by rw [IntKind.wrap_i64]; have := hf.1; have := hf.2.1; have := hf.2.2; omega
    have HT0 : Hid (topR x most = (x.1, x.1 + most)) := Lib.hid (by unfold topR; rw [if_pos ht])
    have HT : Hid (topR l[0] most = (x.1, x.1 + most)) := Lib.hid (by rw [hx]; exact HT0.out)
    have hB6 : B ≤ (w2.alloc (.cells #[.int .i64 (x.1), .int .i64 (x.1 + most)] 34)).drew.heap.size := by simp; omega
    have HR6 : Hid (Rgs (w2.alloc (.cells #[.int .i64 (x.1), .int .i64 (x.1 + most)] 34)).drew B (some ⟨b, off, none⟩) l) := Lib.hid (HR2.out.keep fun k hk => heap_alloc_old w2 _ (by omega))
    have HC6 := Lib.hid (srem l (x.1, x.1 + most) (some ⟨b, off, none⟩) cap B _ hB6 HR6.out hn)
    rw [if_pos ⟨HK.out, by rw [← HT0.out]; exact HF.out⟩] at HC6
    have HX6 : Hid (Box (w2.alloc (.cells #[.int .i64 (x.1), .int .i64 (x.1 + most)] 34)).drew w.heap.size (0, 0)) := Lib.hid ((heap_alloc_old w2 _ (by omega)).trans HX2.out)
    have hw6 : w.heap.size < (w2.alloc (.cells #[.int .i64 (x.1), .int .i64 (x.1 + most)] 34)).drew.heap.size := by simp; omega
    have HB6 : Hid (Below w.heap.size w (w2.alloc (.cells #[.int .i64 (x.1), .int .i64 (x.1 + most)] 34)).drew) := Lib.hid ((HBX.out.trans (HB2.out.mono (by omega))).alloc (by omega) _).drew
    have hne : w2.heap.size ≠ w.heap.size := by omega
    have hw7 : w2.heap.size < (w2.alloc (.cells #[.int .i64 (x.1), .int .i64 (x.1 + most)] 34)).drew.heap.size := by simp
    obtain ⟨s1, s2⟩ : (w2.alloc (.cells #[.int .i64 (x.1), .int .i64 (x.1 + most)] 34)).drew.cell? ⟨w2.heap.size, 0, none⟩ = some (.int .i64 (x.1)) ∧ (w2.alloc (.cells #[.int .i64 (x.1), .int .i64 (x.1 + most)] 34)).drew.cell? ⟨w2.heap.size, 1, none⟩ = some (.int .i64 (x.1 + most)) := Box.cells (x := (x.1, x.1 + most)) (heap_alloc_new w2 _)
    clear hf
    go_wp2
    go_region_held3 (fun W => W.cell? ⟨w2.heap.size, 0, none⟩ = some (.int .i64 (x.1)) ∧ W.cell? ⟨w2.heap.size, 1, none⟩ = some (.int .i64 (x.1 + most))) (first | exact ⟨s1, s2⟩ | exact ⟨(hb3.cell (by show w2.heap.size < _; omega)).trans s1, (hb3.cell (by show w2.heap.size < _; omega)).trans s2⟩ | exact ⟨(World.cell?_of_block ((Below.heap_setCell _ _ _ _ hne).trans (Below.heap_setCell _ _ _ _ hne))).trans ((hb3.cell (by show w2.heap.size < _; omega)).trans s1), (World.cell?_of_block ((Below.heap_setCell _ _ _ _ hne).trans (Below.heap_setCell _ _ _ _ hne))).trans ((hb3.cell (by show w2.heap.size < _; omega)).trans s2)⟩) (first | (go_at_call 34; refine HC6.out.mono ?_; rintro e w3 ⟨v, rfl, ho3, hb3⟩; have HO3 := Lib.hid ho3; have HX3 := Lib.hid (show Box w3 w.heap.size (0, 0) from (hb3.block _ hw6).trans HX6.out); have HB3 := Lib.hid (HB6.out.trans (hb3.mono (by omega))); clear ho3; obtain ⟨q1, q2⟩ := HX3.out.cells; have f0 := HX3.out.free 0; have f1 := HX3.out.free 1))
    all_goals go_wp2
    all_goals refine bodyPost_ret (results_cell3 rfl _ _ w.heap.size _ _ _ _ rfl (Box.set1 (Box.set0 HX3.out (x.1)) (x.1 + most)) Try.underlying34 rfl (by kernel_rfl)) rfl ?_
    all_goals exact ⟨v, by simp only [HT.out]; rfl, by rw [HT.out]; exact own_weaken ((HO3.out.only (box_only 0 _) hw6).only (box_only 1 _) hw6) (by omega), (HB3.out.setCell (Nat.le_refl _) _).setCell (Nat.le_refl _) _⟩
  · have hdt : decide (most < x.2 - x.1) = false := decide_eq_false ht
    have HT0 : Hid (topR x most = (x.1, x.2)) := Lib.hid (by unfold topR; rw [if_neg ht])
    have HT : Hid (topR l[0] most = (x.1, x.2)) := Lib.hid (by rw [hx]; exact HT0.out)
    have hB6 : B ≤ (w2.alloc (.cells #[.int .i64 (x.1), .int .i64 (x.2)] 34)).drew.heap.size := by simp; omega
    have HR6 : Hid (Rgs (w2.alloc (.cells #[.int .i64 (x.1), .int .i64 (x.2)] 34)).drew B (some ⟨b, off, none⟩) l) := Lib.hid (HR2.out.keep fun k hk => heap_alloc_old w2 _ (by omega))
    have HC6 := Lib.hid (srem l (x.1, x.2) (some ⟨b, off, none⟩) cap B _ hB6 HR6.out hn)
    rw [if_pos ⟨HK.out, by rw [← HT0.out]; exact HF.out⟩] at HC6
    have HX6 : Hid (Box (w2.alloc (.cells #[.int .i64 (x.1), .int .i64 (x.2)] 34)).drew w.heap.size (0, 0)) := Lib.hid ((heap_alloc_old w2 _ (by omega)).trans HX2.out)
    have hw6 : w.heap.size < (w2.alloc (.cells #[.int .i64 (x.1), .int .i64 (x.2)] 34)).drew.heap.size := by simp; omega
    have HB6 : Hid (Below w.heap.size w (w2.alloc (.cells #[.int .i64 (x.1), .int .i64 (x.2)] 34)).drew) := Lib.hid ((HBX.out.trans (HB2.out.mono (by omega))).alloc (by omega) _).drew
    have hne : w2.heap.size ≠ w.heap.size := by omega
    have hw7 : w2.heap.size < (w2.alloc (.cells #[.int .i64 (x.1), .int .i64 (x.2)] 34)).drew.heap.size := by simp
    obtain ⟨s1, s2⟩ : (w2.alloc (.cells #[.int .i64 (x.1), .int .i64 (x.2)] 34)).drew.cell? ⟨w2.heap.size, 0, none⟩ = some (.int .i64 (x.1)) ∧ (w2.alloc (.cells #[.int .i64 (x.1), .int .i64 (x.2)] 34)).drew.cell? ⟨w2.heap.size, 1, none⟩ = some (.int .i64 (x.2)) := Box.cells (x := (x.1, x.2)) (heap_alloc_new w2 _)
    clear hf
    go_wp2
    go_region_held3 (fun W => W.cell? ⟨w2.heap.size, 0, none⟩ = some (.int .i64 (x.1)) ∧ W.cell? ⟨w2.heap.size, 1, none⟩ = some (.int .i64 (x.2))) (first | exact ⟨s1, s2⟩ | exact ⟨(hb3.cell (by show w2.heap.size < _; omega)).trans s1, (hb3.cell (by show w2.heap.size < _; omega)).trans s2⟩ | exact ⟨(World.cell?_of_block ((Below.heap_setCell _ _ _ _ hne).trans (Below.heap_setCell _ _ _ _ hne))).trans ((hb3.cell (by show w2.heap.size < _; omega)).trans s1), (World.cell?_of_block ((Below.heap_setCell _ _ _ _ hne).trans (Below.heap_setCell _ _ _ _ hne))).trans ((hb3.cell (by show w2.heap.size < _; omega)).trans s2)⟩) (first | (go_at_call 34; refine HC6.out.mono ?_; rintro e w3 ⟨v, rfl, ho3, hb3⟩; have HO3 := Lib.hid ho3; have HX3 := Lib.hid (show Box w3 w.heap.size (0, 0) from (hb3.block _ hw6).trans HX6.out); have HB3 := Lib.hid (HB6.out.trans (hb3.mono (by omega))); clear ho3; obtain ⟨q1, q2⟩ := HX3.out.cells; have f0 := HX3.out.free 0; have f1 := HX3.out.free 1))
    all_goals go_wp2
    all_goals refine bodyPost_ret (results_cell3 rfl _ _ w.heap.size _ _ _ _ rfl (Box.set1 (Box.set0 HX3.out (x.1)) (x.2)) Try.underlying34 rfl (by kernel_rfl)) rfl ?_
    all_goals exact ⟨v, by simp only [HT.out]; rfl, by rw [HT.out]; exact own_weaken ((HO3.out.only (box_only 0 _) hw6).only (box_only 1 _) hw6) (by omega), (HB3.out.setCell (Nat.le_refl _) _).setCell (Nat.le_refl _) _⟩
end Go.Proofs.Ytjgabiklmloogaa
