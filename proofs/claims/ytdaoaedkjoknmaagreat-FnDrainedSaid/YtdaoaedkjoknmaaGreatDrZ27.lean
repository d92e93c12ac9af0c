/-
  Contracts and lemmas for the law on draining.
-/
import Derived.Test.YtdaoaedkjoknmaaGreatDrZ0
import Derived.Test.YtdaoaedkjoknmaaGreatDrZ26
set_option maxRecDepth 1000000
set_option maxHeartbeats 8000000
namespace Go.Proofs.YtdaoaedkjoknmaaGreat
open Go.RowKit Go.Deep Go.Proofs.YtdaoaedkjoknmaaGreat.Num

def InT (w : World) (v2 v3 v4 : Value) (W : World) : Prop := (W.cell? ⟨w.heap.size, 0, none⟩ = some v2 ∧ W.cell? ⟨w.heap.size, 1, none⟩ = some v3 ∧ W.cell? ⟨w.heap.size, 2, none⟩ = some v4) ∧ w.heap.size < W.heap.size ∧ Below w.heap.size w W
theorem InT.start (w : World) (v2 v3 v4 : Value) (t : TypeId) : InT w v2 v3 v4 (w.alloc (.cells #[v2, v3, v4] t)) :=
  ⟨cell_alloc3 w v2 v3 v4 t, by simp, (Below.refl _ _).alloc (Nat.le_refl _) _⟩
theorem InT.next {w : World} {v2 v3 v4 : Value} {W W' : World} (h : InT w v2 v3 v4 W) (hb : Below W.heap.size W W') : InT w v2 v3 v4 W' :=
  ⟨⟨(hb.cell (p := ⟨w.heap.size, 0, none⟩) h.2.1).trans h.1.1, (hb.cell (p := ⟨w.heap.size, 1, none⟩) h.2.1).trans h.1.2.1, (hb.cell (p := ⟨w.heap.size, 2, none⟩) h.2.1).trans h.1.2.2⟩, Nat.lt_of_lt_of_le h.2.1 hb.size, h.2.2.trans (hb.mono (Nat.le_of_lt h.2.1))⟩
theorem InT.drew {w : World} {v2 v3 v4 : Value} {W : World} (h : InT w v2 v3 v4 W) : InT w v2 v3 v4 W.drew := h.next (Below.refl _ _).drew
def ReadT (w : World) (B : Nat) (A2 A3 A4 : Option Addr) (s : Sn) : Prop := Rgs w B A2 s.pe ∧ Rgs w B A3 s.fl ∧ Rgs w B A4 s.ac
def LenT (s : Sn) : Prop := s.pe.length + s.fl.length + s.ac.length ≤ 1048576
def CapT (s : Sn) (c2 c3 c4 : Nat) : Prop := s.pe.length ≤ c2 ∧ s.fl.length ≤ c3 ∧ s.ac.length ≤ c4
theorem isbv (s : Sn) (A2 A3 A4 : Option Addr) (c2 c3 c4 B : Nat) (w : World) (hB : B ≤ w.heap.size) (hr : ReadT w B A2 A3 A4 s) (hn : LenT s) :
    Calls Tryz.prog 73 #[.agg #[.slice A2 s.pe.length c2, .slice A3 s.fl.length c3, .slice A4 s.ac.length c4]] w fun e w' => e = .returned (.bool (decide (okR (-1) s.pe ∧ okR (-1) s.fl ∧ okR (-1) s.ac))) ∧ Below w.heap.size w w' := by
  have HH := LH (InT.start w (.slice A2 s.pe.length c2) (.slice A3 s.fl.length c3) (.slice A4 s.ac.length c4) 75)
  have HC0 : Hid (∀ W, InT w (.slice A2 s.pe.length c2) (.slice A3 s.fl.length c3) (.slice A4 s.ac.length c4) W → Calls Tryz.prog 121 #[.agg #[.slice A2 s.pe.length c2]] W fun e w' => e = .returned (.bool (decide (okR (-1) s.pe))) ∧ Below W.heap.size W w') := LH fun W h => isrv s.pe A2 c2 B W (Nat.le_trans hB h.2.2.size) (hr.1.below hB h.2.2) (by unfold LenT at hn; omega)
  have HC1 : Hid (∀ W, InT w (.slice A2 s.pe.length c2) (.slice A3 s.fl.length c3) (.slice A4 s.ac.length c4) W → Calls Tryz.prog 121 #[.agg #[.slice A3 s.fl.length c3]] W fun e w' => e = .returned (.bool (decide (okR (-1) s.fl))) ∧ Below W.heap.size W w') := LH fun W h => isrv s.fl A3 c3 B W (Nat.le_trans hB h.2.2.size) (hr.2.1.below hB h.2.2) (by unfold LenT at hn; omega)
  have HC2 : Hid (∀ W, InT w (.slice A2 s.pe.length c2) (.slice A3 s.fl.length c3) (.slice A4 s.ac.length c4) W → Calls Tryz.prog 121 #[.agg #[.slice A4 s.ac.length c4]] W fun e w' => e = .returned (.bool (decide (okR (-1) s.ac))) ∧ Below W.heap.size W w') := LH fun W h => isrv s.ac A4 c4 B W (Nat.le_trans hB h.2.2.size) (hr.2.2.below hB h.2.2) (by unfold LenT at hn; omega)
  clear hr hn
  by_cases h0 : okR (-1) s.pe
  rotate_left
  · have HV : Hid (decide (okR (-1) s.pe ∧ okR (-1) s.fl ∧ okR (-1) s.ac) = false) := LH (decide_eq_false (fun k => h0 k.1))
    rw [decide_eq_false h0] at HC0
    clear h0
    go_enter Tryz.func73, Tryz.ntmps73
    obtain ⟨t0, t1, t2⟩ := HH.out.1
    go_wp2_with fail
    refine (HC0.out _ HH.out).mono ?_
    rintro e w1 ⟨rfl, hb1⟩
    have HH := LH (HH.out.next hb1)
    clear hb1 t0 t1 t2
    obtain ⟨t0, t1, t2⟩ := HH.out.1
    go_wp2
    go_ret
    exact ⟨by rw [HV.out]; rfl, HH.out.2.2⟩
  rw [decide_eq_true h0] at HC0
  by_cases h1 : okR (-1) s.fl
  rotate_left
  · have HV : Hid (decide (okR (-1) s.pe ∧ okR (-1) s.fl ∧ okR (-1) s.ac) = false) := LH (decide_eq_false (fun k => h1 k.2.1))
    rw [decide_eq_false h1] at HC1
    clear h0 h1
    go_enter Tryz.func73, Tryz.ntmps73
    obtain ⟨t0, t1, t2⟩ := HH.out.1
    go_wp2_with fail
    refine (HC0.out _ HH.out).mono ?_
    rintro e w1 ⟨rfl, hb1⟩
    have HH := LH (HH.out.next hb1)
    clear hb1 t0 t1 t2
    obtain ⟨t0, t1, t2⟩ := HH.out.1
    go_wp2_with fail
    refine (HC1.out _ HH.out).mono ?_
    rintro e w1 ⟨rfl, hb1⟩
    have HH := LH (HH.out.next hb1)
    clear hb1 t0 t1 t2
    obtain ⟨t0, t1, t2⟩ := HH.out.1
    go_wp2
    go_ret
    exact ⟨by rw [HV.out]; rfl, HH.out.2.2⟩
  rw [decide_eq_true h1] at HC1
  by_cases h2 : okR (-1) s.ac
  rotate_left
  · have HV : Hid (decide (okR (-1) s.pe ∧ okR (-1) s.fl ∧ okR (-1) s.ac) = false) := LH (decide_eq_false (fun k => h2 k.2.2))
    rw [decide_eq_false h2] at HC2
    clear h0 h1 h2
    go_enter Tryz.func73, Tryz.ntmps73
    obtain ⟨t0, t1, t2⟩ := HH.out.1
    go_wp2_with fail
    refine (HC0.out _ HH.out).mono ?_
    rintro e w1 ⟨rfl, hb1⟩
    have HH := LH (HH.out.next hb1)
    clear hb1 t0 t1 t2
    obtain ⟨t0, t1, t2⟩ := HH.out.1
    go_wp2_with fail
    refine (HC1.out _ HH.out).mono ?_
    rintro e w1 ⟨rfl, hb1⟩
    have HH := LH (HH.out.next hb1)
    clear hb1 t0 t1 t2
    obtain ⟨t0, t1, t2⟩ := HH.out.1
    go_wp2_with fail
    refine (HC2.out _ HH.out).mono ?_
    rintro e w1 ⟨rfl, hb1⟩
    have HH := LH (HH.out.next hb1)
    clear hb1 t0 t1 t2
    obtain ⟨t0, t1, t2⟩ := HH.out.1
    go_wp2
    go_ret
    exact ⟨by rw [HV.out]; rfl, HH.out.2.2⟩
  rw [decide_eq_true h2] at HC2
  have HV : Hid (decide (okR (-1) s.pe ∧ okR (-1) s.fl ∧ okR (-1) s.ac) = true) := LH (decide_eq_true ⟨h0, h1, h2⟩)
  clear h0 h1 h2
  go_enter Tryz.func73, Tryz.ntmps73
  obtain ⟨t0, t1, t2⟩ := HH.out.1
  go_wp2_with fail
  refine (HC0.out _ HH.out).mono ?_
  rintro e w1 ⟨rfl, hb1⟩
  have HH := LH (HH.out.next hb1)
  clear hb1 t0 t1 t2
  obtain ⟨t0, t1, t2⟩ := HH.out.1
  go_wp2_with fail
  refine (HC1.out _ HH.out).mono ?_
  rintro e w1 ⟨rfl, hb1⟩
  have HH := LH (HH.out.next hb1)
  clear hb1 t0 t1 t2
  obtain ⟨t0, t1, t2⟩ := HH.out.1
  go_wp2_with fail
  refine (HC2.out _ HH.out).mono ?_
  rintro e w1 ⟨rfl, hb1⟩
  have HH := LH (HH.out.next hb1)
  clear hb1 t0 t1 t2
  obtain ⟨t0, t1, t2⟩ := HH.out.1
  go_wp2
  go_ret
  exact ⟨by rw [HV.out]; rfl, HH.out.2.2⟩
theorem isbe (s : Sn) (A2 A3 A4 : Option Addr) (c2 c3 c4 : Nat) (w : World)  :
    Calls Tryz.prog 74 #[.agg #[.slice A2 s.pe.length c2, .slice A3 s.fl.length c3, .slice A4 s.ac.length c4]] w fun e w' => e = .returned (.bool (decide (s.pe = [] ∧ s.fl = [] ∧ s.ac = []))) ∧ Below w.heap.size w w' := by
  have HH := LH (InT.start w (.slice A2 s.pe.length c2) (.slice A3 s.fl.length c3) (.slice A4 s.ac.length c4) 75)
  have HC0 : Hid (∀ W, InT w (.slice A2 s.pe.length c2) (.slice A3 s.fl.length c3) (.slice A4 s.ac.length c4) W → Calls Tryz.prog 122 #[.agg #[.slice A2 s.pe.length c2]] W fun e w' => e = .returned (.bool (decide (s.pe = []))) ∧ Below W.heap.size W w') := LH fun W h => isre s.pe A2 c2 W
  have HC1 : Hid (∀ W, InT w (.slice A2 s.pe.length c2) (.slice A3 s.fl.length c3) (.slice A4 s.ac.length c4) W → Calls Tryz.prog 122 #[.agg #[.slice A3 s.fl.length c3]] W fun e w' => e = .returned (.bool (decide (s.fl = []))) ∧ Below W.heap.size W w') := LH fun W h => isre s.fl A3 c3 W
  have HC2 : Hid (∀ W, InT w (.slice A2 s.pe.length c2) (.slice A3 s.fl.length c3) (.slice A4 s.ac.length c4) W → Calls Tryz.prog 122 #[.agg #[.slice A4 s.ac.length c4]] W fun e w' => e = .returned (.bool (decide (s.ac = []))) ∧ Below W.heap.size W w') := LH fun W h => isre s.ac A4 c4 W
  by_cases h0 : s.pe = []
  rotate_left
  · have HV : Hid (decide (s.pe = [] ∧ s.fl = [] ∧ s.ac = []) = false) := LH (decide_eq_false (fun k => h0 k.1))
    rw [decide_eq_false h0] at HC0
    clear h0
    go_enter Tryz.func74, Tryz.ntmps74
    obtain ⟨t0, t1, t2⟩ := HH.out.1
    go_wp2_with fail
    refine (HC0.out _ HH.out).mono ?_
    rintro e w1 ⟨rfl, hb1⟩
    have HH := LH (HH.out.next hb1)
    clear hb1 t0 t1 t2
    obtain ⟨t0, t1, t2⟩ := HH.out.1
    go_wp2
    go_ret
    exact ⟨by rw [HV.out]; rfl, HH.out.2.2⟩
  rw [decide_eq_true h0] at HC0
  by_cases h1 : s.fl = []
  rotate_left
  · have HV : Hid (decide (s.pe = [] ∧ s.fl = [] ∧ s.ac = []) = false) := LH (decide_eq_false (fun k => h1 k.2.1))
    rw [decide_eq_false h1] at HC1
    clear h0 h1
    go_enter Tryz.func74, Tryz.ntmps74
    obtain ⟨t0, t1, t2⟩ := HH.out.1
    go_wp2_with fail
    refine (HC0.out _ HH.out).mono ?_
    rintro e w1 ⟨rfl, hb1⟩
    have HH := LH (HH.out.next hb1)
    clear hb1 t0 t1 t2
    obtain ⟨t0, t1, t2⟩ := HH.out.1
    go_wp2_with fail
    refine (HC1.out _ HH.out).mono ?_
    rintro e w1 ⟨rfl, hb1⟩
    have HH := LH (HH.out.next hb1)
    clear hb1 t0 t1 t2
    obtain ⟨t0, t1, t2⟩ := HH.out.1
    go_wp2
    go_ret
    exact ⟨by rw [HV.out]; rfl, HH.out.2.2⟩
  rw [decide_eq_true h1] at HC1
  by_cases h2 : s.ac = []
  rotate_left
  · have HV : Hid (decide (s.pe = [] ∧ s.fl = [] ∧ s.ac = []) = false) := LH (decide_eq_false (fun k => h2 k.2.2))
    rw [decide_eq_false h2] at HC2
    clear h0 h1 h2
    go_enter Tryz.func74, Tryz.ntmps74
    obtain ⟨t0, t1, t2⟩ := HH.out.1
    go_wp2_with fail
    refine (HC0.out _ HH.out).mono ?_
    rintro e w1 ⟨rfl, hb1⟩
    have HH := LH (HH.out.next hb1)
    clear hb1 t0 t1 t2
    obtain ⟨t0, t1, t2⟩ := HH.out.1
    go_wp2_with fail
    refine (HC1.out _ HH.out).mono ?_
    rintro e w1 ⟨rfl, hb1⟩
    have HH := LH (HH.out.next hb1)
    clear hb1 t0 t1 t2
    obtain ⟨t0, t1, t2⟩ := HH.out.1
    go_wp2_with fail
    refine (HC2.out _ HH.out).mono ?_
    rintro e w1 ⟨rfl, hb1⟩
    have HH := LH (HH.out.next hb1)
    clear hb1 t0 t1 t2
    obtain ⟨t0, t1, t2⟩ := HH.out.1
    go_wp2
    go_ret
    exact ⟨by rw [HV.out]; rfl, HH.out.2.2⟩
  rw [decide_eq_true h2] at HC2
  have HV : Hid (decide (s.pe = [] ∧ s.fl = [] ∧ s.ac = []) = true) := LH (decide_eq_true ⟨h0, h1, h2⟩)
  clear h0 h1 h2
  go_enter Tryz.func74, Tryz.ntmps74
  obtain ⟨t0, t1, t2⟩ := HH.out.1
  go_wp2_with fail
  refine (HC0.out _ HH.out).mono ?_
  rintro e w1 ⟨rfl, hb1⟩
  have HH := LH (HH.out.next hb1)
  clear hb1 t0 t1 t2
  obtain ⟨t0, t1, t2⟩ := HH.out.1
  go_wp2_with fail
  refine (HC1.out _ HH.out).mono ?_
  rintro e w1 ⟨rfl, hb1⟩
  have HH := LH (HH.out.next hb1)
  clear hb1 t0 t1 t2
  obtain ⟨t0, t1, t2⟩ := HH.out.1
  go_wp2_with fail
  refine (HC2.out _ HH.out).mono ?_
  rintro e w1 ⟨rfl, hb1⟩
  have HH := LH (HH.out.next hb1)
  clear hb1 t0 t1 t2
  obtain ⟨t0, t1, t2⟩ := HH.out.1
  go_wp2
  go_ret
  exact ⟨by rw [HV.out]; rfl, HH.out.2.2⟩
theorem isbdiv (s : Sn) (A2 A3 A4 : Option Addr) (c2 c3 c4 B : Nat) (w : World) (hB : B ≤ w.heap.size) (hr : ReadT w B A2 A3 A4 s) (hn : LenT s) (hc : CapT s c2 c3 c4) (hk : okR (-1) s.pe ∧ okR (-1) s.fl ∧ okR (-1) s.ac) :
    Calls Tryz.prog 76 #[.agg #[.slice A2 s.pe.length c2, .slice A3 s.fl.length c3, .slice A4 s.ac.length c4], .int .i64 s.rn.en] w fun e w' => e = .returned (.bool (decide (divS s))) ∧ Below w.heap.size w w' := by
  have HH := LH (InT.start w (.slice A2 s.pe.length c2) (.slice A3 s.fl.length c3) (.slice A4 s.ac.length c4) 75)
  have HM0 : Hid (∀ W, InT w (.slice A2 s.pe.length c2) (.slice A3 s.fl.length c3) (.slice A4 s.ac.length c4) W → Calls Tryz.prog 123 #[.agg #[.slice A2 s.pe.length c2], .agg #[.slice A3 s.fl.length c3]] W fun e w' => e = .returned (.bool (!decide (comR s.pe s.fl = []))) ∧ Below W.heap.size W w') := LH fun W h => isrs s.pe s.fl A2 A3 c2 c3 B W (Nat.le_trans hB h.2.2.size) (hr.1.below hB h.2.2) (hr.2.1.below hB h.2.2) (by unfold LenT at hn; omega) hc.1 hc.2.1 hk.1 hk.2.1
  have HM1 : Hid (∀ W, InT w (.slice A2 s.pe.length c2) (.slice A3 s.fl.length c3) (.slice A4 s.ac.length c4) W → Calls Tryz.prog 123 #[.agg #[.slice A2 s.pe.length c2], .agg #[.slice A4 s.ac.length c4]] W fun e w' => e = .returned (.bool (!decide (comR s.pe s.ac = []))) ∧ Below W.heap.size W w') := LH fun W h => isrs s.pe s.ac A2 A4 c2 c4 B W (Nat.le_trans hB h.2.2.size) (hr.1.below hB h.2.2) (hr.2.2.below hB h.2.2) (by unfold LenT at hn; omega) hc.1 hc.2.2 hk.1 hk.2.2
  have HM2 : Hid (∀ W, InT w (.slice A2 s.pe.length c2) (.slice A3 s.fl.length c3) (.slice A4 s.ac.length c4) W → Calls Tryz.prog 123 #[.agg #[.slice A3 s.fl.length c3], .agg #[.slice A4 s.ac.length c4]] W fun e w' => e = .returned (.bool (!decide (comR s.fl s.ac = []))) ∧ Below W.heap.size W w') := LH fun W h => isrs s.fl s.ac A3 A4 c3 c4 B W (Nat.le_trans hB h.2.2.size) (hr.2.1.below hB h.2.2) (hr.2.2.below hB h.2.2) (by unfold LenT at hn; omega) hc.2.1 hc.2.2 hk.2.1 hk.2.2
  have HE0 : Hid (∀ W, InT w (.slice A2 s.pe.length c2) (.slice A3 s.fl.length c3) (.slice A4 s.ac.length c4) W → Calls Tryz.prog 124 #[.agg #[.slice A2 s.pe.length c2]] W fun e w' => e = .returned (.int .i64 (lastS s.pe)) ∧ Below W.heap.size W w') := LH fun W h => isrd s.pe A2 c2 B W (Nat.le_trans hB h.2.2.size) (hr.1.below hB h.2.2) (by unfold LenT at hn; omega)
  have HE1 : Hid (∀ W, InT w (.slice A2 s.pe.length c2) (.slice A3 s.fl.length c3) (.slice A4 s.ac.length c4) W → Calls Tryz.prog 124 #[.agg #[.slice A3 s.fl.length c3]] W fun e w' => e = .returned (.int .i64 (lastS s.fl)) ∧ Below W.heap.size W w') := LH fun W h => isrd s.fl A3 c3 B W (Nat.le_trans hB h.2.2.size) (hr.2.1.below hB h.2.2) (by unfold LenT at hn; omega)
  have HE2 : Hid (∀ W, InT w (.slice A2 s.pe.length c2) (.slice A3 s.fl.length c3) (.slice A4 s.ac.length c4) W → Calls Tryz.prog 124 #[.agg #[.slice A4 s.ac.length c4]] W fun e w' => e = .returned (.int .i64 (lastS s.ac)) ∧ Below W.heap.size W w') := LH fun W h => isrd s.ac A4 c4 B W (Nat.le_trans hB h.2.2.size) (hr.2.2.below hB h.2.2) (by unfold LenT at hn; omega)
  have HN0 : Hid (∀ W, InT w (.slice A2 s.pe.length c2) (.slice A3 s.fl.length c3) (.slice A4 s.ac.length c4) W → Calls Tryz.prog 125 #[.agg #[.slice A2 s.pe.length c2]] W fun e w' => e = .returned (.int .i64 (cntR s.pe)) ∧ Below W.heap.size W w') := LH fun W h => (isrc s.pe A2 c2 B W (Nat.le_trans hB h.2.2.size) (hr.1.below hB h.2.2) (by unfold LenT at hn; omega)).mono fun e w2 hh => ⟨by rw [hh.1, if_pos hk.1], hh.2⟩
  have HN1 : Hid (∀ W, InT w (.slice A2 s.pe.length c2) (.slice A3 s.fl.length c3) (.slice A4 s.ac.length c4) W → Calls Tryz.prog 125 #[.agg #[.slice A3 s.fl.length c3]] W fun e w' => e = .returned (.int .i64 (cntR s.fl)) ∧ Below W.heap.size W w') := LH fun W h => (isrc s.fl A3 c3 B W (Nat.le_trans hB h.2.2.size) (hr.2.1.below hB h.2.2) (by unfold LenT at hn; omega)).mono fun e w2 hh => ⟨by rw [hh.1, if_pos hk.2.1], hh.2⟩
  have HN2 : Hid (∀ W, InT w (.slice A2 s.pe.length c2) (.slice A3 s.fl.length c3) (.slice A4 s.ac.length c4) W → Calls Tryz.prog 125 #[.agg #[.slice A4 s.ac.length c4]] W fun e w' => e = .returned (.int .i64 (cntR s.ac)) ∧ Below W.heap.size W w') := LH fun W h => (isrc s.ac A4 c4 B W (Nat.le_trans hB h.2.2.size) (hr.2.2.below hB h.2.2) (by unfold LenT at hn; omega)).mono fun e w2 hh => ⟨by rw [hh.1, if_pos hk.2.2], hh.2⟩
  have HLO := LH fun h => apart_low (s := s) hk.1 hk.2.1 hk.2.2 h
  have HNN : Hid (0 ≤ cntR s.pe ∧ 0 ≤ cntR s.fl ∧ 0 ≤ cntR s.ac) := LH ⟨(cntR_le _ _ hk.1 (by decide)).1, (cntR_le _ _ hk.2.1 (by decide)).1, (cntR_le _ _ hk.2.2 (by decide)).1⟩
  clear hr hn hc hk
  by_cases h0 : comR s.pe s.fl = []
  rotate_left
  · have HV : Hid (decide (divS s) = false) := LH (decide_eq_false (fun k => h0 k.1.1))
    rw [decide_eq_false h0] at HM0
    clear h0 HE0 HE1 HE2 HN0 HN1 HN2 HLO HNN
    go_enter Tryz.func76, Tryz.ntmps76
    obtain ⟨t0, t1, t2⟩ := HH.out.1
    go_wp2_with fail
    refine (HM0.out _ HH.out).mono ?_
    rintro e w1 ⟨rfl, hb1⟩
    have HH := LH (HH.out.next hb1)
    clear hb1 t0 t1 t2
    obtain ⟨t0, t1, t2⟩ := HH.out.1
    go_wp2
    go_ret
    exact ⟨by rw [HV.out]; rfl, HH.out.2.2⟩
  rw [decide_eq_true h0] at HM0
  by_cases h1 : comR s.pe s.ac = []
  rotate_left
  · have HV : Hid (decide (divS s) = false) := LH (decide_eq_false (fun k => h1 k.1.2.1))
    rw [decide_eq_false h1] at HM1
    clear h0 h1 HE0 HE1 HE2 HN0 HN1 HN2 HLO HNN
    go_enter Tryz.func76, Tryz.ntmps76
    obtain ⟨t0, t1, t2⟩ := HH.out.1
    go_wp2_with fail
    refine (HM0.out _ HH.out).mono ?_
    rintro e w1 ⟨rfl, hb1⟩
    have HH := LH (HH.out.next hb1)
    clear hb1 t0 t1 t2
    obtain ⟨t0, t1, t2⟩ := HH.out.1
    go_wp2_with fail
    refine (HM1.out _ HH.out).mono ?_
    rintro e w1 ⟨rfl, hb1⟩
    have HH := LH (HH.out.next hb1)
    clear hb1 t0 t1 t2
    obtain ⟨t0, t1, t2⟩ := HH.out.1
    go_wp2
    go_ret
    exact ⟨by rw [HV.out]; rfl, HH.out.2.2⟩
  rw [decide_eq_true h1] at HM1
  by_cases h2 : comR s.fl s.ac = []
  rotate_left
  · have HV : Hid (decide (divS s) = false) := LH (decide_eq_false (fun k => h2 k.1.2.2))
    rw [decide_eq_false h2] at HM2
    clear h0 h1 h2 HE0 HE1 HE2 HN0 HN1 HN2 HLO HNN
    go_enter Tryz.func76, Tryz.ntmps76
    obtain ⟨t0, t1, t2⟩ := HH.out.1
    go_wp2_with fail
    refine (HM0.out _ HH.out).mono ?_
    rintro e w1 ⟨rfl, hb1⟩
    have HH := LH (HH.out.next hb1)
    clear hb1 t0 t1 t2
    obtain ⟨t0, t1, t2⟩ := HH.out.1
    go_wp2_with fail
    refine (HM1.out _ HH.out).mono ?_
    rintro e w1 ⟨rfl, hb1⟩
    have HH := LH (HH.out.next hb1)
    clear hb1 t0 t1 t2
    obtain ⟨t0, t1, t2⟩ := HH.out.1
    go_wp2_with fail
    refine (HM2.out _ HH.out).mono ?_
    rintro e w1 ⟨rfl, hb1⟩
    have HH := LH (HH.out.next hb1)
    clear hb1 t0 t1 t2
    obtain ⟨t0, t1, t2⟩ := HH.out.1
    go_wp2
    go_ret
    exact ⟨by rw [HV.out]; rfl, HH.out.2.2⟩
  rw [decide_eq_true h2] at HM2
  have HLW := LH (HLO.out ⟨h0, h1, h2⟩)
  have HVV : Hid (decide (divS s) = decide (max (max (lastS s.pe) (lastS s.fl)) (lastS s.ac) = s.rn.en ∧ cntR s.pe + cntR s.fl + cntR s.ac = s.rn.en)) := LH (decide_eq_decide.2 ⟨fun k => k.2, fun k => ⟨⟨h0, h1, h2⟩, k⟩⟩)
  rw [HVV.out]
  clear h0 h1 h2 HLO HVV
  generalize lastS s.pe = e0 at *
  generalize lastS s.fl = e1 at *
  generalize lastS s.ac = e2 at *
  generalize cntR s.pe = n0 at *
  generalize cntR s.fl = n1 at *
  generalize cntR s.ac = n2 at *
  have hw1 : wrap64 (n0 + n1) = n0 + n1 := by
    have := HNN.out
    have := HLW.out
    unfold wrap64
    omega
  have hw2 : wrap64 (n0 + n1 + n2) = n0 + n1 + n2 := by
    have := HNN.out
    have := HLW.out
    unfold wrap64
    omega
  have hv1 : IntKind.i64.wrap (n0 + n1) = n0 + n1 := by
    rw [IntKind.wrap_i64]
    have := HNN.out
    have := HLW.out
    omega
  have hv2 : IntKind.i64.wrap (n0 + n1 + n2) = n0 + n1 + n2 := by
    rw [IntKind.wrap_i64]
    have := HNN.out
    have := HLW.out
    omega
  by_cases h5 : max (max e0 e1) e2 = s.rn.en
  · skip
    have d5 : (max (max e0 e1) e2 == s.rn.en) = true := by simpa using h5
    have HV : Hid (decide (max (max e0 e1) e2 = s.rn.en ∧ n0 + n1 + n2 = s.rn.en) = (n0 + n1 + n2 == s.rn.en)) := LH (by
      rw [show (n0 + n1 + n2 == s.rn.en) = decide (n0 + n1 + n2 = s.rn.en) from rfl]
      exact decide_eq_decide.2 ⟨fun k => k.2, fun k => ⟨h5, k⟩⟩)
    rw [HV.out]
    clear h5 HV HNN HLW
    go_enter Tryz.func76, Tryz.ntmps76
    obtain ⟨t0, t1, t2⟩ := HH.out.1
    go_wp2_with fail
    refine (HM0.out _ HH.out).mono ?_
    rintro e w1 ⟨rfl, hb1⟩
    have HH := LH (HH.out.next hb1)
    clear hb1 t0 t1 t2
    obtain ⟨t0, t1, t2⟩ := HH.out.1
    go_wp2_with fail
    refine (HM1.out _ HH.out).mono ?_
    rintro e w1 ⟨rfl, hb1⟩
    have HH := LH (HH.out.next hb1)
    clear hb1 t0 t1 t2
    obtain ⟨t0, t1, t2⟩ := HH.out.1
    go_wp2_with fail
    refine (HM2.out _ HH.out).mono ?_
    rintro e w1 ⟨rfl, hb1⟩
    have HH := LH (HH.out.next hb1)
    clear hb1 t0 t1 t2
    obtain ⟨t0, t1, t2⟩ := HH.out.1
    go_upto_region 3 with fail
    have HH := LH HH.out.drew
    refine wp_region_held_drew (S := (InT w (.slice A2 s.pe.length c2) (.slice A3 s.fl.length c3) (.slice A4 s.ac.length c4))) (by kernel_rfl) HH.out (fun hHeld => ?_)
    refine tK 0 (v := ?_) rfl hHeld ?_ ?_
    rotate_left
    · (intro wx hSx; obtain ⟨t0, t1, t2⟩ := hSx.1; go_simp; (try with_reducible rfl))
    (try simp only [Act.put, zA, zC, zD, zE, zF])
    refine tK 1 (v := ?_) rfl hHeld ?_ ?_
    rotate_left
    · (intro wx hSx; obtain ⟨t0, t1, t2⟩ := hSx.1; go_simp; (try with_reducible rfl))
    (try simp only [Act.put, zA, zB, zC, zD, zE, zF])
    refine tK 2 (v := ?_) rfl hHeld ?_ ?_
    rotate_left
    · (intro wx hSx; obtain ⟨t0, t1, t2⟩ := hSx.1; go_simp; (try with_reducible rfl))
    (try simp only [Act.put, zA, zB, zC, zD, zE, zF])
    refine tK 4 (v := ?_) rfl hHeld ?_ ?_
    rotate_left
    · (intro wx hSx; obtain ⟨t0, t1, t2⟩ := hSx.1; go_simp; (try with_reducible rfl))
    (try simp only [Act.put, zA, zB, zC, zD, zE, zF])
    refine tK 5 (v := ?_) rfl hHeld ?_ ?_
    rotate_left
    · (intro wx hSx; obtain ⟨t0, t1, t2⟩ := hSx.1; go_simp; (try with_reducible rfl))
    (try simp only [Act.put, zA, zB, zC, zD, zE, zF])
    refine tK 7 (v := ?_) rfl hHeld ?_ ?_
    rotate_left
    · (intro wx hSx; obtain ⟨t0, t1, t2⟩ := hSx.1; go_simp; (try with_reducible rfl))
    (try simp only [Act.put, zA, zB, zC, zD, zE, zF])
    refine tK 8 (v := ?_) rfl hHeld ?_ ?_
    rotate_left
    · (intro wx hSx; obtain ⟨t0, t1, t2⟩ := hSx.1; go_simp; (try with_reducible rfl))
    (try simp only [Act.put, zA, zB, zC, zD, zE, zF])
    refine tK 9 (v := ?_) rfl hHeld ?_ ?_
    rotate_left
    · (intro wx hSx; obtain ⟨t0, t1, t2⟩ := hSx.1; go_simp; (try with_reducible rfl))
    (try simp only [Act.put, zA, zB, zC, zD, zE, zF])
    refine wpAnyH_ready (rs := [3]) (by kernel_rfl) (by simp) ?_
    refine AllReadyH.cons rfl (fun K hK => ?_) AllReadyH.nil
    rw [if_pos (by rfl)]
    go_simp
    refine (HE0.out _ HH.out).mono ?_
    rintro e w1 ⟨rfl, hb1⟩
    have HH := LH (HH.out.next hb1)
    (try simp only [])
    refine hK.out _ _ HH.out (fun hHeld => ?_)
    clear hb1
    clear hK K
    (try simp only [Act.put, zA, zB, zC, zD, zE, zF])
    refine wpAnyH_ready (rs := [6]) (by kernel_rfl) (by simp) ?_
    refine AllReadyH.cons rfl (fun K hK => ?_) AllReadyH.nil
    rw [if_pos (by rfl)]
    go_simp
    refine (HE1.out _ HH.out).mono ?_
    rintro e w1 ⟨rfl, hb1⟩
    have HH := LH (HH.out.next hb1)
    (try simp only [])
    refine hK.out _ _ HH.out (fun hHeld => ?_)
    clear hb1
    clear hK K
    (try simp only [Act.put, zA, zB, zC, zD, zE, zF])
    refine wpAnyH_ready (rs := [10]) (by kernel_rfl) (by simp) ?_
    refine AllReadyH.cons rfl (fun K hK => ?_) AllReadyH.nil
    rw [if_pos (by rfl)]
    go_simp
    refine (HE2.out _ HH.out).mono ?_
    rintro e w1 ⟨rfl, hb1⟩
    have HH := LH (HH.out.next hb1)
    (try simp only [])
    refine hK.out _ _ HH.out (fun hHeld => ?_)
    clear hb1
    clear hK K
    (try simp only [Act.put, zA, zB, zC, zD, zE, zF])
    refine tK 11 (v := ?_) rfl hHeld ?_ ?_
    rotate_left
    · (intro wx hSx; obtain ⟨t0, t1, t2⟩ := hSx.1; go_simp; (try with_reducible rfl))
    (try simp only [Act.put, zA, zB, zC, zD, zE, zF])
    refine tK 12 (v := ?_) rfl hHeld ?_ ?_
    rotate_left
    · (intro wx hSx; obtain ⟨t0, t1, t2⟩ := hSx.1; go_simp; (try with_reducible rfl))
    (try simp only [Act.put, zA, zB, zC, zD, zE, zF])
    refine wpAnyH_done (by kernel_rfl) ?_ _
    clear hHeld
    clear t0 t1 t2
    obtain ⟨t0, t1, t2⟩ := HH.out.1
    go_upto_region 4 with fail
    rw [show (if (if e0 < e1 then e1 else e0) < e2 then e2 else if e0 < e1 then e1 else e0) = max (max e0 e1) e2 by (repeat' split) <;> omega]
    generalize max (max e0 e1) e2 = mx at *
    have HH := LH HH.out.drew
    refine wp_region_held_drew (S := (InT w (.slice A2 s.pe.length c2) (.slice A3 s.fl.length c3) (.slice A4 s.ac.length c4))) (by kernel_rfl) HH.out (fun hHeld => ?_)
    refine tK 0 (v := ?_) rfl hHeld ?_ ?_
    rotate_left
    · (intro wx hSx; obtain ⟨t0, t1, t2⟩ := hSx.1; go_simp; (try with_reducible rfl))
    (try simp only [Act.put, zA, zC, zD, zE, zF])
    refine tK 1 (v := ?_) rfl hHeld ?_ ?_
    rotate_left
    · (intro wx hSx; obtain ⟨t0, t1, t2⟩ := hSx.1; go_simp; (try with_reducible rfl))
    (try simp only [Act.put, zA, zB, zC, zD, zE, zF])
    refine tK 2 (v := ?_) rfl hHeld ?_ ?_
    rotate_left
    · (intro wx hSx; obtain ⟨t0, t1, t2⟩ := hSx.1; go_simp; (try with_reducible rfl))
    (try simp only [Act.put, zA, zB, zC, zD, zE, zF])
    refine tK 3 (v := ?_) rfl hHeld ?_ ?_
    rotate_left
    · (intro wx hSx; obtain ⟨t0, t1, t2⟩ := hSx.1; go_simp; (try with_reducible rfl))
    (try simp only [Act.put, zA, zB, zC, zD, zE, zF])
    refine tK 4 (v := ?_) rfl hHeld ?_ ?_
    rotate_left
    · (intro wx hSx; obtain ⟨t0, t1, t2⟩ := hSx.1; go_simp; (try with_reducible rfl))
    (try simp only [Act.put, zA, zB, zC, zD, zE, zF])
    refine tK 5 (v := ?_) rfl hHeld ?_ ?_
    rotate_left
    · (intro wx hSx; obtain ⟨t0, t1, t2⟩ := hSx.1; go_simp; (try with_reducible rfl))
    (try simp only [Act.put, zA, zB, zC, zD, zE, zF])
    refine tK 6 (v := ?_) rfl hHeld ?_ ?_
    rotate_left
    · (intro wx hSx; obtain ⟨t0, t1, t2⟩ := hSx.1; go_simp; (try with_reducible rfl))
    (try simp only [Act.put, zA, zB, zC, zD, zE, zF])
    refine tK 8 (v := ?_) rfl hHeld ?_ ?_
    rotate_left
    · (intro wx hSx; obtain ⟨t0, t1, t2⟩ := hSx.1; go_simp; (try with_reducible rfl))
    (try simp only [Act.put, zA, zB, zC, zD, zE, zF])
    refine tK 9 (v := ?_) rfl hHeld ?_ ?_
    rotate_left
    · (intro wx hSx; obtain ⟨t0, t1, t2⟩ := hSx.1; go_simp; (try with_reducible rfl))
    (try simp only [Act.put, zA, zB, zC, zD, zE, zF])
    refine tK 12 (v := ?_) rfl hHeld ?_ ?_
    rotate_left
    · (intro wx hSx; obtain ⟨t0, t1, t2⟩ := hSx.1; go_simp; (try with_reducible rfl))
    (try simp only [Act.put, zA, zB, zC, zD, zE, zF])
    refine tK 13 (v := ?_) rfl hHeld ?_ ?_
    rotate_left
    · (intro wx hSx; obtain ⟨t0, t1, t2⟩ := hSx.1; go_simp; (try with_reducible rfl))
    (try simp only [Act.put, zA, zB, zC, zD, zE, zF])
    refine tK 14 (v := ?_) rfl hHeld ?_ ?_
    rotate_left
    · (intro wx hSx; obtain ⟨t0, t1, t2⟩ := hSx.1; go_simp; (try with_reducible rfl))
    (try simp only [Act.put, zA, zB, zC, zD, zE, zF])
    refine tK 17 (v := ?_) rfl hHeld ?_ ?_
    rotate_left
    · (intro wx hSx; obtain ⟨t0, t1, t2⟩ := hSx.1; go_simp; (try with_reducible rfl))
    (try simp only [Act.put, zA, zB, zC, zD, zE, zF])
    refine wpAnyH_ready (rs := [7]) (by kernel_rfl) (by simp) ?_
    refine AllReadyH.cons rfl (fun K hK => ?_) AllReadyH.nil
    rw [if_pos (by rfl)]
    go_simp
    refine (HN0.out _ HH.out).mono ?_
    rintro e w1 ⟨rfl, hb1⟩
    have HH := LH (HH.out.next hb1)
    (try simp only [])
    refine hK.out _ _ HH.out (fun hHeld => ?_)
    clear hb1
    clear hK K
    (try simp only [Act.put, zA, zB, zC, zD, zE, zF])
    refine wpAnyH_ready (rs := [10]) (by kernel_rfl) (by simp) ?_
    refine AllReadyH.cons rfl (fun K hK => ?_) AllReadyH.nil
    rw [if_pos (by rfl)]
    go_simp
    refine (HN1.out _ HH.out).mono ?_
    rintro e w1 ⟨rfl, hb1⟩
    have HH := LH (HH.out.next hb1)
    (try simp only [])
    refine hK.out _ _ HH.out (fun hHeld => ?_)
    clear hb1
    clear hK K
    (try simp only [Act.put, zA, zB, zC, zD, zE, zF])
    refine tK 11 (v := ?_) rfl hHeld ?_ ?_
    rotate_left
    · (intro wx hSx; obtain ⟨t0, t1, t2⟩ := hSx.1; go_simp; (try with_reducible rfl))
    (try simp only [Act.put, zA, zB, zC, zD, zE, zF])
    refine wpAnyH_ready (rs := [15]) (by kernel_rfl) (by simp) ?_
    refine AllReadyH.cons rfl (fun K hK => ?_) AllReadyH.nil
    rw [if_pos (by rfl)]
    go_simp
    refine (HN2.out _ HH.out).mono ?_
    rintro e w1 ⟨rfl, hb1⟩
    have HH := LH (HH.out.next hb1)
    (try simp only [])
    refine hK.out _ _ HH.out (fun hHeld => ?_)
    clear hb1
    clear hK K
    (try simp only [Act.put, zA, zB, zC, zD, zE, zF])
    refine tK 16 (v := ?_) rfl hHeld ?_ ?_
    rotate_left
    · (intro wx hSx; obtain ⟨t0, t1, t2⟩ := hSx.1; go_simp; (try with_reducible rfl))
    (try simp only [Act.put, zA, zB, zC, zD, zE, zF])
    refine tK 18 (v := ?_) rfl hHeld ?_ ?_
    rotate_left
    · (intro wx hSx; obtain ⟨t0, t1, t2⟩ := hSx.1; go_simp; (try with_reducible rfl))
    (try simp only [Act.put, zA, zB, zC, zD, zE, zF])
    refine tK 19 (v := ?_) rfl hHeld ?_ ?_
    rotate_left
    · (intro wx hSx; obtain ⟨t0, t1, t2⟩ := hSx.1; go_simp; (try with_reducible rfl))
    (try simp only [Act.put, zA, zB, zC, zD, zE, zF])
    refine tK 20 (v := ?_) rfl hHeld ?_ ?_
    rotate_left
    · (intro wx hSx; obtain ⟨t0, t1, t2⟩ := hSx.1; go_simp; (try with_reducible rfl))
    (try simp only [Act.put, zA, zB, zC, zD, zE, zF])
    refine wpAnyH_done (by kernel_rfl) ?_ _
    clear hHeld
    go_wp2
    go_ret
    exact ⟨rfl, HH.out.2.2⟩
  · skip
    have d5 : (max (max e0 e1) e2 == s.rn.en) = false := by simpa using h5
    have HV : Hid (decide (max (max e0 e1) e2 = s.rn.en ∧ n0 + n1 + n2 = s.rn.en) = false) := LH (decide_eq_false fun k => h5 k.1)
    rw [HV.out]
    clear h5 HV HNN HLW
    go_enter Tryz.func76, Tryz.ntmps76
    obtain ⟨t0, t1, t2⟩ := HH.out.1
    go_wp2_with fail
    refine (HM0.out _ HH.out).mono ?_
    rintro e w1 ⟨rfl, hb1⟩
    have HH := LH (HH.out.next hb1)
    clear hb1 t0 t1 t2
    obtain ⟨t0, t1, t2⟩ := HH.out.1
    go_wp2_with fail
    refine (HM1.out _ HH.out).mono ?_
    rintro e w1 ⟨rfl, hb1⟩
    have HH := LH (HH.out.next hb1)
    clear hb1 t0 t1 t2
    obtain ⟨t0, t1, t2⟩ := HH.out.1
    go_wp2_with fail
    refine (HM2.out _ HH.out).mono ?_
    rintro e w1 ⟨rfl, hb1⟩
    have HH := LH (HH.out.next hb1)
    clear hb1 t0 t1 t2
    obtain ⟨t0, t1, t2⟩ := HH.out.1
    go_upto_region 3 with fail
    have HH := LH HH.out.drew
    refine wp_region_held_drew (S := (InT w (.slice A2 s.pe.length c2) (.slice A3 s.fl.length c3) (.slice A4 s.ac.length c4))) (by kernel_rfl) HH.out (fun hHeld => ?_)
    refine tK 0 (v := ?_) rfl hHeld ?_ ?_
    rotate_left
    · (intro wx hSx; obtain ⟨t0, t1, t2⟩ := hSx.1; go_simp; (try with_reducible rfl))
    (try simp only [Act.put, zA, zC, zD, zE, zF])
    refine tK 1 (v := ?_) rfl hHeld ?_ ?_
    rotate_left
    · (intro wx hSx; obtain ⟨t0, t1, t2⟩ := hSx.1; go_simp; (try with_reducible rfl))
    (try simp only [Act.put, zA, zB, zC, zD, zE, zF])
    refine tK 2 (v := ?_) rfl hHeld ?_ ?_
    rotate_left
    · (intro wx hSx; obtain ⟨t0, t1, t2⟩ := hSx.1; go_simp; (try with_reducible rfl))
    (try simp only [Act.put, zA, zB, zC, zD, zE, zF])
    refine tK 4 (v := ?_) rfl hHeld ?_ ?_
    rotate_left
    · (intro wx hSx; obtain ⟨t0, t1, t2⟩ := hSx.1; go_simp; (try with_reducible rfl))
    (try simp only [Act.put, zA, zB, zC, zD, zE, zF])
    refine tK 5 (v := ?_) rfl hHeld ?_ ?_
    rotate_left
    · (intro wx hSx; obtain ⟨t0, t1, t2⟩ := hSx.1; go_simp; (try with_reducible rfl))
    (try simp only [Act.put, zA, zB, zC, zD, zE, zF])
    refine tK 7 (v := ?_) rfl hHeld ?_ ?_
    rotate_left
    · (intro wx hSx; obtain ⟨t0, t1, t2⟩ := hSx.1; go_simp; (try with_reducible rfl))
    (try simp only [Act.put, zA, zB, zC, zD, zE, zF])
    refine tK 8 (v := ?_) rfl hHeld ?_ ?_
    rotate_left
    · (intro wx hSx; obtain ⟨t0, t1, t2⟩ := hSx.1; go_simp; (try with_reducible rfl))
    (try simp only [Act.put, zA, zB, zC, zD, zE, zF])
    refine tK 9 (v := ?_) rfl hHeld ?_ ?_
    rotate_left
    · (intro wx hSx; obtain ⟨t0, t1, t2⟩ := hSx.1; go_simp; (try with_reducible rfl))
    (try simp only [Act.put, zA, zB, zC, zD, zE, zF])
    refine wpAnyH_ready (rs := [3]) (by kernel_rfl) (by simp) ?_
    refine AllReadyH.cons rfl (fun K hK => ?_) AllReadyH.nil
    rw [if_pos (by rfl)]
    go_simp
    refine (HE0.out _ HH.out).mono ?_
    rintro e w1 ⟨rfl, hb1⟩
    have HH := LH (HH.out.next hb1)
    (try simp only [])
    refine hK.out _ _ HH.out (fun hHeld => ?_)
    clear hb1
    clear hK K
    (try simp only [Act.put, zA, zB, zC, zD, zE, zF])
    refine wpAnyH_ready (rs := [6]) (by kernel_rfl) (by simp) ?_
    refine AllReadyH.cons rfl (fun K hK => ?_) AllReadyH.nil
    rw [if_pos (by rfl)]
    go_simp
    refine (HE1.out _ HH.out).mono ?_
    rintro e w1 ⟨rfl, hb1⟩
    have HH := LH (HH.out.next hb1)
    (try simp only [])
    refine hK.out _ _ HH.out (fun hHeld => ?_)
    clear hb1
    clear hK K
    (try simp only [Act.put, zA, zB, zC, zD, zE, zF])
    refine wpAnyH_ready (rs := [10]) (by kernel_rfl) (by simp) ?_
    refine AllReadyH.cons rfl (fun K hK => ?_) AllReadyH.nil
    rw [if_pos (by rfl)]
    go_simp
    refine (HE2.out _ HH.out).mono ?_
    rintro e w1 ⟨rfl, hb1⟩
    have HH := LH (HH.out.next hb1)
    (try simp only [])
    refine hK.out _ _ HH.out (fun hHeld => ?_)
    clear hb1
    clear hK K
    (try simp only [Act.put, zA, zB, zC, zD, zE, zF])
    refine tK 11 (v := ?_) rfl hHeld ?_ ?_
    rotate_left
    · (intro wx hSx; obtain ⟨t0, t1, t2⟩ := hSx.1; go_simp; (try with_reducible rfl))
    (try simp only [Act.put, zA, zB, zC, zD, zE, zF])
    refine tK 12 (v := ?_) rfl hHeld ?_ ?_
    rotate_left
    · (intro wx hSx; obtain ⟨t0, t1, t2⟩ := hSx.1; go_simp; (try with_reducible rfl))
    (try simp only [Act.put, zA, zB, zC, zD, zE, zF])
    refine wpAnyH_done (by kernel_rfl) ?_ _
    clear hHeld
    clear t0 t1 t2
    obtain ⟨t0, t1, t2⟩ := HH.out.1
    go_upto_region 4 with fail
    rw [show (if (if e0 < e1 then e1 else e0) < e2 then e2 else if e0 < e1 then e1 else e0) = max (max e0 e1) e2 by (repeat' split) <;> omega]
    generalize max (max e0 e1) e2 = mx at *
    have HH := LH HH.out.drew
    refine wp_region_held_drew (S := (InT w (.slice A2 s.pe.length c2) (.slice A3 s.fl.length c3) (.slice A4 s.ac.length c4))) (by kernel_rfl) HH.out (fun hHeld => ?_)
    refine tK 0 (v := ?_) rfl hHeld ?_ ?_
    rotate_left
    · (intro wx hSx; obtain ⟨t0, t1, t2⟩ := hSx.1; go_simp; (try with_reducible rfl))
    (try simp only [Act.put, zA, zC, zD, zE, zF])
    refine tK 1 (v := ?_) rfl hHeld ?_ ?_
    rotate_left
    · (intro wx hSx; obtain ⟨t0, t1, t2⟩ := hSx.1; go_simp; (try with_reducible rfl))
    (try simp only [Act.put, zA, zB, zC, zD, zE, zF])
    refine tK 2 (v := ?_) rfl hHeld ?_ ?_
    rotate_left
    · (intro wx hSx; obtain ⟨t0, t1, t2⟩ := hSx.1; go_simp; (try with_reducible rfl))
    (try simp only [Act.put, zA, zB, zC, zD, zE, zF])
    refine tK 3 (v := ?_) rfl hHeld ?_ ?_
    rotate_left
    · (intro wx hSx; obtain ⟨t0, t1, t2⟩ := hSx.1; go_simp; (try with_reducible rfl))
    (try simp only [Act.put, zA, zB, zC, zD, zE, zF])
    refine tN 4 rfl hHeld ?_
    (try simp only [Act.put, zA, zB, zC, zD, zE, zF])
    refine tN 5 rfl hHeld ?_
    (try simp only [Act.put, zA, zB, zC, zD, zE, zF])
    refine tN 6 rfl hHeld ?_
    (try simp only [Act.put, zA, zB, zC, zD, zE, zF])
    refine tN 7 rfl hHeld ?_
    (try simp only [Act.put, zA, zB, zC, zD, zE, zF])
    refine tN 8 rfl hHeld ?_
    (try simp only [Act.put, zA, zB, zC, zD, zE, zF])
    refine tN 9 rfl hHeld ?_
    (try simp only [Act.put, zA, zB, zC, zD, zE, zF])
    refine tN 10 rfl hHeld ?_
    (try simp only [Act.put, zA, zB, zC, zD, zE, zF])
    refine tN 11 rfl hHeld ?_
    (try simp only [Act.put, zA, zB, zC, zD, zE, zF])
    refine tN 12 rfl hHeld ?_
    (try simp only [Act.put, zA, zB, zC, zD, zE, zF])
    refine tN 13 rfl hHeld ?_
    (try simp only [Act.put, zA, zB, zC, zD, zE, zF])
    refine tN 14 rfl hHeld ?_
    (try simp only [Act.put, zA, zB, zC, zD, zE, zF])
    refine tN 15 rfl hHeld ?_
    (try simp only [Act.put, zA, zB, zC, zD, zE, zF])
    refine tN 16 rfl hHeld ?_
    (try simp only [Act.put, zA, zB, zC, zD, zE, zF])
    refine tN 17 rfl hHeld ?_
    (try simp only [Act.put, zA, zB, zC, zD, zE, zF])
    refine tN 18 rfl hHeld ?_
    (try simp only [Act.put, zA, zB, zC, zD, zE, zF])
    refine tK 19 (v := ?_) rfl hHeld ?_ ?_
    rotate_left
    · (intro wx hSx; obtain ⟨t0, t1, t2⟩ := hSx.1; go_simp; (try with_reducible rfl))
    (try simp only [Act.put, zA, zB, zC, zD, zE, zF])
    refine tK 20 (v := ?_) rfl hHeld ?_ ?_
    rotate_left
    · (intro wx hSx; obtain ⟨t0, t1, t2⟩ := hSx.1; go_simp; (try with_reducible rfl))
    (try simp only [Act.put, zA, zB, zC, zD, zE, zF])
    refine wpAnyH_done (by kernel_rfl) ?_ _
    clear hHeld
    go_wp2
    go_ret
    exact ⟨rfl, HH.out.2.2⟩
end Go.Proofs.YtdaoaedkjoknmaaGreat
